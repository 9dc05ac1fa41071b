/- Whether a room is good: the program. No conditions but those written. Who is let in: plain facts, and the program. No conditions but those written. Rooms: a room of its own, who waits, who is let in: the specification. No conditions but those written. Groups: sizes, copies, comparisons, marks. No conditions but those written. Whether a group is good: the program and the specification. No conditions but those written. A group copied. No conditions but those written. -/
import Derived.Test.YtdgnolpimmdgjaaPWaMc
import Derived.BigRegion
import Derived.RegionTactic
import Derived.ChangeAlike
import Derived.Test.YtdgnolpimmdgjaaPGenCb
namespace Go.Proofs.Ytdgnolpimmdgjaa
section
open Go.RowKit

/-- A need fits a size. -/
def manyB (s1 : Int) (t : Int × Int) : Bool := decide (1 ≤ t.2) && decide (t.2 ≤ s1)
/-- A room's numbers are good. -/
def sizesB (s1 s2 : Int) : Bool := (decide (1 ≤ s1) && decide (s1 ≤ 1000)) && (decide (0 ≤ s2) && decide (s2 ≤ s1))
/-- A room is good. -/
def roomB (s1 s2 : Int) (l : List (Int × Int)) : Bool := sizesB s1 s2 && (l.all (manyB s1) && (lineB (tasksOf l) && !firstB s1 s2 l))
theorem roomB_sizes {s1 s2 : Int} {l : List (Int × Int)} (h : sizesB s1 s2 = false) : roomB s1 s2 l = false := by rw [roomB, h]; rfl
theorem roomB_many {s1 s2 : Int} {l : List (Int × Int)} (k : Nat) (hk : k < l.length) (h : manyB s1 (el l k) = false) : roomB s1 s2 l = false := by
  have : l.all (manyB s1) = false := by rw [List.all_eq_false]; exact ⟨el l k, el_mem hk, by simp [h]⟩
  rw [roomB, this]; simp
theorem roomB_line {s1 s2 : Int} {l : List (Int × Int)} (h : lineB (tasksOf l) = false) : roomB s1 s2 l = false := by rw [roomB, h]; simp
theorem roomB_long {s1 s2 : Int} {l : List (Int × Int)} (h : 30 < l.length) : roomB s1 s2 l = false := roomB_line (lineB_long (by rw [tasksOf_len]; exact h))
theorem all_many {s1 : Int} {l : List (Int × Int)} (h : ∀ j, j < l.length → manyB s1 (el l j) = true) : l.all (manyB s1) = true := by
  rw [List.all_eq_true]; intro x hx
  obtain ⟨j, hj, rfl⟩ := mem_el hx
  exact h j hj
theorem roomB_tail {s1 s2 : Int} {l : List (Int × Int)} (h : sizesB s1 s2 = true) (h2 : ∀ j, j < l.length → manyB s1 (el l j) = true) (h3 : lineB (tasksOf l) = true) : roomB s1 s2 l = !firstB s1 s2 l := by
  rw [roomB, h, all_many h2, h3]; rfl
theorem sizesB_ok {s1 s2 : Int} (h : sizesB s1 s2 = true) : 1 ≤ s1 ∧ s1 ≤ 1000 ∧ 0 ≤ s2 ∧ s2 ≤ s1 := by
  simp only [sizesB, Bool.and_eq_true, decide_eq_true_eq] at h
  exact ⟨h.1.1, h.1.2, h.2.1, h.2.2⟩
theorem roomB_good {s1 s2 : Int} {l : List (Int × Int)} (h : roomB s1 s2 l = true) : sizesB s1 s2 = true ∧ (∀ j, j < l.length → manyB s1 (el l j) = true) ∧ lineB (tasksOf l) = true ∧ firstB s1 s2 l = false := by
  simp only [roomB, Bool.and_eq_true, Bool.not_eq_true'] at h
  exact ⟨h.1, fun j hj => (List.all_eq_true.1 h.2.1) _ (el_mem hj), h.2.2.1, h.2.2.2⟩
theorem roomB_len {s1 s2 : Int} {l : List (Int × Int)} (h : roomB s1 s2 l = true) : l.length ≤ 30 := by
  have := lineB_len (roomB_good h).2.2.1
  rwa [tasksOf_len] at this

set_option maxRecDepth 10000 in
set_option maxHeartbeats 4000000 in
theorem implGoodRoom_is (s1 s2 : Int) (ao : Option Addr) (cap : Nat) (l : List (Int × Int)) (w : World) (x : Bool) (hl : l.length ≤ 1048576) (hz : kN.In w.heap.size w ao l) (hx : roomB s1 s2 l = x) :
    Calls Try.prog 12 #[.agg #[.int .i64 s1, .int .i64 s2, .slice ao l.length cap]] w fun e w' => e = .returned (.bool x) ∧ Below w.heap.size w w' := by
  have hB0 := below1 w (.cells #[.int .i64 s1, .int .i64 s2, .slice ao l.length cap] 34)
  by_cases hc1 : s1 < 1
  · have HV : Hid (x = false) := by rw [Hid, ← hx]; exact roomB_sizes (by simp [sizesB]; omega)
    have hc1' : decide (s1 < 1) = true := by simpa using hc1
    clear hx
    go_enter Try.func12, Try.ntmps12
    go_wp2
    go_ret
    exact ⟨ret_bool HV.out.symm, hB0⟩
  have hc1' : decide (s1 < 1) = false := by simpa using hc1
  by_cases hc2 : 1000 < s1
  · have HV : Hid (x = false) := by rw [Hid, ← hx]; exact roomB_sizes (by simp [sizesB]; omega)
    have hc2' : decide (1000 < s1) = true := by simpa using hc2
    clear hx
    go_enter Try.func12, Try.ntmps12
    go_wp2
    go_ret
    exact ⟨ret_bool HV.out.symm, hB0⟩
  have hc2' : decide (1000 < s1) = false := by simpa using hc2
  by_cases hc3 : s2 < 0
  · have HV : Hid (x = false) := by rw [Hid, ← hx]; exact roomB_sizes (by simp [sizesB]; omega)
    have hc3' : decide (s2 < 0) = true := by simpa using hc3
    clear hx
    go_enter Try.func12, Try.ntmps12
    go_wp2
    go_ret
    exact ⟨ret_bool HV.out.symm, hB0⟩
  have hc3' : decide (s2 < 0) = false := by simpa using hc3
  by_cases hc4 : s1 < s2
  · have HV : Hid (x = false) := by rw [Hid, ← hx]; exact roomB_sizes (by simp [sizesB]; omega)
    have hc4' : decide (s1 < s2) = true := by simpa using hc4
    clear hx
    go_enter Try.func12, Try.ntmps12
    go_wp2
    go_ret
    exact ⟨ret_bool HV.out.symm, hB0⟩
  have hc4' : decide (s1 < s2) = false := by simpa using hc4
  by_cases hc5 : (30 : Int) < (l.length : Int)
  · have HV : Hid (x = false) := by rw [Hid, ← hx]; exact roomB_long (by omega)
    have hc5' : decide ((30 : Int) < (l.length : Int)) = true := by simpa using hc5
    clear hx
    go_enter Try.func12, Try.ntmps12
    go_wp2
    go_ret
    exact ⟨ret_bool HV.out.symm, hB0⟩
  have hc5' : decide ((30 : Int) < (l.length : Int)) = false := by simpa using hc5
  have HX : Hid (roomB s1 s2 l = x) := hx
  have HZ : Hid (sizesB s1 s2 = true) := by simp [Hid, sizesB]; omega
  have A0 := hid (Bx.new (w := w) (p := w.heap.size) [.int .i64 s1, .int .i64 s2, .slice ao l.length cap] 34 rfl)
  clear hx
  go_enter Try.func12, Try.ntmps12
  go_wp2
  go_loopw [34] (fun i wr => ∃ k : Nat, k ≤ l.length ∧ i = .int .i64 k ∧ Hid (∀ j, j < k → manyB s1 (el l j) = true) ∧ Hid (Bx wr w.heap.size [.int .i64 s1, .int .i64 s2, .slice ao l.length cap]) ∧ Below w.heap.size w wr) (fun i _ => l.length - (intOf i).toNat)
  case atStart => exact ⟨0, Nat.zero_le _, rfl, fun j hj => by omega, A0, hB0⟩
  case round =>
    obtain ⟨k, hk, rfl, hno, hA, hB⟩ := hrel
    have hsz := hB.size
    have hpA := hA.out.size
    have a0 := hA.out.c 0 rfl
    have a1 := hA.out.c 1 rfl
    have a2 := hA.out.c 2 rfl
    by_cases hlt : k < l.length
    · obtain ⟨b, off, rfl, hb, hc⟩ := kN_at hz hlt
      have d1 := (hB.cell (p := ⟨b, off + k * 2, none⟩) hb).trans (hc k hlt).1
      have d2 := (hB.cell (p := ⟨b, off + k * 2 + 1, none⟩) hb).trans (hc k hlt).2
      obtain ⟨⟨y1, y2⟩, ey⟩ : ∃ v, v = el l k := ⟨_, rfl⟩
      rw [← ey] at d1 d2
      have HY : Hid (el l k = (y1, y2)) := ey.symm
      clear ey hc hz
      dsimp only at d1 d2
      by_cases hm1 : y2 < 1
      · have HF : Hid (x = false) := by rw [Hid, ← HX.out]; exact roomB_many k hlt (by rw [HY.out]; simp [manyB]; omega)
        have hm1' : decide (y2 < 1) = true := by simpa using hm1
        go_wp2
        go_ret
        exact ⟨ret_bool HF.out.symm, Below.allocS hB _⟩
      · have hm1' : decide (y2 < 1) = false := by simpa using hm1
        by_cases hm2 : s1 < y2
        · have HF : Hid (x = false) := by rw [Hid, ← HX.out]; exact roomB_many k hlt (by rw [HY.out]; simp [manyB]; omega)
          have hm2' : decide (s1 < y2) = true := by simpa using hm2
          go_wp2
          go_ret
          exact ⟨ret_bool HF.out.symm, Below.allocS hB _⟩
        · have hm2' : decide (s1 < y2) = false := by simpa using hm2
          go_wp2
          go_roundw
          case rel => exact ⟨k + 1, by omega, by go_num, fun j hj => by
            rcases Nat.lt_succ_iff_lt_or_eq.1 hj with h | rfl
            · exact hno.out j h
            · rw [HY.out]; simp [manyB]; omega, hid (hA.out.alloc _), Below.allocS hB _⟩
          case measure => simp [intOf]; omega
    · obtain rfl : k = l.length := by omega
      go_wp2_with fail
      refine (tasksIn_any ao cap l wr hl (hz.later hB)).mono ?_
      rintro e w2 ⟨⟨v, rfl, hO⟩, hb2⟩
      obtain ⟨qo, qc, rfl, _, hI⟩ := hO.in
      have hB2 := hB.trans (hb2.mono hB.size)
      have A2 := hid (hA.out.later hb2)
      have HI : Hid (kI.In w2.heap.size w2 qo (tasksOf l)) := hI
      have hql : (tasksOf l).length ≤ 1048576 := by rw [tasksOf_len]; exact hl
      clear hb2 hO hI a0 a1 a2 hA
      cases hline : lineB (tasksOf l)
      · have HL : Hid (lineB (tasksOf l) = false) := hline
        have HF : Hid (x = false) := by rw [Hid, ← HX.out]; exact roomB_line hline
        clear hline
        go_wp2_with fail
        refine (goodLine_is qo qc (tasksOf l) w2 false hql HI.out HL.out).mono ?_
        rintro e w3 ⟨rfl, hb3⟩
        have hB3 := hB2.trans (hb3.mono hB2.size)
        go_wp2
        go_ret
        exact ⟨ret_bool HF.out.symm, hB3⟩
      · have HL : Hid (lineB (tasksOf l) = true) := hline
        have HT : Hid ((!firstB s1 s2 l) = x) := by rw [Hid, ← HX.out]; exact (roomB_tail HZ.out hno.out hline).symm
        clear hline
        go_wp2_with fail
        refine (goodLine_is qo qc (tasksOf l) w2 true hql HI.out HL.out).mono ?_
        rintro e w3 ⟨rfl, hb3⟩
        have hB3 := hB2.trans (hb3.mono hB2.size)
        have A3 := A2.out.later hb3
        have a0 := A3.c 0 rfl
        have a1 := A3.c 1 rfl
        have a2 := A3.c 2 rfl
        clear hb3 A2 HI
        obtain ⟨f, hf⟩ : ∃ f, firstB s1 s2 l = f := ⟨_, rfl⟩
        have HF : Hid (firstB s1 s2 l = f) := hf
        have HT2 : Hid ((!f) = x) := by rw [Hid, ← hf]; exact HT.out
        clear hf HT
        go_wp2_with fail
        refine (firstHas_is s1 s2 ao cap l w3 f hl ⟨by omega, by omega⟩ ⟨by omega, by omega⟩ (hz.later hB3) HF.out).mono ?_
        rintro e w4 ⟨rfl, hb4⟩
        have hB4 := hB3.trans (hb4.mono hB3.size)
        go_wp2
        go_ret
        exact ⟨ret_bool HT2.out, hB4⟩
end
section
open Go.RowKit

/-- Those that have room are let in: what is used then, who waits still, who goes. -/
def letR (s1 : Int) : Int → List (Int × Int) → Int × List (Int × Int) × List Int
  | u, [] => (u, [], [])
  | u, (t, m) :: r => if m ≤ s1 - u then ((letR s1 (u + m) r).1, (letR s1 (u + m) r).2.1, t :: (letR s1 (u + m) r).2.2) else (u, (t, m) :: r, [])
theorem letR_yes {s1 u t m : Int} {r : List (Int × Int)} (h : m ≤ s1 - u) : letR s1 u ((t, m) :: r) = ((letR s1 (u + m) r).1, (letR s1 (u + m) r).2.1, t :: (letR s1 (u + m) r).2.2) := by rw [letR, if_pos h]
theorem letR_no {s1 u : Int} {l : List (Int × Int)} (h : firstB s1 u l = false) : letR s1 u l = (u, l, []) := by
  cases l with
  | nil => rfl
  | cons x r =>
    obtain ⟨t, m⟩ := x
    rw [letR, if_neg]
    intro hm
    simp [firstB, el_zero, hm] at h
theorem letR_len (s1 : Int) : ∀ (l : List (Int × Int)) (u : Int), (letR s1 u l).2.1.length ≤ l.length ∧ (letR s1 u l).2.2.length ≤ l.length
  | [], u => by simp [letR]
  | (t, m) :: r, u => by
    rw [letR]
    have := letR_len s1 r (u + m)
    split
    · simp; omega
    · simp
theorem drop_cons {l : List (Int × Int)} {j : Nat} (h : j < l.length) : l.drop j = ((el l j).1, (el l j).2) :: l.drop (j + 1) := by
  rw [el_at h]; exact List.drop_eq_getElem_cons h
/-- When j have been let in. -/
def LetAt (s1 s2 : Int) (l : List (Int × Int)) (j : Nat) (u : Int) : Prop := letR s1 s2 l = ((letR s1 u (l.drop j)).1, (letR s1 u (l.drop j)).2.1, tasksOf (l.take j) ++ (letR s1 u (l.drop j)).2.2)
theorem LetAt.zero (s1 s2 : Int) (l : List (Int × Int)) : LetAt s1 s2 l 0 s2 := by simp [LetAt, tasksOf]
theorem LetAt.step {s1 s2 : Int} {l : List (Int × Int)} {j : Nat} {u : Int} (h : LetAt s1 s2 l j u) (hj : j < l.length) (hm : (el l j).2 ≤ s1 - u) : LetAt s1 s2 l (j + 1) (u + (el l j).2) := by
  unfold LetAt at *
  rw [h, drop_cons hj, letR_yes hm, tasksOf_succ hj]
  simp
theorem LetAt.done {s1 s2 : Int} {l : List (Int × Int)} {j : Nat} {u : Int} (h : LetAt s1 s2 l j u) (hf : firstB s1 u (l.drop j) = false) : letR s1 s2 l = (u, l.drop j, tasksOf (l.take j)) := by
  unfold LetAt at h
  rw [h, letR_no hf]; simp
theorem firstB_drop {s1 u : Int} {l : List (Int × Int)} {j : Nat} (h : firstB s1 u (l.drop j) = true) : j < l.length ∧ (el l j).2 ≤ s1 - u := by
  simp only [firstB, Bool.and_eq_true, decide_eq_true_eq, List.length_drop, el_drop, Nat.add_zero] at h
  exact ⟨by omega, h.2⟩
/-- The elements lie in a row of their own, from lo on, and not at p. -/
def Kind.Ap {α : Type} (K : Kind α) (p lo : Nat) (W : World) (to : Option Addr) (tc : Nat) (xs : List α) : Prop :=
  xs = [] ∨ ∃ g, to = some ⟨g, 0, none⟩ ∧ g ≠ p ∧ W.ownsRow lo K.ty K.sz (.slice (some ⟨g, 0, none⟩) xs.length tc) xs.length (K.flat xs)
section
variable {α β : Type} {K : Kind α} {L : Kind β} {p lo : Nat} {W W' : World} {to : Option Addr} {tc : Nat} {xs : List α}
theorem Kind.Ap.fresh (h : K.Ap p lo W to tc xs) : K.Fresh lo W.heap.size W to tc xs := by
  rcases h with h | ⟨g, e, _, ho⟩
  · exact .inl h
  · exact .inr ⟨g, e, (owns_lt ho).2, ho⟩
theorem Kind.Ap.later (h : K.Ap p lo W to tc xs) (hb : Below W.heap.size W W') : K.Ap p lo W' to tc xs := by
  rcases h with h | ⟨g, e, hg, ho⟩
  · exact .inl h
  · exact .inr ⟨g, e, hg, ownsRow_below ho hb⟩
theorem Kind.Ap.set (h : K.Ap p lo W to tc xs) (o : Nat) (u : Value) : K.Ap p lo (W.setCell ⟨p, o, none⟩ u) to tc xs := by
  rcases h with h | ⟨g, e, hg, ho⟩
  · exact .inl h
  · exact .inr ⟨g, e, hg, owns_block ho (Below.heap_setCell W ⟨p, o, none⟩ u g hg)⟩
theorem Kind.Fresh.apHi {hi : Nat} (h : K.Fresh lo hi W to tc xs) (hp : hi ≤ p) : K.Ap p lo W to tc xs := by
  rcases h with h | ⟨g, e, hg, ho⟩
  · exact .inl h
  · exact .inr ⟨g, e, by omega, ho⟩
theorem Kind.Fresh.apLo {lo' hi : Nat} (h : K.Fresh lo' hi W to tc xs) (hp : p < lo') (hl : lo ≤ lo') : K.Ap p lo W to tc xs := by
  rcases h with h | ⟨g, e, hg, ho⟩
  · exact .inl h
  · have := (owns_lt ho).1
    exact .inr ⟨g, e, by omega, ownsRow_base ho (by omega)⟩
theorem Kind.Ap.grown {lo' : Nat} {v : Value} {ys : List β} (h : K.Ap p lo W to tc xs) (ho : L.Own lo' W v ys) (hne : K.ty ≠ L.ty) (hg : W.grownBy W' v.ownBlock) : K.Ap p lo W' to tc xs := by
  rcases h with h | ⟨g, e, hl, hw⟩
  · exact .inl h
  · obtain ⟨cur, hc⟩ := owns_type hw
    refine .inr ⟨g, e, hl, owns_block hw (hg.block g (owns_lt hw).2 fun e => ?_)⟩
    rcases ho.2 with ⟨e', _⟩ | ⟨g', cap, cur', e', _, hh, _⟩
    · subst e'; cases e
    · subst e'
      simp [Value.ownBlock] at e
      subst e
      rw [hc] at hh; simp at hh; exact hne hh.2
end
/-- The length of the slice in a cell. -/
def lenAt (W : World) (p o : Nat) : Nat := match W.cell? ⟨p, o, none⟩ with | some (.slice _ n _) => n | _ => 0
theorem lenAt_eq {W : World} {p o : Nat} {a : Option Addr} {n c : Nat} (h : W.cell? ⟨p, o, none⟩ = some (.slice a n c)) : lenAt W p o = n := by rw [lenAt, h]
/-- Room, those that go: in memory of their own. -/
def AnsL (w : World) (s1 : Int) (R : Int × List (Int × Int) × List Int) (e : Ending) (w' : World) : Prop :=
  (∃ o c o' c', e = .returned (.tuple #[.agg #[.int .i64 s1, .int .i64 R.1, .slice o R.2.1.length c], .slice o' R.2.2.length c']) ∧ kN.Fresh w.heap.size w'.heap.size w' o c R.2.1 ∧ kI.Fresh w.heap.size w'.heap.size w' o' c' R.2.2) ∧ Below w.heap.size w w'

set_option maxRecDepth 10000 in
set_option maxHeartbeats 8000000 in
theorem letIn_any (s1 s2 : Int) (ao : Option Addr) (cap : Nat) (l : List (Int × Int)) (w : World) (hl : l.length ≤ 30) (h1 : 1 ≤ s1 ∧ s1 ≤ 1000) (h2 : 0 ≤ s2 ∧ s2 ≤ s1) (hm : ∀ j, j < l.length → manyB s1 (el l j) = true) (hz : kN.In w.heap.size w ao l) :
    Calls Try.prog 29 #[.agg #[.int .i64 s1, .int .i64 s2, .slice ao l.length cap]] w fun e w' => AnsL w s1 (letR s1 s2 l) e w' := by
  have HM := hid hm
  clear hm
  obtain ⟨W2, hW2⟩ : ∃ W2, W2 = (w.alloc (.cells #[.int .i64 s1, .int .i64 s2, .slice ao l.length cap] 34)).alloc (.cells #[.int .i64 0, .int .i64 0, .slice none 0 0] 34) := ⟨_, rfl⟩
  have hB2 : Below w.heap.size w W2 := by rw [hW2]; exact below2 _ _ _
  have R2 : Bx W2 (w.heap.size + 1) [.int .i64 0, .int .i64 0, .slice none 0 0] := by rw [hW2]; exact Bx.new [.int .i64 0, .int .i64 0, .slice none 0 0] _ (by simp)
  have HW := hid hW2
  have HS : Hid (W2.heap.size = w.heap.size + 1 + 1) := by rw [hW2]; simp [Hid]
  clear hW2
  go_enter Try.func29, Try.ntmps29
  go_wp2_with fail
  rw [← HW.out]
  refine (copyRoom_any s1 s2 ao cap l W2 (by omega) (hz.later hB2)).mono ?_
  rintro e w1 ⟨⟨go1, rfl, hF1⟩, hb1⟩
  have hs1 : w.heap.size + 1 + 1 ≤ w1.heap.size := by have := hb1.size; rw [HS.out] at this; exact this
  have hB1 := hB2.trans (hb1.mono hB2.size)
  have hn := below1 w1 (.cells #[.int .i64 s1, .int .i64 s2, .slice go1 l.length l.length] 34)
  have X0 : Hid (Bx (w1.alloc (.cells #[.int .i64 s1, .int .i64 s2, .slice go1 l.length l.length] 34)) w1.heap.size [.int .i64 s1, .int .i64 s2, .slice go1 l.length l.length]) := Bx.new _ _ rfl
  have R1 := hid ((R2.later hb1).later hn)
  have F1 : Hid (kN.Ap w1.heap.size (w.heap.size + 1 + 1) (w1.alloc (.cells #[.int .i64 s1, .int .i64 s2, .slice go1 l.length l.length] 34)) go1 l.length l) := by
    rw [HS.out] at hF1; exact (hF1.apHi (Nat.le_refl _)).later hn
  have hB1' := Below.allocS hB1 (.cells #[.int .i64 s1, .int .i64 s2, .slice go1 l.length l.length] 34)
  clear hb1 hF1 hn R2 HW
  go_wp2
  go_loopw [5] (fun z wr => ∃ (j : Nat) (u : Int) (v : Value) (qo : Option Addr) (qc : Nat) (D : List (Int × Int)), v = z ∧ Hid (D = l.drop j) ∧ j ≤ l.length ∧ (0 ≤ u ∧ u ≤ s1) ∧ Hid (LetAt s1 s2 l j u) ∧ Hid (Bx wr w1.heap.size [.int .i64 s1, .int .i64 u, .slice qo D.length qc]) ∧ Hid (Bx wr (w.heap.size + 1) [.int .i64 0, .int .i64 0, .slice none 0 0]) ∧ Hid (kN.Ap w1.heap.size (w.heap.size + 1 + 1) wr qo qc D) ∧ Hid (kI.Own (w1.heap.size + 1) wr v (tasksOf (l.take j))) ∧ Below w.heap.size w wr ∧ w1.heap.size + 1 ≤ wr.heap.size) (fun _ wr => lenAt wr w1.heap.size 2)
  case atStart => exact ⟨0, s2, _, go1, l.length, l, rfl, rfl, Nat.zero_le _, h2, LetAt.zero _ _ _, X0, R1, F1, Kind.Own.nil kI _ _, hB1', by simp⟩
  case round =>
    obtain ⟨j, u, v, qo, qc, D, rfl, HD0, hj, hu, hL, hX, hR, hF, hO, hB, hsz⟩ := hrel
    have x0 := hX.out.c 0 rfl
    have x1 := hX.out.c 1 rfl
    have x2 := hX.out.c 2 rfl
    have HX2 := hid x2
    have hdl : D.length ≤ 1048576 := by rw [HD0.out]; simp; omega
    cases hfb : firstB s1 u D
    · have HFB := hid hfb
      have HD := hid (hL.out.done (by rw [← HD0.out]; exact hfb))
      rw [← HD0.out] at HD
      clear hfb
      go_wp2_with fail
      refine (firstHas_is s1 u qo qc D wr false hdl ⟨by omega, by omega⟩ ⟨by omega, by omega⟩ hF.out.fresh.in HFB.out).mono ?_
      rintro e w2 ⟨rfl, hb2⟩
      have hB3 := hB.trans (hb2.mono hB.size)
      have X3 := hX.out.later hb2
      have R3 := hR.out.later hb2
      have F3 := hid (hF.out.later hb2).fresh
      obtain ⟨no, nc, rfl, _, hN⟩ := hO.out.fresh
      have N3 := hid ((hN.later hb2).wide (Nat.le_refl _) hb2.size)
      clear hb2 hN x0 x1 x2
      have x0 := X3.c 0 rfl
      have x1 := X3.c 1 rfl
      have x2 := X3.c 2 rfl
      have r0 := R3.c 0 rfl
      have r1 := R3.c 1 rfl
      have r2 := R3.c 2 rfl
      have rf0 := R3.f 0 rfl
      have rf1 := R3.f 1 rfl
      have rf2 := R3.f 2 rfl
      go_wp2
      refine bodyPost_ret (v := .tuple #[.agg #[.int .i64 s1, .int .i64 u, .slice qo D.length qc], .slice no (tasksOf (l.take j)).length nc]) (by simp [results, Try.results29, go_sem, r0, r1, r2]) rfl ?_
      rw [HD.out]
      exact ⟨⟨qo, qc, no, nc, rfl, (((F3.out.setBelow (a := ⟨w.heap.size + 1, 0, none⟩) (by simp) _).setBelow (a := ⟨w.heap.size + 1, 1, none⟩) (by simp) _).setBelow (a := ⟨w.heap.size + 1, 2, none⟩) (by simp) _).wide (by omega) (by simp), (((N3.out.setBelow (a := ⟨w.heap.size + 1, 0, none⟩) (by simp; omega) _).setBelow (a := ⟨w.heap.size + 1, 1, none⟩) (by simp; omega) _).setBelow (a := ⟨w.heap.size + 1, 2, none⟩) (by simp; omega) _).wide (by omega) (by simp)⟩, ((hB3.setCell (p := ⟨w.heap.size + 1, 0, none⟩) (by simp) _).setCell (p := ⟨w.heap.size + 1, 1, none⟩) (by simp) _).setCell (p := ⟨w.heap.size + 1, 2, none⟩) (by simp) _⟩
    · have HFB := hid hfb
      obtain ⟨hjl, hml⟩ := firstB_drop (by rw [← HD0.out]; exact hfb)
      have HST := hid (hL.out.step hjl hml)
      have hmb := HM.out j hjl
      have hpos : 0 < D.length := by rw [HD0.out]; simp; omega
      obtain ⟨z1, z2⟩ := len1 (l := D) (by omega)
      obtain ⟨⟨y1, y2⟩, ey⟩ : ∃ v, v = el l j := ⟨_, rfl⟩
      rw [← ey] at HST hmb hml
      have HY : Hid (el l j = (y1, y2)) := ey.symm
      have hy2 : 1 ≤ y2 ∧ y2 ≤ 1000 := by simp [manyB] at hmb; omega
      dsimp only at hml
      clear hfb hmb ey
      go_wp2_with fail
      refine (firstHas_is s1 u qo qc D wr true hdl ⟨by omega, by omega⟩ ⟨by omega, by omega⟩ hF.out.fresh.in HFB.out).mono ?_
      rintro e w2 ⟨rfl, hb2⟩
      have hB3 := hB.trans (hb2.mono hB.size)
      have hs2 := hb2.size
      have X3 := hX.out.later hb2
      have R3 := hR.out.later hb2
      have F3 := hid (hF.out.later hb2)
      have O3 := hid (hO.out.below hb2)
      clear hb2 x0 x1 x2 hF hO hX hR
      obtain ⟨g, eg, hg1, hg2, hg3, _⟩ := F3.out.fresh.at hpos
      subst eg
      have HED : Hid (el D 0 = (y1, y2)) := by rw [Hid, HD0.out, el_drop, Nat.add_zero]; exact HY.out
      have d1 : w2.cell? ⟨g, 0, none⟩ = some (.int .i64 y1) := by
        obtain ⟨b, off, e, _, hc⟩ := kN_at F3.out.fresh.in hpos
        cases e
        have := (hc 0 hpos).1
        rw [HED.out] at this
        simpa using this
      have d2 : w2.cell? ⟨g, 1, none⟩ = some (.int .i64 y2) := by
        obtain ⟨b, off, e, _, hc⟩ := kN_at F3.out.fresh.in hpos
        cases e
        have := (hc 0 hpos).2
        rw [HED.out] at this
        simpa using this
      have x0 := X3.c 0 rfl
      have x1 := X3.c 1 rfl
      have x2 := X3.c 2 rfl
      have xf1 := X3.f 1 rfl
      have hpx := X3.size
      -- the first one's box, and what is used
      obtain ⟨V, hV⟩ : ∃ V, V = (w2.setCell ⟨w1.heap.size, 1, none⟩ (.int .i64 (u + y2))).alloc (.cells #[.int .i64 y1, .int .i64 y2] 68) := ⟨_, rfl⟩
      have HV := hid hV
      have hsV : V.heap.size = w2.heap.size + 1 := by rw [hV]; simp
      have hnV : Below (w2.setCell ⟨w1.heap.size, 1, none⟩ (.int .i64 (u + y2))).heap.size (w2.setCell ⟨w1.heap.size, 1, none⟩ (.int .i64 (u + y2))) V := by rw [hV]; exact below1 _ _
      have X4 := hid ((X3.set 1 (.int .i64 (u + y2))).later hnV)
      have R4 := hid ((R3.other (a := ⟨w1.heap.size, 1, none⟩) (by simp; omega) (.int .i64 (u + y2))).later hnV)
      have F4 := hid ((F3.out.set 1 (.int .i64 (u + y2))).later hnV)
      have O4 := hid ((O3.out.setBelow (a := ⟨w1.heap.size, 1, none⟩) (by simp) (.int .i64 (u + y2))).below hnV)
      have I4 : Hid (Bx V w2.heap.size [.int .i64 y1, .int .i64 y2]) := by rw [hV]; exact Bx.new _ _ (by simp)
      have hB4 : Below w.heap.size w V := by rw [hV]; exact Below.allocS (hB3.setCell (p := ⟨w1.heap.size, 1, none⟩) (by simp; omega) _) _
      have HSV := hid hsV
      clear hV hnV hsV F3 O3 X3 R3
      go_wp2_with fail
      rw [← HV.out]
      refine (queueOfN_any (some ⟨g, 0, none⟩) qc D V hdl F4.out.fresh.in).mono ?_
      rintro e w3 ⟨⟨go2, rfl, hF5⟩, hb5⟩
      have F5 := hid hF5
      have X5 := hid (X4.out.later hb5)
      have R5 := hid (R4.out.later hb5)
      have O5 := hid (O4.out.below hb5)
      have I5 := hid (I4.out.later hb5)
      have hB5 := hB4.trans (hb5.mono hB4.size)
      have hs5 : w2.heap.size + 1 ≤ w3.heap.size := by have := hb5.size; rw [HSV.out] at this; exact this
      clear hF5 hb5 X4 R4 F4 O4 I4 x0 x1 x2 xf1 d1 d2
      go_wp2_with fail
      obtain ⟨D', hD'⟩ : ∃ D', D' = l.drop (j + 1) := ⟨_, rfl⟩
      have HD' := hid hD'
      have HKE : Hid (D' = keepE D 0 (List.range D.length)) := by
        have := keepE_range D 0 hpos
        rw [show ((0 : Nat) : Int) = 0 from rfl] at this
        rw [Hid, this, hD', HD0.out]; simp
      clear hD'
      refine (withoutN_any go2 D.length D 0 w3 hdl F5.out.in D' HKE.out).mono ?_
      rintro e w4 ⟨⟨go3, qc3, rfl, hF6⟩, hb6⟩
      have F6 := hid (hF6.apLo (p := w1.heap.size) (lo := w.heap.size + 1 + 1) (by omega) (by omega))
      have X6 := X5.out.later hb6
      have R6 := R5.out.later hb6
      have O6 := hid (O5.out.below hb6)
      have I6 := I5.out.later hb6
      have hB6 := hB5.trans (hb6.mono hB5.size)
      have hs6 := hb6.size
      clear hF6 hb6 X5 R5 F5 O5 I5
      dsimp only [List.set] at X6
      have hfl : ∀ (a : Option Addr) (n c : Nat) (W : World), (Instr.field 92 (.agg #[.slice a n c]) 0).run Try.prog W = .ok (.slice a n c) W := run_field92
      have x0 := X6.c 0 rfl
      have x1 := X6.c 1 rfl
      have x2 := X6.c 2 rfl
      have xf2 := X6.f 2 rfl
      have i0 := I6.c 0 rfl
      have hi6 := I6.size
      -- those that wait still
      obtain ⟨U, hU⟩ : ∃ U, U = w4.setCell ⟨w1.heap.size, 2, none⟩ (.slice go3 D'.length qc3) := ⟨_, rfl⟩
      have HU := hid hU
      have hsU : U.heap.size = w4.heap.size := by rw [hU]; simp
      have X7 : Bx U w1.heap.size [.int .i64 s1, .int .i64 (u + y2), .slice go3 D'.length qc3] := by rw [hU]; exact X6.set 2 _
      have R7 : Bx U (w.heap.size + 1) [.int .i64 0, .int .i64 0, .slice none 0 0] := by rw [hU]; exact R6.other (by simp; omega) _
      have F7 : Hid (kN.Ap w1.heap.size (w.heap.size + 1 + 1) U go3 qc3 D') := by rw [hU]; exact F6.out.set 2 _
      have O7 : Hid (kI.Own (w1.heap.size + 1) U v (tasksOf (l.take j))) := by rw [hU]; exact O6.out.setBelow (by simp) _
      have hB7 : Below w.heap.size w U := by rw [hU]; exact hB6.setCell (p := ⟨w1.heap.size, 2, none⟩) (by simp; omega) _
      have hn8 := below1 U (.cells #[.int .i64 y1] 3)
      have X8 := hid (X7.later hn8)
      have R8 := hid (R7.later hn8)
      have F8 := hid (F7.out.later hn8)
      have HA : Hid (kI.Own (w1.heap.size + 1) (U.alloc (.cells #[.int .i64 y1] 3)) v (tasksOf (l.take j))) := O7.out.below hn8
      have HN : Hid (kI.In (w4.heap.size + 1) (U.alloc (.cells #[.int .i64 y1] 3)) (some ⟨w4.heap.size, 0, none⟩) [y1]) := by rw [Hid, ← hsU]; exact int_one (by omega) (by simp)
      have hll : (tasksOf (l.take j)).length + 1 ≤ 4194304 := by rw [tasksOf_len]; simp; omega
      have hB8 := Below.allocS hB7 (.cells #[.int .i64 y1] 3)
      have HSU := hid hsU
      clear hU hsU hn8 X7 R7 F7 O7 X6 R6 F6 O6
      go_wp2_with (at_builtin; rw [← HU.out]; refine Kind.app kI_ok (U.alloc (.cells #[.int .i64 y1] 3)) rfl (.tmp 27) (.tmp 30) rfl (w1.heap.size + 1) v (tasksOf (l.take j)) rfl HA.out (by have := HSU.out; simp; omega) (some ⟨w4.heap.size, 0, none⟩) [y1] 1 1 rfl rfl (by simp) _ HN.out hll ?_; intro v' w' hO' hB' hG' hn'; have hB9 : Below w.heap.size w w' := hB8.trans (hB'.mono (by omega)); have hs9 : w4.heap.size + 1 ≤ w'.heap.size := (by have := hB'.size; have := HSU.out; simp at *; omega); have X9 := hid (X8.out.below hB' (by omega)); have R9 := hid (R8.out.below hB' (by omega)); have F9 := hid (F8.out.grown HA.out (by decide) hG'); have O9 : Hid (kI.Own (w1.heap.size + 1) w' v' (tasksOf (l.take (j + 1)))) := (by rw [Hid, tasksOf_succ hjl, HY.out]; exact hO'); clear hO' hB' hG' hn')
      go_roundw
      case rel => exact ⟨j + 1, u + y2, v', go3, qc3, D', rfl, HD', by omega, ⟨by omega, by omega⟩, HST, X9, R9, F9, O9, hB9, by omega⟩
      case measure =>
        rw [lenAt_eq (X9.out.c 2 rfl), lenAt_eq HX2.out]
        rw [HD'.out, HD0.out]; simp; omega
end
section
open Go.RowKit

set_option maxHeartbeats 2000000 in
theorem l5Own_any (s1 s2 : Int) (ao : Option Addr) (cap : Nat) (l : List (Int × Int)) (w : World) (hl : l.length ≤ 1048576) (hno : ao = none → cap = 0) (hz : kN.In w.heap.size w ao l) :
    Calls Try.prog 31 #[.agg #[.int .i64 s1, .int .i64 s2, .slice ao l.length cap]] w fun e w' => (∃ g c, e = .returned (.agg #[.int .i64 s1, .int .i64 s2, .slice (some ⟨g, 0, none⟩) l.length c]) ∧ kN.Fresh w.heap.size w'.heap.size w' (some ⟨g, 0, none⟩) c l ∧ kN.Own w.heap.size w' (.slice (some ⟨g, 0, none⟩) l.length c) l) ∧ Below w.heap.size w w' := by
  obtain ⟨W2, hW2⟩ : ∃ W2, W2 = (w.alloc (.cells #[.int .i64 s1, .int .i64 s2, .slice ao l.length cap] 34)).alloc (.cells #[.int .i64 0, .int .i64 0, .slice none 0 0] 34) := ⟨_, rfl⟩
  have hB2 : Below w.heap.size w W2 := by rw [hW2]; exact below2 _ _ _
  have A2 : Bx W2 w.heap.size [.int .i64 s1, .int .i64 s2, .slice ao l.length cap] := by rw [hW2]; exact (Bx.new [.int .i64 s1, .int .i64 s2, .slice ao l.length cap] _ rfl).alloc _
  have R2 : Bx W2 (w.heap.size + 1) [.int .i64 0, .int .i64 0, .slice none 0 0] := by rw [hW2]; exact Bx.new [.int .i64 0, .int .i64 0, .slice none 0 0] _ (by simp)
  have hsW : W2.heap.size = w.heap.size + 1 + 1 := by rw [hW2]; simp
  have HS := hid hsW
  have HE : Hid (kN.Own (w.heap.size + 1 + 1) (W2.alloc (.cells #[] 68)) (.slice (some ⟨w.heap.size + 1 + 1, 0, none⟩) 0 0) []) := by rw [Hid, ← hsW]; exact Kind.Own.new kN _ W2 (Nat.le_refl _)
  have HZ : Hid (kN.In W2.heap.size (W2.alloc (.cells #[] 68)) ao l) := (hz.later hB2).below (below1 _ _)
  have HW := hid hW2
  clear hW2 hsW
  have hA1 : w.heap.size < w.heap.size + 1 + 1 := by omega
  go_enter Try.func31, Try.ntmps31
  go_wp2_with (at_builtin; rw [← HW.out]; refine Kind.app kN_ok (W2.alloc (.cells #[] 68)) rfl (.tmp 3) (.tmp 5) rfl (w.heap.size + 1 + 1) (.slice (some ⟨w.heap.size + 1 + 1, 0, none⟩) 0 0) [] rfl HE.out (by have := HS.out; simp; omega) ao l l.length cap rfl rfl hno _ HZ.out (by simp; omega) ?_; intro v3 w3 hO3 hB3 hG3 hn3; obtain ⟨g, c, rfl, hF3⟩ := hO3.some (hn3 some_ne); rw [List.nil_append] at hF3 hO3; have A3 := (A2.alloc (.cells #[] 68)).below hB3 (by omega); have R3 := (R2.alloc (.cells #[] 68)).below hB3 (by omega); have hB4 : Below w.heap.size w w3 := hB2.trans (((below1 W2 (.cells #[] 68)).mono hB2.size).trans (hB3.mono (by omega))); have HF := hid hF3; have HO := hid hO3; clear hO3 hB3 hG3 hn3 hF3 HE HZ A2 R2 HW; have a0 := A3.c 0 rfl; have a1 := A3.c 1 rfl; have a2 := A3.c 2 rfl; have af2 := A3.f 2 rfl; have r0 := R3.c 0 rfl; have r1 := R3.c 1 rfl; have r2 := R3.c 2 rfl; have rf0 := R3.f 0 rfl; have rf1 := R3.f 1 rfl; have rf2 := R3.f 2 rfl)
  refine bodyPost_ret (v := .agg #[.int .i64 s1, .int .i64 s2, .slice (some ⟨g, 0, none⟩) l.length c]) (by simp [results, Try.results31, go_sem, r0, r1, r2]) rfl ⟨⟨g, c, rfl, ?_, ?_⟩, ?_⟩
  · exact ((((HF.out.setBelow (a := ⟨w.heap.size, 2, none⟩) (by simp; omega) _).setBelow (a := ⟨w.heap.size + 1, 0, none⟩) (by simp) _).setBelow (a := ⟨w.heap.size + 1, 1, none⟩) (by simp) _).setBelow (a := ⟨w.heap.size + 1, 2, none⟩) (by simp) _).wide (by omega) (by simp)
  · have h := (((HO.out.setBelow (a := ⟨w.heap.size, 2, none⟩) (by simp; omega) (.slice (some ⟨g, 0, none⟩) l.length c)).setBelow (a := ⟨w.heap.size + 1, 0, none⟩) (by simp) (.int .i64 s1)).setBelow (a := ⟨w.heap.size + 1, 1, none⟩) (by simp) (.int .i64 s2)).setBelow (a := ⟨w.heap.size + 1, 2, none⟩) (by simp) (.slice (some ⟨g, 0, none⟩) l.length c)
    exact ownsRow_base h (by have := (owns_lt h).1; omega)
  · exact (((hB4.setCell (p := ⟨w.heap.size, 2, none⟩) (by simp) _).setCell (p := ⟨w.heap.size + 1, 0, none⟩) (by simp) _).setCell (p := ⟨w.heap.size + 1, 1, none⟩) (by simp) _).setCell (p := ⟨w.heap.size + 1, 2, none⟩) (by simp) _

theorem tasksOf_at {l : List (Int × Int)} {j : Nat} (h : j < l.length) : el (tasksOf l) j = (el l j).1 := by simp [el, tasksOf, h]
set_option maxHeartbeats 2000000 in
theorem l5Waits_is (s1 s2 : Int) (ao : Option Addr) (cap : Nat) (l : List (Int × Int)) (iv : Int) (w : World) (x : Bool) (hl : l.length ≤ 1048576) (hz : kN.In w.heap.size w ao l) (hx : hasB (tasksOf l) iv = x) :
    Calls Try.prog 61 #[.agg #[.int .i64 s1, .int .i64 s2, .slice ao l.length cap], .int .i64 iv] w fun e w' => e = .returned (.bool x) ∧ Below w.heap.size w w' := by
  have HX := hid hx
  have hB0 := below1 w (.cells #[.int .i64 s1, .int .i64 s2, .slice ao l.length cap] 34)
  clear hx
  go_enter Try.func61, Try.ntmps61
  go_wp2
  go_loopw [10] (fun i wr => ∃ k : Nat, k ≤ l.length ∧ i = .int .i64 k ∧ Hid (∀ j, j < k → (el l j).1 ≠ iv) ∧ Below w.heap.size w wr) (fun i _ => l.length - (intOf i).toNat)
  case atStart => exact ⟨0, Nat.zero_le _, rfl, fun j hj => by omega, hB0⟩
  case round =>
    obtain ⟨k, hk, rfl, hno, hB⟩ := hrel
    by_cases hlt : k < l.length
    · obtain ⟨b, off, rfl, hb, hc⟩ := kN_at hz hlt
      have d1 := (hB.cell (p := ⟨b, off + k * 2, none⟩) hb).trans (hc k hlt).1
      have d2 := (hB.cell (p := ⟨b, off + k * 2 + 1, none⟩) hb).trans (hc k hlt).2
      obtain ⟨⟨y1, y2⟩, ey⟩ : ∃ v, v = el l k := ⟨_, rfl⟩
      rw [← ey] at d1 d2
      have HY : Hid (el l k = (y1, y2)) := ey.symm
      clear ey hc hz
      dsimp only at d1 d2
      by_cases he : y1 = iv
      · have he' : (y1 == iv) = true := by simpa using he
        have HT : Hid (x = true) := by rw [Hid, ← HX.out]; exact hasB_yes (k := k) (by rw [tasksOf_len]; exact hlt) (by rw [tasksOf_at hlt, HY.out]; exact he)
        clear he
        go_wp2
        go_ret
        exact ⟨ret_bool HT.out.symm, Below.allocS hB _⟩
      · have he' : (y1 == iv) = false := by simpa using he
        have HNE := hid he
        clear he
        go_wp2
        go_roundw
        case rel => exact ⟨k + 1, by omega, by go_num, fun j hj => by
          rcases Nat.lt_succ_iff_lt_or_eq.1 hj with h | rfl
          · exact hno.out j h
          · rw [HY.out]; exact HNE.out, Below.allocS hB _⟩
        case measure => simp [intOf]; omega
    · obtain rfl : k = l.length := by omega
      have HT : Hid (x = false) := by rw [Hid, ← HX.out]; exact hasB_no fun j hj => by rw [tasksOf_len] at hj; rw [tasksOf_at hj]; exact hno.out j hj
      go_wp2
      go_ret
      exact ⟨ret_bool HT.out.symm, hB⟩
/-- Room, those that go and 0: in memory of their own. -/
def AnsM (w : World) (s1 : Int) (R : Int × List (Int × Int) × List Int) (e : Ending) (w' : World) : Prop :=
  (∃ o c o' c', e = .returned (.tuple #[.agg #[.int .i64 s1, .int .i64 R.1, .slice o R.2.1.length c], .slice o' R.2.2.length c', .int .i64 0]) ∧ kN.Fresh w.heap.size w'.heap.size w' o c R.2.1 ∧ kI.Fresh w.heap.size w'.heap.size w' o' c' R.2.2) ∧ Below w.heap.size w w'
set_option maxRecDepth 10000 in
set_option maxHeartbeats 8000000 in
theorem l5Let_any (s1 s2 : Int) (ao : Option Addr) (cap : Nat) (l : List (Int × Int)) (w : World) (hl : l.length ≤ 30) (hcap : l.length ≤ cap) (hno : ao = none → cap = 0) (h1 : 1 ≤ s1 ∧ s1 ≤ 1000) (h2 : 0 ≤ s2 ∧ s2 ≤ s1) (hm : ∀ j, j < l.length → manyB s1 (el l j) = true) (hz : kN.In w.heap.size w ao l) :
    Calls Try.prog 32 #[.agg #[.int .i64 s1, .int .i64 s2, .slice ao l.length cap]] w fun e w' => AnsM w s1 (letR s1 s2 l) e w' := by
  have HM := hid hm
  clear hm
  have hB0 := below2 w (.cells #[.int .i64 s1, .int .i64 s2, .slice ao l.length cap] 34) (.cells #[.int .i64 0, .int .i64 0, .slice none 0 0] 34)
  have X0 : Hid (Bx ((w.alloc (.cells #[.int .i64 s1, .int .i64 s2, .slice ao l.length cap] 34)).alloc (.cells #[.int .i64 0, .int .i64 0, .slice none 0 0] 34)) w.heap.size [.int .i64 s1, .int .i64 s2, .slice ao l.length cap]) := (Bx.new [.int .i64 s1, .int .i64 s2, .slice ao l.length cap] _ rfl).alloc _
  have R0 : Hid (Bx ((w.alloc (.cells #[.int .i64 s1, .int .i64 s2, .slice ao l.length cap] 34)).alloc (.cells #[.int .i64 0, .int .i64 0, .slice none 0 0] 34)) (w.heap.size + 1) [.int .i64 0, .int .i64 0, .slice none 0 0]) := Bx.new [.int .i64 0, .int .i64 0, .slice none 0 0] _ (by simp)
  go_enter Try.func32, Try.ntmps32
  go_wp2
  go_loopw [5] (fun z wr => ∃ (j : Nat) (u : Int) (v : Value) (qo : Option Addr) (qc : Nat) (D : List (Int × Int)), v = z ∧ Hid (D = l.drop j) ∧ j ≤ l.length ∧ (0 ≤ u ∧ u ≤ s1) ∧ Hid (LetAt s1 s2 l j u) ∧ Hid (Bx wr w.heap.size [.int .i64 s1, .int .i64 u, .slice qo D.length qc]) ∧ Hid (Bx wr (w.heap.size + 1) [.int .i64 0, .int .i64 0, .slice none 0 0]) ∧ Hid (kN.In w.heap.size w qo D) ∧ D.length ≤ qc ∧ Hid (qo = none → qc = 0) ∧ Hid (kI.Own (w.heap.size + 1 + 1) wr v (tasksOf (l.take j))) ∧ Below w.heap.size w wr ∧ w.heap.size + 1 + 1 ≤ wr.heap.size) (fun _ wr => lenAt wr w.heap.size 2)
  case atStart => exact ⟨0, s2, _, ao, cap, l, rfl, rfl, Nat.zero_le _, h2, LetAt.zero _ _ _, X0, R0, hz, hcap, hno, Kind.Own.nil kI _ _, hB0, by simp⟩
  case round =>
    obtain ⟨j, u, v, qo, qc, D, rfl, HD0, hj, hu, hL, hX, hR, hI, hqc, hqn, hO, hB, hsz⟩ := hrel
    have x0 := hX.out.c 0 rfl
    have x1 := hX.out.c 1 rfl
    have x2 := hX.out.c 2 rfl
    have xf1 := hX.out.f 1 rfl
    have xf2 := hX.out.f 2 rfl
    have HX2 := hid x2
    have hdl : D.length ≤ 1048576 := by rw [HD0.out]; simp; omega
    by_cases hD : D.length = 0
    · -- nobody waits
      have HFB : Hid (firstB s1 u D = false) := by simp [Hid, firstB, hD]
      have HD := hid (hL.out.done (by rw [← HD0.out]; exact HFB.out))
      rw [← HD0.out] at HD
      obtain rfl : D = [] := List.length_eq_zero_iff.1 hD
      clear hD
      go_wp2
      go_quiet (fail)
      go_wp2_with fail
      have hBd : Below w.heap.size w (wr.drewN nq) := below_draws hB _
      refine (l5Own_any s1 u qo qc ([] : List (Int × Int)) _ hdl hqn.out (by exact hI.out.later hBd)).mono ?_
      rintro e w2 ⟨⟨g, c, rfl, hF2, _⟩, hb2⟩
      have hB3 := hBd.trans (hb2.mono hBd.size)
      have R3 : Bx w2 (w.heap.size + 1) [.int .i64 0, .int .i64 0, .slice none 0 0] := Bx.later (W := wr.drewN nq) hR.out hb2
      obtain ⟨no, nc, rfl, _, hN⟩ := hO.out.fresh
      have F3 := hid hF2
      have N3 : Hid (kI.Fresh (w.heap.size + 1 + 1) w2.heap.size w2 no nc (tasksOf (l.take j))) := (Kind.Fresh.later (W := wr.drewN nq) hN hb2).wide (Nat.le_refl _) hb2.size
      have hs2 : wr.heap.size ≤ w2.heap.size := hb2.size
      have F4 : Hid (kN.Fresh (w.heap.size + 1 + 1) w2.heap.size w2 (some ⟨g, 0, none⟩) c ([] : List (Int × Int))) := F3.out.wide hsz (Nat.le_refl _)
      clear hb2 hN hF2 x0 x1 x2 F3
      have r0 := R3.c 0 rfl
      have r1 := R3.c 1 rfl
      have r2 := R3.c 2 rfl
      have rf0 := R3.f 0 rfl
      have rf1 := R3.f 1 rfl
      have rf2 := R3.f 2 rfl
      go_wp2
      refine bodyPost_ret (v := .tuple #[.agg #[.int .i64 s1, .int .i64 u, .slice (some ⟨g, 0, none⟩) ([] : List (Int × Int)).length c], .slice no (tasksOf (l.take j)).length nc, .int .i64 0]) (by simp [results, Try.results32, go_sem, r0, r1, r2]) rfl ?_
      rw [HD.out]
      exact ⟨⟨_, c, no, nc, rfl, (((F4.out.setBelow (a := ⟨w.heap.size + 1, 0, none⟩) (by simp) _).setBelow (a := ⟨w.heap.size + 1, 1, none⟩) (by simp) _).setBelow (a := ⟨w.heap.size + 1, 2, none⟩) (by simp) _).wide (by omega) (by simp), (((N3.out.setBelow (a := ⟨w.heap.size + 1, 0, none⟩) (by simp) _).setBelow (a := ⟨w.heap.size + 1, 1, none⟩) (by simp) _).setBelow (a := ⟨w.heap.size + 1, 2, none⟩) (by simp) _).wide (by omega) (by simp)⟩, ((hB3.setCell (p := ⟨w.heap.size + 1, 0, none⟩) (by simp) _).setCell (p := ⟨w.heap.size + 1, 1, none⟩) (by simp) _).setCell (p := ⟨w.heap.size + 1, 2, none⟩) (by simp) _⟩
    · have hpos : 0 < D.length := by omega
      obtain ⟨z1, z2⟩ := len1 hD
      obtain ⟨b, off, rfl, hb, hc⟩ := kN_at hI.out hpos
      have hjl : j < l.length := by have : D.length = l.length - j := by rw [HD0.out]; simp
                                    omega
      obtain ⟨⟨y1, y2⟩, ey⟩ : ∃ v, v = el D 0 := ⟨_, rfl⟩
      have d1 := (hB.cell (p := ⟨b, off + 0 * 2, none⟩) hb).trans (hc 0 hpos).1
      have d2 := (hB.cell (p := ⟨b, off + 0 * 2 + 1, none⟩) hb).trans (hc 0 hpos).2
      rw [Nat.zero_mul, Nat.add_zero, ← ey] at d1 d2
      have HY : Hid (el l j = (y1, y2)) := by rw [Hid, ey, HD0.out, el_drop, Nat.add_zero]
      have HED := hid ey
      have hbw : b < wr.heap.size := Nat.lt_of_lt_of_le hb hB.size
      clear ey hc hD
      dsimp only at d1 d2
      have hmb := HM.out j hjl
      rw [HY.out] at hmb
      have hy2 : 1 ≤ y2 ∧ y2 ≤ 1000 := by simp [manyB] at hmb; omega
      clear hmb
      by_cases hml : y2 ≤ s1 - u
      · have hml' : decide (y2 ≤ s1 - u) = true := by simpa using hml
        have HST := hid (hL.out.step hjl (by rw [HY.out]; exact hml))
        rw [HY.out] at HST
        go_wp2
        go_quiet (fail)
        obtain ⟨W1, hW1⟩ : ∃ W1, W1 = wr.drewN nq := ⟨_, rfl⟩
        have X1 : Hid (Bx W1 w.heap.size [.int .i64 s1, .int .i64 u, .slice (some ⟨b, off, none⟩) D.length qc]) := by rw [hW1]; exact hX.out
        have R1 : Hid (Bx W1 (w.heap.size + 1) [.int .i64 0, .int .i64 0, .slice none 0 0]) := by rw [hW1]; exact hR.out
        have O1 : Hid (kI.Own (w.heap.size + 1 + 1) W1 v (tasksOf (l.take j))) := by rw [hW1]; exact hO.out
        have hB1 : Below w.heap.size w W1 := by rw [hW1]; exact below_draws hB _
        have e1 : W1.cell? ⟨b, off, none⟩ = some (.int .i64 y1) := by rw [hW1]; exact d1
        have e2 : W1.cell? ⟨b, off + 1, none⟩ = some (.int .i64 y2) := by rw [hW1]; exact d2
        have hs1 : w.heap.size + 1 + 1 ≤ W1.heap.size := by rw [hW1]; exact hsz
        rw [← hW1]
        clear hW1 hX hR hO x0 x1 x2 xf1 xf2 d1 d2 hbw
        have x0 := X1.out.c 0 rfl
        have x1 := X1.out.c 1 rfl
        have x2 := X1.out.c 2 rfl
        have xf1 := X1.out.f 1 rfl
        have xf2 := X1.out.f 2 rfl
        go_wp2
        go_region
        obtain ⟨V, hV⟩ : ∃ V, V = (W1.setCell ⟨w.heap.size, 1, none⟩ (.int .i64 (u + y2))).drew := ⟨_, rfl⟩
        have X2 : Bx V w.heap.size [.int .i64 s1, .int .i64 (u + y2), .slice (some ⟨b, off, none⟩) D.length qc] := by rw [hV]; exact (X1.out.set 1 (.int .i64 (u + y2))).drew
        have R2 : Bx V (w.heap.size + 1) [.int .i64 0, .int .i64 0, .slice none 0 0] := by rw [hV]; exact (R1.out.other (by simp) _).drew
        have O2 : Hid (kI.Own (w.heap.size + 1 + 1) V v (tasksOf (l.take j))) := by rw [hV]; exact O1.out.setBelow (by simp; omega) _
        have hB2 : Below w.heap.size w V := by rw [hV]; exact (hB1.setCell (p := ⟨w.heap.size, 1, none⟩) (by simp) _).drew
        have f1 : V.cell? ⟨b, off, none⟩ = some (.int .i64 y1) := (hB2.cell (p := ⟨b, off, none⟩) hb).trans ((hB1.cell (p := ⟨b, off, none⟩) hb).symm.trans e1)
        have hs2 : w.heap.size + 1 + 1 ≤ V.heap.size := by rw [hV]; simpa using hs1
        rw [← hV]
        clear hV X1 R1 O1 x0 x1 x2 xf1 xf2 e1 e2
        have x0 := X2.c 0 rfl
        have x1 := X2.c 1 rfl
        have x2 := X2.c 2 rfl
        have xf2 := X2.f 2 rfl
        have hbV : b < V.heap.size := Nat.lt_of_lt_of_le hb hB2.size
        have hBV : w.heap.size < V.heap.size := X2.size
        have hn3 := below1 V (.cells #[.int .i64 y1] 3)
        have X3 := hid (X2.later hn3)
        have R3 := hid (R2.later hn3)
        have HA : Hid (kI.Own (w.heap.size + 1 + 1) (V.alloc (.cells #[.int .i64 y1] 3)) v (tasksOf (l.take j))) := O2.out.below hn3
        have HN : Hid (kI.In (V.heap.size + 1) (V.alloc (.cells #[.int .i64 y1] 3)) (some ⟨V.heap.size, 0, none⟩) [y1]) := int_one (by omega) (by simp)
        have hll : (tasksOf (l.take j)).length + 1 ≤ 4194304 := by rw [tasksOf_len]; simp; omega
        have hB3 := Below.allocS hB2 (.cells #[.int .i64 y1] 3)
        have hq1 : 1 ≤ qc := by omega
        have hq1' : (1 : Int) ≤ (qc : Int) := by omega
        have hq2' : (1 : Int) ≤ (D.length : Int) := by omega
        clear hn3 O2
        go_wp2_with (at_builtin; refine Kind.app kI_ok (V.alloc (.cells #[.int .i64 y1] 3)) rfl (.tmp 32) (.tmp 38) rfl (w.heap.size + 1 + 1) v (tasksOf (l.take j)) rfl HA.out (by simp; omega) (some ⟨V.heap.size, 0, none⟩) [y1] 1 1 rfl rfl (by simp) _ HN.out hll ?_; intro v' w' hO' hB' hG' hn'; have hB4 : Below w.heap.size w w' := hB3.trans (hB'.mono (by omega)); have hs4 : w.heap.size + 1 + 1 ≤ w'.heap.size := (by have := hB'.size; simp at this; omega); have X4 := X3.out.below hB' (by omega); have R4 := R3.out.below hB' (by omega); have O4 : Hid (kI.Own (w.heap.size + 1 + 1) w' v' (tasksOf (l.take (j + 1)))) := (by rw [Hid, tasksOf_succ hjl, HY.out]; exact hO'); clear hO' hB' hG' hn' x0 x1 x2 xf2 X3 R3; have x0 := X4.c 0 rfl; have x1 := X4.c 1 rfl; have x2 := X4.c 2 rfl; have xf2 := X4.f 2 rfl)
        have hDl : D.length = l.length - j := by rw [HD0.out]; simp
        have hlen : (l.drop (j + 1)).length = D.length - 1 := by rw [hDl]; simp; omega
        obtain ⟨qo', hqo'⟩ : ∃ q : Option Addr, q = (if qc = 1 then some ⟨b, off, none⟩ else some ⟨b, off + 2, none⟩) := ⟨_, rfl⟩
        have hIn : kN.In w.heap.size w qo' (l.drop (j + 1)) := by
          by_cases hq : qc = 1
          · exact .inl (List.length_eq_zero_iff.1 (by rw [hlen]; omega))
          · rw [hqo', if_neg hq]
            have h := hI.out.drop 1
            rw [HD0.out, List.drop_drop] at h
            exact h
        have hqn' : qo' = none → qc - 1 = 0 := by intro h; rw [hqo'] at h; split at h <;> cases h
        rw [← hqo']
        refine ⟨⟨j + 1, u + y2, v', qo', qc - 1, l.drop (j + 1), rfl, rfl, by omega, ⟨by omega, by omega⟩, HST, ?_, ?_, hIn, by omega, hqn', ?_, ?_, ?_⟩, ?_⟩
        · rw [hlen]; exact hid (X4.set 2 _)
        · exact hid (R4.other (by simp) _)
        · exact hid (O4.out.setBelow (by simp; omega) _)
        · exact hB4.setCell (p := ⟨w.heap.size, 2, none⟩) (by simp) _
        · simpa using hs4
        · rw [lenAt_eq ((X4.set 2 (.slice qo' (D.length - 1) (qc - 1))).c 2 rfl), lenAt_eq HX2.out]
          omega
      · have hml' : decide (y2 ≤ s1 - u) = false := by simpa using hml
        have HFB : Hid (firstB s1 u D = false) := by rw [Hid, firstB, ← HED.out]; simp; omega
        have HD := hid (hL.out.done (by rw [← HD0.out]; exact HFB.out))
        rw [← HD0.out] at HD
        clear hml
        go_wp2
        go_quiet (fail)
        go_wp2_with fail
        have hBd : Below w.heap.size w (wr.drewN nq) := below_draws hB _
        refine (l5Own_any s1 u (some ⟨b, off, none⟩) qc D _ hdl hqn.out (by exact hI.out.later hBd)).mono ?_
        rintro e w2 ⟨⟨g, c, rfl, hF2, _⟩, hb2⟩
        have hB3 := hBd.trans (hb2.mono hBd.size)
        have R3 : Bx w2 (w.heap.size + 1) [.int .i64 0, .int .i64 0, .slice none 0 0] := Bx.later (W := wr.drewN nq) hR.out hb2
        obtain ⟨no, nc, rfl, _, hN⟩ := hO.out.fresh
        have F3 := hid hF2
        have N3 : Hid (kI.Fresh (w.heap.size + 1 + 1) w2.heap.size w2 no nc (tasksOf (l.take j))) := (Kind.Fresh.later (W := wr.drewN nq) hN hb2).wide (Nat.le_refl _) hb2.size
        have hs2 : wr.heap.size ≤ w2.heap.size := hb2.size
        have F4 : Hid (kN.Fresh (w.heap.size + 1 + 1) w2.heap.size w2 (some ⟨g, 0, none⟩) c D) := F3.out.wide hsz (Nat.le_refl _)
        clear hb2 hN hF2 x0 x1 x2 F3
        have r0 := R3.c 0 rfl
        have r1 := R3.c 1 rfl
        have r2 := R3.c 2 rfl
        have rf0 := R3.f 0 rfl
        have rf1 := R3.f 1 rfl
        have rf2 := R3.f 2 rfl
        go_wp2
        refine bodyPost_ret (v := .tuple #[.agg #[.int .i64 s1, .int .i64 u, .slice (some ⟨g, 0, none⟩) D.length c], .slice no (tasksOf (l.take j)).length nc, .int .i64 0]) (by simp [results, Try.results32, go_sem, r0, r1, r2]) rfl ?_
        rw [HD.out]
        exact ⟨⟨_, c, no, nc, rfl, (((F4.out.setBelow (a := ⟨w.heap.size + 1, 0, none⟩) (by simp) _).setBelow (a := ⟨w.heap.size + 1, 1, none⟩) (by simp) _).setBelow (a := ⟨w.heap.size + 1, 2, none⟩) (by simp) _).wide (by omega) (by simp), (((N3.out.setBelow (a := ⟨w.heap.size + 1, 0, none⟩) (by simp) _).setBelow (a := ⟨w.heap.size + 1, 1, none⟩) (by simp) _).setBelow (a := ⟨w.heap.size + 1, 2, none⟩) (by simp) _).wide (by omega) (by simp)⟩, ((hB3.setCell (p := ⟨w.heap.size + 1, 0, none⟩) (by simp) _).setCell (p := ⟨w.heap.size + 1, 1, none⟩) (by simp) _).setCell (p := ⟨w.heap.size + 1, 2, none⟩) (by simp) _⟩
end
section
open Go.RowKit
end
section
open Go.RowKit

/-- A group is good. -/
def groupB (cnt : Int) (q : List Int) : Bool := (decide (0 ≤ cnt) && decide (cnt ≤ 1000000)) && (lineB q && (decide (0 < cnt) || decide (q.length = 0)))
theorem groupB_cnt {cnt : Int} {q : List Int} (h : (decide (0 ≤ cnt) && decide (cnt ≤ 1000000)) = false) : groupB cnt q = false := by rw [groupB, h]; rfl
theorem groupB_line {cnt : Int} {q : List Int} (h : lineB q = false) : groupB cnt q = false := by rw [groupB, h]; simp
theorem groupB_tail {cnt : Int} {q : List Int} (h1 : (decide (0 ≤ cnt) && decide (cnt ≤ 1000000)) = true) (h2 : lineB q = true) : groupB cnt q = (decide (0 < cnt) || decide (q.length = 0)) := by rw [groupB, h1, h2]; rfl
theorem groupB_good {cnt : Int} {q : List Int} (h : groupB cnt q = true) : 0 ≤ cnt ∧ cnt ≤ 1000000 ∧ lineB q = true ∧ (0 < cnt ∨ q = []) := by
  simp only [groupB, Bool.and_eq_true, Bool.or_eq_true, decide_eq_true_eq] at h
  exact ⟨h.1.1, h.1.2, h.2.1, h.2.2.imp id List.length_eq_zero_iff.1⟩

set_option maxHeartbeats 2000000 in
theorem implGood_is (cnt : Int) (ao : Option Addr) (cap : Nat) (q : List Int) (w : World) (x : Bool) (hl : q.length ≤ 1048576) (hz : kI.In w.heap.size w ao q) (hx : groupB cnt q = x) :
    Calls Try.prog 8 #[.agg #[.int .i64 cnt, .slice ao q.length cap]] w fun e w' => e = .returned (.bool x) ∧ Below w.heap.size w w' := by
  have hB0 := below1 w (.cells #[.int .i64 cnt, .slice ao q.length cap] 25)
  have X0 : Bx (w.alloc (.cells #[.int .i64 cnt, .slice ao q.length cap] 25)) w.heap.size _ := Bx.new [.int .i64 cnt, .slice ao q.length cap] 25 rfl
  by_cases h1 : cnt < 0
  · have HV : Hid (x = false) := by rw [Hid, ← hx]; exact groupB_cnt (by simp; omega)
    clear hx
    go_enter Try.func8, Try.ntmps8
    go_wp2
    go_ret
    exact ⟨ret_bool HV.out.symm, hB0⟩
  have h1' : decide (cnt < 0) = false := by simpa using h1
  by_cases h2 : 1000000 < cnt
  · have HV : Hid (x = false) := by rw [Hid, ← hx]; exact groupB_cnt (by simp; omega)
    clear hx
    go_enter Try.func8, Try.ntmps8
    go_wp2
    go_ret
    exact ⟨ret_bool HV.out.symm, hB0⟩
  have h2' : decide (1000000 < cnt) = false := by simpa using h2
  cases h3 : lineB q
  · have HV : Hid (x = false) := by rw [Hid, ← hx]; exact groupB_line h3
    have H3 : Hid (lineB q = false) := h3
    clear hx h3
    go_enter Try.func8, Try.ntmps8
    go_wp2_with fail
    refine (goodLine_is ao cap q _ false hl (hz.later hB0) H3.out).mono ?_
    rintro e w1 ⟨rfl, hb1⟩
    have hB1 := hB0.trans (hb1.mono hB0.size)
    go_wp2
    go_ret
    exact ⟨ret_bool HV.out.symm, hB1⟩
  have H3 : Hid (lineB q = true) := h3
  have HX : Hid ((decide (0 < cnt) || decide (q.length = 0)) = x) := by rw [Hid, ← hx]; exact (groupB_tail (by simp; omega) h3).symm
  clear hx h3
  go_enter Try.func8, Try.ntmps8
  go_wp2_with fail
  refine (goodLine_is ao cap q _ true hl (hz.later hB0) H3.out).mono ?_
  rintro e w1 ⟨rfl, hb1⟩
  have hB1 := hB0.trans (hb1.mono hB0.size)
  have X1 := X0.later hb1
  have x0 := X1.c 0 rfl
  have x1 := X1.c 1 rfl
  clear hb1 X0
  by_cases h4 : 0 < cnt
  · have h4' : decide (0 < cnt) = true := by simpa using h4
    have HV : Hid (x = true) := by rw [Hid, ← HX.out, h4']; rfl
    go_wp2
    go_ret
    exact ⟨ret_bool HV.out.symm, hB1⟩
  · have h4' : decide (0 < cnt) = false := by simpa using h4
    by_cases h5 : q.length = 0
    · obtain ⟨z1, _, _⟩ := len0 h5
      have HV : Hid (x = true) := by rw [Hid, ← HX.out, decide_eq_true (p := q.length = 0) h5]; simp
      clear h5
      go_wp2
      go_ret
      exact ⟨ret_bool HV.out.symm, hB1⟩
    · obtain ⟨z1, _⟩ := len1 h5
      have HV : Hid (x = false) := by rw [Hid, ← HX.out, decide_eq_false (p := q.length = 0) h5, h4']; rfl
      clear h5
      go_wp2
      go_ret
      exact ⟨ret_bool HV.out.symm, hB1⟩

set_option maxHeartbeats 2000000 in
theorem specGood_is (cnt : Int) (ao : Option Addr) (cap : Nat) (q : List Int) (w : World) (x : Bool) (hl : q.length ≤ 1048576) (hc : q.length ≤ cap) (hz : kI.In w.heap.size w ao q) (hx : groupB cnt q = x) :
    Calls Try.prog 24 #[.agg #[.int .i64 cnt, .slice ao q.length cap]] w fun e w' => e = .returned (.bool x) ∧ Below w.heap.size w w' := by
  have hB0 := below1 w (.cells #[.int .i64 cnt, .slice ao q.length cap] 25)
  cases h1 : (decide (0 ≤ cnt) && decide (cnt ≤ 1000000))
  · have HV : Hid (x = false) := by rw [Hid, ← hx]; exact groupB_cnt h1
    have H1 : Hid ((decide (0 ≤ cnt) && decide (cnt ≤ 1000000)) = false) := h1
    clear hx h1
    go_enter Try.func24, Try.ntmps24
    go_wp2_with fail
    refine (l1In_is cnt 0 1000000 _ false H1.out).mono ?_
    rintro e w1 ⟨rfl, rfl⟩
    go_wp2
    go_ret
    exact ⟨ret_bool HV.out.symm, hB0⟩
  have H1 : Hid ((decide (0 ≤ cnt) && decide (cnt ≤ 1000000)) = true) := h1
  cases h3 : lineB q
  · have HV : Hid (x = false) := by rw [Hid, ← hx]; exact groupB_line h3
    have H3 : Hid (lineB q = false) := h3
    clear hx h3 h1
    go_enter Try.func24, Try.ntmps24
    go_wp2_with fail
    refine (l1In_is cnt 0 1000000 _ true H1.out).mono ?_
    rintro e w1 ⟨rfl, rfl⟩
    go_wp2_with fail
    refine (l5Tasks_is _ ao cap q _ false hl hc (hz.later hB0) H3.out).mono ?_
    rintro e w1 ⟨rfl, rfl⟩
    go_wp2
    go_ret
    exact ⟨ret_bool HV.out.symm, hB0⟩
  have H3 : Hid (lineB q = true) := h3
  have HX : Hid ((decide (0 < cnt) || decide (q.length = 0)) = x) := by rw [Hid, ← hx]; exact (groupB_tail h1 h3).symm
  clear hx h3 h1
  go_enter Try.func24, Try.ntmps24
  go_wp2_with fail
  refine (l1In_is cnt 0 1000000 _ true H1.out).mono ?_
  rintro e w1 ⟨rfl, rfl⟩
  go_wp2_with fail
  refine (l5Tasks_is _ ao cap q _ true hl hc (hz.later hB0) H3.out).mono ?_
  rintro e w1 ⟨rfl, rfl⟩
  by_cases h4 : 0 < cnt
  · have h4' : decide (0 < cnt) = true := by simpa using h4
    have HV : Hid (x = true) := by rw [Hid, ← HX.out, h4']; rfl
    go_wp2
    go_ret
    exact ⟨ret_bool HV.out.symm, hB0⟩
  · have h4' : decide (0 < cnt) = false := by simpa using h4
    by_cases h5 : q.length = 0
    · obtain ⟨z1, _, _⟩ := len0 h5
      have HV : Hid (x = true) := by rw [Hid, ← HX.out, decide_eq_true (p := q.length = 0) h5]; simp
      clear h5
      go_wp2
      go_ret
      exact ⟨ret_bool HV.out.symm, below1 _ _⟩
    · obtain ⟨z1, _⟩ := len1 h5
      have HV : Hid (x = false) := by rw [Hid, ← HX.out, decide_eq_false (p := q.length = 0) h5, h4']; rfl
      clear h5
      go_wp2
      go_ret
      exact ⟨ret_bool HV.out.symm, hB0⟩
end
section
open Go.RowKit

set_option maxRecDepth 10000 in
set_option maxHeartbeats 4000000 in
theorem copyGroup_any (s1 : Int) (ao : Option Addr) (cap : Nat) (ts : List (Int)) (w : World) (hl : ts.length ≤ 1048576) (hz : kI.In w.heap.size w ao ts) :
    Calls Try.prog 22 #[.agg #[.int .i64 s1, .slice ao ts.length cap]] w fun e w' => (∃ go1, e = .returned (.agg #[.int .i64 s1, .slice go1 ts.length ts.length]) ∧ kI.Fresh w.heap.size w'.heap.size w' go1 ts.length ts) ∧ Below w.heap.size w w' := by
  obtain ⟨W2, hW2⟩ : ∃ W2, W2 = (w.alloc (.cells #[.int .i64 s1, .slice ao ts.length cap] 25)).alloc (.cells #[.int .i64 0, .slice none 0 0] 25) := ⟨_, rfl⟩
  have hB2 : Below w.heap.size w W2 := by rw [hW2]; exact below2 _ _ _
  have A2 : Bx W2 w.heap.size [.int .i64 s1, .slice ao ts.length cap] := by rw [hW2]; exact (Bx.new [.int .i64 s1, .slice ao ts.length cap] _ rfl).alloc _
  have R2 : Bx W2 (w.heap.size + 1) [.int .i64 0, .slice none 0 0] := by rw [hW2]; exact Bx.new [.int .i64 0, .slice none 0 0] _ (by simp)
  have HW : Hid (W2 = (w.alloc (.cells #[.int .i64 s1, .slice ao ts.length cap] 25)).alloc (.cells #[.int .i64 0, .slice none 0 0] 25)) := hW2
  have HS : Hid (W2.heap.size = w.heap.size + 1 + 1) := by rw [hW2]; simp [Hid]
  have hsl : w.heap.size < W2.heap.size := A2.size
  clear hW2
  have a0 := A2.c 0 rfl
  have a1 := A2.c 1 rfl
  go_enter Try.func22, Try.ntmps22
  go_wp2
  rw [← HW.out]
  go_region_held3 (fun Y => Y.cell? ⟨w.heap.size, 0, none⟩ = some (.int .i64 s1) ∧ Y.cell? ⟨w.heap.size, 1, none⟩ = some (.slice ao ts.length cap))
    (first | ((refine ⟨?_, ?_⟩ <;> (rw [World.cell?_setCell_other _ _ _ _ (by simp), World.cell?_setCell_other _ _ _ _ (by simp)])); exact P1.1; exact P1.2) | exact ⟨a0, a1⟩ | exact P1)
    (first
      | (go_at_call 23; refine (copyListI_any ao cap ts _ hl (by exact hz.later hB2.drew)).mono ?_; rintro e w1 ⟨⟨go1, rfl, hF1⟩, hb1⟩; have hB3 : Below w.heap.size w w1 := hB2.drew.trans (hb1.mono hB2.size); have A3 := A2.drew.later hb1; have R3 := R2.drew.later hb1; have P1 := (⟨A3.c 0 rfl, A3.c 1 rfl⟩ : w1.cell? ⟨w.heap.size, 0, none⟩ = some (.int .i64 s1) ∧ w1.cell? ⟨w.heap.size, 1, none⟩ = some (.slice ao ts.length cap)); have r0 := R3.c 0 rfl; have f0 := R3.f 0 rfl; have r1 := R3.c 1 rfl; have f1 := R3.f 1 rfl; have F3 : Hid (kI.Fresh W2.heap.size w1.heap.size w1 go1 ts.length ts) := hF1; clear hF1 hb1))
  all_goals
    go_wp2
    refine bodyPost_ret (v := .agg #[.int .i64 s1, .slice go1 ts.length ts.length]) (by simp [results, Try.results22, go_sem, r0, r1]) rfl ⟨⟨go1, rfl, ?_⟩, ?_⟩
    · have h0 := F3.out
      rw [HS.out] at h0
      exact ((h0.setBelow (a := ⟨w.heap.size + 1, 0, none⟩) (by simp) _).setBelow (a := ⟨w.heap.size + 1, 1, none⟩) (by simp) _).wide (by omega) (by simp)
    · exact ((hB3.setCell (p := ⟨w.heap.size + 1, 0, none⟩) (by simp) _).setCell (p := ⟨w.heap.size + 1, 1, none⟩) (by simp) _)
end
end Go.Proofs.Ytdgnolpimmdgjaa
