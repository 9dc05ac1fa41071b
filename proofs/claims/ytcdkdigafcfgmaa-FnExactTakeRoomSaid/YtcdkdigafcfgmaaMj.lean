/- TakeRoom: what it answers, and the program. No conditions but those written. -/
import Derived.Test.YtcdkdigafcfgmaaMi
namespace Go.Proofs.Ytcdkdigafcfgmaa
open Go.RowKit

theorem sub_perm : ∀ (l1 l2 : List Int), l1.Nodup → (∀ x, x ∈ l1 → x ∈ l2) → ∃ r, List.Perm l2 (l1 ++ r)
  | [], l2, _, _ => ⟨l2, List.Perm.refl _⟩
  | a :: t, l2, hn, hs => by
    have ha : a ∈ l2 := hs a (by simp)
    have hp := List.perm_cons_erase ha
    obtain ⟨hat, htn⟩ := List.nodup_cons.1 hn
    obtain ⟨r, hr⟩ := sub_perm t (l2.erase a) htn (fun x hx => by
      have hne : x ≠ a := fun e => hat (e ▸ hx)
      exact (List.mem_erase_of_ne hne).2 (hs x (by simp [hx])))
    exact ⟨r, hp.trans (List.Perm.cons a hr)⟩
/-- Where thirty wait, every task does. -/
theorem lineB_full {q : List Int} {t : Int} (h : lineB q = true) (hl : q.length = 30) (ht : taskB t = true) : hasB q t = true := by
  simp only [hasB, decide_eq_true_eq]
  refine Classical.byContradiction fun hn => ?_
  have hnd := lineB_nodup h
  have hall : ∀ x, x ∈ q → taskB x = true := by
    simp only [lineB, Bool.and_eq_true, List.all_eq_true] at h
    exact h.2.1
  have ht' : (t :: q).Nodup := List.nodup_cons.2 ⟨hn, hnd⟩
  obtain ⟨r, hr⟩ := sub_perm (t :: q) ((List.range 30).map fun (n : Nat) => (n : Int)) ht' (fun x hx => by
    have hx' : taskB x = true := by
      rcases List.mem_cons.1 hx with e | e
      · rw [e]; exact ht
      · exact hall x e
    simp only [taskB, Bool.and_eq_true, decide_eq_true_eq] at hx'
    exact List.mem_map.2 ⟨x.toNat, List.mem_range.2 (by omega), by omega⟩)
  have := hr.length_eq
  simp at this
  omega
/-- A room and a code. -/
abbrev RoomT := Int × Int × List (Int × Int) × Int
/-- What TakeRoom answers. -/
def takeR (s1 s2 : Int) (l : List (Int × Int)) (t m : Int) : RoomT :=
  if roomB s1 s2 l = true ∧ (taskB t = true ∧ (1 ≤ m ∧ m ≤ 1000000)) then
    if s1 < m then (s1, s2, l, 3) else if hasB (tasksOf l) t = true then (s1, s2, l, 4) else if l.length = 0 ∧ m ≤ s1 - s2 then (s1, s2 + m, l, 0) else (s1, s2, l ++ [(t, m)], 1)
  else (0, 0, [], 2)
section
variable {s1 s2 : Int} {l : List (Int × Int)} {t m : Int}
theorem takeR_bad (h : roomB s1 s2 l = false) : takeR s1 s2 l t m = (0, 0, [], 2) := by rw [takeR, if_neg]; rw [h]; simp
theorem takeR_task (h : taskB t = false) : takeR s1 s2 l t m = (0, 0, [], 2) := by rw [takeR, if_neg]; rw [h]; simp
theorem takeR_many (h : ¬ (1 ≤ m ∧ m ≤ 1000000)) : takeR s1 s2 l t m = (0, 0, [], 2) := by rw [takeR, if_neg]; exact fun x => h x.2.2
theorem takeR_below (h : roomB s1 s2 l = true) (h1 : taskB t = true) (h2 : 1 ≤ m ∧ m ≤ 1000000) (h3 : s1 < m) : takeR s1 s2 l t m = (s1, s2, l, 3) := by rw [takeR, if_pos ⟨h, h1, h2⟩, if_pos h3]
theorem takeR_busy (h : roomB s1 s2 l = true) (h1 : taskB t = true) (h2 : 1 ≤ m ∧ m ≤ 1000000) (h3 : ¬ s1 < m) (h4 : hasB (tasksOf l) t = true) : takeR s1 s2 l t m = (s1, s2, l, 4) := by rw [takeR, if_pos ⟨h, h1, h2⟩, if_neg h3, if_pos h4]
theorem takeR_done (h : roomB s1 s2 l = true) (h1 : taskB t = true) (h2 : 1 ≤ m ∧ m ≤ 1000000) (h3 : ¬ s1 < m) (h4 : hasB (tasksOf l) t = false) (h5 : l.length = 0) (h6 : m ≤ s1 - s2) : takeR s1 s2 l t m = (s1, s2 + m, l, 0) := by rw [takeR, if_pos ⟨h, h1, h2⟩, if_neg h3, if_neg (by rw [h4]; simp), if_pos ⟨h5, h6⟩]
theorem takeR_waits (h : roomB s1 s2 l = true) (h1 : taskB t = true) (h2 : 1 ≤ m ∧ m ≤ 1000000) (h3 : ¬ s1 < m) (h4 : hasB (tasksOf l) t = false) (h5 : ¬ (l.length = 0 ∧ m ≤ s1 - s2)) : takeR s1 s2 l t m = (s1, s2, l ++ [(t, m)], 1) := by rw [takeR, if_pos ⟨h, h1, h2⟩, if_neg h3, if_neg (by rw [h4]; simp), if_neg h5]
theorem takeR_len (hl : l.length ≤ 1048576) : (takeR s1 s2 l t m).2.2.1.length ≤ 1048576 := by
  cases hg : roomB s1 s2 l
  · rw [takeR_bad hg]; simp
  · have := roomB_len hg
    unfold takeR
    repeat' split
    all_goals simp
    all_goals omega
end
/-- In memory of its own. -/
def AnsT (w : World) (R : RoomT) (e : Ending) (w' : World) : Prop :=
  (∃ o c, e = .returned (.tuple #[.agg #[.int .i64 R.1, .int .i64 R.2.1, .slice o R.2.2.1.length c], .int .i64 R.2.2.2]) ∧ kN.Fresh w.heap.size w'.heap.size w' o c R.2.2.1) ∧ Below w.heap.size w w'

set_option maxRecDepth 10000 in
set_option maxHeartbeats 8000000 in
theorem implTake_any (s1 s2 : Int) (ao : Option Addr) (cap : Nat) (l : List (Int × Int)) (nt nm : Int) (w : World) (hl : l.length ≤ 1048576) (hz : kN.In w.heap.size w ao l) :
    Calls Try.prog 35 #[.agg #[.int .i64 s1, .int .i64 s2, .slice ao l.length cap], .agg #[.int .i64 nt, .int .i64 nm]] w fun e w' => AnsT w (takeR s1 s2 l nt nm) e w' := by
  obtain ⟨W2, hW2⟩ : ∃ W2, W2 = ((w.alloc (.cells #[.int .i64 s1, .int .i64 s2, .slice ao l.length cap] 46)).alloc (.cells #[.int .i64 nt, .int .i64 nm] 54)).alloc (.cells #[.int .i64 0, .int .i64 0, .slice none 0 0] 46) := ⟨_, rfl⟩
  have hB2 : Below w.heap.size w W2 := by rw [hW2]; exact below3 _ _ _ _
  have A2 : Bx W2 w.heap.size [.int .i64 s1, .int .i64 s2, .slice ao l.length cap] := by rw [hW2]; exact ((Bx.new [.int .i64 s1, .int .i64 s2, .slice ao l.length cap] _ rfl).alloc _).alloc _
  have N2 : Bx W2 (w.heap.size + 1) [.int .i64 nt, .int .i64 nm] := by rw [hW2]; exact (Bx.new [.int .i64 nt, .int .i64 nm] _ (by simp)).alloc _
  have R2 : Bx W2 (w.heap.size + 1 + 1) [.int .i64 0, .int .i64 0, .slice none 0 0] := by rw [hW2]; exact Bx.new [.int .i64 0, .int .i64 0, .slice none 0 0] _ (by simp)
  have HW := hid hW2
  have HS : Hid (W2.heap.size = w.heap.size + 1 + 1 + 1) := by rw [hW2]; simp [Hid]
  clear hW2
  cases hg : roomB s1 s2 l
  · have HG := hid hg
    have HR := hid (takeR_bad (t := nt) (m := nm) hg)
    clear hg
    go_enter Try.func35, Try.ntmps35
    go_wp2_with fail
    rw [← HW.out]
    refine (implGoodRoom_is s1 s2 ao cap l W2 false hl (hz.later hB2) HG.out).mono ?_
    rintro e w1 ⟨rfl, hb1⟩
    have hB1 := hB2.trans (hb1.mono hB2.size)
    have A1 := A2.later hb1
    have N1 := N2.later hb1
    have R1 := R2.later hb1
    have hs1 : w.heap.size + 1 + 1 + 1 ≤ w1.heap.size := by have := hb1.size; rw [HS.out] at this; exact this
    clear hb1 A2 N2 R2
    have n0 := N1.c 0 rfl
    have nf0 := N1.f 0 rfl
    have n1 := N1.c 1 rfl
    have nf1 := N1.f 1 rfl
    have r0 := R1.c 0 rfl
    have rf0 := R1.f 0 rfl
    have r1 := R1.c 1 rfl
    have rf1 := R1.f 1 rfl
    have r2 := R1.c 2 rfl
    have rf2 := R1.f 2 rfl
    go_wp2
    refine bodyPost_ret (v := .tuple #[.agg #[.int .i64 0, .int .i64 0, .slice none 0 0], .int .i64 2]) (by simp [results, Try.results35, go_sem, r0, r1, r2]) rfl ?_
    rw [HR.out]
    exact ⟨⟨none, 0, rfl, .inl rfl⟩, (((hB1.setCell (p := ⟨w.heap.size + 1 + 1, 0, none⟩) (by simp; omega) _).setCell (p := ⟨w.heap.size + 1 + 1, 1, none⟩) (by simp; omega) _).setCell (p := ⟨w.heap.size + 1 + 1, 2, none⟩) (by simp; omega) _)⟩
  have HG := hid hg
  obtain ⟨q1, q2, q3, q4⟩ := sizesB_ok (roomB_good hg).1
  cases hi : taskB nt
  · have HI := hid hi
    have HR := hid (takeR_task (s1 := s1) (s2 := s2) (l := l) (m := nm) hi)
    clear hg hi
    go_enter Try.func35, Try.ntmps35
    go_wp2_with fail
    rw [← HW.out]
    refine (implGoodRoom_is s1 s2 ao cap l W2 true hl (hz.later hB2) HG.out).mono ?_
    rintro e w1 ⟨rfl, hb1⟩
    have hB1 := hB2.trans (hb1.mono hB2.size)
    have A1 := A2.later hb1
    have N1 := N2.later hb1
    have R1 := R2.later hb1
    have hs1 : w.heap.size + 1 + 1 + 1 ≤ w1.heap.size := by have := hb1.size; rw [HS.out] at this; exact this
    clear hb1 A2 N2 R2
    have n0 := N1.c 0 rfl
    have nf0 := N1.f 0 rfl
    have n1 := N1.c 1 rfl
    have nf1 := N1.f 1 rfl
    go_wp2_with fail
    refine (isTask_is nt _ false HI.out).mono ?_
    rintro e w2 ⟨rfl, hw2⟩
    rw [hw2]
    clear hw2 w2
    have r0 := R1.c 0 rfl
    have rf0 := R1.f 0 rfl
    have r1 := R1.c 1 rfl
    have rf1 := R1.f 1 rfl
    have r2 := R1.c 2 rfl
    have rf2 := R1.f 2 rfl
    go_wp2
    refine bodyPost_ret (v := .tuple #[.agg #[.int .i64 0, .int .i64 0, .slice none 0 0], .int .i64 2]) (by simp [results, Try.results35, go_sem, r0, r1, r2]) rfl ?_
    rw [HR.out]
    exact ⟨⟨none, 0, rfl, .inl rfl⟩, (((hB1.setCell (p := ⟨w.heap.size + 1 + 1, 0, none⟩) (by simp; omega) _).setCell (p := ⟨w.heap.size + 1 + 1, 1, none⟩) (by simp; omega) _).setCell (p := ⟨w.heap.size + 1 + 1, 2, none⟩) (by simp; omega) _)⟩
  have HI := hid hi
  by_cases hc1 : nm < 1
  · have HR := hid (takeR_many (s1 := s1) (s2 := s2) (l := l) (t := nt) (show ¬ (1 ≤ nm ∧ nm ≤ 1000000) from by omega))
    have hc1' : decide (nm < 1) = true := by simpa using hc1
    clear hg hi
    go_enter Try.func35, Try.ntmps35
    go_wp2_with fail
    rw [← HW.out]
    refine (implGoodRoom_is s1 s2 ao cap l W2 true hl (hz.later hB2) HG.out).mono ?_
    rintro e w1 ⟨rfl, hb1⟩
    have hB1 := hB2.trans (hb1.mono hB2.size)
    have A1 := A2.later hb1
    have N1 := N2.later hb1
    have R1 := R2.later hb1
    have hs1 : w.heap.size + 1 + 1 + 1 ≤ w1.heap.size := by have := hb1.size; rw [HS.out] at this; exact this
    clear hb1 A2 N2 R2
    have n0 := N1.c 0 rfl
    have nf0 := N1.f 0 rfl
    have n1 := N1.c 1 rfl
    have nf1 := N1.f 1 rfl
    go_wp2_with fail
    refine (isTask_is nt _ true HI.out).mono ?_
    rintro e w2 ⟨rfl, hw2⟩
    rw [hw2]
    clear hw2 w2
    have r0 := R1.c 0 rfl
    have rf0 := R1.f 0 rfl
    have r1 := R1.c 1 rfl
    have rf1 := R1.f 1 rfl
    have r2 := R1.c 2 rfl
    have rf2 := R1.f 2 rfl
    go_wp2
    refine bodyPost_ret (v := .tuple #[.agg #[.int .i64 0, .int .i64 0, .slice none 0 0], .int .i64 2]) (by simp [results, Try.results35, go_sem, r0, r1, r2]) rfl ?_
    rw [HR.out]
    exact ⟨⟨none, 0, rfl, .inl rfl⟩, (((hB1.setCell (p := ⟨w.heap.size + 1 + 1, 0, none⟩) (by simp; omega) _).setCell (p := ⟨w.heap.size + 1 + 1, 1, none⟩) (by simp; omega) _).setCell (p := ⟨w.heap.size + 1 + 1, 2, none⟩) (by simp; omega) _)⟩
  have hc1' : decide (nm < 1) = false := by simpa using hc1
  by_cases hc2 : 1000000 < nm
  · have HR := hid (takeR_many (s1 := s1) (s2 := s2) (l := l) (t := nt) (show ¬ (1 ≤ nm ∧ nm ≤ 1000000) from by omega))
    have hc2' : decide (1000000 < nm) = true := by simpa using hc2
    clear hg hi
    go_enter Try.func35, Try.ntmps35
    go_wp2_with fail
    rw [← HW.out]
    refine (implGoodRoom_is s1 s2 ao cap l W2 true hl (hz.later hB2) HG.out).mono ?_
    rintro e w1 ⟨rfl, hb1⟩
    have hB1 := hB2.trans (hb1.mono hB2.size)
    have A1 := A2.later hb1
    have N1 := N2.later hb1
    have R1 := R2.later hb1
    have hs1 : w.heap.size + 1 + 1 + 1 ≤ w1.heap.size := by have := hb1.size; rw [HS.out] at this; exact this
    clear hb1 A2 N2 R2
    have n0 := N1.c 0 rfl
    have nf0 := N1.f 0 rfl
    have n1 := N1.c 1 rfl
    have nf1 := N1.f 1 rfl
    go_wp2_with fail
    refine (isTask_is nt _ true HI.out).mono ?_
    rintro e w2 ⟨rfl, hw2⟩
    rw [hw2]
    clear hw2 w2
    have r0 := R1.c 0 rfl
    have rf0 := R1.f 0 rfl
    have r1 := R1.c 1 rfl
    have rf1 := R1.f 1 rfl
    have r2 := R1.c 2 rfl
    have rf2 := R1.f 2 rfl
    go_wp2
    refine bodyPost_ret (v := .tuple #[.agg #[.int .i64 0, .int .i64 0, .slice none 0 0], .int .i64 2]) (by simp [results, Try.results35, go_sem, r0, r1, r2]) rfl ?_
    rw [HR.out]
    exact ⟨⟨none, 0, rfl, .inl rfl⟩, (((hB1.setCell (p := ⟨w.heap.size + 1 + 1, 0, none⟩) (by simp; omega) _).setCell (p := ⟨w.heap.size + 1 + 1, 1, none⟩) (by simp; omega) _).setCell (p := ⟨w.heap.size + 1 + 1, 2, none⟩) (by simp; omega) _)⟩
  have hc2' : decide (1000000 < nm) = false := by simpa using hc2
  have hin : 1 ≤ nm ∧ nm ≤ 1000000 := ⟨by omega, by omega⟩
  by_cases hc3 : s1 < nm
  · have HR := hid (takeR_below hg hi hin hc3)
    have hc3' : decide (s1 < nm) = true := by simpa using hc3
    clear hg hi
    go_enter Try.func35, Try.ntmps35
    go_wp2_with fail
    rw [← HW.out]
    refine (implGoodRoom_is s1 s2 ao cap l W2 true hl (hz.later hB2) HG.out).mono ?_
    rintro e w1 ⟨rfl, hb1⟩
    have hB1 := hB2.trans (hb1.mono hB2.size)
    have A1 := A2.later hb1
    have N1 := N2.later hb1
    have R1 := R2.later hb1
    have hs1 : w.heap.size + 1 + 1 + 1 ≤ w1.heap.size := by have := hb1.size; rw [HS.out] at this; exact this
    clear hb1 A2 N2 R2
    have n0 := N1.c 0 rfl
    have nf0 := N1.f 0 rfl
    have n1 := N1.c 1 rfl
    have nf1 := N1.f 1 rfl
    go_wp2_with fail
    refine (isTask_is nt _ true HI.out).mono ?_
    rintro e w2 ⟨rfl, hw2⟩
    rw [hw2]
    clear hw2 w2
    have a0 := A1.c 0 rfl
    have af0 := A1.f 0 rfl
    have a1 := A1.c 1 rfl
    have af1 := A1.f 1 rfl
    have a2 := A1.c 2 rfl
    have af2 := A1.f 2 rfl
    go_wp2_with fail
    refine (copyRoom_any s1 s2 ao cap l w1 hl (hz.later hB1)).mono ?_
    rintro e w2 ⟨⟨go1, rfl, hF⟩, hb⟩
    have R3 := R1.later hb
    have hB3 := hB1.trans (hb.mono hB1.size)
    have HF : Hid (kN.Fresh (w.heap.size + 1 + 1 + 1) w2.heap.size w2 go1 l.length l) := hF.wide hs1 (Nat.le_refl _)
    clear hb hF
    have r0 := R3.c 0 rfl
    have rf0 := R3.f 0 rfl
    have r1 := R3.c 1 rfl
    have rf1 := R3.f 1 rfl
    have r2 := R3.c 2 rfl
    have rf2 := R3.f 2 rfl
    go_wp2
    refine bodyPost_ret (v := .tuple #[.agg #[.int .i64 s1, .int .i64 s2, .slice go1 l.length l.length], .int .i64 3]) (by simp [results, Try.results35, go_sem, r0, r1, r2]) rfl ?_
    rw [HR.out]
    exact ⟨⟨go1, l.length, rfl, (((HF.out.setBelow (a := ⟨w.heap.size + 1 + 1, 0, none⟩) (by simp) _).setBelow (a := ⟨w.heap.size + 1 + 1, 1, none⟩) (by simp) _).setBelow (a := ⟨w.heap.size + 1 + 1, 2, none⟩) (by simp) _).wide (by omega) (by simp)⟩, (((hB3.setCell (p := ⟨w.heap.size + 1 + 1, 0, none⟩) (by simp; omega) _).setCell (p := ⟨w.heap.size + 1 + 1, 1, none⟩) (by simp; omega) _).setCell (p := ⟨w.heap.size + 1 + 1, 2, none⟩) (by simp; omega) _)⟩
  have hc3' : decide (s1 < nm) = false := by simpa using hc3
  cases hm : hasB (tasksOf l) nt
  case true =>
    have HR := hid (takeR_busy hg hi hin hc3 hm)
    have HM := hid hm
    clear hg hi hm
    go_enter Try.func35, Try.ntmps35
    go_wp2_with fail
    rw [← HW.out]
    refine (implGoodRoom_is s1 s2 ao cap l W2 true hl (hz.later hB2) HG.out).mono ?_
    rintro e w1 ⟨rfl, hb1⟩
    have hB1 := hB2.trans (hb1.mono hB2.size)
    have A1 := A2.later hb1
    have N1 := N2.later hb1
    have R1 := R2.later hb1
    have hs1 : w.heap.size + 1 + 1 + 1 ≤ w1.heap.size := by have := hb1.size; rw [HS.out] at this; exact this
    clear hb1 A2 N2 R2
    have n0 := N1.c 0 rfl
    have nf0 := N1.f 0 rfl
    have n1 := N1.c 1 rfl
    have nf1 := N1.f 1 rfl
    go_wp2_with fail
    refine (isTask_is nt _ true HI.out).mono ?_
    rintro e w2 ⟨rfl, hw2⟩
    rw [hw2]
    clear hw2 w2
    have a0 := A1.c 0 rfl
    have af0 := A1.f 0 rfl
    have a1 := A1.c 1 rfl
    have af1 := A1.f 1 rfl
    have a2 := A1.c 2 rfl
    have af2 := A1.f 2 rfl
    go_wp2
    go_region_held3 (fun Y => Y.cell? ⟨w.heap.size, 2, none⟩ = some (.slice ao l.length cap) ∧ Y.cell? ⟨w.heap.size + 1, 0, none⟩ = some (.int .i64 nt))
      (first | (with_reducible exact ⟨a2, n0⟩) | (with_reducible exact P1) | exact ⟨a2, n0⟩)
      (first
        | (go_at_call 70; refine (tasksIn_any ao cap l _ hl (by exact hz.later hB1.drew)).mono ?_; rintro e wq ⟨⟨v, rfl, hO⟩, hbq⟩; obtain ⟨qo, qc, rfl, _, hI⟩ := hO.in; have hBq : Below w.heap.size w wq := hB1.drew.trans (hbq.mono hB1.size); have Aq := A1.drew.later hbq; have Nq := N1.drew.later hbq; have Rq := R1.drew.later hbq; have hsq : w.heap.size + 1 + 1 + 1 ≤ wq.heap.size := Nat.le_trans hs1 hbq.size; have P1 := (⟨Aq.c 2 rfl, Nq.c 0 rfl⟩ : wq.cell? ⟨w.heap.size, 2, none⟩ = some (.slice ao l.length cap) ∧ wq.cell? ⟨w.heap.size + 1, 0, none⟩ = some (.int .i64 nt)); have HIq := hid hI; clear hO hI hbq)
        | (go_at_call 65; refine (contains_is _ qo qc (tasksOf l) nt _ true (by rw [tasksOf_len]; exact hl) HIq.out HM.out).mono ?_; rintro e w2 ⟨rfl, hw2⟩; rw [hw2]; clear hw2 w2))
    clear a0 a1 a2 n0 n1 af0 af1 af2 nf0 nf1
    have a0 := Aq.c 0 rfl
    have af0 := Aq.f 0 rfl
    have a1 := Aq.c 1 rfl
    have af1 := Aq.f 1 rfl
    have a2 := Aq.c 2 rfl
    have af2 := Aq.f 2 rfl
    go_wp2_with fail
    refine (copyRoom_any s1 s2 ao cap l wq hl (hz.later hBq)).mono ?_
    rintro e w2 ⟨⟨go1, rfl, hF⟩, hb⟩
    have R3 := Rq.later hb
    have hB3 := hBq.trans (hb.mono hBq.size)
    have HF : Hid (kN.Fresh (w.heap.size + 1 + 1 + 1) w2.heap.size w2 go1 l.length l) := hF.wide hsq (Nat.le_refl _)
    clear hb hF
    have r0 := R3.c 0 rfl
    have rf0 := R3.f 0 rfl
    have r1 := R3.c 1 rfl
    have rf1 := R3.f 1 rfl
    have r2 := R3.c 2 rfl
    have rf2 := R3.f 2 rfl
    go_wp2
    refine bodyPost_ret (v := .tuple #[.agg #[.int .i64 s1, .int .i64 s2, .slice go1 l.length l.length], .int .i64 4]) (by simp [results, Try.results35, go_sem, r0, r1, r2]) rfl ?_
    rw [HR.out]
    exact ⟨⟨go1, l.length, rfl, (((HF.out.setBelow (a := ⟨w.heap.size + 1 + 1, 0, none⟩) (by simp) _).setBelow (a := ⟨w.heap.size + 1 + 1, 1, none⟩) (by simp) _).setBelow (a := ⟨w.heap.size + 1 + 1, 2, none⟩) (by simp) _).wide (by omega) (by simp)⟩, (((hB3.setCell (p := ⟨w.heap.size + 1 + 1, 0, none⟩) (by simp; omega) _).setCell (p := ⟨w.heap.size + 1 + 1, 1, none⟩) (by simp; omega) _).setCell (p := ⟨w.heap.size + 1 + 1, 2, none⟩) (by simp; omega) _)⟩
  have HM := hid hm
  by_cases h0 : l.length = 0
  · have z1 := (len0 h0).1
    by_cases hf : nm ≤ s1 - s2
    · have hf' : decide (nm ≤ s1 - s2) = true := by simpa using hf
      have HR := hid (takeR_done hg hi hin hc3 hm h0 hf)
      clear hg hi hm h0
      go_enter Try.func35, Try.ntmps35
      go_wp2_with fail
      rw [← HW.out]
      refine (implGoodRoom_is s1 s2 ao cap l W2 true hl (hz.later hB2) HG.out).mono ?_
      rintro e w1 ⟨rfl, hb1⟩
      have hB1 := hB2.trans (hb1.mono hB2.size)
      have A1 := A2.later hb1
      have N1 := N2.later hb1
      have R1 := R2.later hb1
      have hs1 : w.heap.size + 1 + 1 + 1 ≤ w1.heap.size := by have := hb1.size; rw [HS.out] at this; exact this
      clear hb1 A2 N2 R2
      have n0 := N1.c 0 rfl
      have nf0 := N1.f 0 rfl
      have n1 := N1.c 1 rfl
      have nf1 := N1.f 1 rfl
      go_wp2_with fail
      refine (isTask_is nt _ true HI.out).mono ?_
      rintro e w2 ⟨rfl, hw2⟩
      rw [hw2]
      clear hw2 w2
      have a0 := A1.c 0 rfl
      have af0 := A1.f 0 rfl
      have a1 := A1.c 1 rfl
      have af1 := A1.f 1 rfl
      have a2 := A1.c 2 rfl
      have af2 := A1.f 2 rfl
      go_wp2
      go_region_held3 (fun Y => Y.cell? ⟨w.heap.size, 2, none⟩ = some (.slice ao l.length cap) ∧ Y.cell? ⟨w.heap.size + 1, 0, none⟩ = some (.int .i64 nt))
        (first | (with_reducible exact ⟨a2, n0⟩) | (with_reducible exact P1) | exact ⟨a2, n0⟩)
        (first
          | (go_at_call 70; refine (tasksIn_any ao cap l _ hl (by exact hz.later hB1.drew)).mono ?_; rintro e wq ⟨⟨v, rfl, hO⟩, hbq⟩; obtain ⟨qo, qc, rfl, _, hI⟩ := hO.in; have hBq : Below w.heap.size w wq := hB1.drew.trans (hbq.mono hB1.size); have Aq := A1.drew.later hbq; have Nq := N1.drew.later hbq; have Rq := R1.drew.later hbq; have hsq : w.heap.size + 1 + 1 + 1 ≤ wq.heap.size := Nat.le_trans hs1 hbq.size; have P1 := (⟨Aq.c 2 rfl, Nq.c 0 rfl⟩ : wq.cell? ⟨w.heap.size, 2, none⟩ = some (.slice ao l.length cap) ∧ wq.cell? ⟨w.heap.size + 1, 0, none⟩ = some (.int .i64 nt)); have HIq := hid hI; clear hO hI hbq)
          | (go_at_call 65; refine (contains_is _ qo qc (tasksOf l) nt _ false (by rw [tasksOf_len]; exact hl) HIq.out HM.out).mono ?_; rintro e w2 ⟨rfl, hw2⟩; rw [hw2]; clear hw2 w2))
      clear a0 a1 a2 n0 n1 af0 af1 af2 nf0 nf1
      have a0 := Aq.c 0 rfl
      have af0 := Aq.f 0 rfl
      have a1 := Aq.c 1 rfl
      have af1 := Aq.f 1 rfl
      have a2 := Aq.c 2 rfl
      have af2 := Aq.f 2 rfl
      go_wp2_with fail
      refine (copyRoom_any s1 s2 ao cap l wq hl (hz.later hBq)).mono ?_
      rintro e w2 ⟨⟨go1, rfl, hF⟩, hb⟩
      have hn2 := below1 w2 (.cells #[.int .i64 s1, .int .i64 s2, .slice go1 l.length l.length] 46)
      have X2 : Bx (w2.alloc (.cells #[.int .i64 s1, .int .i64 s2, .slice go1 l.length l.length] 46)) w2.heap.size [.int .i64 s1, .int .i64 s2, .slice go1 l.length l.length] := Bx.new _ _ rfl
      have A3 := (Aq.later hb).later hn2
      have N3 := (Nq.later hb).later hn2
      have R3 := (Rq.later hb).later hn2
      have hB3 := Below.allocS (hBq.trans (hb.mono hBq.size)) (.cells #[.int .i64 s1, .int .i64 s2, .slice go1 l.length l.length] 46)
      have hs3 : w.heap.size + 1 + 1 + 1 ≤ w2.heap.size := Nat.le_trans hsq hb.size
      have HF : Hid (kN.Fresh (w.heap.size + 1 + 1 + 1) w2.heap.size (w2.alloc (.cells #[.int .i64 s1, .int .i64 s2, .slice go1 l.length l.length] 46)) go1 l.length l) := (hF.later hn2).wide hsq (Nat.le_refl _)
      clear hb hF hn2 a0 a1 a2 af0 af1 af2
      have a0 := A3.c 0 rfl
      have a1 := A3.c 1 rfl
      have a2 := A3.c 2 rfl
      have n0 := N3.c 0 rfl
      have n1 := N3.c 1 rfl
      go_wp2
      go_region_held3 (fun Y => Y.cell? ⟨w.heap.size, 0, none⟩ = some (.int .i64 s1) ∧ Y.cell? ⟨w.heap.size, 1, none⟩ = some (.int .i64 s2) ∧ Y.cell? ⟨w.heap.size, 2, none⟩ = some (.slice ao l.length cap) ∧ Y.cell? ⟨w.heap.size + 1, 1, none⟩ = some (.int .i64 nm))
        (first | (with_reducible exact ⟨a0, a1, a2, n1⟩) | (with_reducible exact P4) | exact ⟨a0, a1, a2, n1⟩)
        (first
          | (go_at_call 76; refine (freeIn_any s1 s2 ao l.length cap _ ⟨by omega, by omega⟩ ⟨by omega, by omega⟩).mono ?_; rintro e w4 ⟨rfl, hb4⟩; have A4 := A3.drew.later hb4; have N4 := N3.drew.later hb4; have R4 := R3.drew.later hb4; have X4 := X2.drew.later hb4; have hB4 : Below w.heap.size w w4 := hB3.drew.trans (hb4.mono (by exact hB3.size)); have hs4 : w2.heap.size + 1 ≤ w4.heap.size := (by have := hb4.size; simpa using this); have HF4 := hid ((HF.out.later (Below.refl _ _).drew).later hb4); have P4 := (⟨A4.c 0 rfl, A4.c 1 rfl, A4.c 2 rfl, N4.c 1 rfl⟩ : w4.cell? ⟨w.heap.size, 0, none⟩ = some (.int .i64 s1) ∧ w4.cell? ⟨w.heap.size, 1, none⟩ = some (.int .i64 s2) ∧ w4.cell? ⟨w.heap.size, 2, none⟩ = some (.slice ao l.length cap) ∧ w4.cell? ⟨w.heap.size + 1, 1, none⟩ = some (.int .i64 nm)); clear hb4)
          | fail)
      clear a0 a1 a2 n0 n1
      have n0 := N4.c 0 rfl
      have n1 := N4.c 1 rfl
      have x0 := X4.c 0 rfl
      have xf0 := X4.f 0 rfl
      have x1 := X4.c 1 rfl
      have xf1 := X4.f 1 rfl
      have x2 := X4.c 2 rfl
      have xf2 := X4.f 2 rfl
      obtain ⟨V, hV⟩ : ∃ V, V = (w4.setCell ⟨w2.heap.size, 1, none⟩ (.int .i64 (s2 + nm))) := ⟨_, rfl⟩
      have X5 : Bx V w2.heap.size [.int .i64 s1, .int .i64 (s2 + nm), .slice go1 l.length l.length] := by rw [hV]; exact X4.set 1 _
      have R5 : Bx V (w.heap.size + 1 + 1) [.int .i64 0, .int .i64 0, .slice none 0 0] := by rw [hV]; exact R4.other (by simp; omega) _
      have HF5 : Hid (kN.Fresh (w.heap.size + 1 + 1 + 1) V.heap.size V go1 l.length l) := by rw [hV]; exact (HF4.out.setAbove (a := ⟨w2.heap.size, 1, none⟩) (by simp) _).wide (Nat.le_refl _) (by simp; omega)
      have hB5 : Below w.heap.size w V := by rw [hV]; exact hB4.setCell (p := ⟨w2.heap.size, 1, none⟩) (by simp; omega) _
      have y0 : (w4.setCell ⟨w2.heap.size, 1, none⟩ (.int .i64 (s2 + nm))).cell? ⟨w2.heap.size, 0, none⟩ = some (.int .i64 s1) := by rw [← hV]; exact X5.c 0 rfl
      have y1 : (w4.setCell ⟨w2.heap.size, 1, none⟩ (.int .i64 (s2 + nm))).cell? ⟨w2.heap.size, 1, none⟩ = some (.int .i64 (s2 + nm)) := by rw [← hV]; exact X5.c 1 rfl
      have y2 : (w4.setCell ⟨w2.heap.size, 1, none⟩ (.int .i64 (s2 + nm))).cell? ⟨w2.heap.size, 2, none⟩ = some (.slice go1 l.length l.length) := by rw [← hV]; exact X5.c 2 rfl
      have z0 : (w4.setCell ⟨w2.heap.size, 1, none⟩ (.int .i64 (s2 + nm))).cell? ⟨w.heap.size + 1 + 1, 0, none⟩ = some (.int .i64 0) := by rw [← hV]; exact R5.c 0 rfl
      have zf0 : (w4.setCell ⟨w2.heap.size, 1, none⟩ (.int .i64 (s2 + nm))).frozen? ⟨w.heap.size + 1 + 1, 0, none⟩ = false := by rw [← hV]; exact R5.f 0 rfl
      have z1 : (w4.setCell ⟨w2.heap.size, 1, none⟩ (.int .i64 (s2 + nm))).cell? ⟨w.heap.size + 1 + 1, 1, none⟩ = some (.int .i64 0) := by rw [← hV]; exact R5.c 1 rfl
      have zf1 : (w4.setCell ⟨w2.heap.size, 1, none⟩ (.int .i64 (s2 + nm))).frozen? ⟨w.heap.size + 1 + 1, 1, none⟩ = false := by rw [← hV]; exact R5.f 1 rfl
      have z2 : (w4.setCell ⟨w2.heap.size, 1, none⟩ (.int .i64 (s2 + nm))).cell? ⟨w.heap.size + 1 + 1, 2, none⟩ = some (.slice none 0 0) := by rw [← hV]; exact R5.c 2 rfl
      have zf2 : (w4.setCell ⟨w2.heap.size, 1, none⟩ (.int .i64 (s2 + nm))).frozen? ⟨w.heap.size + 1 + 1, 2, none⟩ = false := by rw [← hV]; exact R5.f 2 rfl
      have HV := hid hV
      clear hV
      go_wp2
      rw [← HV.out]
      clear y0 y1 y2 z0 z1 z2 zf0 zf1 zf2
      have r0 := R5.c 0 rfl
      have rf0 := R5.f 0 rfl
      have r1 := R5.c 1 rfl
      have rf1 := R5.f 1 rfl
      have r2 := R5.c 2 rfl
      have rf2 := R5.f 2 rfl
      refine bodyPost_ret (v := .tuple #[.agg #[.int .i64 s1, .int .i64 (s2 + nm), .slice go1 l.length l.length], .int .i64 0]) (by simp [results, Try.results35, go_sem, r0, r1, r2]) rfl ?_
      rw [HR.out]
      exact ⟨⟨go1, l.length, rfl, (((HF5.out.setBelow (a := ⟨w.heap.size + 1 + 1, 0, none⟩) (by simp) _).setBelow (a := ⟨w.heap.size + 1 + 1, 1, none⟩) (by simp) _).setBelow (a := ⟨w.heap.size + 1 + 1, 2, none⟩) (by simp) _).wide (by omega) (by simp)⟩, (((hB5.setCell (p := ⟨w.heap.size + 1 + 1, 0, none⟩) (by simp; omega) _).setCell (p := ⟨w.heap.size + 1 + 1, 1, none⟩) (by simp; omega) _).setCell (p := ⟨w.heap.size + 1 + 1, 2, none⟩) (by simp; omega) _)⟩
    have hf' : decide (nm ≤ s1 - s2) = false := by simpa using hf
    have hfl : ∀ (a : Option Addr) (n c : Nat) (W : World), (Instr.field 95 (.agg #[.slice a n c]) 0).run Try.prog W = .ok (.slice a n c) W := run_field95
    have HR := hid (takeR_waits hg hi hin hc3 hm (fun x => hf x.2))
    clear hg hi hm hf h0
    go_enter Try.func35, Try.ntmps35
    go_wp2_with fail
    rw [← HW.out]
    refine (implGoodRoom_is s1 s2 ao cap l W2 true hl (hz.later hB2) HG.out).mono ?_
    rintro e w1 ⟨rfl, hb1⟩
    have hB1 := hB2.trans (hb1.mono hB2.size)
    have A1 := A2.later hb1
    have N1 := N2.later hb1
    have R1 := R2.later hb1
    have hs1 : w.heap.size + 1 + 1 + 1 ≤ w1.heap.size := by have := hb1.size; rw [HS.out] at this; exact this
    clear hb1 A2 N2 R2
    have n0 := N1.c 0 rfl
    have nf0 := N1.f 0 rfl
    have n1 := N1.c 1 rfl
    have nf1 := N1.f 1 rfl
    go_wp2_with fail
    refine (isTask_is nt _ true HI.out).mono ?_
    rintro e w2 ⟨rfl, hw2⟩
    rw [hw2]
    clear hw2 w2
    have a0 := A1.c 0 rfl
    have af0 := A1.f 0 rfl
    have a1 := A1.c 1 rfl
    have af1 := A1.f 1 rfl
    have a2 := A1.c 2 rfl
    have af2 := A1.f 2 rfl
    go_wp2
    go_region_held3 (fun Y => Y.cell? ⟨w.heap.size, 2, none⟩ = some (.slice ao l.length cap) ∧ Y.cell? ⟨w.heap.size + 1, 0, none⟩ = some (.int .i64 nt))
      (first | (with_reducible exact ⟨a2, n0⟩) | (with_reducible exact P1) | exact ⟨a2, n0⟩)
      (first
        | (go_at_call 70; refine (tasksIn_any ao cap l _ hl (by exact hz.later hB1.drew)).mono ?_; rintro e wq ⟨⟨v, rfl, hO⟩, hbq⟩; obtain ⟨qo, qc, rfl, _, hI⟩ := hO.in; have hBq : Below w.heap.size w wq := hB1.drew.trans (hbq.mono hB1.size); have Aq := A1.drew.later hbq; have Nq := N1.drew.later hbq; have Rq := R1.drew.later hbq; have hsq : w.heap.size + 1 + 1 + 1 ≤ wq.heap.size := Nat.le_trans hs1 hbq.size; have P1 := (⟨Aq.c 2 rfl, Nq.c 0 rfl⟩ : wq.cell? ⟨w.heap.size, 2, none⟩ = some (.slice ao l.length cap) ∧ wq.cell? ⟨w.heap.size + 1, 0, none⟩ = some (.int .i64 nt)); have HIq := hid hI; clear hO hI hbq)
        | (go_at_call 65; refine (contains_is _ qo qc (tasksOf l) nt _ false (by rw [tasksOf_len]; exact hl) HIq.out HM.out).mono ?_; rintro e w2 ⟨rfl, hw2⟩; rw [hw2]; clear hw2 w2))
    clear a0 a1 a2 n0 n1 af0 af1 af2 nf0 nf1
    have a0 := Aq.c 0 rfl
    have af0 := Aq.f 0 rfl
    have a1 := Aq.c 1 rfl
    have af1 := Aq.f 1 rfl
    have a2 := Aq.c 2 rfl
    have af2 := Aq.f 2 rfl
    go_wp2_with fail
    refine (copyRoom_any s1 s2 ao cap l wq hl (hz.later hBq)).mono ?_
    rintro e w2 ⟨⟨go1, rfl, hF⟩, hb⟩
    have hn2 := below1 w2 (.cells #[.int .i64 s1, .int .i64 s2, .slice go1 l.length l.length] 46)
    have X2 : Bx (w2.alloc (.cells #[.int .i64 s1, .int .i64 s2, .slice go1 l.length l.length] 46)) w2.heap.size [.int .i64 s1, .int .i64 s2, .slice go1 l.length l.length] := Bx.new _ _ rfl
    have A3 := (Aq.later hb).later hn2
    have N3 := (Nq.later hb).later hn2
    have R3 := (Rq.later hb).later hn2
    have hB3 := Below.allocS (hBq.trans (hb.mono hBq.size)) (.cells #[.int .i64 s1, .int .i64 s2, .slice go1 l.length l.length] 46)
    have hs3 : w.heap.size + 1 + 1 + 1 ≤ w2.heap.size := Nat.le_trans hsq hb.size
    have HF : Hid (kN.Fresh (w.heap.size + 1 + 1 + 1) w2.heap.size (w2.alloc (.cells #[.int .i64 s1, .int .i64 s2, .slice go1 l.length l.length] 46)) go1 l.length l) := (hF.later hn2).wide hsq (Nat.le_refl _)
    clear hb hF hn2 a0 a1 a2 af0 af1 af2
    have a0 := A3.c 0 rfl
    have a1 := A3.c 1 rfl
    have a2 := A3.c 2 rfl
    have n0 := N3.c 0 rfl
    have n1 := N3.c 1 rfl
    go_wp2
    go_region_held3 (fun Y => Y.cell? ⟨w.heap.size, 0, none⟩ = some (.int .i64 s1) ∧ Y.cell? ⟨w.heap.size, 1, none⟩ = some (.int .i64 s2) ∧ Y.cell? ⟨w.heap.size, 2, none⟩ = some (.slice ao l.length cap) ∧ Y.cell? ⟨w.heap.size + 1, 1, none⟩ = some (.int .i64 nm))
      (first | (with_reducible exact ⟨a0, a1, a2, n1⟩) | (with_reducible exact P4) | exact ⟨a0, a1, a2, n1⟩)
      (first
        | (go_at_call 76; refine (freeIn_any s1 s2 ao l.length cap _ ⟨by omega, by omega⟩ ⟨by omega, by omega⟩).mono ?_; rintro e w4 ⟨rfl, hb4⟩; have A4 := A3.drew.later hb4; have N4 := N3.drew.later hb4; have R4 := R3.drew.later hb4; have X4 := X2.drew.later hb4; have hB4 : Below w.heap.size w w4 := hB3.drew.trans (hb4.mono (by exact hB3.size)); have hs4 : w2.heap.size + 1 ≤ w4.heap.size := (by have := hb4.size; simpa using this); have HF4 := hid ((HF.out.later (Below.refl _ _).drew).later hb4); have P4 := (⟨A4.c 0 rfl, A4.c 1 rfl, A4.c 2 rfl, N4.c 1 rfl⟩ : w4.cell? ⟨w.heap.size, 0, none⟩ = some (.int .i64 s1) ∧ w4.cell? ⟨w.heap.size, 1, none⟩ = some (.int .i64 s2) ∧ w4.cell? ⟨w.heap.size, 2, none⟩ = some (.slice ao l.length cap) ∧ w4.cell? ⟨w.heap.size + 1, 1, none⟩ = some (.int .i64 nm)); clear hb4)
        | fail)
    clear a0 a1 a2 n0 n1
    have a0 := A4.c 0 rfl
    have a1 := A4.c 1 rfl
    have a2 := A4.c 2 rfl
    have n0 := N4.c 0 rfl
    have n1 := N4.c 1 rfl
    go_wp2
    go_region_held3 (fun Y => Y.cell? ⟨w.heap.size, 2, none⟩ = some (.slice ao l.length cap) ∧ Y.cell? ⟨w.heap.size + 1, 0, none⟩ = some (.int .i64 nt) ∧ Y.cell? ⟨w.heap.size + 1, 1, none⟩ = some (.int .i64 nm))
      (first | (with_reducible exact ⟨a2, n0, n1⟩) | (with_reducible exact P5) | (with_reducible exact P6) | (with_reducible exact P7) | exact ⟨a2, n0, n1⟩)
      (first
        | (go_at_call 77; refine (queueOfN_any ao cap l _ hl (by exact hz.later hB4.drew)).mono ?_; rintro e w5 ⟨⟨go2, rfl, hF5⟩, hb5⟩; have A5 := A4.drew.later hb5; have N5 := N4.drew.later hb5; have R5 := R4.drew.later hb5; have X5 := X4.drew.later hb5; have hB5 : Below w.heap.size w w5 := hB4.drew.trans (hb5.mono (by exact hB4.size)); have hs5 : w4.heap.size ≤ w5.heap.size := hb5.size; have HQ := hid hF5.in; have P5 := (⟨A5.c 2 rfl, N5.c 0 rfl, N5.c 1 rfl⟩ : w5.cell? ⟨w.heap.size, 2, none⟩ = some (.slice ao l.length cap) ∧ w5.cell? ⟨w.heap.size + 1, 0, none⟩ = some (.int .i64 nt) ∧ w5.cell? ⟨w.heap.size + 1, 1, none⟩ = some (.int .i64 nm)); clear hb5 hF5)
        | (go_at_call 78; refine (withN_any go2 l.length l nt nm w5 hl (by exact HQ.out)).mono ?_; rintro e w6 ⟨⟨go3, rfl, hF6⟩, hb6⟩; have A6 := A5.later hb6; have N6 := N5.later hb6; have R6 := R5.later hb6; have X6 := X5.later hb6; have hB6 : Below w.heap.size w w6 := hB5.trans (hb6.mono hB5.size); have hs6 : w5.heap.size ≤ w6.heap.size := hb6.size; have HF6 := hid hF6; have P6 := (⟨A6.c 2 rfl, N6.c 0 rfl, N6.c 1 rfl⟩ : w6.cell? ⟨w.heap.size, 2, none⟩ = some (.slice ao l.length cap) ∧ w6.cell? ⟨w.heap.size + 1, 0, none⟩ = some (.int .i64 nt) ∧ w6.cell? ⟨w.heap.size + 1, 1, none⟩ = some (.int .i64 nm)); have x2 := X6.c 2 rfl; have xf2 := X6.f 2 rfl; have P7 := (⟨(A6.other (a := ⟨w2.heap.size, 2, none⟩) (by simp; omega) (.slice go3 (l.length + 1) (l.length + 1))).c 2 rfl, (N6.other (a := ⟨w2.heap.size, 2, none⟩) (by simp; omega) (.slice go3 (l.length + 1) (l.length + 1))).c 0 rfl, (N6.other (a := ⟨w2.heap.size, 2, none⟩) (by simp; omega) (.slice go3 (l.length + 1) (l.length + 1))).c 1 rfl⟩ : (w6.setCell ⟨w2.heap.size, 2, none⟩ (.slice go3 (l.length + 1) (l.length + 1))).cell? ⟨w.heap.size, 2, none⟩ = some (.slice ao l.length cap) ∧ (w6.setCell ⟨w2.heap.size, 2, none⟩ (.slice go3 (l.length + 1) (l.length + 1))).cell? ⟨w.heap.size + 1, 0, none⟩ = some (.int .i64 nt) ∧ (w6.setCell ⟨w2.heap.size, 2, none⟩ (.slice go3 (l.length + 1) (l.length + 1))).cell? ⟨w.heap.size + 1, 1, none⟩ = some (.int .i64 nm)); have y0 := ((X6.set 2 (.slice go3 (l.length + 1) (l.length + 1))).c 0 rfl : (w6.setCell ⟨w2.heap.size, 2, none⟩ (.slice go3 (l.length + 1) (l.length + 1))).cell? ⟨w2.heap.size, 0, none⟩ = some (.int .i64 s1)); have y1 := ((X6.set 2 (.slice go3 (l.length + 1) (l.length + 1))).c 1 rfl : (w6.setCell ⟨w2.heap.size, 2, none⟩ (.slice go3 (l.length + 1) (l.length + 1))).cell? ⟨w2.heap.size, 1, none⟩ = some (.int .i64 s2)); have y2 := ((X6.set 2 (.slice go3 (l.length + 1) (l.length + 1))).c 2 rfl : (w6.setCell ⟨w2.heap.size, 2, none⟩ (.slice go3 (l.length + 1) (l.length + 1))).cell? ⟨w2.heap.size, 2, none⟩ = some (.slice go3 (l.length + 1) (l.length + 1))); have z0 := ((R6.other (a := ⟨w2.heap.size, 2, none⟩) (by simp; omega) (.slice go3 (l.length + 1) (l.length + 1))).c 0 rfl : (w6.setCell ⟨w2.heap.size, 2, none⟩ (.slice go3 (l.length + 1) (l.length + 1))).cell? ⟨w.heap.size + 1 + 1, 0, none⟩ = some (.int .i64 0)); have zf0 := ((R6.other (a := ⟨w2.heap.size, 2, none⟩) (by simp; omega) (.slice go3 (l.length + 1) (l.length + 1))).f 0 rfl : (w6.setCell ⟨w2.heap.size, 2, none⟩ (.slice go3 (l.length + 1) (l.length + 1))).frozen? ⟨w.heap.size + 1 + 1, 0, none⟩ = false); have z1 := ((R6.other (a := ⟨w2.heap.size, 2, none⟩) (by simp; omega) (.slice go3 (l.length + 1) (l.length + 1))).c 1 rfl : (w6.setCell ⟨w2.heap.size, 2, none⟩ (.slice go3 (l.length + 1) (l.length + 1))).cell? ⟨w.heap.size + 1 + 1, 1, none⟩ = some (.int .i64 0)); have zf1 := ((R6.other (a := ⟨w2.heap.size, 2, none⟩) (by simp; omega) (.slice go3 (l.length + 1) (l.length + 1))).f 1 rfl : (w6.setCell ⟨w2.heap.size, 2, none⟩ (.slice go3 (l.length + 1) (l.length + 1))).frozen? ⟨w.heap.size + 1 + 1, 1, none⟩ = false); have z2 := ((R6.other (a := ⟨w2.heap.size, 2, none⟩) (by simp; omega) (.slice go3 (l.length + 1) (l.length + 1))).c 2 rfl : (w6.setCell ⟨w2.heap.size, 2, none⟩ (.slice go3 (l.length + 1) (l.length + 1))).cell? ⟨w.heap.size + 1 + 1, 2, none⟩ = some (.slice none 0 0)); have zf2 := ((R6.other (a := ⟨w2.heap.size, 2, none⟩) (by simp; omega) (.slice go3 (l.length + 1) (l.length + 1))).f 2 rfl : (w6.setCell ⟨w2.heap.size, 2, none⟩ (.slice go3 (l.length + 1) (l.length + 1))).frozen? ⟨w.heap.size + 1 + 1, 2, none⟩ = false); clear hb6 hF6))
    all_goals
      go_wp2
      obtain ⟨V, hV⟩ : ∃ V, V = (w6.setCell ⟨w2.heap.size, 2, none⟩ (.slice go3 (l.length + 1) (l.length + 1))) := ⟨_, rfl⟩
      have R7 : Bx V (w.heap.size + 1 + 1) [.int .i64 0, .int .i64 0, .slice none 0 0] := by rw [hV]; exact R6.other (by simp; omega) _
      have HF7 : Hid (kN.Fresh (w.heap.size + 1 + 1 + 1) V.heap.size V go3 (l.length + 1) (l ++ [(nt, nm)])) := by rw [hV]; exact (HF6.out.setBelow (a := ⟨w2.heap.size, 2, none⟩) (by simp; omega) _).wide (by omega) (by simp)
      have hB7 : Below w.heap.size w V := by rw [hV]; exact hB6.setCell (p := ⟨w2.heap.size, 2, none⟩) (by simp; omega) _
      rw [← hV]
      clear y0 y1 y2 z0 z1 z2 zf0 zf1 zf2 hV
      have r0 := R7.c 0 rfl
      have rf0 := R7.f 0 rfl
      have r1 := R7.c 1 rfl
      have rf1 := R7.f 1 rfl
      have r2 := R7.c 2 rfl
      have rf2 := R7.f 2 rfl
      refine bodyPost_ret (v := .tuple #[.agg #[.int .i64 s1, .int .i64 s2, .slice go3 (l.length + 1) (l.length + 1)], .int .i64 1]) (by simp [results, Try.results35, go_sem, r0, r1, r2]) rfl ?_
      rw [HR.out]
      exact ⟨⟨go3, l.length + 1, by simp, (((HF7.out.setBelow (a := ⟨w.heap.size + 1 + 1, 0, none⟩) (by simp) _).setBelow (a := ⟨w.heap.size + 1 + 1, 1, none⟩) (by simp) _).setBelow (a := ⟨w.heap.size + 1 + 1, 2, none⟩) (by simp) _).wide (by omega) (by simp)⟩, (((hB7.setCell (p := ⟨w.heap.size + 1 + 1, 0, none⟩) (by simp; omega) _).setCell (p := ⟨w.heap.size + 1 + 1, 1, none⟩) (by simp; omega) _).setCell (p := ⟨w.heap.size + 1 + 1, 2, none⟩) (by simp; omega) _)⟩
  have z1 := (len1 h0).1
  have hfl : ∀ (a : Option Addr) (n c : Nat) (W : World), (Instr.field 95 (.agg #[.slice a n c]) 0).run Try.prog W = .ok (.slice a n c) W := run_field95
  have HR := hid (takeR_waits hg hi hin hc3 hm (fun x => h0 x.1))
  clear hg hi hm h0
  go_enter Try.func35, Try.ntmps35
  go_wp2_with fail
  rw [← HW.out]
  refine (implGoodRoom_is s1 s2 ao cap l W2 true hl (hz.later hB2) HG.out).mono ?_
  rintro e w1 ⟨rfl, hb1⟩
  have hB1 := hB2.trans (hb1.mono hB2.size)
  have A1 := A2.later hb1
  have N1 := N2.later hb1
  have R1 := R2.later hb1
  have hs1 : w.heap.size + 1 + 1 + 1 ≤ w1.heap.size := by have := hb1.size; rw [HS.out] at this; exact this
  clear hb1 A2 N2 R2
  have n0 := N1.c 0 rfl
  have nf0 := N1.f 0 rfl
  have n1 := N1.c 1 rfl
  have nf1 := N1.f 1 rfl
  go_wp2_with fail
  refine (isTask_is nt _ true HI.out).mono ?_
  rintro e w2 ⟨rfl, hw2⟩
  rw [hw2]
  clear hw2 w2
  have a0 := A1.c 0 rfl
  have af0 := A1.f 0 rfl
  have a1 := A1.c 1 rfl
  have af1 := A1.f 1 rfl
  have a2 := A1.c 2 rfl
  have af2 := A1.f 2 rfl
  go_wp2
  go_region_held3 (fun Y => Y.cell? ⟨w.heap.size, 2, none⟩ = some (.slice ao l.length cap) ∧ Y.cell? ⟨w.heap.size + 1, 0, none⟩ = some (.int .i64 nt))
    (first | (with_reducible exact ⟨a2, n0⟩) | (with_reducible exact P1) | exact ⟨a2, n0⟩)
    (first
      | (go_at_call 70; refine (tasksIn_any ao cap l _ hl (by exact hz.later hB1.drew)).mono ?_; rintro e wq ⟨⟨v, rfl, hO⟩, hbq⟩; obtain ⟨qo, qc, rfl, _, hI⟩ := hO.in; have hBq : Below w.heap.size w wq := hB1.drew.trans (hbq.mono hB1.size); have Aq := A1.drew.later hbq; have Nq := N1.drew.later hbq; have Rq := R1.drew.later hbq; have hsq : w.heap.size + 1 + 1 + 1 ≤ wq.heap.size := Nat.le_trans hs1 hbq.size; have P1 := (⟨Aq.c 2 rfl, Nq.c 0 rfl⟩ : wq.cell? ⟨w.heap.size, 2, none⟩ = some (.slice ao l.length cap) ∧ wq.cell? ⟨w.heap.size + 1, 0, none⟩ = some (.int .i64 nt)); have HIq := hid hI; clear hO hI hbq)
      | (go_at_call 65; refine (contains_is _ qo qc (tasksOf l) nt _ false (by rw [tasksOf_len]; exact hl) HIq.out HM.out).mono ?_; rintro e w2 ⟨rfl, hw2⟩; rw [hw2]; clear hw2 w2))
  clear a0 a1 a2 n0 n1 af0 af1 af2 nf0 nf1
  have a0 := Aq.c 0 rfl
  have af0 := Aq.f 0 rfl
  have a1 := Aq.c 1 rfl
  have af1 := Aq.f 1 rfl
  have a2 := Aq.c 2 rfl
  have af2 := Aq.f 2 rfl
  go_wp2_with fail
  refine (copyRoom_any s1 s2 ao cap l wq hl (hz.later hBq)).mono ?_
  rintro e w2 ⟨⟨go1, rfl, hF⟩, hb⟩
  have hn2 := below1 w2 (.cells #[.int .i64 s1, .int .i64 s2, .slice go1 l.length l.length] 46)
  have X2 : Bx (w2.alloc (.cells #[.int .i64 s1, .int .i64 s2, .slice go1 l.length l.length] 46)) w2.heap.size [.int .i64 s1, .int .i64 s2, .slice go1 l.length l.length] := Bx.new _ _ rfl
  have A3 := (Aq.later hb).later hn2
  have N3 := (Nq.later hb).later hn2
  have R3 := (Rq.later hb).later hn2
  have hB3 := Below.allocS (hBq.trans (hb.mono hBq.size)) (.cells #[.int .i64 s1, .int .i64 s2, .slice go1 l.length l.length] 46)
  have hs3 : w.heap.size + 1 + 1 + 1 ≤ w2.heap.size := Nat.le_trans hsq hb.size
  have HF : Hid (kN.Fresh (w.heap.size + 1 + 1 + 1) w2.heap.size (w2.alloc (.cells #[.int .i64 s1, .int .i64 s2, .slice go1 l.length l.length] 46)) go1 l.length l) := (hF.later hn2).wide hsq (Nat.le_refl _)
  clear hb hF hn2 a0 a1 a2 af0 af1 af2
  have a0 := A3.c 0 rfl
  have a1 := A3.c 1 rfl
  have a2 := A3.c 2 rfl
  have n0 := N3.c 0 rfl
  have n1 := N3.c 1 rfl
  go_wp2
  go_quiet (fail)
  generalize hw4 : (w2.alloc (.cells #[.int .i64 s1, .int .i64 s2, .slice go1 l.length l.length] 46)).drewN _ = w4
  have hb4 : Below (w2.alloc (.cells #[.int .i64 s1, .int .i64 s2, .slice go1 l.length l.length] 46)).heap.size (w2.alloc (.cells #[.int .i64 s1, .int .i64 s2, .slice go1 l.length l.length] 46)) w4 := by rw [← hw4]; exact below_draws (Below.refl _ _) _
  have hB4 := hB3.trans (hb4.mono hB3.size)
  have A4 := A3.later hb4
  have N4 := N3.later hb4
  have R4 := R3.later hb4
  have X4 := X2.later hb4
  have hs4 : w2.heap.size + 1 ≤ w4.heap.size := by have := hb4.size; simpa using this
  clear hw4 hb4 a0 a1 a2 n0 n1
  have a0 := A4.c 0 rfl
  have a1 := A4.c 1 rfl
  have a2 := A4.c 2 rfl
  have n0 := N4.c 0 rfl
  have n1 := N4.c 1 rfl
  go_wp2
  go_region_held3 (fun Y => Y.cell? ⟨w.heap.size, 2, none⟩ = some (.slice ao l.length cap) ∧ Y.cell? ⟨w.heap.size + 1, 0, none⟩ = some (.int .i64 nt) ∧ Y.cell? ⟨w.heap.size + 1, 1, none⟩ = some (.int .i64 nm))
    (first | (with_reducible exact ⟨a2, n0, n1⟩) | (with_reducible exact P5) | (with_reducible exact P6) | (with_reducible exact P7) | exact ⟨a2, n0, n1⟩)
    (first
      | (go_at_call 77; refine (queueOfN_any ao cap l _ hl (by exact hz.later hB4.drew)).mono ?_; rintro e w5 ⟨⟨go2, rfl, hF5⟩, hb5⟩; have A5 := A4.drew.later hb5; have N5 := N4.drew.later hb5; have R5 := R4.drew.later hb5; have X5 := X4.drew.later hb5; have hB5 : Below w.heap.size w w5 := hB4.drew.trans (hb5.mono (by exact hB4.size)); have hs5 : w4.heap.size ≤ w5.heap.size := hb5.size; have HQ := hid hF5.in; have P5 := (⟨A5.c 2 rfl, N5.c 0 rfl, N5.c 1 rfl⟩ : w5.cell? ⟨w.heap.size, 2, none⟩ = some (.slice ao l.length cap) ∧ w5.cell? ⟨w.heap.size + 1, 0, none⟩ = some (.int .i64 nt) ∧ w5.cell? ⟨w.heap.size + 1, 1, none⟩ = some (.int .i64 nm)); clear hb5 hF5)
      | (go_at_call 78; refine (withN_any go2 l.length l nt nm w5 hl (by exact HQ.out)).mono ?_; rintro e w6 ⟨⟨go3, rfl, hF6⟩, hb6⟩; have A6 := A5.later hb6; have N6 := N5.later hb6; have R6 := R5.later hb6; have X6 := X5.later hb6; have hB6 : Below w.heap.size w w6 := hB5.trans (hb6.mono hB5.size); have hs6 : w5.heap.size ≤ w6.heap.size := hb6.size; have HF6 := hid hF6; have P6 := (⟨A6.c 2 rfl, N6.c 0 rfl, N6.c 1 rfl⟩ : w6.cell? ⟨w.heap.size, 2, none⟩ = some (.slice ao l.length cap) ∧ w6.cell? ⟨w.heap.size + 1, 0, none⟩ = some (.int .i64 nt) ∧ w6.cell? ⟨w.heap.size + 1, 1, none⟩ = some (.int .i64 nm)); have x2 := X6.c 2 rfl; have xf2 := X6.f 2 rfl; have P7 := (⟨(A6.other (a := ⟨w2.heap.size, 2, none⟩) (by simp; omega) (.slice go3 (l.length + 1) (l.length + 1))).c 2 rfl, (N6.other (a := ⟨w2.heap.size, 2, none⟩) (by simp; omega) (.slice go3 (l.length + 1) (l.length + 1))).c 0 rfl, (N6.other (a := ⟨w2.heap.size, 2, none⟩) (by simp; omega) (.slice go3 (l.length + 1) (l.length + 1))).c 1 rfl⟩ : (w6.setCell ⟨w2.heap.size, 2, none⟩ (.slice go3 (l.length + 1) (l.length + 1))).cell? ⟨w.heap.size, 2, none⟩ = some (.slice ao l.length cap) ∧ (w6.setCell ⟨w2.heap.size, 2, none⟩ (.slice go3 (l.length + 1) (l.length + 1))).cell? ⟨w.heap.size + 1, 0, none⟩ = some (.int .i64 nt) ∧ (w6.setCell ⟨w2.heap.size, 2, none⟩ (.slice go3 (l.length + 1) (l.length + 1))).cell? ⟨w.heap.size + 1, 1, none⟩ = some (.int .i64 nm)); have y0 := ((X6.set 2 (.slice go3 (l.length + 1) (l.length + 1))).c 0 rfl : (w6.setCell ⟨w2.heap.size, 2, none⟩ (.slice go3 (l.length + 1) (l.length + 1))).cell? ⟨w2.heap.size, 0, none⟩ = some (.int .i64 s1)); have y1 := ((X6.set 2 (.slice go3 (l.length + 1) (l.length + 1))).c 1 rfl : (w6.setCell ⟨w2.heap.size, 2, none⟩ (.slice go3 (l.length + 1) (l.length + 1))).cell? ⟨w2.heap.size, 1, none⟩ = some (.int .i64 s2)); have y2 := ((X6.set 2 (.slice go3 (l.length + 1) (l.length + 1))).c 2 rfl : (w6.setCell ⟨w2.heap.size, 2, none⟩ (.slice go3 (l.length + 1) (l.length + 1))).cell? ⟨w2.heap.size, 2, none⟩ = some (.slice go3 (l.length + 1) (l.length + 1))); have z0 := ((R6.other (a := ⟨w2.heap.size, 2, none⟩) (by simp; omega) (.slice go3 (l.length + 1) (l.length + 1))).c 0 rfl : (w6.setCell ⟨w2.heap.size, 2, none⟩ (.slice go3 (l.length + 1) (l.length + 1))).cell? ⟨w.heap.size + 1 + 1, 0, none⟩ = some (.int .i64 0)); have zf0 := ((R6.other (a := ⟨w2.heap.size, 2, none⟩) (by simp; omega) (.slice go3 (l.length + 1) (l.length + 1))).f 0 rfl : (w6.setCell ⟨w2.heap.size, 2, none⟩ (.slice go3 (l.length + 1) (l.length + 1))).frozen? ⟨w.heap.size + 1 + 1, 0, none⟩ = false); have z1 := ((R6.other (a := ⟨w2.heap.size, 2, none⟩) (by simp; omega) (.slice go3 (l.length + 1) (l.length + 1))).c 1 rfl : (w6.setCell ⟨w2.heap.size, 2, none⟩ (.slice go3 (l.length + 1) (l.length + 1))).cell? ⟨w.heap.size + 1 + 1, 1, none⟩ = some (.int .i64 0)); have zf1 := ((R6.other (a := ⟨w2.heap.size, 2, none⟩) (by simp; omega) (.slice go3 (l.length + 1) (l.length + 1))).f 1 rfl : (w6.setCell ⟨w2.heap.size, 2, none⟩ (.slice go3 (l.length + 1) (l.length + 1))).frozen? ⟨w.heap.size + 1 + 1, 1, none⟩ = false); have z2 := ((R6.other (a := ⟨w2.heap.size, 2, none⟩) (by simp; omega) (.slice go3 (l.length + 1) (l.length + 1))).c 2 rfl : (w6.setCell ⟨w2.heap.size, 2, none⟩ (.slice go3 (l.length + 1) (l.length + 1))).cell? ⟨w.heap.size + 1 + 1, 2, none⟩ = some (.slice none 0 0)); have zf2 := ((R6.other (a := ⟨w2.heap.size, 2, none⟩) (by simp; omega) (.slice go3 (l.length + 1) (l.length + 1))).f 2 rfl : (w6.setCell ⟨w2.heap.size, 2, none⟩ (.slice go3 (l.length + 1) (l.length + 1))).frozen? ⟨w.heap.size + 1 + 1, 2, none⟩ = false); clear hb6 hF6))
  all_goals
    go_wp2
    obtain ⟨V, hV⟩ : ∃ V, V = (w6.setCell ⟨w2.heap.size, 2, none⟩ (.slice go3 (l.length + 1) (l.length + 1))) := ⟨_, rfl⟩
    have R7 : Bx V (w.heap.size + 1 + 1) [.int .i64 0, .int .i64 0, .slice none 0 0] := by rw [hV]; exact R6.other (by simp; omega) _
    have HF7 : Hid (kN.Fresh (w.heap.size + 1 + 1 + 1) V.heap.size V go3 (l.length + 1) (l ++ [(nt, nm)])) := by rw [hV]; exact (HF6.out.setBelow (a := ⟨w2.heap.size, 2, none⟩) (by simp; omega) _).wide (by omega) (by simp)
    have hB7 : Below w.heap.size w V := by rw [hV]; exact hB6.setCell (p := ⟨w2.heap.size, 2, none⟩) (by simp; omega) _
    rw [← hV]
    clear y0 y1 y2 z0 z1 z2 zf0 zf1 zf2 hV
    have r0 := R7.c 0 rfl
    have rf0 := R7.f 0 rfl
    have r1 := R7.c 1 rfl
    have rf1 := R7.f 1 rfl
    have r2 := R7.c 2 rfl
    have rf2 := R7.f 2 rfl
    refine bodyPost_ret (v := .tuple #[.agg #[.int .i64 s1, .int .i64 s2, .slice go3 (l.length + 1) (l.length + 1)], .int .i64 1]) (by simp [results, Try.results35, go_sem, r0, r1, r2]) rfl ?_
    rw [HR.out]
    exact ⟨⟨go3, l.length + 1, by simp, (((HF7.out.setBelow (a := ⟨w.heap.size + 1 + 1, 0, none⟩) (by simp) _).setBelow (a := ⟨w.heap.size + 1 + 1, 1, none⟩) (by simp) _).setBelow (a := ⟨w.heap.size + 1 + 1, 2, none⟩) (by simp) _).wide (by omega) (by simp)⟩, (((hB7.setCell (p := ⟨w.heap.size + 1 + 1, 0, none⟩) (by simp; omega) _).setCell (p := ⟨w.heap.size + 1 + 1, 1, none⟩) (by simp; omega) _).setCell (p := ⟨w.heap.size + 1 + 1, 2, none⟩) (by simp; omega) _)⟩
end Go.Proofs.Ytcdkdigafcfgmaa
