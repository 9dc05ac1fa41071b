/- TakeRoom: what it answers, and the program. No conditions but those written. TakeRoom: the specification, its row its own. No conditions but those written. -/
import Derived.Test.YtdgnolpimmdgjaaPMhMi
import Derived.Test.YtdgnolpimmdgjaaPGfXa
namespace Go.Proofs.Ytdgnolpimmdgjaa
section
open Go.RowKit

theorem sub_perm : ∀ (l1 l2 : List Int), l1.Nodup → (∀ x, x ∈ l1 → x ∈ l2) → ∃ r, List.Perm l2 (l1 ++ r)
  | [], l2, _, _ => ⟨l2, List.Perm.refl _⟩
  | a :: t, l2, hn, hs => by
    have ha : a ∈ l2 := hs a (by simp)
    have hp := List.perm_cons_erase ha
    obtain ⟨hat, htn⟩ := List.nodup_cons.1 hn
    obtain ⟨r, hr⟩ := sub_perm t (l2.erase a) htn (fun x hx => by
      have hne : x ≠ a := fun e => hat (e ▸ hx)
      exact (List.mem_erase_of_ne hne).2 (hs x (by simp [hx])))
    exact ⟨r, hp.trans (List.Perm.cons a hr)⟩
/-- Where thirty wait, every task does. -/
theorem lineB_full {q : List Int} {t : Int} (h : lineB q = true) (hl : q.length = 30) (ht : taskB t = true) : hasB q t = true := by
  simp only [hasB, decide_eq_true_eq]
  refine Classical.byContradiction fun hn => ?_
  have hnd := lineB_nodup h
  have hall : ∀ x, x ∈ q → taskB x = true := by
    simp only [lineB, Bool.and_eq_true, List.all_eq_true] at h
    exact h.2.1
  have ht' : (t :: q).Nodup := List.nodup_cons.2 ⟨hn, hnd⟩
  obtain ⟨r, hr⟩ := sub_perm (t :: q) ((List.range 30).map fun (n : Nat) => (n : Int)) ht' (fun x hx => by
    have hx' : taskB x = true := by
      rcases List.mem_cons.1 hx with e | e
      · rw [e]; exact ht
      · exact hall x e
    simp only [taskB, Bool.and_eq_true, decide_eq_true_eq] at hx'
    exact List.mem_map.2 ⟨x.toNat, List.mem_range.2 (by omega), by omega⟩)
  have := hr.length_eq
  simp at this
  omega
/-- A room and a code. -/
abbrev RoomT := Int × Int × List (Int × Int) × Int
/-- What TakeRoom answers. -/
def takeR (s1 s2 : Int) (l : List (Int × Int)) (t m : Int) : RoomT :=
  if roomB s1 s2 l = true ∧ (taskB t = true ∧ (1 ≤ m ∧ m ≤ 1000000)) then
    if s1 < m then (s1, s2, l, 3) else if hasB (tasksOf l) t = true then (s1, s2, l, 4) else if l.length = 0 ∧ m ≤ s1 - s2 then (s1, s2 + m, l, 0) else (s1, s2, l ++ [(t, m)], 1)
  else (0, 0, [], 2)
section
variable {s1 s2 : Int} {l : List (Int × Int)} {t m : Int}
theorem takeR_bad (h : roomB s1 s2 l = false) : takeR s1 s2 l t m = (0, 0, [], 2) := by rw [takeR, if_neg]; rw [h]; simp
theorem takeR_task (h : taskB t = false) : takeR s1 s2 l t m = (0, 0, [], 2) := by rw [takeR, if_neg]; rw [h]; simp
theorem takeR_many (h : ¬ (1 ≤ m ∧ m ≤ 1000000)) : takeR s1 s2 l t m = (0, 0, [], 2) := by rw [takeR, if_neg]; exact fun x => h x.2.2
theorem takeR_below (h : roomB s1 s2 l = true) (h1 : taskB t = true) (h2 : 1 ≤ m ∧ m ≤ 1000000) (h3 : s1 < m) : takeR s1 s2 l t m = (s1, s2, l, 3) := by rw [takeR, if_pos ⟨h, h1, h2⟩, if_pos h3]
theorem takeR_busy (h : roomB s1 s2 l = true) (h1 : taskB t = true) (h2 : 1 ≤ m ∧ m ≤ 1000000) (h3 : ¬ s1 < m) (h4 : hasB (tasksOf l) t = true) : takeR s1 s2 l t m = (s1, s2, l, 4) := by rw [takeR, if_pos ⟨h, h1, h2⟩, if_neg h3, if_pos h4]
theorem takeR_done (h : roomB s1 s2 l = true) (h1 : taskB t = true) (h2 : 1 ≤ m ∧ m ≤ 1000000) (h3 : ¬ s1 < m) (h4 : hasB (tasksOf l) t = false) (h5 : l.length = 0) (h6 : m ≤ s1 - s2) : takeR s1 s2 l t m = (s1, s2 + m, l, 0) := by rw [takeR, if_pos ⟨h, h1, h2⟩, if_neg h3, if_neg (by rw [h4]; simp), if_pos ⟨h5, h6⟩]
theorem takeR_waits (h : roomB s1 s2 l = true) (h1 : taskB t = true) (h2 : 1 ≤ m ∧ m ≤ 1000000) (h3 : ¬ s1 < m) (h4 : hasB (tasksOf l) t = false) (h5 : ¬ (l.length = 0 ∧ m ≤ s1 - s2)) : takeR s1 s2 l t m = (s1, s2, l ++ [(t, m)], 1) := by rw [takeR, if_pos ⟨h, h1, h2⟩, if_neg h3, if_neg (by rw [h4]; simp), if_neg h5]
theorem takeR_len (hl : l.length ≤ 1048576) : (takeR s1 s2 l t m).2.2.1.length ≤ 1048576 := by
  cases hg : roomB s1 s2 l
  · rw [takeR_bad hg]; simp
  · have := roomB_len hg
    unfold takeR
    repeat' split
    all_goals simp
    all_goals omega
end
/-- In memory of its own. -/
def AnsT (w : World) (R : RoomT) (e : Ending) (w' : World) : Prop :=
  (∃ o c, e = .returned (.tuple #[.agg #[.int .i64 R.1, .int .i64 R.2.1, .slice o R.2.2.1.length c], .int .i64 R.2.2.2]) ∧ kN.Fresh w.heap.size w'.heap.size w' o c R.2.2.1) ∧ Below w.heap.size w w'
end
section
open Go.RowKit

/-- A room and a code, its row its own. -/
def AnsTo (w : World) (R : RoomT) (e : Ending) (w' : World) : Prop :=
  (∃ o c, e = .returned (.tuple #[.agg #[.int .i64 R.1, .int .i64 R.2.1, .slice o R.2.2.1.length c], .int .i64 R.2.2.2]) ∧ kN.FrO w.heap.size w'.heap.size w' o c R.2.2.1) ∧ Below w.heap.size w w'
set_option maxRecDepth 10000 in
set_option maxHeartbeats 8000000 in
theorem specTake_own (s1 s2 : Int) (ao : Option Addr) (cap : Nat) (l : List (Int × Int)) (nt nm : Int) (w : World) (hl : l.length ≤ 1048576) (hno : ao = none → cap = 0) (hz : kN.In w.heap.size w ao l) :
    Calls Try.prog 51 #[.agg #[.int .i64 s1, .int .i64 s2, .slice ao l.length cap], .agg #[.int .i64 nt, .int .i64 nm]] w fun e w' => AnsTo w (takeR s1 s2 l nt nm) e w' := by
  obtain ⟨W2, hW2⟩ : ∃ W2, W2 = ((w.alloc (.cells #[.int .i64 s1, .int .i64 s2, .slice ao l.length cap] 34)).alloc (.cells #[.int .i64 nt, .int .i64 nm] 68)).alloc (.cells #[.int .i64 0, .int .i64 0, .slice none 0 0] 34) := ⟨_, rfl⟩
  have hB2 : Below w.heap.size w W2 := by rw [hW2]; exact below3 _ _ _ _
  have A2 : Bx W2 w.heap.size [.int .i64 s1, .int .i64 s2, .slice ao l.length cap] := by rw [hW2]; exact ((Bx.new [.int .i64 s1, .int .i64 s2, .slice ao l.length cap] _ rfl).alloc _).alloc _
  have N2 : Bx W2 (w.heap.size + 1) [.int .i64 nt, .int .i64 nm] := by rw [hW2]; exact (Bx.new [.int .i64 nt, .int .i64 nm] _ (by simp)).alloc _
  have R2 : Bx W2 (w.heap.size + 1 + 1) [.int .i64 0, .int .i64 0, .slice none 0 0] := by rw [hW2]; exact Bx.new [.int .i64 0, .int .i64 0, .slice none 0 0] _ (by simp)
  have HW := hid hW2
  have HS : Hid (W2.heap.size = w.heap.size + 1 + 1 + 1) := by rw [hW2]; simp [Hid]
  clear hW2
  cases hg : roomB s1 s2 l
  · have HG := hid hg
    have HR := hid (takeR_bad (t := nt) (m := nm) hg)
    clear hg
    go_enter Try.func51, Try.ntmps51
    go_wp2_with fail
    rw [← HW.out]
    refine (specGoodRoom_is s1 s2 ao cap l W2 false hl (hz.later hB2) HG.out).mono ?_
    rintro e w1 ⟨rfl, hb1⟩
    have hB1 := hB2.trans (hb1.mono hB2.size)
    have A1 := A2.later hb1
    have N1 := N2.later hb1
    have R1 := R2.later hb1
    have hs1 : w.heap.size + 1 + 1 + 1 ≤ w1.heap.size := by have := hb1.size; rw [HS.out] at this; exact this
    clear hb1 A2 N2 R2
    have n0 := N1.c 0 rfl
    have nf0 := N1.f 0 rfl
    have n1 := N1.c 1 rfl
    have nf1 := N1.f 1 rfl
    have r0 := R1.c 0 rfl
    have rf0 := R1.f 0 rfl
    have r1 := R1.c 1 rfl
    have rf1 := R1.f 1 rfl
    have r2 := R1.c 2 rfl
    have rf2 := R1.f 2 rfl
    go_wp2
    refine bodyPost_ret (v := .tuple #[.agg #[.int .i64 0, .int .i64 0, .slice none 0 0], .int .i64 2]) (by simp [results, Try.results51, go_sem, r0, r1, r2]) rfl ?_
    rw [HR.out]
    exact ⟨⟨none, 0, rfl, Kind.FrO.nil⟩, (((hB1.setCell (p := ⟨w.heap.size + 1 + 1, 0, none⟩) (by simp; omega) _).setCell (p := ⟨w.heap.size + 1 + 1, 1, none⟩) (by simp; omega) _).setCell (p := ⟨w.heap.size + 1 + 1, 2, none⟩) (by simp; omega) _)⟩
  have HG := hid hg
  obtain ⟨q1, q2, q3, q4⟩ := sizesB_ok (roomB_good hg).1
  have hl30 := roomB_len hg
  cases hi : taskB nt
  · have HI := hid hi
    have HR := hid (takeR_task (s1 := s1) (s2 := s2) (l := l) (m := nm) hi)
    clear hg hi
    go_enter Try.func51, Try.ntmps51
    go_wp2_with fail
    rw [← HW.out]
    refine (specGoodRoom_is s1 s2 ao cap l W2 true hl (hz.later hB2) HG.out).mono ?_
    rintro e w1 ⟨rfl, hb1⟩
    have hB1 := hB2.trans (hb1.mono hB2.size)
    have A1 := A2.later hb1
    have N1 := N2.later hb1
    have R1 := R2.later hb1
    have hs1 : w.heap.size + 1 + 1 + 1 ≤ w1.heap.size := by have := hb1.size; rw [HS.out] at this; exact this
    clear hb1 A2 N2 R2
    have n0 := N1.c 0 rfl
    have nf0 := N1.f 0 rfl
    have n1 := N1.c 1 rfl
    have nf1 := N1.f 1 rfl
    go_wp2_with fail
    refine (l3Task_is nt _ false HI.out).mono ?_
    rintro e w2 ⟨rfl, hw2⟩
    rw [hw2]
    clear hw2 w2
    have r0 := R1.c 0 rfl
    have rf0 := R1.f 0 rfl
    have r1 := R1.c 1 rfl
    have rf1 := R1.f 1 rfl
    have r2 := R1.c 2 rfl
    have rf2 := R1.f 2 rfl
    go_wp2
    refine bodyPost_ret (v := .tuple #[.agg #[.int .i64 0, .int .i64 0, .slice none 0 0], .int .i64 2]) (by simp [results, Try.results51, go_sem, r0, r1, r2]) rfl ?_
    rw [HR.out]
    exact ⟨⟨none, 0, rfl, Kind.FrO.nil⟩, (((hB1.setCell (p := ⟨w.heap.size + 1 + 1, 0, none⟩) (by simp; omega) _).setCell (p := ⟨w.heap.size + 1 + 1, 1, none⟩) (by simp; omega) _).setCell (p := ⟨w.heap.size + 1 + 1, 2, none⟩) (by simp; omega) _)⟩
  have HI := hid hi
  cases hk : (decide (1 ≤ nm) && decide (nm ≤ 1000000))
  · have HN1 := hid hk
    have HR := hid (takeR_many (s1 := s1) (s2 := s2) (l := l) (t := nt) (show ¬ (1 ≤ nm ∧ nm ≤ 1000000) from by simp at hk; omega))
    clear hg hi hk
    go_enter Try.func51, Try.ntmps51
    go_wp2_with fail
    rw [← HW.out]
    refine (specGoodRoom_is s1 s2 ao cap l W2 true hl (hz.later hB2) HG.out).mono ?_
    rintro e w1 ⟨rfl, hb1⟩
    have hB1 := hB2.trans (hb1.mono hB2.size)
    have A1 := A2.later hb1
    have N1 := N2.later hb1
    have R1 := R2.later hb1
    have hs1 : w.heap.size + 1 + 1 + 1 ≤ w1.heap.size := by have := hb1.size; rw [HS.out] at this; exact this
    clear hb1 A2 N2 R2
    have n0 := N1.c 0 rfl
    have nf0 := N1.f 0 rfl
    have n1 := N1.c 1 rfl
    have nf1 := N1.f 1 rfl
    go_wp2_with fail
    refine (l3Task_is nt _ true HI.out).mono ?_
    rintro e w2 ⟨rfl, hw2⟩
    rw [hw2]
    clear hw2 w2
    go_wp2_with fail
    refine (l1In_is nm 1 1000000 _ false HN1.out).mono ?_
    rintro e w2 ⟨rfl, hw2⟩
    rw [hw2]
    clear hw2 w2
    have r0 := R1.c 0 rfl
    have rf0 := R1.f 0 rfl
    have r1 := R1.c 1 rfl
    have rf1 := R1.f 1 rfl
    have r2 := R1.c 2 rfl
    have rf2 := R1.f 2 rfl
    go_wp2
    refine bodyPost_ret (v := .tuple #[.agg #[.int .i64 0, .int .i64 0, .slice none 0 0], .int .i64 2]) (by simp [results, Try.results51, go_sem, r0, r1, r2]) rfl ?_
    rw [HR.out]
    exact ⟨⟨none, 0, rfl, Kind.FrO.nil⟩, (((hB1.setCell (p := ⟨w.heap.size + 1 + 1, 0, none⟩) (by simp; omega) _).setCell (p := ⟨w.heap.size + 1 + 1, 1, none⟩) (by simp; omega) _).setCell (p := ⟨w.heap.size + 1 + 1, 2, none⟩) (by simp; omega) _)⟩
  have HN1 := hid hk
  have hin : 1 ≤ nm ∧ nm ≤ 1000000 := by simp at hk; omega
  clear hk
  by_cases hc3 : s1 < nm
  · have HR := hid (takeR_below hg hi hin hc3)
    have hc3' : decide (s1 < nm) = true := by simpa using hc3
    clear hg hi
    go_enter Try.func51, Try.ntmps51
    go_wp2_with fail
    rw [← HW.out]
    refine (specGoodRoom_is s1 s2 ao cap l W2 true hl (hz.later hB2) HG.out).mono ?_
    rintro e w1 ⟨rfl, hb1⟩
    have hB1 := hB2.trans (hb1.mono hB2.size)
    have A1 := A2.later hb1
    have N1 := N2.later hb1
    have R1 := R2.later hb1
    have hs1 : w.heap.size + 1 + 1 + 1 ≤ w1.heap.size := by have := hb1.size; rw [HS.out] at this; exact this
    clear hb1 A2 N2 R2
    have n0 := N1.c 0 rfl
    have nf0 := N1.f 0 rfl
    have n1 := N1.c 1 rfl
    have nf1 := N1.f 1 rfl
    go_wp2_with fail
    refine (l3Task_is nt _ true HI.out).mono ?_
    rintro e w2 ⟨rfl, hw2⟩
    rw [hw2]
    clear hw2 w2
    go_wp2_with fail
    refine (l1In_is nm 1 1000000 _ true HN1.out).mono ?_
    rintro e w2 ⟨rfl, hw2⟩
    rw [hw2]
    clear hw2 w2
    have a0 := A1.c 0 rfl
    have af0 := A1.f 0 rfl
    have a1 := A1.c 1 rfl
    have af1 := A1.f 1 rfl
    have a2 := A1.c 2 rfl
    have af2 := A1.f 2 rfl
    go_wp2_with fail
    refine (l5Own_own s1 s2 ao cap l w1 hl hno (hz.later hB1)).mono ?_
    rintro e w2 ⟨⟨g, c, rfl, hF, hO⟩, hb⟩
    have A3 := A1.later hb
    have N3 := N1.later hb
    have R3 := R1.later hb
    have hB3 := hB1.trans (hb.mono hB1.size)
    have hs3 := hb.size
    have HF : Hid (kN.FrO (w.heap.size + 1 + 1 + 1) w2.heap.size w2 (some ⟨g, 0, none⟩) c l) := hF.wide hs1 (Nat.le_refl _)
    have HO := hid hO
    have hgc := hF.cap
    clear hb hF hO a0 a1 a2 af0 af1 af2 n0 n1 nf0 nf1 A1 R1 N1
    have a0 := A3.c 0 rfl
    have af0 := A3.f 0 rfl
    have a1 := A3.c 1 rfl
    have af1 := A3.f 1 rfl
    have a2 := A3.c 2 rfl
    have af2 := A3.f 2 rfl
    have n0 := N3.c 0 rfl
    have nf0 := N3.f 0 rfl
    have n1 := N3.c 1 rfl
    have nf1 := N3.f 1 rfl
    have r0 := R3.c 0 rfl
    have rf0 := R3.f 0 rfl
    have r1 := R3.c 1 rfl
    have rf1 := R3.f 1 rfl
    have r2 := R3.c 2 rfl
    have rf2 := R3.f 2 rfl
    obtain ⟨V, hV⟩ : ∃ V, V = (((w2.setCell ⟨w.heap.size, 0, none⟩ (.int .i64 s1)).setCell ⟨w.heap.size, 1, none⟩ (.int .i64 s2)).setCell ⟨w.heap.size, 2, none⟩ (.slice (some ⟨g, 0, none⟩) l.length c)) := ⟨_, rfl⟩
    have hB5 : Below w.heap.size w V := by rw [hV]; exact (((hB3.setCell (p := ⟨w.heap.size, 0, none⟩) (by simp) _).setCell (p := ⟨w.heap.size, 1, none⟩) (by simp) _).setCell (p := ⟨w.heap.size, 2, none⟩) (by simp) _)
    have A5 : Bx V w.heap.size [.int .i64 s1, .int .i64 s2, .slice (some ⟨g, 0, none⟩) l.length c] := by rw [hV]; exact ((A3.set 0 _).set 1 _).set 2 _
    have N5 : Bx V (w.heap.size + 1) [.int .i64 nt, .int .i64 nm] := by rw [hV]; exact ((N3.other (by simp) _).other (by simp) _).other (by simp) _
    have R5 : Bx V (w.heap.size + 1 + 1) [.int .i64 0, .int .i64 0, .slice none 0 0] := by rw [hV]; exact ((R3.other (by simp; omega) _).other (by simp; omega) _).other (by simp; omega) _
    have F5 : Hid (kN.FrO (w.heap.size + 1 + 1 + 1) V.heap.size V (some ⟨g, 0, none⟩) c l) := by rw [hV]; exact (((HF.out.setBelow (a := ⟨w.heap.size, 0, none⟩) (by simp; omega) _).setBelow (a := ⟨w.heap.size, 1, none⟩) (by simp; omega) _).setBelow (a := ⟨w.heap.size, 2, none⟩) (by simp; omega) _).wide (Nat.le_refl _) (by simp)
    have O5 : Hid (kN.Own w1.heap.size V (.slice (some ⟨g, 0, none⟩) l.length c) l) := by rw [hV]; exact ((HO.out.setBelow (a := ⟨w.heap.size, 0, none⟩) (by simp; omega) _).setBelow (a := ⟨w.heap.size, 1, none⟩) (by simp; omega) _).setBelow (a := ⟨w.heap.size, 2, none⟩) (by simp; omega) _
    have hs5 : w1.heap.size ≤ V.heap.size := by rw [hV]; simpa using hs3
    have y0 : (((w2.setCell ⟨w.heap.size, 0, none⟩ (.int .i64 s1)).setCell ⟨w.heap.size, 1, none⟩ (.int .i64 s2)).setCell ⟨w.heap.size, 2, none⟩ (.slice (some ⟨g, 0, none⟩) l.length c)).cell? ⟨w.heap.size, 0, none⟩ = some (.int .i64 s1) := by rw [← hV]; exact A5.c 0 rfl
    have y1 : (((w2.setCell ⟨w.heap.size, 0, none⟩ (.int .i64 s1)).setCell ⟨w.heap.size, 1, none⟩ (.int .i64 s2)).setCell ⟨w.heap.size, 2, none⟩ (.slice (some ⟨g, 0, none⟩) l.length c)).cell? ⟨w.heap.size, 1, none⟩ = some (.int .i64 s2) := by rw [← hV]; exact A5.c 1 rfl
    have y2 : (((w2.setCell ⟨w.heap.size, 0, none⟩ (.int .i64 s1)).setCell ⟨w.heap.size, 1, none⟩ (.int .i64 s2)).setCell ⟨w.heap.size, 2, none⟩ (.slice (some ⟨g, 0, none⟩) l.length c)).cell? ⟨w.heap.size, 2, none⟩ = some (.slice (some ⟨g, 0, none⟩) l.length c) := by rw [← hV]; exact A5.c 2 rfl
    have u0 : (((w2.setCell ⟨w.heap.size, 0, none⟩ (.int .i64 s1)).setCell ⟨w.heap.size, 1, none⟩ (.int .i64 s2)).setCell ⟨w.heap.size, 2, none⟩ (.slice (some ⟨g, 0, none⟩) l.length c)).cell? ⟨w.heap.size + 1, 0, none⟩ = some (.int .i64 nt) := by rw [← hV]; exact N5.c 0 rfl
    have u1 : (((w2.setCell ⟨w.heap.size, 0, none⟩ (.int .i64 s1)).setCell ⟨w.heap.size, 1, none⟩ (.int .i64 s2)).setCell ⟨w.heap.size, 2, none⟩ (.slice (some ⟨g, 0, none⟩) l.length c)).cell? ⟨w.heap.size + 1, 1, none⟩ = some (.int .i64 nm) := by rw [← hV]; exact N5.c 1 rfl
    have z0 : (((w2.setCell ⟨w.heap.size, 0, none⟩ (.int .i64 s1)).setCell ⟨w.heap.size, 1, none⟩ (.int .i64 s2)).setCell ⟨w.heap.size, 2, none⟩ (.slice (some ⟨g, 0, none⟩) l.length c)).cell? ⟨w.heap.size + 1 + 1, 0, none⟩ = some (.int .i64 0) := by rw [← hV]; exact R5.c 0 rfl
    have zf0 : (((w2.setCell ⟨w.heap.size, 0, none⟩ (.int .i64 s1)).setCell ⟨w.heap.size, 1, none⟩ (.int .i64 s2)).setCell ⟨w.heap.size, 2, none⟩ (.slice (some ⟨g, 0, none⟩) l.length c)).frozen? ⟨w.heap.size + 1 + 1, 0, none⟩ = false := by rw [← hV]; exact R5.f 0 rfl
    have z1 : (((w2.setCell ⟨w.heap.size, 0, none⟩ (.int .i64 s1)).setCell ⟨w.heap.size, 1, none⟩ (.int .i64 s2)).setCell ⟨w.heap.size, 2, none⟩ (.slice (some ⟨g, 0, none⟩) l.length c)).cell? ⟨w.heap.size + 1 + 1, 1, none⟩ = some (.int .i64 0) := by rw [← hV]; exact R5.c 1 rfl
    have zf1 : (((w2.setCell ⟨w.heap.size, 0, none⟩ (.int .i64 s1)).setCell ⟨w.heap.size, 1, none⟩ (.int .i64 s2)).setCell ⟨w.heap.size, 2, none⟩ (.slice (some ⟨g, 0, none⟩) l.length c)).frozen? ⟨w.heap.size + 1 + 1, 1, none⟩ = false := by rw [← hV]; exact R5.f 1 rfl
    have z2 : (((w2.setCell ⟨w.heap.size, 0, none⟩ (.int .i64 s1)).setCell ⟨w.heap.size, 1, none⟩ (.int .i64 s2)).setCell ⟨w.heap.size, 2, none⟩ (.slice (some ⟨g, 0, none⟩) l.length c)).cell? ⟨w.heap.size + 1 + 1, 2, none⟩ = some (.slice none 0 0) := by rw [← hV]; exact R5.c 2 rfl
    have zf2 : (((w2.setCell ⟨w.heap.size, 0, none⟩ (.int .i64 s1)).setCell ⟨w.heap.size, 1, none⟩ (.int .i64 s2)).setCell ⟨w.heap.size, 2, none⟩ (.slice (some ⟨g, 0, none⟩) l.length c)).frozen? ⟨w.heap.size + 1 + 1, 2, none⟩ = false := by rw [← hV]; exact R5.f 2 rfl
    have HV := hid hV
    clear hV HF HO
    go_wp2
    rw [← HV.out]
    clear y0 y1 y2 u0 u1 z0 z1 z2 zf0 zf1 zf2
    clear r0 r1 r2 rf0 rf1 rf2
    have r0 := R5.c 0 rfl
    have rf0 := R5.f 0 rfl
    have r1 := R5.c 1 rfl
    have rf1 := R5.f 1 rfl
    have r2 := R5.c 2 rfl
    have rf2 := R5.f 2 rfl
    refine bodyPost_ret (v := .tuple #[.agg #[.int .i64 s1, .int .i64 s2, .slice (some ⟨g, 0, none⟩) l.length c], .int .i64 3]) (by simp [results, Try.results51, go_sem, r0, r1, r2]) rfl ?_
    rw [HR.out]
    exact ⟨⟨_, c, rfl, (((F5.out.setBelow (a := ⟨w.heap.size + 1 + 1, 0, none⟩) (by simp) _).setBelow (a := ⟨w.heap.size + 1 + 1, 1, none⟩) (by simp) _).setBelow (a := ⟨w.heap.size + 1 + 1, 2, none⟩) (by simp) _).wide (by omega) (by simp)⟩, (((hB5.setCell (p := ⟨w.heap.size + 1 + 1, 0, none⟩) (by simp; omega) _).setCell (p := ⟨w.heap.size + 1 + 1, 1, none⟩) (by simp; omega) _).setCell (p := ⟨w.heap.size + 1 + 1, 2, none⟩) (by simp; omega) _)⟩
  have hc3' : decide (s1 < nm) = false := by simpa using hc3
  cases hm : hasB (tasksOf l) nt
  case true =>
    have HR := hid (takeR_busy hg hi hin hc3 hm)
    have HM := hid hm
    clear hg hi hm
    go_enter Try.func51, Try.ntmps51
    go_wp2_with fail
    rw [← HW.out]
    refine (specGoodRoom_is s1 s2 ao cap l W2 true hl (hz.later hB2) HG.out).mono ?_
    rintro e w1 ⟨rfl, hb1⟩
    have hB1 := hB2.trans (hb1.mono hB2.size)
    have A1 := A2.later hb1
    have N1 := N2.later hb1
    have R1 := R2.later hb1
    have hs1 : w.heap.size + 1 + 1 + 1 ≤ w1.heap.size := by have := hb1.size; rw [HS.out] at this; exact this
    clear hb1 A2 N2 R2
    have n0 := N1.c 0 rfl
    have nf0 := N1.f 0 rfl
    have n1 := N1.c 1 rfl
    have nf1 := N1.f 1 rfl
    go_wp2_with fail
    refine (l3Task_is nt _ true HI.out).mono ?_
    rintro e w2 ⟨rfl, hw2⟩
    rw [hw2]
    clear hw2 w2
    go_wp2_with fail
    refine (l1In_is nm 1 1000000 _ true HN1.out).mono ?_
    rintro e w2 ⟨rfl, hw2⟩
    rw [hw2]
    clear hw2 w2
    have a0 := A1.c 0 rfl
    have af0 := A1.f 0 rfl
    have a1 := A1.c 1 rfl
    have af1 := A1.f 1 rfl
    have a2 := A1.c 2 rfl
    have af2 := A1.f 2 rfl
    go_wp2_with fail
    refine (l5Own_own s1 s2 ao cap l w1 hl hno (hz.later hB1)).mono ?_
    rintro e w2 ⟨⟨g, c, rfl, hF, hO⟩, hb⟩
    have A3 := A1.later hb
    have N3 := N1.later hb
    have R3 := R1.later hb
    have hB3 := hB1.trans (hb.mono hB1.size)
    have hs3 := hb.size
    have HF : Hid (kN.FrO (w.heap.size + 1 + 1 + 1) w2.heap.size w2 (some ⟨g, 0, none⟩) c l) := hF.wide hs1 (Nat.le_refl _)
    have HO := hid hO
    have hgc := hF.cap
    clear hb hF hO a0 a1 a2 af0 af1 af2 n0 n1 nf0 nf1 A1 R1 N1
    have a0 := A3.c 0 rfl
    have af0 := A3.f 0 rfl
    have a1 := A3.c 1 rfl
    have af1 := A3.f 1 rfl
    have a2 := A3.c 2 rfl
    have af2 := A3.f 2 rfl
    have n0 := N3.c 0 rfl
    have nf0 := N3.f 0 rfl
    have n1 := N3.c 1 rfl
    have nf1 := N3.f 1 rfl
    have r0 := R3.c 0 rfl
    have rf0 := R3.f 0 rfl
    have r1 := R3.c 1 rfl
    have rf1 := R3.f 1 rfl
    have r2 := R3.c 2 rfl
    have rf2 := R3.f 2 rfl
    obtain ⟨V, hV⟩ : ∃ V, V = (((w2.setCell ⟨w.heap.size, 0, none⟩ (.int .i64 s1)).setCell ⟨w.heap.size, 1, none⟩ (.int .i64 s2)).setCell ⟨w.heap.size, 2, none⟩ (.slice (some ⟨g, 0, none⟩) l.length c)) := ⟨_, rfl⟩
    have hB5 : Below w.heap.size w V := by rw [hV]; exact (((hB3.setCell (p := ⟨w.heap.size, 0, none⟩) (by simp) _).setCell (p := ⟨w.heap.size, 1, none⟩) (by simp) _).setCell (p := ⟨w.heap.size, 2, none⟩) (by simp) _)
    have A5 : Bx V w.heap.size [.int .i64 s1, .int .i64 s2, .slice (some ⟨g, 0, none⟩) l.length c] := by rw [hV]; exact ((A3.set 0 _).set 1 _).set 2 _
    have N5 : Bx V (w.heap.size + 1) [.int .i64 nt, .int .i64 nm] := by rw [hV]; exact ((N3.other (by simp) _).other (by simp) _).other (by simp) _
    have R5 : Bx V (w.heap.size + 1 + 1) [.int .i64 0, .int .i64 0, .slice none 0 0] := by rw [hV]; exact ((R3.other (by simp; omega) _).other (by simp; omega) _).other (by simp; omega) _
    have F5 : Hid (kN.FrO (w.heap.size + 1 + 1 + 1) V.heap.size V (some ⟨g, 0, none⟩) c l) := by rw [hV]; exact (((HF.out.setBelow (a := ⟨w.heap.size, 0, none⟩) (by simp; omega) _).setBelow (a := ⟨w.heap.size, 1, none⟩) (by simp; omega) _).setBelow (a := ⟨w.heap.size, 2, none⟩) (by simp; omega) _).wide (Nat.le_refl _) (by simp)
    have O5 : Hid (kN.Own w1.heap.size V (.slice (some ⟨g, 0, none⟩) l.length c) l) := by rw [hV]; exact ((HO.out.setBelow (a := ⟨w.heap.size, 0, none⟩) (by simp; omega) _).setBelow (a := ⟨w.heap.size, 1, none⟩) (by simp; omega) _).setBelow (a := ⟨w.heap.size, 2, none⟩) (by simp; omega) _
    have hs5 : w1.heap.size ≤ V.heap.size := by rw [hV]; simpa using hs3
    have y0 : (((w2.setCell ⟨w.heap.size, 0, none⟩ (.int .i64 s1)).setCell ⟨w.heap.size, 1, none⟩ (.int .i64 s2)).setCell ⟨w.heap.size, 2, none⟩ (.slice (some ⟨g, 0, none⟩) l.length c)).cell? ⟨w.heap.size, 0, none⟩ = some (.int .i64 s1) := by rw [← hV]; exact A5.c 0 rfl
    have y1 : (((w2.setCell ⟨w.heap.size, 0, none⟩ (.int .i64 s1)).setCell ⟨w.heap.size, 1, none⟩ (.int .i64 s2)).setCell ⟨w.heap.size, 2, none⟩ (.slice (some ⟨g, 0, none⟩) l.length c)).cell? ⟨w.heap.size, 1, none⟩ = some (.int .i64 s2) := by rw [← hV]; exact A5.c 1 rfl
    have y2 : (((w2.setCell ⟨w.heap.size, 0, none⟩ (.int .i64 s1)).setCell ⟨w.heap.size, 1, none⟩ (.int .i64 s2)).setCell ⟨w.heap.size, 2, none⟩ (.slice (some ⟨g, 0, none⟩) l.length c)).cell? ⟨w.heap.size, 2, none⟩ = some (.slice (some ⟨g, 0, none⟩) l.length c) := by rw [← hV]; exact A5.c 2 rfl
    have u0 : (((w2.setCell ⟨w.heap.size, 0, none⟩ (.int .i64 s1)).setCell ⟨w.heap.size, 1, none⟩ (.int .i64 s2)).setCell ⟨w.heap.size, 2, none⟩ (.slice (some ⟨g, 0, none⟩) l.length c)).cell? ⟨w.heap.size + 1, 0, none⟩ = some (.int .i64 nt) := by rw [← hV]; exact N5.c 0 rfl
    have u1 : (((w2.setCell ⟨w.heap.size, 0, none⟩ (.int .i64 s1)).setCell ⟨w.heap.size, 1, none⟩ (.int .i64 s2)).setCell ⟨w.heap.size, 2, none⟩ (.slice (some ⟨g, 0, none⟩) l.length c)).cell? ⟨w.heap.size + 1, 1, none⟩ = some (.int .i64 nm) := by rw [← hV]; exact N5.c 1 rfl
    have z0 : (((w2.setCell ⟨w.heap.size, 0, none⟩ (.int .i64 s1)).setCell ⟨w.heap.size, 1, none⟩ (.int .i64 s2)).setCell ⟨w.heap.size, 2, none⟩ (.slice (some ⟨g, 0, none⟩) l.length c)).cell? ⟨w.heap.size + 1 + 1, 0, none⟩ = some (.int .i64 0) := by rw [← hV]; exact R5.c 0 rfl
    have zf0 : (((w2.setCell ⟨w.heap.size, 0, none⟩ (.int .i64 s1)).setCell ⟨w.heap.size, 1, none⟩ (.int .i64 s2)).setCell ⟨w.heap.size, 2, none⟩ (.slice (some ⟨g, 0, none⟩) l.length c)).frozen? ⟨w.heap.size + 1 + 1, 0, none⟩ = false := by rw [← hV]; exact R5.f 0 rfl
    have z1 : (((w2.setCell ⟨w.heap.size, 0, none⟩ (.int .i64 s1)).setCell ⟨w.heap.size, 1, none⟩ (.int .i64 s2)).setCell ⟨w.heap.size, 2, none⟩ (.slice (some ⟨g, 0, none⟩) l.length c)).cell? ⟨w.heap.size + 1 + 1, 1, none⟩ = some (.int .i64 0) := by rw [← hV]; exact R5.c 1 rfl
    have zf1 : (((w2.setCell ⟨w.heap.size, 0, none⟩ (.int .i64 s1)).setCell ⟨w.heap.size, 1, none⟩ (.int .i64 s2)).setCell ⟨w.heap.size, 2, none⟩ (.slice (some ⟨g, 0, none⟩) l.length c)).frozen? ⟨w.heap.size + 1 + 1, 1, none⟩ = false := by rw [← hV]; exact R5.f 1 rfl
    have z2 : (((w2.setCell ⟨w.heap.size, 0, none⟩ (.int .i64 s1)).setCell ⟨w.heap.size, 1, none⟩ (.int .i64 s2)).setCell ⟨w.heap.size, 2, none⟩ (.slice (some ⟨g, 0, none⟩) l.length c)).cell? ⟨w.heap.size + 1 + 1, 2, none⟩ = some (.slice none 0 0) := by rw [← hV]; exact R5.c 2 rfl
    have zf2 : (((w2.setCell ⟨w.heap.size, 0, none⟩ (.int .i64 s1)).setCell ⟨w.heap.size, 1, none⟩ (.int .i64 s2)).setCell ⟨w.heap.size, 2, none⟩ (.slice (some ⟨g, 0, none⟩) l.length c)).frozen? ⟨w.heap.size + 1 + 1, 2, none⟩ = false := by rw [← hV]; exact R5.f 2 rfl
    have HV := hid hV
    clear hV HF HO
    go_wp2_with fail
    rw [← HV.out]
    clear y0 y1 y2 u0 u1 z0 z1 z2 zf0 zf1 zf2
    clear a0 a1 a2 af0 af1 af2 n0 n1 nf0 nf1 r0 r1 r2 rf0 rf1 rf2 A3 N3 R3
    refine (l5Waits_is s1 s2 (some ⟨g, 0, none⟩) c l nt V true hl F5.out.in HM.out).mono ?_
    rintro e w4 ⟨rfl, hb4⟩
    have A6 := A5.later hb4
    have N6 := N5.later hb4
    have R6 := R5.later hb4
    have F6 := hid ((F5.out.later hb4).wide (Nat.le_refl _) hb4.size)
    have O6 := hid (O5.out.below hb4)
    have hB6 := hB5.trans (hb4.mono hB5.size)
    have hs6 := Nat.le_trans hs5 hb4.size
    clear hb4 A5 N5 R5 F5 O5 hB5 hs5 HV
    have a0 := A6.c 0 rfl
    have af0 := A6.f 0 rfl
    have a1 := A6.c 1 rfl
    have af1 := A6.f 1 rfl
    have a2 := A6.c 2 rfl
    have af2 := A6.f 2 rfl
    have n0 := N6.c 0 rfl
    have nf0 := N6.f 0 rfl
    have n1 := N6.c 1 rfl
    have nf1 := N6.f 1 rfl
    have r0 := R6.c 0 rfl
    have rf0 := R6.f 0 rfl
    have r1 := R6.c 1 rfl
    have rf1 := R6.f 1 rfl
    have r2 := R6.c 2 rfl
    have rf2 := R6.f 2 rfl
    go_wp2
    refine bodyPost_ret (v := .tuple #[.agg #[.int .i64 s1, .int .i64 s2, .slice (some ⟨g, 0, none⟩) l.length c], .int .i64 4]) (by simp [results, Try.results51, go_sem, r0, r1, r2]) rfl ?_
    rw [HR.out]
    exact ⟨⟨_, c, rfl, (((F6.out.setBelow (a := ⟨w.heap.size + 1 + 1, 0, none⟩) (by simp) _).setBelow (a := ⟨w.heap.size + 1 + 1, 1, none⟩) (by simp) _).setBelow (a := ⟨w.heap.size + 1 + 1, 2, none⟩) (by simp) _).wide (by omega) (by simp)⟩, (((hB6.setCell (p := ⟨w.heap.size + 1 + 1, 0, none⟩) (by simp; omega) _).setCell (p := ⟨w.heap.size + 1 + 1, 1, none⟩) (by simp; omega) _).setCell (p := ⟨w.heap.size + 1 + 1, 2, none⟩) (by simp; omega) _)⟩
  have HM := hid hm
  have h30 : ((l.length : Int) == 30) = false := by
    have : l.length ≠ 30 := fun e => by
      have := lineB_full (roomB_good hg).2.2.1 (by rw [tasksOf_len]; exact e) hi
      rw [hm] at this; simp at this
    simp; omega
  by_cases h0 : l.length = 0
  · have k1 := (len0 h0).1
    by_cases hf : nm ≤ s1 - s2
    · have hf' : decide (nm ≤ s1 - s2) = true := by simpa using hf
      have HR := hid (takeR_done hg hi hin hc3 hm h0 hf)
      clear hg hi hm h0
      go_enter Try.func51, Try.ntmps51
      go_wp2_with fail
      rw [← HW.out]
      refine (specGoodRoom_is s1 s2 ao cap l W2 true hl (hz.later hB2) HG.out).mono ?_
      rintro e w1 ⟨rfl, hb1⟩
      have hB1 := hB2.trans (hb1.mono hB2.size)
      have A1 := A2.later hb1
      have N1 := N2.later hb1
      have R1 := R2.later hb1
      have hs1 : w.heap.size + 1 + 1 + 1 ≤ w1.heap.size := by have := hb1.size; rw [HS.out] at this; exact this
      clear hb1 A2 N2 R2
      have n0 := N1.c 0 rfl
      have nf0 := N1.f 0 rfl
      have n1 := N1.c 1 rfl
      have nf1 := N1.f 1 rfl
      go_wp2_with fail
      refine (l3Task_is nt _ true HI.out).mono ?_
      rintro e w2 ⟨rfl, hw2⟩
      rw [hw2]
      clear hw2 w2
      go_wp2_with fail
      refine (l1In_is nm 1 1000000 _ true HN1.out).mono ?_
      rintro e w2 ⟨rfl, hw2⟩
      rw [hw2]
      clear hw2 w2
      have a0 := A1.c 0 rfl
      have af0 := A1.f 0 rfl
      have a1 := A1.c 1 rfl
      have af1 := A1.f 1 rfl
      have a2 := A1.c 2 rfl
      have af2 := A1.f 2 rfl
      go_wp2_with fail
      refine (l5Own_own s1 s2 ao cap l w1 hl hno (hz.later hB1)).mono ?_
      rintro e w2 ⟨⟨g, c, rfl, hF, hO⟩, hb⟩
      have A3 := A1.later hb
      have N3 := N1.later hb
      have R3 := R1.later hb
      have hB3 := hB1.trans (hb.mono hB1.size)
      have hs3 := hb.size
      have HF : Hid (kN.FrO (w.heap.size + 1 + 1 + 1) w2.heap.size w2 (some ⟨g, 0, none⟩) c l) := hF.wide hs1 (Nat.le_refl _)
      have HO := hid hO
      have hgc := hF.cap
      clear hb hF hO a0 a1 a2 af0 af1 af2 n0 n1 nf0 nf1 A1 R1 N1
      have a0 := A3.c 0 rfl
      have af0 := A3.f 0 rfl
      have a1 := A3.c 1 rfl
      have af1 := A3.f 1 rfl
      have a2 := A3.c 2 rfl
      have af2 := A3.f 2 rfl
      have n0 := N3.c 0 rfl
      have nf0 := N3.f 0 rfl
      have n1 := N3.c 1 rfl
      have nf1 := N3.f 1 rfl
      have r0 := R3.c 0 rfl
      have rf0 := R3.f 0 rfl
      have r1 := R3.c 1 rfl
      have rf1 := R3.f 1 rfl
      have r2 := R3.c 2 rfl
      have rf2 := R3.f 2 rfl
      obtain ⟨V, hV⟩ : ∃ V, V = (((w2.setCell ⟨w.heap.size, 0, none⟩ (.int .i64 s1)).setCell ⟨w.heap.size, 1, none⟩ (.int .i64 s2)).setCell ⟨w.heap.size, 2, none⟩ (.slice (some ⟨g, 0, none⟩) l.length c)) := ⟨_, rfl⟩
      have hB5 : Below w.heap.size w V := by rw [hV]; exact (((hB3.setCell (p := ⟨w.heap.size, 0, none⟩) (by simp) _).setCell (p := ⟨w.heap.size, 1, none⟩) (by simp) _).setCell (p := ⟨w.heap.size, 2, none⟩) (by simp) _)
      have A5 : Bx V w.heap.size [.int .i64 s1, .int .i64 s2, .slice (some ⟨g, 0, none⟩) l.length c] := by rw [hV]; exact ((A3.set 0 _).set 1 _).set 2 _
      have N5 : Bx V (w.heap.size + 1) [.int .i64 nt, .int .i64 nm] := by rw [hV]; exact ((N3.other (by simp) _).other (by simp) _).other (by simp) _
      have R5 : Bx V (w.heap.size + 1 + 1) [.int .i64 0, .int .i64 0, .slice none 0 0] := by rw [hV]; exact ((R3.other (by simp; omega) _).other (by simp; omega) _).other (by simp; omega) _
      have F5 : Hid (kN.FrO (w.heap.size + 1 + 1 + 1) V.heap.size V (some ⟨g, 0, none⟩) c l) := by rw [hV]; exact (((HF.out.setBelow (a := ⟨w.heap.size, 0, none⟩) (by simp; omega) _).setBelow (a := ⟨w.heap.size, 1, none⟩) (by simp; omega) _).setBelow (a := ⟨w.heap.size, 2, none⟩) (by simp; omega) _).wide (Nat.le_refl _) (by simp)
      have O5 : Hid (kN.Own w1.heap.size V (.slice (some ⟨g, 0, none⟩) l.length c) l) := by rw [hV]; exact ((HO.out.setBelow (a := ⟨w.heap.size, 0, none⟩) (by simp; omega) _).setBelow (a := ⟨w.heap.size, 1, none⟩) (by simp; omega) _).setBelow (a := ⟨w.heap.size, 2, none⟩) (by simp; omega) _
      have hs5 : w1.heap.size ≤ V.heap.size := by rw [hV]; simpa using hs3
      have y0 : (((w2.setCell ⟨w.heap.size, 0, none⟩ (.int .i64 s1)).setCell ⟨w.heap.size, 1, none⟩ (.int .i64 s2)).setCell ⟨w.heap.size, 2, none⟩ (.slice (some ⟨g, 0, none⟩) l.length c)).cell? ⟨w.heap.size, 0, none⟩ = some (.int .i64 s1) := by rw [← hV]; exact A5.c 0 rfl
      have y1 : (((w2.setCell ⟨w.heap.size, 0, none⟩ (.int .i64 s1)).setCell ⟨w.heap.size, 1, none⟩ (.int .i64 s2)).setCell ⟨w.heap.size, 2, none⟩ (.slice (some ⟨g, 0, none⟩) l.length c)).cell? ⟨w.heap.size, 1, none⟩ = some (.int .i64 s2) := by rw [← hV]; exact A5.c 1 rfl
      have y2 : (((w2.setCell ⟨w.heap.size, 0, none⟩ (.int .i64 s1)).setCell ⟨w.heap.size, 1, none⟩ (.int .i64 s2)).setCell ⟨w.heap.size, 2, none⟩ (.slice (some ⟨g, 0, none⟩) l.length c)).cell? ⟨w.heap.size, 2, none⟩ = some (.slice (some ⟨g, 0, none⟩) l.length c) := by rw [← hV]; exact A5.c 2 rfl
      have u0 : (((w2.setCell ⟨w.heap.size, 0, none⟩ (.int .i64 s1)).setCell ⟨w.heap.size, 1, none⟩ (.int .i64 s2)).setCell ⟨w.heap.size, 2, none⟩ (.slice (some ⟨g, 0, none⟩) l.length c)).cell? ⟨w.heap.size + 1, 0, none⟩ = some (.int .i64 nt) := by rw [← hV]; exact N5.c 0 rfl
      have u1 : (((w2.setCell ⟨w.heap.size, 0, none⟩ (.int .i64 s1)).setCell ⟨w.heap.size, 1, none⟩ (.int .i64 s2)).setCell ⟨w.heap.size, 2, none⟩ (.slice (some ⟨g, 0, none⟩) l.length c)).cell? ⟨w.heap.size + 1, 1, none⟩ = some (.int .i64 nm) := by rw [← hV]; exact N5.c 1 rfl
      have z0 : (((w2.setCell ⟨w.heap.size, 0, none⟩ (.int .i64 s1)).setCell ⟨w.heap.size, 1, none⟩ (.int .i64 s2)).setCell ⟨w.heap.size, 2, none⟩ (.slice (some ⟨g, 0, none⟩) l.length c)).cell? ⟨w.heap.size + 1 + 1, 0, none⟩ = some (.int .i64 0) := by rw [← hV]; exact R5.c 0 rfl
      have zf0 : (((w2.setCell ⟨w.heap.size, 0, none⟩ (.int .i64 s1)).setCell ⟨w.heap.size, 1, none⟩ (.int .i64 s2)).setCell ⟨w.heap.size, 2, none⟩ (.slice (some ⟨g, 0, none⟩) l.length c)).frozen? ⟨w.heap.size + 1 + 1, 0, none⟩ = false := by rw [← hV]; exact R5.f 0 rfl
      have z1 : (((w2.setCell ⟨w.heap.size, 0, none⟩ (.int .i64 s1)).setCell ⟨w.heap.size, 1, none⟩ (.int .i64 s2)).setCell ⟨w.heap.size, 2, none⟩ (.slice (some ⟨g, 0, none⟩) l.length c)).cell? ⟨w.heap.size + 1 + 1, 1, none⟩ = some (.int .i64 0) := by rw [← hV]; exact R5.c 1 rfl
      have zf1 : (((w2.setCell ⟨w.heap.size, 0, none⟩ (.int .i64 s1)).setCell ⟨w.heap.size, 1, none⟩ (.int .i64 s2)).setCell ⟨w.heap.size, 2, none⟩ (.slice (some ⟨g, 0, none⟩) l.length c)).frozen? ⟨w.heap.size + 1 + 1, 1, none⟩ = false := by rw [← hV]; exact R5.f 1 rfl
      have z2 : (((w2.setCell ⟨w.heap.size, 0, none⟩ (.int .i64 s1)).setCell ⟨w.heap.size, 1, none⟩ (.int .i64 s2)).setCell ⟨w.heap.size, 2, none⟩ (.slice (some ⟨g, 0, none⟩) l.length c)).cell? ⟨w.heap.size + 1 + 1, 2, none⟩ = some (.slice none 0 0) := by rw [← hV]; exact R5.c 2 rfl
      have zf2 : (((w2.setCell ⟨w.heap.size, 0, none⟩ (.int .i64 s1)).setCell ⟨w.heap.size, 1, none⟩ (.int .i64 s2)).setCell ⟨w.heap.size, 2, none⟩ (.slice (some ⟨g, 0, none⟩) l.length c)).frozen? ⟨w.heap.size + 1 + 1, 2, none⟩ = false := by rw [← hV]; exact R5.f 2 rfl
      have HV := hid hV
      clear hV HF HO
      go_wp2_with fail
      rw [← HV.out]
      clear y0 y1 y2 u0 u1 z0 z1 z2 zf0 zf1 zf2
      clear a0 a1 a2 af0 af1 af2 n0 n1 nf0 nf1 r0 r1 r2 rf0 rf1 rf2 A3 N3 R3
      refine (l5Waits_is s1 s2 (some ⟨g, 0, none⟩) c l nt V false hl F5.out.in HM.out).mono ?_
      rintro e w4 ⟨rfl, hb4⟩
      have A6 := A5.later hb4
      have N6 := N5.later hb4
      have R6 := R5.later hb4
      have F6 := hid ((F5.out.later hb4).wide (Nat.le_refl _) hb4.size)
      have O6 := hid (O5.out.below hb4)
      have hB6 := hB5.trans (hb4.mono hB5.size)
      have hs6 := Nat.le_trans hs5 hb4.size
      clear hb4 A5 N5 R5 F5 O5 hB5 hs5 HV
      have a0 := A6.c 0 rfl
      have af0 := A6.f 0 rfl
      have a1 := A6.c 1 rfl
      have af1 := A6.f 1 rfl
      have a2 := A6.c 2 rfl
      have af2 := A6.f 2 rfl
      have n0 := N6.c 0 rfl
      have nf0 := N6.f 0 rfl
      have n1 := N6.c 1 rfl
      have nf1 := N6.f 1 rfl
      have r0 := R6.c 0 rfl
      have rf0 := R6.f 0 rfl
      have r1 := R6.c 1 rfl
      have rf1 := R6.f 1 rfl
      have r2 := R6.c 2 rfl
      have rf2 := R6.f 2 rfl
      go_wp2
      refine bodyPost_ret (v := .tuple #[.agg #[.int .i64 s1, .int .i64 (s2 + nm), .slice (some ⟨g, 0, none⟩) l.length c], .int .i64 0]) (by simp [results, Try.results51, go_sem, r0, r1, r2]) rfl ?_
      rw [HR.out]
      exact ⟨⟨_, c, rfl, ((((F6.out.setBelow (a := ⟨w.heap.size, 1, none⟩) (by simp; omega) _).setBelow (a := ⟨w.heap.size + 1 + 1, 0, none⟩) (by simp) _).setBelow (a := ⟨w.heap.size + 1 + 1, 1, none⟩) (by simp) _).setBelow (a := ⟨w.heap.size + 1 + 1, 2, none⟩) (by simp) _).wide (by omega) (by simp)⟩, ((((hB6.setCell (p := ⟨w.heap.size, 1, none⟩) (by simp) _).setCell (p := ⟨w.heap.size + 1 + 1, 0, none⟩) (by simp; omega) _).setCell (p := ⟨w.heap.size + 1 + 1, 1, none⟩) (by simp; omega) _).setCell (p := ⟨w.heap.size + 1 + 1, 2, none⟩) (by simp; omega) _)⟩
    have hf' : decide (nm ≤ s1 - s2) = false := by simpa using hf
    have HR := hid (takeR_waits hg hi hin hc3 hm (fun x => hf x.2))
    clear hg hi hm hf h0
    go_enter Try.func51, Try.ntmps51
    go_wp2_with fail
    rw [← HW.out]
    refine (specGoodRoom_is s1 s2 ao cap l W2 true hl (hz.later hB2) HG.out).mono ?_
    rintro e w1 ⟨rfl, hb1⟩
    have hB1 := hB2.trans (hb1.mono hB2.size)
    have A1 := A2.later hb1
    have N1 := N2.later hb1
    have R1 := R2.later hb1
    have hs1 : w.heap.size + 1 + 1 + 1 ≤ w1.heap.size := by have := hb1.size; rw [HS.out] at this; exact this
    clear hb1 A2 N2 R2
    have n0 := N1.c 0 rfl
    have nf0 := N1.f 0 rfl
    have n1 := N1.c 1 rfl
    have nf1 := N1.f 1 rfl
    go_wp2_with fail
    refine (l3Task_is nt _ true HI.out).mono ?_
    rintro e w2 ⟨rfl, hw2⟩
    rw [hw2]
    clear hw2 w2
    go_wp2_with fail
    refine (l1In_is nm 1 1000000 _ true HN1.out).mono ?_
    rintro e w2 ⟨rfl, hw2⟩
    rw [hw2]
    clear hw2 w2
    have a0 := A1.c 0 rfl
    have af0 := A1.f 0 rfl
    have a1 := A1.c 1 rfl
    have af1 := A1.f 1 rfl
    have a2 := A1.c 2 rfl
    have af2 := A1.f 2 rfl
    go_wp2_with fail
    refine (l5Own_own s1 s2 ao cap l w1 hl hno (hz.later hB1)).mono ?_
    rintro e w2 ⟨⟨g, c, rfl, hF, hO⟩, hb⟩
    have A3 := A1.later hb
    have N3 := N1.later hb
    have R3 := R1.later hb
    have hB3 := hB1.trans (hb.mono hB1.size)
    have hs3 := hb.size
    have HF : Hid (kN.FrO (w.heap.size + 1 + 1 + 1) w2.heap.size w2 (some ⟨g, 0, none⟩) c l) := hF.wide hs1 (Nat.le_refl _)
    have HO := hid hO
    have hgc := hF.cap
    clear hb hF hO a0 a1 a2 af0 af1 af2 n0 n1 nf0 nf1 A1 R1 N1
    have a0 := A3.c 0 rfl
    have af0 := A3.f 0 rfl
    have a1 := A3.c 1 rfl
    have af1 := A3.f 1 rfl
    have a2 := A3.c 2 rfl
    have af2 := A3.f 2 rfl
    have n0 := N3.c 0 rfl
    have nf0 := N3.f 0 rfl
    have n1 := N3.c 1 rfl
    have nf1 := N3.f 1 rfl
    have r0 := R3.c 0 rfl
    have rf0 := R3.f 0 rfl
    have r1 := R3.c 1 rfl
    have rf1 := R3.f 1 rfl
    have r2 := R3.c 2 rfl
    have rf2 := R3.f 2 rfl
    obtain ⟨V, hV⟩ : ∃ V, V = (((w2.setCell ⟨w.heap.size, 0, none⟩ (.int .i64 s1)).setCell ⟨w.heap.size, 1, none⟩ (.int .i64 s2)).setCell ⟨w.heap.size, 2, none⟩ (.slice (some ⟨g, 0, none⟩) l.length c)) := ⟨_, rfl⟩
    have hB5 : Below w.heap.size w V := by rw [hV]; exact (((hB3.setCell (p := ⟨w.heap.size, 0, none⟩) (by simp) _).setCell (p := ⟨w.heap.size, 1, none⟩) (by simp) _).setCell (p := ⟨w.heap.size, 2, none⟩) (by simp) _)
    have A5 : Bx V w.heap.size [.int .i64 s1, .int .i64 s2, .slice (some ⟨g, 0, none⟩) l.length c] := by rw [hV]; exact ((A3.set 0 _).set 1 _).set 2 _
    have N5 : Bx V (w.heap.size + 1) [.int .i64 nt, .int .i64 nm] := by rw [hV]; exact ((N3.other (by simp) _).other (by simp) _).other (by simp) _
    have R5 : Bx V (w.heap.size + 1 + 1) [.int .i64 0, .int .i64 0, .slice none 0 0] := by rw [hV]; exact ((R3.other (by simp; omega) _).other (by simp; omega) _).other (by simp; omega) _
    have F5 : Hid (kN.FrO (w.heap.size + 1 + 1 + 1) V.heap.size V (some ⟨g, 0, none⟩) c l) := by rw [hV]; exact (((HF.out.setBelow (a := ⟨w.heap.size, 0, none⟩) (by simp; omega) _).setBelow (a := ⟨w.heap.size, 1, none⟩) (by simp; omega) _).setBelow (a := ⟨w.heap.size, 2, none⟩) (by simp; omega) _).wide (Nat.le_refl _) (by simp)
    have O5 : Hid (kN.Own w1.heap.size V (.slice (some ⟨g, 0, none⟩) l.length c) l) := by rw [hV]; exact ((HO.out.setBelow (a := ⟨w.heap.size, 0, none⟩) (by simp; omega) _).setBelow (a := ⟨w.heap.size, 1, none⟩) (by simp; omega) _).setBelow (a := ⟨w.heap.size, 2, none⟩) (by simp; omega) _
    have hs5 : w1.heap.size ≤ V.heap.size := by rw [hV]; simpa using hs3
    have y0 : (((w2.setCell ⟨w.heap.size, 0, none⟩ (.int .i64 s1)).setCell ⟨w.heap.size, 1, none⟩ (.int .i64 s2)).setCell ⟨w.heap.size, 2, none⟩ (.slice (some ⟨g, 0, none⟩) l.length c)).cell? ⟨w.heap.size, 0, none⟩ = some (.int .i64 s1) := by rw [← hV]; exact A5.c 0 rfl
    have y1 : (((w2.setCell ⟨w.heap.size, 0, none⟩ (.int .i64 s1)).setCell ⟨w.heap.size, 1, none⟩ (.int .i64 s2)).setCell ⟨w.heap.size, 2, none⟩ (.slice (some ⟨g, 0, none⟩) l.length c)).cell? ⟨w.heap.size, 1, none⟩ = some (.int .i64 s2) := by rw [← hV]; exact A5.c 1 rfl
    have y2 : (((w2.setCell ⟨w.heap.size, 0, none⟩ (.int .i64 s1)).setCell ⟨w.heap.size, 1, none⟩ (.int .i64 s2)).setCell ⟨w.heap.size, 2, none⟩ (.slice (some ⟨g, 0, none⟩) l.length c)).cell? ⟨w.heap.size, 2, none⟩ = some (.slice (some ⟨g, 0, none⟩) l.length c) := by rw [← hV]; exact A5.c 2 rfl
    have u0 : (((w2.setCell ⟨w.heap.size, 0, none⟩ (.int .i64 s1)).setCell ⟨w.heap.size, 1, none⟩ (.int .i64 s2)).setCell ⟨w.heap.size, 2, none⟩ (.slice (some ⟨g, 0, none⟩) l.length c)).cell? ⟨w.heap.size + 1, 0, none⟩ = some (.int .i64 nt) := by rw [← hV]; exact N5.c 0 rfl
    have u1 : (((w2.setCell ⟨w.heap.size, 0, none⟩ (.int .i64 s1)).setCell ⟨w.heap.size, 1, none⟩ (.int .i64 s2)).setCell ⟨w.heap.size, 2, none⟩ (.slice (some ⟨g, 0, none⟩) l.length c)).cell? ⟨w.heap.size + 1, 1, none⟩ = some (.int .i64 nm) := by rw [← hV]; exact N5.c 1 rfl
    have z0 : (((w2.setCell ⟨w.heap.size, 0, none⟩ (.int .i64 s1)).setCell ⟨w.heap.size, 1, none⟩ (.int .i64 s2)).setCell ⟨w.heap.size, 2, none⟩ (.slice (some ⟨g, 0, none⟩) l.length c)).cell? ⟨w.heap.size + 1 + 1, 0, none⟩ = some (.int .i64 0) := by rw [← hV]; exact R5.c 0 rfl
    have zf0 : (((w2.setCell ⟨w.heap.size, 0, none⟩ (.int .i64 s1)).setCell ⟨w.heap.size, 1, none⟩ (.int .i64 s2)).setCell ⟨w.heap.size, 2, none⟩ (.slice (some ⟨g, 0, none⟩) l.length c)).frozen? ⟨w.heap.size + 1 + 1, 0, none⟩ = false := by rw [← hV]; exact R5.f 0 rfl
    have z1 : (((w2.setCell ⟨w.heap.size, 0, none⟩ (.int .i64 s1)).setCell ⟨w.heap.size, 1, none⟩ (.int .i64 s2)).setCell ⟨w.heap.size, 2, none⟩ (.slice (some ⟨g, 0, none⟩) l.length c)).cell? ⟨w.heap.size + 1 + 1, 1, none⟩ = some (.int .i64 0) := by rw [← hV]; exact R5.c 1 rfl
    have zf1 : (((w2.setCell ⟨w.heap.size, 0, none⟩ (.int .i64 s1)).setCell ⟨w.heap.size, 1, none⟩ (.int .i64 s2)).setCell ⟨w.heap.size, 2, none⟩ (.slice (some ⟨g, 0, none⟩) l.length c)).frozen? ⟨w.heap.size + 1 + 1, 1, none⟩ = false := by rw [← hV]; exact R5.f 1 rfl
    have z2 : (((w2.setCell ⟨w.heap.size, 0, none⟩ (.int .i64 s1)).setCell ⟨w.heap.size, 1, none⟩ (.int .i64 s2)).setCell ⟨w.heap.size, 2, none⟩ (.slice (some ⟨g, 0, none⟩) l.length c)).cell? ⟨w.heap.size + 1 + 1, 2, none⟩ = some (.slice none 0 0) := by rw [← hV]; exact R5.c 2 rfl
    have zf2 : (((w2.setCell ⟨w.heap.size, 0, none⟩ (.int .i64 s1)).setCell ⟨w.heap.size, 1, none⟩ (.int .i64 s2)).setCell ⟨w.heap.size, 2, none⟩ (.slice (some ⟨g, 0, none⟩) l.length c)).frozen? ⟨w.heap.size + 1 + 1, 2, none⟩ = false := by rw [← hV]; exact R5.f 2 rfl
    have HV := hid hV
    clear hV HF HO
    go_wp2_with fail
    rw [← HV.out]
    clear y0 y1 y2 u0 u1 z0 z1 z2 zf0 zf1 zf2
    clear a0 a1 a2 af0 af1 af2 n0 n1 nf0 nf1 r0 r1 r2 rf0 rf1 rf2 A3 N3 R3
    refine (l5Waits_is s1 s2 (some ⟨g, 0, none⟩) c l nt V false hl F5.out.in HM.out).mono ?_
    rintro e w4 ⟨rfl, hb4⟩
    have A6 := A5.later hb4
    have N6 := N5.later hb4
    have R6 := R5.later hb4
    have F6 := hid ((F5.out.later hb4).wide (Nat.le_refl _) hb4.size)
    have O6 := hid (O5.out.below hb4)
    have hB6 := hB5.trans (hb4.mono hB5.size)
    have hs6 := Nat.le_trans hs5 hb4.size
    clear hb4 A5 N5 R5 F5 O5 hB5 hs5 HV
    have a0 := A6.c 0 rfl
    have af0 := A6.f 0 rfl
    have a1 := A6.c 1 rfl
    have af1 := A6.f 1 rfl
    have a2 := A6.c 2 rfl
    have af2 := A6.f 2 rfl
    have n0 := N6.c 0 rfl
    have nf0 := N6.f 0 rfl
    have n1 := N6.c 1 rfl
    have nf1 := N6.f 1 rfl
    have r0 := R6.c 0 rfl
    have rf0 := R6.f 0 rfl
    have r1 := R6.c 1 rfl
    have rf1 := R6.f 1 rfl
    have r2 := R6.c 2 rfl
    have rf2 := R6.f 2 rfl
    have HO7 : Hid (kN.Own w1.heap.size (w4.alloc (.cells #[.int .i64 nt, .int .i64 nm] 68)) (.slice (some ⟨g, 0, none⟩) l.length c) l) := O6.out.below (below1 _ _)
    have HN7 : Hid (kN.In (w4.heap.size + 1) (w4.alloc (.cells #[.int .i64 nt, .int .i64 nm] 68)) (some ⟨w4.heap.size, 0, none⟩) [(nt, nm)]) := kN_one (by omega) (by simp) (by simp)
    go_wp2_with (at_builtin; refine Kind.app kN_ok (w4.alloc (.cells #[.int .i64 nt, .int .i64 nm] 68)) rfl (.tmp 66) (.tmp 68) rfl w1.heap.size (.slice (some ⟨g, 0, none⟩) l.length c) l rfl HO7.out (by simp; omega) (some ⟨w4.heap.size, 0, none⟩) [(nt, nm)] 1 1 rfl rfl (by simp) _ HN7.out (by simp; omega) ?_; intro v8 w8 hO8 hB8 hG8 hn8; obtain ⟨g', c', rfl, hF8⟩ := hO8.someO (hn8 some_ne); have A8 := (A6.alloc (.cells #[.int .i64 nt, .int .i64 nm] 68)).below hB8 (by omega); have R8 := (R6.alloc (.cells #[.int .i64 nt, .int .i64 nm] 68)).below hB8 (by omega); have hB9 : Below w.heap.size w w8 := hB6.trans (((below1 w4 (.cells #[.int .i64 nt, .int .i64 nm] 68)).mono hB6.size).trans (hB8.mono (by omega))); have hs8 : w.heap.size + 1 + 1 + 1 ≤ w8.heap.size := (by have := hB8.size; simp at this; omega); have F8 : Hid (kN.FrO (w.heap.size + 1 + 1 + 1) w8.heap.size w8 (some ⟨g', 0, none⟩) c' (l ++ [(nt, nm)])) := hF8.wide hs1 (Nat.le_refl _); clear hO8 hB8 hG8 hn8 hF8 HO7 HN7 a0 a1 a2 af0 af1 af2 n0 n1 nf0 nf1 r0 r1 r2 rf0 rf1 rf2; have a0 := A8.c 0 rfl; have af0 := A8.f 0 rfl; have r0 := R8.c 0 rfl; have rf0 := R8.f 0 rfl; have a1 := A8.c 1 rfl; have af1 := A8.f 1 rfl; have r1 := R8.c 1 rfl; have rf1 := R8.f 1 rfl; have a2 := A8.c 2 rfl; have af2 := A8.f 2 rfl; have r2 := R8.c 2 rfl; have rf2 := R8.f 2 rfl)
    refine bodyPost_ret (v := .tuple #[.agg #[.int .i64 s1, .int .i64 s2, .slice (some ⟨g', 0, none⟩) (l ++ [(nt, nm)]).length c'], .int .i64 1]) (by simp [results, Try.results51, go_sem, r0, r1, r2]) rfl ?_
    rw [HR.out]
    exact ⟨⟨_, c', rfl, ((((F8.out.setBelow (a := ⟨w.heap.size, 2, none⟩) (by simp; omega) _).setBelow (a := ⟨w.heap.size + 1 + 1, 0, none⟩) (by simp) _).setBelow (a := ⟨w.heap.size + 1 + 1, 1, none⟩) (by simp) _).setBelow (a := ⟨w.heap.size + 1 + 1, 2, none⟩) (by simp) _).wide (by omega) (by simp)⟩, ((((hB9.setCell (p := ⟨w.heap.size, 2, none⟩) (by simp) _).setCell (p := ⟨w.heap.size + 1 + 1, 0, none⟩) (by simp; omega) _).setCell (p := ⟨w.heap.size + 1 + 1, 1, none⟩) (by simp; omega) _).setCell (p := ⟨w.heap.size + 1 + 1, 2, none⟩) (by simp; omega) _)⟩
  have k1 := (len1 h0).1
  have HR := hid (takeR_waits hg hi hin hc3 hm (fun x => h0 x.1))
  clear hg hi hm h0
  go_enter Try.func51, Try.ntmps51
  go_wp2_with fail
  rw [← HW.out]
  refine (specGoodRoom_is s1 s2 ao cap l W2 true hl (hz.later hB2) HG.out).mono ?_
  rintro e w1 ⟨rfl, hb1⟩
  have hB1 := hB2.trans (hb1.mono hB2.size)
  have A1 := A2.later hb1
  have N1 := N2.later hb1
  have R1 := R2.later hb1
  have hs1 : w.heap.size + 1 + 1 + 1 ≤ w1.heap.size := by have := hb1.size; rw [HS.out] at this; exact this
  clear hb1 A2 N2 R2
  have n0 := N1.c 0 rfl
  have nf0 := N1.f 0 rfl
  have n1 := N1.c 1 rfl
  have nf1 := N1.f 1 rfl
  go_wp2_with fail
  refine (l3Task_is nt _ true HI.out).mono ?_
  rintro e w2 ⟨rfl, hw2⟩
  rw [hw2]
  clear hw2 w2
  go_wp2_with fail
  refine (l1In_is nm 1 1000000 _ true HN1.out).mono ?_
  rintro e w2 ⟨rfl, hw2⟩
  rw [hw2]
  clear hw2 w2
  have a0 := A1.c 0 rfl
  have af0 := A1.f 0 rfl
  have a1 := A1.c 1 rfl
  have af1 := A1.f 1 rfl
  have a2 := A1.c 2 rfl
  have af2 := A1.f 2 rfl
  go_wp2_with fail
  refine (l5Own_own s1 s2 ao cap l w1 hl hno (hz.later hB1)).mono ?_
  rintro e w2 ⟨⟨g, c, rfl, hF, hO⟩, hb⟩
  have A3 := A1.later hb
  have N3 := N1.later hb
  have R3 := R1.later hb
  have hB3 := hB1.trans (hb.mono hB1.size)
  have hs3 := hb.size
  have HF : Hid (kN.FrO (w.heap.size + 1 + 1 + 1) w2.heap.size w2 (some ⟨g, 0, none⟩) c l) := hF.wide hs1 (Nat.le_refl _)
  have HO := hid hO
  have hgc := hF.cap
  clear hb hF hO a0 a1 a2 af0 af1 af2 n0 n1 nf0 nf1 A1 R1 N1
  have a0 := A3.c 0 rfl
  have af0 := A3.f 0 rfl
  have a1 := A3.c 1 rfl
  have af1 := A3.f 1 rfl
  have a2 := A3.c 2 rfl
  have af2 := A3.f 2 rfl
  have n0 := N3.c 0 rfl
  have nf0 := N3.f 0 rfl
  have n1 := N3.c 1 rfl
  have nf1 := N3.f 1 rfl
  have r0 := R3.c 0 rfl
  have rf0 := R3.f 0 rfl
  have r1 := R3.c 1 rfl
  have rf1 := R3.f 1 rfl
  have r2 := R3.c 2 rfl
  have rf2 := R3.f 2 rfl
  obtain ⟨V, hV⟩ : ∃ V, V = (((w2.setCell ⟨w.heap.size, 0, none⟩ (.int .i64 s1)).setCell ⟨w.heap.size, 1, none⟩ (.int .i64 s2)).setCell ⟨w.heap.size, 2, none⟩ (.slice (some ⟨g, 0, none⟩) l.length c)) := ⟨_, rfl⟩
  have hB5 : Below w.heap.size w V := by rw [hV]; exact (((hB3.setCell (p := ⟨w.heap.size, 0, none⟩) (by simp) _).setCell (p := ⟨w.heap.size, 1, none⟩) (by simp) _).setCell (p := ⟨w.heap.size, 2, none⟩) (by simp) _)
  have A5 : Bx V w.heap.size [.int .i64 s1, .int .i64 s2, .slice (some ⟨g, 0, none⟩) l.length c] := by rw [hV]; exact ((A3.set 0 _).set 1 _).set 2 _
  have N5 : Bx V (w.heap.size + 1) [.int .i64 nt, .int .i64 nm] := by rw [hV]; exact ((N3.other (by simp) _).other (by simp) _).other (by simp) _
  have R5 : Bx V (w.heap.size + 1 + 1) [.int .i64 0, .int .i64 0, .slice none 0 0] := by rw [hV]; exact ((R3.other (by simp; omega) _).other (by simp; omega) _).other (by simp; omega) _
  have F5 : Hid (kN.FrO (w.heap.size + 1 + 1 + 1) V.heap.size V (some ⟨g, 0, none⟩) c l) := by rw [hV]; exact (((HF.out.setBelow (a := ⟨w.heap.size, 0, none⟩) (by simp; omega) _).setBelow (a := ⟨w.heap.size, 1, none⟩) (by simp; omega) _).setBelow (a := ⟨w.heap.size, 2, none⟩) (by simp; omega) _).wide (Nat.le_refl _) (by simp)
  have O5 : Hid (kN.Own w1.heap.size V (.slice (some ⟨g, 0, none⟩) l.length c) l) := by rw [hV]; exact ((HO.out.setBelow (a := ⟨w.heap.size, 0, none⟩) (by simp; omega) _).setBelow (a := ⟨w.heap.size, 1, none⟩) (by simp; omega) _).setBelow (a := ⟨w.heap.size, 2, none⟩) (by simp; omega) _
  have hs5 : w1.heap.size ≤ V.heap.size := by rw [hV]; simpa using hs3
  have y0 : (((w2.setCell ⟨w.heap.size, 0, none⟩ (.int .i64 s1)).setCell ⟨w.heap.size, 1, none⟩ (.int .i64 s2)).setCell ⟨w.heap.size, 2, none⟩ (.slice (some ⟨g, 0, none⟩) l.length c)).cell? ⟨w.heap.size, 0, none⟩ = some (.int .i64 s1) := by rw [← hV]; exact A5.c 0 rfl
  have y1 : (((w2.setCell ⟨w.heap.size, 0, none⟩ (.int .i64 s1)).setCell ⟨w.heap.size, 1, none⟩ (.int .i64 s2)).setCell ⟨w.heap.size, 2, none⟩ (.slice (some ⟨g, 0, none⟩) l.length c)).cell? ⟨w.heap.size, 1, none⟩ = some (.int .i64 s2) := by rw [← hV]; exact A5.c 1 rfl
  have y2 : (((w2.setCell ⟨w.heap.size, 0, none⟩ (.int .i64 s1)).setCell ⟨w.heap.size, 1, none⟩ (.int .i64 s2)).setCell ⟨w.heap.size, 2, none⟩ (.slice (some ⟨g, 0, none⟩) l.length c)).cell? ⟨w.heap.size, 2, none⟩ = some (.slice (some ⟨g, 0, none⟩) l.length c) := by rw [← hV]; exact A5.c 2 rfl
  have u0 : (((w2.setCell ⟨w.heap.size, 0, none⟩ (.int .i64 s1)).setCell ⟨w.heap.size, 1, none⟩ (.int .i64 s2)).setCell ⟨w.heap.size, 2, none⟩ (.slice (some ⟨g, 0, none⟩) l.length c)).cell? ⟨w.heap.size + 1, 0, none⟩ = some (.int .i64 nt) := by rw [← hV]; exact N5.c 0 rfl
  have u1 : (((w2.setCell ⟨w.heap.size, 0, none⟩ (.int .i64 s1)).setCell ⟨w.heap.size, 1, none⟩ (.int .i64 s2)).setCell ⟨w.heap.size, 2, none⟩ (.slice (some ⟨g, 0, none⟩) l.length c)).cell? ⟨w.heap.size + 1, 1, none⟩ = some (.int .i64 nm) := by rw [← hV]; exact N5.c 1 rfl
  have z0 : (((w2.setCell ⟨w.heap.size, 0, none⟩ (.int .i64 s1)).setCell ⟨w.heap.size, 1, none⟩ (.int .i64 s2)).setCell ⟨w.heap.size, 2, none⟩ (.slice (some ⟨g, 0, none⟩) l.length c)).cell? ⟨w.heap.size + 1 + 1, 0, none⟩ = some (.int .i64 0) := by rw [← hV]; exact R5.c 0 rfl
  have zf0 : (((w2.setCell ⟨w.heap.size, 0, none⟩ (.int .i64 s1)).setCell ⟨w.heap.size, 1, none⟩ (.int .i64 s2)).setCell ⟨w.heap.size, 2, none⟩ (.slice (some ⟨g, 0, none⟩) l.length c)).frozen? ⟨w.heap.size + 1 + 1, 0, none⟩ = false := by rw [← hV]; exact R5.f 0 rfl
  have z1 : (((w2.setCell ⟨w.heap.size, 0, none⟩ (.int .i64 s1)).setCell ⟨w.heap.size, 1, none⟩ (.int .i64 s2)).setCell ⟨w.heap.size, 2, none⟩ (.slice (some ⟨g, 0, none⟩) l.length c)).cell? ⟨w.heap.size + 1 + 1, 1, none⟩ = some (.int .i64 0) := by rw [← hV]; exact R5.c 1 rfl
  have zf1 : (((w2.setCell ⟨w.heap.size, 0, none⟩ (.int .i64 s1)).setCell ⟨w.heap.size, 1, none⟩ (.int .i64 s2)).setCell ⟨w.heap.size, 2, none⟩ (.slice (some ⟨g, 0, none⟩) l.length c)).frozen? ⟨w.heap.size + 1 + 1, 1, none⟩ = false := by rw [← hV]; exact R5.f 1 rfl
  have z2 : (((w2.setCell ⟨w.heap.size, 0, none⟩ (.int .i64 s1)).setCell ⟨w.heap.size, 1, none⟩ (.int .i64 s2)).setCell ⟨w.heap.size, 2, none⟩ (.slice (some ⟨g, 0, none⟩) l.length c)).cell? ⟨w.heap.size + 1 + 1, 2, none⟩ = some (.slice none 0 0) := by rw [← hV]; exact R5.c 2 rfl
  have zf2 : (((w2.setCell ⟨w.heap.size, 0, none⟩ (.int .i64 s1)).setCell ⟨w.heap.size, 1, none⟩ (.int .i64 s2)).setCell ⟨w.heap.size, 2, none⟩ (.slice (some ⟨g, 0, none⟩) l.length c)).frozen? ⟨w.heap.size + 1 + 1, 2, none⟩ = false := by rw [← hV]; exact R5.f 2 rfl
  have HV := hid hV
  clear hV HF HO
  go_wp2_with fail
  rw [← HV.out]
  clear y0 y1 y2 u0 u1 z0 z1 z2 zf0 zf1 zf2
  clear a0 a1 a2 af0 af1 af2 n0 n1 nf0 nf1 r0 r1 r2 rf0 rf1 rf2 A3 N3 R3
  refine (l5Waits_is s1 s2 (some ⟨g, 0, none⟩) c l nt V false hl F5.out.in HM.out).mono ?_
  rintro e w4 ⟨rfl, hb4⟩
  have A6 := A5.later hb4
  have N6 := N5.later hb4
  have R6 := R5.later hb4
  have F6 := hid ((F5.out.later hb4).wide (Nat.le_refl _) hb4.size)
  have O6 := hid (O5.out.below hb4)
  have hB6 := hB5.trans (hb4.mono hB5.size)
  have hs6 := Nat.le_trans hs5 hb4.size
  clear hb4 A5 N5 R5 F5 O5 hB5 hs5 HV
  have a0 := A6.c 0 rfl
  have af0 := A6.f 0 rfl
  have a1 := A6.c 1 rfl
  have af1 := A6.f 1 rfl
  have a2 := A6.c 2 rfl
  have af2 := A6.f 2 rfl
  have n0 := N6.c 0 rfl
  have nf0 := N6.f 0 rfl
  have n1 := N6.c 1 rfl
  have nf1 := N6.f 1 rfl
  have r0 := R6.c 0 rfl
  have rf0 := R6.f 0 rfl
  have r1 := R6.c 1 rfl
  have rf1 := R6.f 1 rfl
  have r2 := R6.c 2 rfl
  have rf2 := R6.f 2 rfl
  have HO7 : Hid (kN.Own w1.heap.size (w4.alloc (.cells #[.int .i64 nt, .int .i64 nm] 68)) (.slice (some ⟨g, 0, none⟩) l.length c) l) := O6.out.below (below1 _ _)
  have HN7 : Hid (kN.In (w4.heap.size + 1) (w4.alloc (.cells #[.int .i64 nt, .int .i64 nm] 68)) (some ⟨w4.heap.size, 0, none⟩) [(nt, nm)]) := kN_one (by omega) (by simp) (by simp)
  go_wp2_with (at_builtin; refine Kind.app kN_ok (w4.alloc (.cells #[.int .i64 nt, .int .i64 nm] 68)) rfl (.tmp 66) (.tmp 68) rfl w1.heap.size (.slice (some ⟨g, 0, none⟩) l.length c) l rfl HO7.out (by simp; omega) (some ⟨w4.heap.size, 0, none⟩) [(nt, nm)] 1 1 rfl rfl (by simp) _ HN7.out (by simp; omega) ?_; intro v8 w8 hO8 hB8 hG8 hn8; obtain ⟨g', c', rfl, hF8⟩ := hO8.someO (hn8 some_ne); have A8 := (A6.alloc (.cells #[.int .i64 nt, .int .i64 nm] 68)).below hB8 (by omega); have R8 := (R6.alloc (.cells #[.int .i64 nt, .int .i64 nm] 68)).below hB8 (by omega); have hB9 : Below w.heap.size w w8 := hB6.trans (((below1 w4 (.cells #[.int .i64 nt, .int .i64 nm] 68)).mono hB6.size).trans (hB8.mono (by omega))); have hs8 : w.heap.size + 1 + 1 + 1 ≤ w8.heap.size := (by have := hB8.size; simp at this; omega); have F8 : Hid (kN.FrO (w.heap.size + 1 + 1 + 1) w8.heap.size w8 (some ⟨g', 0, none⟩) c' (l ++ [(nt, nm)])) := hF8.wide hs1 (Nat.le_refl _); clear hO8 hB8 hG8 hn8 hF8 HO7 HN7 a0 a1 a2 af0 af1 af2 n0 n1 nf0 nf1 r0 r1 r2 rf0 rf1 rf2; have a0 := A8.c 0 rfl; have af0 := A8.f 0 rfl; have r0 := R8.c 0 rfl; have rf0 := R8.f 0 rfl; have a1 := A8.c 1 rfl; have af1 := A8.f 1 rfl; have r1 := R8.c 1 rfl; have rf1 := R8.f 1 rfl; have a2 := A8.c 2 rfl; have af2 := A8.f 2 rfl; have r2 := R8.c 2 rfl; have rf2 := R8.f 2 rfl)
  refine bodyPost_ret (v := .tuple #[.agg #[.int .i64 s1, .int .i64 s2, .slice (some ⟨g', 0, none⟩) (l ++ [(nt, nm)]).length c'], .int .i64 1]) (by simp [results, Try.results51, go_sem, r0, r1, r2]) rfl ?_
  rw [HR.out]
  exact ⟨⟨_, c', rfl, ((((F8.out.setBelow (a := ⟨w.heap.size, 2, none⟩) (by simp; omega) _).setBelow (a := ⟨w.heap.size + 1 + 1, 0, none⟩) (by simp) _).setBelow (a := ⟨w.heap.size + 1 + 1, 1, none⟩) (by simp) _).setBelow (a := ⟨w.heap.size + 1 + 1, 2, none⟩) (by simp) _).wide (by omega) (by simp)⟩, ((((hB9.setCell (p := ⟨w.heap.size, 2, none⟩) (by simp) _).setCell (p := ⟨w.heap.size + 1 + 1, 0, none⟩) (by simp; omega) _).setCell (p := ⟨w.heap.size + 1 + 1, 1, none⟩) (by simp; omega) _).setCell (p := ⟨w.heap.size + 1 + 1, 2, none⟩) (by simp; omega) _)⟩
end
end Go.Proofs.Ytdgnolpimmdgjaa
