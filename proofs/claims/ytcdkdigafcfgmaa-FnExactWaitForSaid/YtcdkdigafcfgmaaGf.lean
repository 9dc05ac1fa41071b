/- WaitFor: what it answers, and the program. No conditions but those written. -/
import Derived.Test.YtcdkdigafcfgmaaGd
namespace Go.Proofs.Ytcdkdigafcfgmaa
open Go.RowKit

/-- What WaitFor answers. -/
def waitR (cnt : Int) (q : List Int) (t : Int) : Int × List Int × Int :=
  if groupB cnt q = true ∧ taskB t = true then
    if hasB q t = true then (cnt, q, 4) else if cnt = 0 then (cnt, q, 0) else (cnt, q ++ [t], 1)
  else (0, [], 2)
theorem waitR_bad {cnt : Int} {q : List Int} {k : Int} (h : groupB cnt q = false) : waitR cnt q k = (0, [], 2) := by rw [waitR, if_neg]; rw [h]; simp
theorem waitR_task {cnt : Int} {q : List Int} {k : Int} (h : taskB k = false) : waitR cnt q k = (0, [], 2) := by rw [waitR, if_neg]; rw [h]; simp
theorem waitR_busy {cnt : Int} {q : List Int} {k : Int} (h : groupB cnt q = true) (h1 : taskB k = true) (h2 : hasB q k = true) : waitR cnt q k = (cnt, q, 4) := by rw [waitR, if_pos ⟨h, h1⟩, if_pos h2]
theorem waitR_done {cnt : Int} {q : List Int} {k : Int} (h : groupB cnt q = true) (h1 : taskB k = true) (h2 : hasB q k = false) (h3 : cnt = 0) : waitR cnt q k = (cnt, q, 0) := by rw [waitR, if_pos ⟨h, h1⟩, if_neg (by rw [h2]; simp), if_pos h3]
theorem waitR_waits {cnt : Int} {q : List Int} {k : Int} (h : groupB cnt q = true) (h1 : taskB k = true) (h2 : hasB q k = false) (h3 : cnt ≠ 0) : waitR cnt q k = (cnt, q ++ [k], 1) := by rw [waitR, if_pos ⟨h, h1⟩, if_neg (by rw [h2]; simp), if_neg h3]
theorem waitR_len {cnt : Int} {q : List Int} {k : Int} (hl : q.length ≤ 1048576) : (waitR cnt q k).2.1.length ≤ 1048576 := by
  unfold waitR
  split
  · rename_i h
    have := lineB_len (groupB_good h.1).2.2.1
    repeat' split
    all_goals simp <;> omega
  · simp
/-- A group and a code, in memory of their own. -/
def AnsG (w : World) (R : Int × List Int × Int) (e : Ending) (w' : World) : Prop :=
  (∃ o c, e = .returned (.tuple #[.agg #[.int .i64 R.1, .slice o R.2.1.length c], .int .i64 R.2.2]) ∧ kI.Fresh w.heap.size w'.heap.size w' o c R.2.1) ∧ Below w.heap.size w w'

set_option maxRecDepth 10000 in
set_option maxHeartbeats 4000000 in
theorem implWait_any (s1 : Int) (ao : Option Addr) (cap : Nat) (q : List Int) (iv : Int) (w : World) (hl : q.length ≤ 1048576) (hz : kI.In w.heap.size w ao q) :
    Calls Try.prog 27 #[.agg #[.int .i64 s1, .slice ao q.length cap], .int .i64 iv] w fun e w' => AnsG w (waitR s1 q iv) e w' := by
  obtain ⟨W2, hW2⟩ : ∃ W2, W2 = (w.alloc (.cells #[.int .i64 s1, .slice ao q.length cap] 27)).alloc (.cells #[.int .i64 0, .slice none 0 0] 27) := ⟨_, rfl⟩
  have hB2 : Below w.heap.size w W2 := by rw [hW2]; exact below2 _ _ _
  have A2 : Bx W2 w.heap.size [.int .i64 s1, .slice ao q.length cap] := by rw [hW2]; exact (Bx.new [.int .i64 s1, .slice ao q.length cap] _ rfl).alloc _
  have R2 : Bx W2 (w.heap.size + 1) [.int .i64 0, .slice none 0 0] := by rw [hW2]; exact Bx.new [.int .i64 0, .slice none 0 0] _ (by simp)
  have HW : Hid (W2 = (w.alloc (.cells #[.int .i64 s1, .slice ao q.length cap] 27)).alloc (.cells #[.int .i64 0, .slice none 0 0] 27)) := hW2
  have HS : Hid (W2.heap.size = w.heap.size + 1 + 1) := by rw [hW2]; simp [Hid]
  clear hW2
  cases hg : groupB s1 q
  · have HG : Hid (groupB s1 q = false) := hg
    have HR : Hid (waitR s1 q iv = (0, [], 2)) := waitR_bad hg
    clear hg
    go_enter Try.func27, Try.ntmps27
    go_wp2_with fail
    rw [← HW.out]
    refine (implGood_is s1 ao cap q W2 false hl (hz.later hB2) HG.out).mono ?_
    rintro e w1 ⟨rfl, hb1⟩
    have hB1 := hB2.trans (hb1.mono hB2.size)
    have A1 := A2.later hb1
    have R1 := R2.later hb1
    have hs1 : w.heap.size + 1 + 1 ≤ w1.heap.size := by have := hb1.size; rw [HS.out] at this; exact this
    clear hb1 A2 R2
    have r0 := R1.c 0 rfl
    have rf0 := R1.f 0 rfl
    have r1 := R1.c 1 rfl
    have rf1 := R1.f 1 rfl
    go_wp2
    refine bodyPost_ret (v := .tuple #[.agg #[.int .i64 0, .slice none 0 0], .int .i64 2]) (by simp [results, Try.results27, go_sem, r0, r1]) rfl ?_
    rw [HR.out]
    exact ⟨⟨none, 0, rfl, .inl rfl⟩, ((hB1.setCell (p := ⟨w.heap.size + 1, 0, none⟩) (by simp) _).setCell (p := ⟨w.heap.size + 1, 1, none⟩) (by simp) _)⟩
  have HG : Hid (groupB s1 q = true) := hg
  obtain ⟨g1, g2, g3, g4⟩ := groupB_good hg
  have hq30 := lineB_len g3
  clear g3 g4
  cases hi : taskB iv
  · have HI : Hid (taskB iv = false) := hi
    have HR : Hid (waitR s1 q iv = (0, [], 2)) := waitR_task hi
    clear hg hi
    go_enter Try.func27, Try.ntmps27
    go_wp2_with fail
    rw [← HW.out]
    refine (implGood_is s1 ao cap q W2 true hl (hz.later hB2) HG.out).mono ?_
    rintro e w1 ⟨rfl, hb1⟩
    have hB1 := hB2.trans (hb1.mono hB2.size)
    have A1 := A2.later hb1
    have R1 := R2.later hb1
    have hs1 : w.heap.size + 1 + 1 ≤ w1.heap.size := by have := hb1.size; rw [HS.out] at this; exact this
    clear hb1 A2 R2
    go_wp2_with fail
    refine (isTask_is iv _ false HI.out).mono ?_
    rintro e w1 ⟨rfl, rfl⟩
    have r0 := R1.c 0 rfl
    have rf0 := R1.f 0 rfl
    have r1 := R1.c 1 rfl
    have rf1 := R1.f 1 rfl
    go_wp2
    refine bodyPost_ret (v := .tuple #[.agg #[.int .i64 0, .slice none 0 0], .int .i64 2]) (by simp [results, Try.results27, go_sem, r0, r1]) rfl ?_
    rw [HR.out]
    exact ⟨⟨none, 0, rfl, .inl rfl⟩, ((hB1.setCell (p := ⟨w.heap.size + 1, 0, none⟩) (by simp) _).setCell (p := ⟨w.heap.size + 1, 1, none⟩) (by simp) _)⟩
  have HI : Hid (taskB iv = true) := hi
  cases hm : hasB q iv
  case true =>
    have HM : Hid (hasB q iv = true) := hm
    have HR : Hid (waitR s1 q iv = (s1, q, 4)) := waitR_busy hg hi hm
    clear hg hi hm
    go_enter Try.func27, Try.ntmps27
    go_wp2_with fail
    rw [← HW.out]
    refine (implGood_is s1 ao cap q W2 true hl (hz.later hB2) HG.out).mono ?_
    rintro e w1 ⟨rfl, hb1⟩
    have hB1 := hB2.trans (hb1.mono hB2.size)
    have A1 := A2.later hb1
    have R1 := R2.later hb1
    have hs1 : w.heap.size + 1 + 1 ≤ w1.heap.size := by have := hb1.size; rw [HS.out] at this; exact this
    clear hb1 A2 R2
    go_wp2_with fail
    refine (isTask_is iv _ true HI.out).mono ?_
    rintro e w1 ⟨rfl, rfl⟩
    have a0 := A1.c 0 rfl
    have af0 := A1.f 0 rfl
    have a1 := A1.c 1 rfl
    have af1 := A1.f 1 rfl
    go_wp2_with fail
    refine (contains_is _ ao cap q iv _ true hl (hz.later hB1) HM.out).mono ?_
    rintro e w1 ⟨rfl, rfl⟩
    go_wp2_with fail
    refine (copyGroup_any s1 ao cap q w1 hl (hz.later hB1)).mono ?_
    rintro e w2 ⟨⟨go1, rfl, hF⟩, hb⟩
    have R3 := R1.later hb
    have hB3 := hB1.trans (hb.mono hB1.size)
    have HF : Hid (kI.Fresh (w.heap.size + 1 + 1) w2.heap.size w2 go1 q.length q) := hF.wide hs1 (Nat.le_refl _)
    clear hb hF
    have r0 := R3.c 0 rfl
    have rf0 := R3.f 0 rfl
    have r1 := R3.c 1 rfl
    have rf1 := R3.f 1 rfl
    go_wp2
    refine bodyPost_ret (v := .tuple #[.agg #[.int .i64 s1, .slice go1 q.length q.length], .int .i64 4]) (by simp [results, Try.results27, go_sem, r0, r1]) rfl ?_
    rw [HR.out]
    exact ⟨⟨go1, q.length, rfl, ((HF.out.setBelow (a := ⟨w.heap.size + 1, 0, none⟩) (by simp) _).setBelow (a := ⟨w.heap.size + 1, 1, none⟩) (by simp) _).wide (by omega) (by simp)⟩, ((hB3.setCell (p := ⟨w.heap.size + 1, 0, none⟩) (by simp) _).setCell (p := ⟨w.heap.size + 1, 1, none⟩) (by simp) _)⟩
  have HM : Hid (hasB q iv = false) := hm
  by_cases h0 : s1 = 0
  · have h0' : (s1 == 0) = true := by simpa using h0
    have HR : Hid (waitR s1 q iv = (s1, q, 0)) := waitR_done hg hi hm h0
    clear hg hi hm h0
    go_enter Try.func27, Try.ntmps27
    go_wp2_with fail
    rw [← HW.out]
    refine (implGood_is s1 ao cap q W2 true hl (hz.later hB2) HG.out).mono ?_
    rintro e w1 ⟨rfl, hb1⟩
    have hB1 := hB2.trans (hb1.mono hB2.size)
    have A1 := A2.later hb1
    have R1 := R2.later hb1
    have hs1 : w.heap.size + 1 + 1 ≤ w1.heap.size := by have := hb1.size; rw [HS.out] at this; exact this
    clear hb1 A2 R2
    go_wp2_with fail
    refine (isTask_is iv _ true HI.out).mono ?_
    rintro e w1 ⟨rfl, rfl⟩
    have a0 := A1.c 0 rfl
    have af0 := A1.f 0 rfl
    have a1 := A1.c 1 rfl
    have af1 := A1.f 1 rfl
    go_wp2_with fail
    refine (contains_is _ ao cap q iv _ false hl (hz.later hB1) HM.out).mono ?_
    rintro e w1 ⟨rfl, rfl⟩
    go_wp2_with fail
    refine (copyGroup_any s1 ao cap q w1 hl (hz.later hB1)).mono ?_
    rintro e w2 ⟨⟨go1, rfl, hF⟩, hb⟩
    have R3 := R1.later hb
    have hB3 := hB1.trans (hb.mono hB1.size)
    have HF : Hid (kI.Fresh (w.heap.size + 1 + 1) w2.heap.size w2 go1 q.length q) := hF.wide hs1 (Nat.le_refl _)
    clear hb hF
    have r0 := R3.c 0 rfl
    have rf0 := R3.f 0 rfl
    have r1 := R3.c 1 rfl
    have rf1 := R3.f 1 rfl
    go_wp2
    refine bodyPost_ret (v := .tuple #[.agg #[.int .i64 s1, .slice go1 q.length q.length], .int .i64 0]) (by simp [results, Try.results27, go_sem, r0, r1]) rfl ?_
    rw [HR.out]
    exact ⟨⟨go1, q.length, rfl, ((HF.out.setBelow (a := ⟨w.heap.size + 1, 0, none⟩) (by simp) _).setBelow (a := ⟨w.heap.size + 1, 1, none⟩) (by simp) _).wide (by omega) (by simp)⟩, ((hB3.setCell (p := ⟨w.heap.size + 1, 0, none⟩) (by simp) _).setCell (p := ⟨w.heap.size + 1, 1, none⟩) (by simp) _)⟩
  · have h0' : (s1 == 0) = false := by simpa using h0
    have HR : Hid (waitR s1 q iv = (s1, q ++ [iv], 1)) := waitR_waits hg hi hm h0
    clear hg hi hm h0
    have hfl : ∀ (a : Option Addr) (n c : Nat) (W : World), (Instr.field 84 (.agg #[.slice a n c]) 0).run Try.prog W = .ok (.slice a n c) W := run_field84
    go_enter Try.func27, Try.ntmps27
    go_wp2_with fail
    rw [← HW.out]
    refine (implGood_is s1 ao cap q W2 true hl (hz.later hB2) HG.out).mono ?_
    rintro e w1 ⟨rfl, hb1⟩
    have hB1 := hB2.trans (hb1.mono hB2.size)
    have A1 := A2.later hb1
    have R1 := R2.later hb1
    have hs1 : w.heap.size + 1 + 1 ≤ w1.heap.size := by have := hb1.size; rw [HS.out] at this; exact this
    clear hb1 A2 R2
    go_wp2_with fail
    refine (isTask_is iv _ true HI.out).mono ?_
    rintro e w1 ⟨rfl, rfl⟩
    have a0 := A1.c 0 rfl
    have af0 := A1.f 0 rfl
    have a1 := A1.c 1 rfl
    have af1 := A1.f 1 rfl
    go_wp2_with fail
    refine (contains_is _ ao cap q iv _ false hl (hz.later hB1) HM.out).mono ?_
    rintro e w1 ⟨rfl, rfl⟩
    go_wp2
    go_region_held3 (fun Y => Y.cell? ⟨w.heap.size, 0, none⟩ = some (.int .i64 s1) ∧ Y.cell? ⟨w.heap.size, 1, none⟩ = some (.slice ao q.length cap))
      (first | ((refine ⟨?_, ?_⟩ <;> (rw [World.cell?_setCell_other _ _ _ _ (by simp), World.cell?_setCell_other _ _ _ _ (by simp)])); exact P2.1; exact P2.2) | (with_reducible exact ⟨a0, a1⟩) | (with_reducible exact P1) | (with_reducible exact P2) | exact ⟨a0, a1⟩)
      (first
        | (go_at_call 66; refine (queueOfI_any ao cap q _ hl (by exact hz.later hB1.drew)).mono ?_; rintro e w2 ⟨⟨go1, rfl, hF2⟩, hb2⟩; have hB3 : Below w.heap.size w w2 := hB1.drew.trans (hb2.mono hB1.size); have A3 := A1.drew.later hb2; have R3 := R1.drew.later hb2; have P1 := (⟨A3.c 0 rfl, A3.c 1 rfl⟩ : w2.cell? ⟨w.heap.size, 0, none⟩ = some (.int .i64 s1) ∧ w2.cell? ⟨w.heap.size, 1, none⟩ = some (.slice ao q.length cap)); have F3 : Hid (kI.Fresh w1.heap.size w2.heap.size w2 go1 q.length q ∧ w1.heap.size ≤ w2.heap.size) := ⟨hF2, hb2.size⟩; clear hF2 hb2)
        | (go_at_call 67; refine (withI_any go1 q.length q iv w2 hl (by exact F3.out.1.in)).mono ?_; rintro e w3 ⟨⟨go2, rfl, hF4⟩, hb4⟩; have hB4 : Below w.heap.size w w3 := hB3.trans (hb4.mono hB3.size); have A4 := A3.later hb4; have R4 := R3.later hb4; have P2 := (⟨A4.c 0 rfl, A4.c 1 rfl⟩ : w3.cell? ⟨w.heap.size, 0, none⟩ = some (.int .i64 s1) ∧ w3.cell? ⟨w.heap.size, 1, none⟩ = some (.slice ao q.length cap)); have r0 := R4.c 0 rfl; have r1 := R4.c 1 rfl; have rf0 := R4.f 0 rfl; have rf1 := R4.f 1 rfl; have F4 : Hid (kI.Fresh (w.heap.size + 1 + 1) w3.heap.size w3 go2 (q.length + 1) (q ++ [iv])) := (hF4.wide (by have := F3.out.2; omega) (Nat.le_refl _)); clear hF4 hb4))
    all_goals
      go_wp2
      refine bodyPost_ret (v := .tuple #[.agg #[.int .i64 s1, .slice go2 (q.length + 1) (q.length + 1)], .int .i64 1]) (by simp [results, Try.results27, go_sem, r0, r1]) rfl ?_
      rw [HR.out]
      exact ⟨⟨go2, q.length + 1, by simp, ((F4.out.setBelow (a := ⟨w.heap.size + 1, 0, none⟩) (by simp) _).setBelow (a := ⟨w.heap.size + 1, 1, none⟩) (by simp) _).wide (by omega) (by simp)⟩, ((hB4.setCell (p := ⟨w.heap.size + 1, 0, none⟩) (by simp) _).setCell (p := ⟨w.heap.size + 1, 1, none⟩) (by simp) _)⟩
end Go.Proofs.Ytcdkdigafcfgmaa
