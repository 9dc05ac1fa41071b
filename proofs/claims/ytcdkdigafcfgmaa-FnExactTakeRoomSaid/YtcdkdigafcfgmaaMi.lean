/- LeaveRoom: what it answers, the program, the specification. No conditions but those written. -/
import Derived.Test.YtcdkdigafcfgmaaMh
namespace Go.Proofs.Ytcdkdigafcfgmaa
open Go.RowKit

/-- Those that wait, without a task. -/
def outN (l : List (Int × Int)) (t : Int) : List (Int × Int) := l.filter (fun x => x.1 != t)
theorem outN_snoc (l : List (Int × Int)) (t : Int) (x : Int × Int) : outN (l ++ [x]) t = if x.1 = t then outN l t else outN l t ++ [x] := by
  rw [outN, List.filter_append]
  by_cases e : x.1 = t <;> simp [outN, e]
theorem outN_len (l : List (Int × Int)) (t : Int) : (outN l t).length ≤ l.length := List.length_filter_le _ _
theorem outN_many {s1 : Int} {l : List (Int × Int)} {t : Int} (h : ∀ j, j < l.length → manyB s1 (el l j) = true) : ∀ j, j < (outN l t).length → manyB s1 (el (outN l t) j) = true := fun j hj => by
  have hm : el (outN l t) j ∈ l := (List.mem_filter.1 (el_mem hj)).1
  obtain ⟨i, hi, e⟩ := mem_el hm
  rw [← e]; exact h i hi
theorem outN_none : ∀ (l : List (Int × Int)) (t : Int), t ∉ tasksOf l → outN l t = l
  | [], _, _ => rfl
  | x :: r, t, h => by
    simp only [tasksOf, List.map_cons, List.mem_cons, not_or] at h
    have h2 := outN_none r t (by simpa [tasksOf] using h.2)
    unfold outN at h2 ⊢
    rw [List.filter_cons, if_pos (by simpa using fun e : x.1 = t => h.1 e.symm), h2]
theorem outN_idx : ∀ (l : List (Int × Int)) (t : Int), (tasksOf l).Nodup → t ∈ tasksOf l → outN l t = l.take ((tasksOf l).idxOf t) ++ l.drop ((tasksOf l).idxOf t + 1)
  | [], _, _, h => by simp [tasksOf] at h
  | x :: r, t, hn, h => by
    have hn' : x.1 ∉ tasksOf r ∧ (tasksOf r).Nodup := by simpa [tasksOf] using hn
    by_cases e : x.1 = t
    · subst e
      have h2 := outN_none r x.1 hn'.1
      unfold outN at h2 ⊢
      rw [List.filter_cons, if_neg (by simp), h2]
      simp [tasksOf]
    · have hm : t ∈ tasksOf r := by
        simp only [tasksOf, List.map_cons, List.mem_cons] at h
        rcases h with h | h
        · exact absurd h.symm e
        · exact h
      have h2 := outN_idx r t hn'.2 hm
      have e' : (x.1 == t) = false := by simpa using e
      have hi : (tasksOf (x :: r)).idxOf t = (tasksOf r).idxOf t + 1 := by
        show (x.1 :: tasksOf r).idxOf t = _
        rw [List.idxOf_cons, e']; rfl
      rw [hi]
      unfold outN at h2 ⊢
      rw [List.filter_cons, if_pos (by simpa using e), h2]
      simp
theorem lineB_nodup {q : List Int} (h : lineB q = true) : q.Nodup := by
  simp [lineB] at h; exact h.2.2
/-- What LeaveRoom answers. -/
def leaveR (s1 s2 : Int) (l : List (Int × Int)) (t : Int) : RoomR :=
  if roomB s1 s2 l = true ∧ taskB t = true then
    if hasB (tasksOf l) t = true then (s1, (letR s1 s2 (outN l t)).1, (letR s1 s2 (outN l t)).2.1, (letR s1 s2 (outN l t)).2.2, 0) else (s1, s2, l, [], 3)
  else (0, 0, [], [], 2)
theorem leaveR_bad {s1 s2 : Int} {l : List (Int × Int)} {t : Int} (h : roomB s1 s2 l = false) : leaveR s1 s2 l t = (0, 0, [], [], 2) := by rw [leaveR, if_neg]; rw [h]; simp
theorem leaveR_task {s1 s2 : Int} {l : List (Int × Int)} {t : Int} (h : taskB t = false) : leaveR s1 s2 l t = (0, 0, [], [], 2) := by rw [leaveR, if_neg]; rw [h]; simp
theorem leaveR_none {s1 s2 : Int} {l : List (Int × Int)} {t : Int} (h : roomB s1 s2 l = true) (h1 : taskB t = true) (h2 : hasB (tasksOf l) t = false) : leaveR s1 s2 l t = (s1, s2, l, [], 3) := by rw [leaveR, if_pos ⟨h, h1⟩, if_neg (by rw [h2]; simp)]
theorem leaveR_done {s1 s2 : Int} {l : List (Int × Int)} {t : Int} (h : roomB s1 s2 l = true) (h1 : taskB t = true) (h2 : hasB (tasksOf l) t = true) : leaveR s1 s2 l t = (s1, (letR s1 s2 (outN l t)).1, (letR s1 s2 (outN l t)).2.1, (letR s1 s2 (outN l t)).2.2, 0) := by rw [leaveR, if_pos ⟨h, h1⟩, if_pos h2]
theorem leaveR_len {s1 s2 : Int} {l : List (Int × Int)} {t : Int} (hl : l.length ≤ 1048576) : (leaveR s1 s2 l t).2.2.1.length ≤ 1048576 ∧ (leaveR s1 s2 l t).2.2.2.1.length ≤ 1048576 := by
  unfold leaveR
  repeat' split
  · have := letR_len s1 (outN l t) s2
    have := outN_len l t
    dsimp only; omega
  · simp [hl]
  · simp

set_option maxRecDepth 10000 in
set_option maxHeartbeats 4000000 in
theorem implLeaveR_any (s1 s2 : Int) (ao : Option Addr) (cap : Nat) (l : List (Int × Int)) (iv : Int) (w : World) (hl : l.length ≤ 1048576) (hz : kN.In w.heap.size w ao l) :
    Calls Try.prog 41 #[.agg #[.int .i64 s1, .int .i64 s2, .slice ao l.length cap], .int .i64 iv] w fun e w' => AnsR w (leaveR s1 s2 l iv) e w' := by
  obtain ⟨W2, hW2⟩ : ∃ W2, W2 = (w.alloc (.cells #[.int .i64 s1, .int .i64 s2, .slice ao l.length cap] 46)).alloc (.cells #[.int .i64 0, .int .i64 0, .slice none 0 0] 46) := ⟨_, rfl⟩
  have hB2 : Below w.heap.size w W2 := by rw [hW2]; exact below2 _ _ _
  have A2 : Bx W2 w.heap.size [.int .i64 s1, .int .i64 s2, .slice ao l.length cap] := by rw [hW2]; exact (Bx.new [.int .i64 s1, .int .i64 s2, .slice ao l.length cap] _ rfl).alloc _
  have R2 : Bx W2 (w.heap.size + 1) [.int .i64 0, .int .i64 0, .slice none 0 0] := by rw [hW2]; exact Bx.new [.int .i64 0, .int .i64 0, .slice none 0 0] _ (by simp)
  have HW := hid hW2
  have HS : Hid (W2.heap.size = w.heap.size + 1 + 1) := by rw [hW2]; simp [Hid]
  clear hW2
  cases hg : roomB s1 s2 l
  · have HG := hid hg
    have HR := hid (leaveR_bad (t := iv) hg)
    clear hg
    go_enter Try.func41, Try.ntmps41
    go_wp2_with fail
    rw [← HW.out]
    refine (implGoodRoom_is s1 s2 ao cap l W2 false hl (hz.later hB2) HG.out).mono ?_
    rintro e w1 ⟨rfl, hb1⟩
    have hB1 := hB2.trans (hb1.mono hB2.size)
    have A1 := A2.later hb1
    have R1 := R2.later hb1
    have hs1 : w.heap.size + 1 + 1 ≤ w1.heap.size := by have := hb1.size; rw [HS.out] at this; exact this
    clear hb1 A2 R2
    have r0 := R1.c 0 rfl
    have rf0 := R1.f 0 rfl
    have r1 := R1.c 1 rfl
    have rf1 := R1.f 1 rfl
    have r2 := R1.c 2 rfl
    have rf2 := R1.f 2 rfl
    go_wp2
    refine bodyPost_ret (v := .tuple #[.agg #[.int .i64 0, .int .i64 0, .slice none 0 0], .slice none 0 0, .int .i64 2]) (by simp [results, Try.results41, go_sem, r0, r1, r2]) rfl ?_
    rw [HR.out]
    exact ⟨⟨none, 0, none, 0, rfl, .inl rfl, .inl rfl⟩, (((hB1.setCell (p := ⟨w.heap.size + 1, 0, none⟩) (by simp) _).setCell (p := ⟨w.heap.size + 1, 1, none⟩) (by simp) _).setCell (p := ⟨w.heap.size + 1, 2, none⟩) (by simp) _)⟩
  have HG := hid hg
  obtain ⟨g1, g2, g3, g4⟩ := roomB_good hg
  obtain ⟨q1, q2, q3, q4⟩ := sizesB_ok g1
  have HMM := hid (outN_many (t := iv) g2)
  have HL30 : Hid ((outN l iv).length ≤ 30) := Nat.le_trans (outN_len l iv) (roomB_len hg)
  have HND := hid (lineB_nodup g3)
  clear g1 g2 g3 g4
  cases hi : taskB iv
  · have HI := hid hi
    have HR := hid (leaveR_task (s1 := s1) (s2 := s2) (l := l) hi)
    clear hg hi
    go_enter Try.func41, Try.ntmps41
    go_wp2_with fail
    rw [← HW.out]
    refine (implGoodRoom_is s1 s2 ao cap l W2 true hl (hz.later hB2) HG.out).mono ?_
    rintro e w1 ⟨rfl, hb1⟩
    have hB1 := hB2.trans (hb1.mono hB2.size)
    have A1 := A2.later hb1
    have R1 := R2.later hb1
    have hs1 : w.heap.size + 1 + 1 ≤ w1.heap.size := by have := hb1.size; rw [HS.out] at this; exact this
    clear hb1 A2 R2
    go_wp2_with fail
    refine (isTask_is iv _ false HI.out).mono ?_
    rintro e w2 ⟨rfl, hw2⟩
    rw [hw2]
    clear hw2 w2
    have r0 := R1.c 0 rfl
    have rf0 := R1.f 0 rfl
    have r1 := R1.c 1 rfl
    have rf1 := R1.f 1 rfl
    have r2 := R1.c 2 rfl
    have rf2 := R1.f 2 rfl
    go_wp2
    refine bodyPost_ret (v := .tuple #[.agg #[.int .i64 0, .int .i64 0, .slice none 0 0], .slice none 0 0, .int .i64 2]) (by simp [results, Try.results41, go_sem, r0, r1, r2]) rfl ?_
    rw [HR.out]
    exact ⟨⟨none, 0, none, 0, rfl, .inl rfl, .inl rfl⟩, (((hB1.setCell (p := ⟨w.heap.size + 1, 0, none⟩) (by simp) _).setCell (p := ⟨w.heap.size + 1, 1, none⟩) (by simp) _).setCell (p := ⟨w.heap.size + 1, 2, none⟩) (by simp) _)⟩
  have HI := hid hi
  cases hm : hasB (tasksOf l) iv
  · have HR := hid (leaveR_none hg hi hm)
    have HIX : Hid (idxI (tasksOf l) iv = -1) := by rw [Hid, idxI, if_neg]; simpa [hasB] using hm
    clear hg hi hm
    go_enter Try.func41, Try.ntmps41
    go_wp2_with fail
    rw [← HW.out]
    refine (implGoodRoom_is s1 s2 ao cap l W2 true hl (hz.later hB2) HG.out).mono ?_
    rintro e w1 ⟨rfl, hb1⟩
    have hB1 := hB2.trans (hb1.mono hB2.size)
    have A1 := A2.later hb1
    have R1 := R2.later hb1
    have hs1 : w.heap.size + 1 + 1 ≤ w1.heap.size := by have := hb1.size; rw [HS.out] at this; exact this
    clear hb1 A2 R2
    go_wp2_with fail
    refine (isTask_is iv _ true HI.out).mono ?_
    rintro e w2 ⟨rfl, hw2⟩
    rw [hw2]
    clear hw2 w2
    have a0 := A1.c 0 rfl
    have af0 := A1.f 0 rfl
    have a1 := A1.c 1 rfl
    have af1 := A1.f 1 rfl
    have a2 := A1.c 2 rfl
    have af2 := A1.f 2 rfl
    go_wp2_with fail
    refine (tasksIn_any ao cap l w1 hl (hz.later hB1)).mono ?_
    rintro e w1b ⟨⟨v, rfl, hO⟩, hbq⟩
    obtain ⟨qo, qc, rfl, _, hI⟩ := hO.in
    have HIq := hid hI
    have hBq := hB1.trans (hbq.mono hB1.size)
    have Aq := A1.later hbq
    have Rq := R1.later hbq
    have hsq : w.heap.size + 1 + 1 ≤ w1b.heap.size := Nat.le_trans hs1 hbq.size
    clear hO hI hbq a0 a1 a2 af0 af1 af2 A1 R1
    have a0 := Aq.c 0 rfl
    have af0 := Aq.f 0 rfl
    have a1 := Aq.c 1 rfl
    have af1 := Aq.f 1 rfl
    have a2 := Aq.c 2 rfl
    have af2 := Aq.f 2 rfl
    go_wp2_with fail
    refine (index_is _ qo qc (tasksOf l) iv _ (by rw [tasksOf_len]; exact hl) HIq.out).mono ?_
    rintro e w2 ⟨rfl, hw2⟩
    rw [hw2, HIX.out]
    clear hw2 w2 HIq
    go_wp2_with fail
    refine (copyRoom_any s1 s2 ao cap l w1b hl (hz.later hBq)).mono ?_
    rintro e w2 ⟨⟨go1, rfl, hF⟩, hb⟩
    have R3 := Rq.later hb
    have hB3 := hBq.trans (hb.mono hBq.size)
    have HF : Hid (kN.Fresh (w.heap.size + 1 + 1) w2.heap.size w2 go1 l.length l) := hF.wide hsq (Nat.le_refl _)
    clear hb hF
    have r0 := R3.c 0 rfl
    have rf0 := R3.f 0 rfl
    have r1 := R3.c 1 rfl
    have rf1 := R3.f 1 rfl
    have r2 := R3.c 2 rfl
    have rf2 := R3.f 2 rfl
    go_wp2
    refine bodyPost_ret (v := .tuple #[.agg #[.int .i64 s1, .int .i64 s2, .slice go1 l.length l.length], .slice none 0 0, .int .i64 3]) (by simp [results, Try.results41, go_sem, r0, r1, r2]) rfl ?_
    rw [HR.out]
    exact ⟨⟨go1, l.length, none, 0, rfl, (((HF.out.setBelow (a := ⟨w.heap.size + 1, 0, none⟩) (by simp) _).setBelow (a := ⟨w.heap.size + 1, 1, none⟩) (by simp) _).setBelow (a := ⟨w.heap.size + 1, 2, none⟩) (by simp) _).wide (by omega) (by simp), .inl rfl⟩, (((hB3.setCell (p := ⟨w.heap.size + 1, 0, none⟩) (by simp) _).setCell (p := ⟨w.heap.size + 1, 1, none⟩) (by simp) _).setCell (p := ⟨w.heap.size + 1, 2, none⟩) (by simp) _)⟩
  have hmem : iv ∈ tasksOf l := by simpa [hasB] using hm
  obtain ⟨k, hk⟩ : ∃ k : Nat, (tasksOf l).idxOf iv = k := ⟨_, rfl⟩
  have HIX : Hid (idxI (tasksOf l) iv = (k : Int)) := by rw [Hid, idxI, if_pos hmem, hk]
  have hkl : k < l.length := by rw [← hk, ← tasksOf_len l]; exact List.idxOf_lt_length_of_mem hmem
  obtain ⟨D, hD⟩ : ∃ D, D = outN l iv := ⟨_, rfl⟩
  have HKE : Hid (D = keepE l (k : Int) (List.range l.length)) := by rw [Hid, hD, keepE_range l k hkl, outN_idx l iv HND.out hmem, hk]
  rw [← hD] at HMM HL30
  obtain ⟨⟨U1, L1, L2⟩, eR⟩ : ∃ r, letR s1 s2 D = r := ⟨_, rfl⟩
  have HLR := hid eR
  have HR : Hid (leaveR s1 s2 l iv = (s1, U1, L1, L2, 0)) := by rw [Hid, leaveR_done hg hi hm, ← hD, eR]
  have hk0 : decide ((k : Int) < 0) = false := by simp
  clear hg hi hm hmem hk eR hD
  have hfl : ∀ (a : Option Addr) (n c : Nat) (W : World), (Instr.field 95 (.agg #[.slice a n c]) 0).run Try.prog W = .ok (.slice a n c) W := run_field95
  go_enter Try.func41, Try.ntmps41
  go_wp2_with fail
  rw [← HW.out]
  refine (implGoodRoom_is s1 s2 ao cap l W2 true hl (hz.later hB2) HG.out).mono ?_
  rintro e w1 ⟨rfl, hb1⟩
  have hB1 := hB2.trans (hb1.mono hB2.size)
  have A1 := A2.later hb1
  have R1 := R2.later hb1
  have hs1 : w.heap.size + 1 + 1 ≤ w1.heap.size := by have := hb1.size; rw [HS.out] at this; exact this
  clear hb1 A2 R2
  go_wp2_with fail
  refine (isTask_is iv _ true HI.out).mono ?_
  rintro e w2 ⟨rfl, hw2⟩
  rw [hw2]
  clear hw2 w2
  have a0 := A1.c 0 rfl
  have af0 := A1.f 0 rfl
  have a1 := A1.c 1 rfl
  have af1 := A1.f 1 rfl
  have a2 := A1.c 2 rfl
  have af2 := A1.f 2 rfl
  go_wp2_with fail
  refine (tasksIn_any ao cap l w1 hl (hz.later hB1)).mono ?_
  rintro e w1b ⟨⟨v, rfl, hO⟩, hbq⟩
  obtain ⟨qo, qc, rfl, _, hI⟩ := hO.in
  have HIq := hid hI
  have hBq := hB1.trans (hbq.mono hB1.size)
  have Aq := A1.later hbq
  have Rq := R1.later hbq
  have hsq : w.heap.size + 1 + 1 ≤ w1b.heap.size := Nat.le_trans hs1 hbq.size
  clear hO hI hbq a0 a1 a2 af0 af1 af2 A1 R1
  have a0 := Aq.c 0 rfl
  have af0 := Aq.f 0 rfl
  have a1 := Aq.c 1 rfl
  have af1 := Aq.f 1 rfl
  have a2 := Aq.c 2 rfl
  have af2 := Aq.f 2 rfl
  go_wp2_with fail
  refine (index_is _ qo qc (tasksOf l) iv _ (by rw [tasksOf_len]; exact hl) HIq.out).mono ?_
  rintro e w2 ⟨rfl, hw2⟩
  rw [hw2, HIX.out]
  clear hw2 w2 HIq
  go_wp2_with fail
  refine (copyRoom_any s1 s2 ao cap l w1b hl (hz.later hBq)).mono ?_
  rintro e w1c ⟨⟨go1, rfl, hF⟩, hb⟩
  have hn2 := below1 w1c (.cells #[.int .i64 s1, .int .i64 s2, .slice go1 l.length l.length] 46)
  have X2 : Bx (w1c.alloc (.cells #[.int .i64 s1, .int .i64 s2, .slice go1 l.length l.length] 46)) w1c.heap.size [.int .i64 s1, .int .i64 s2, .slice go1 l.length l.length] := Bx.new _ _ rfl
  have Ac := Aq.later hb
  have Rc := (Rq.later hb).later hn2
  have hBc := hBq.trans (hb.mono hBq.size)
  have hBc' := Below.allocS hBc (.cells #[.int .i64 s1, .int .i64 s2, .slice go1 l.length l.length] 46)
  have hsc : w.heap.size + 1 + 1 ≤ w1c.heap.size := Nat.le_trans hsq hb.size
  have hpA := Ac.size
  clear hb hF a0 a1 a2 af0 af1 af2 Aq Rq hn2
  have a0 := Ac.c 0 rfl
  have af0 := Ac.f 0 rfl
  have a1 := Ac.c 1 rfl
  have af1 := Ac.f 1 rfl
  have a2 := Ac.c 2 rfl
  have af2 := Ac.f 2 rfl
  go_wp2_with fail
  refine (queueOfN_any ao cap l _ hl (hz.later hBc')).mono ?_
  rintro e w1d ⟨⟨go2, rfl, hF2⟩, hb2⟩
  have X3 := X2.later hb2
  have Rd := Rc.later hb2
  have hBd := hBc'.trans (hb2.mono hBc'.size)
  have HF2 := hid hF2.in
  have hsd : w1c.heap.size + 1 ≤ w1d.heap.size := by have := hb2.size; simpa using this
  clear hb2 hF2 X2 Rc a0 a1 a2 af0 af1 af2
  go_wp2_with fail
  refine (withoutN_any go2 l.length l (k : Int) w1d hl HF2.out D HKE.out).mono ?_
  rintro e w2 ⟨⟨go3, qc3, rfl, hF3⟩, hb3⟩
  have X4 := X3.later hb3
  have R3 := Rd.later hb3
  have hB3 := hBd.trans (hb3.mono hBd.size)
  have hs2 := hb3.size
  have HFR : Hid (kN.Fresh w1d.heap.size w2.heap.size w2 go3 qc3 D) := hF3
  clear hb3 hF3 X3 Rd HF2
  have x0 := X4.c 0 rfl
  have x1 := X4.c 1 rfl
  have x2 := X4.c 2 rfl
  have xf2 := X4.f 2 rfl
  obtain ⟨V, hV⟩ : ∃ V, V = w2.setCell ⟨w1c.heap.size, 2, none⟩ (.slice go3 D.length qc3) := ⟨_, rfl⟩
  have X5 : Bx V w1c.heap.size [.int .i64 s1, .int .i64 s2, .slice go3 D.length qc3] := by rw [hV]; exact X4.set 2 _
  have R4 : Bx V (w.heap.size + 1) [.int .i64 0, .int .i64 0, .slice none 0 0] := by rw [hV]; exact R3.other (by simp; omega) _
  have HI4 : Hid (kN.In V.heap.size V go3 D) := by rw [hV]; exact (HFR.out.setBelow (by simp; omega) _).in
  have hB4 : Below w.heap.size w V := by rw [hV]; exact hB3.setCell (p := ⟨w1c.heap.size, 2, none⟩) (by simp; omega) _
  have hs4 : w.heap.size + 1 + 1 ≤ V.heap.size := by rw [hV]; simp; omega
  have y0 : (w2.setCell ⟨w1c.heap.size, 2, none⟩ (.slice go3 D.length qc3)).cell? ⟨w1c.heap.size, 0, none⟩ = some (.int .i64 s1) := by rw [← hV]; exact X5.c 0 rfl
  have y1 : (w2.setCell ⟨w1c.heap.size, 2, none⟩ (.slice go3 D.length qc3)).cell? ⟨w1c.heap.size, 1, none⟩ = some (.int .i64 s2) := by rw [← hV]; exact X5.c 1 rfl
  have y2 : (w2.setCell ⟨w1c.heap.size, 2, none⟩ (.slice go3 D.length qc3)).cell? ⟨w1c.heap.size, 2, none⟩ = some (.slice go3 D.length qc3) := by rw [← hV]; exact X5.c 2 rfl
  have HV := hid hV
  clear hV X4 R3
  go_wp2_with fail
  rw [← HV.out]
  clear y0 y1 y2 x0 x1 x2 xf2
  refine (letIn_any s1 s2 go3 qc3 D V HL30.out ⟨by omega, by omega⟩ ⟨by omega, by omega⟩ HMM.out HI4.out).mono ?_
  rintro e w5 ⟨⟨o, c, o', c', rfl, hF5, hN5⟩, hb5⟩
  rw [HLR.out] at hF5 hN5 ⊢
  dsimp only at hF5 hN5 ⊢
  have hB5 := hB4.trans (hb5.mono hB4.size)
  have R5 := R4.later hb5
  have F5 : Hid (kN.Fresh (w.heap.size + 1 + 1) w5.heap.size w5 o c L1) := hF5.wide hs4 (Nat.le_refl _)
  have N5 : Hid (kI.Fresh (w.heap.size + 1 + 1) w5.heap.size w5 o' c' L2) := hN5.wide hs4 (Nat.le_refl _)
  have hp5 := R5.size
  clear hb5 hF5 hN5
  have r0 := R5.c 0 rfl
  have rf0 := R5.f 0 rfl
  have r1 := R5.c 1 rfl
  have rf1 := R5.f 1 rfl
  have r2 := R5.c 2 rfl
  have rf2 := R5.f 2 rfl
  go_wp2
  refine bodyPost_ret (v := .tuple #[.agg #[.int .i64 s1, .int .i64 U1, .slice o L1.length c], .slice o' L2.length c', .int .i64 0]) (by simp [results, Try.results41, go_sem, r0, r1, r2, hp5]) rfl ?_
  rw [HR.out]
  exact ⟨⟨o, c, o', c', rfl, ((((F5.out.setBelow (a := ⟨w.heap.size + 1, 0, none⟩) (by simp) _).setBelow (a := ⟨w.heap.size + 1, 1, none⟩) (by simp) _).setBelow (a := ⟨w.heap.size + 1, 2, none⟩) (by simp) _).later (below1 _ _)).wide (by omega) (by simp), ((((N5.out.setBelow (a := ⟨w.heap.size + 1, 0, none⟩) (by simp) _).setBelow (a := ⟨w.heap.size + 1, 1, none⟩) (by simp) _).setBelow (a := ⟨w.heap.size + 1, 2, none⟩) (by simp) _).later (below1 _ _)).wide (by omega) (by simp)⟩, Below.allocS (((hB5.setCell (p := ⟨w.heap.size + 1, 0, none⟩) (by simp) _).setCell (p := ⟨w.heap.size + 1, 1, none⟩) (by simp) _).setCell (p := ⟨w.heap.size + 1, 2, none⟩) (by simp) _) _⟩

set_option maxRecDepth 10000 in
set_option maxHeartbeats 8000000 in
theorem specLeaveR_any (s1 s2 : Int) (ao : Option Addr) (cap : Nat) (l : List (Int × Int)) (iv : Int) (w : World) (hl : l.length ≤ 1048576) (hno : ao = none → cap = 0) (hz : kN.In w.heap.size w ao l) :
    Calls Try.prog 40 #[.agg #[.int .i64 s1, .int .i64 s2, .slice ao l.length cap], .int .i64 iv] w fun e w' => AnsR w (leaveR s1 s2 l iv) e w' := by
  obtain ⟨W2, hW2⟩ : ∃ W2, W2 = (w.alloc (.cells #[.int .i64 s1, .int .i64 s2, .slice ao l.length cap] 46)).alloc (.cells #[.int .i64 0, .int .i64 0, .slice none 0 0] 46) := ⟨_, rfl⟩
  have hB2 : Below w.heap.size w W2 := by rw [hW2]; exact below2 _ _ _
  have A2 : Bx W2 w.heap.size [.int .i64 s1, .int .i64 s2, .slice ao l.length cap] := by rw [hW2]; exact (Bx.new [.int .i64 s1, .int .i64 s2, .slice ao l.length cap] _ rfl).alloc _
  have R2 : Bx W2 (w.heap.size + 1) [.int .i64 0, .int .i64 0, .slice none 0 0] := by rw [hW2]; exact Bx.new [.int .i64 0, .int .i64 0, .slice none 0 0] _ (by simp)
  have HW := hid hW2
  have HS : Hid (W2.heap.size = w.heap.size + 1 + 1) := by rw [hW2]; simp [Hid]
  clear hW2
  cases hg : roomB s1 s2 l
  · have HG := hid hg
    have HR := hid (leaveR_bad (t := iv) hg)
    clear hg
    go_enter Try.func40, Try.ntmps40
    go_wp2_with fail
    rw [← HW.out]
    refine (specGoodRoom_is s1 s2 ao cap l W2 false hl (hz.later hB2) HG.out).mono ?_
    rintro e w1 ⟨rfl, hb1⟩
    have hB1 := hB2.trans (hb1.mono hB2.size)
    have A1 := A2.later hb1
    have R1 := R2.later hb1
    have hs1 : w.heap.size + 1 + 1 ≤ w1.heap.size := by have := hb1.size; rw [HS.out] at this; exact this
    clear hb1 A2 R2
    have r0 := R1.c 0 rfl
    have rf0 := R1.f 0 rfl
    have r1 := R1.c 1 rfl
    have rf1 := R1.f 1 rfl
    have r2 := R1.c 2 rfl
    have rf2 := R1.f 2 rfl
    go_wp2
    refine bodyPost_ret (v := .tuple #[.agg #[.int .i64 0, .int .i64 0, .slice none 0 0], .slice none 0 0, .int .i64 2]) (by simp [results, Try.results40, go_sem, r0, r1, r2]) rfl ?_
    rw [HR.out]
    exact ⟨⟨none, 0, none, 0, rfl, .inl rfl, .inl rfl⟩, (((hB1.setCell (p := ⟨w.heap.size + 1, 0, none⟩) (by simp) _).setCell (p := ⟨w.heap.size + 1, 1, none⟩) (by simp) _).setCell (p := ⟨w.heap.size + 1, 2, none⟩) (by simp) _)⟩
  have HG := hid hg
  obtain ⟨g1, g2, g3, g4⟩ := roomB_good hg
  obtain ⟨q1, q2, q3, q4⟩ := sizesB_ok g1
  have HMM := hid (outN_many (t := iv) g2)
  have HL30 : Hid ((outN l iv).length ≤ 30) := Nat.le_trans (outN_len l iv) (roomB_len hg)
  have HND := hid (lineB_nodup g3)
  clear g1 g2 g3 g4
  cases hi : taskB iv
  · have HI := hid hi
    have HR := hid (leaveR_task (s1 := s1) (s2 := s2) (l := l) hi)
    clear hg hi
    go_enter Try.func40, Try.ntmps40
    go_wp2_with fail
    rw [← HW.out]
    refine (specGoodRoom_is s1 s2 ao cap l W2 true hl (hz.later hB2) HG.out).mono ?_
    rintro e w1 ⟨rfl, hb1⟩
    have hB1 := hB2.trans (hb1.mono hB2.size)
    have A1 := A2.later hb1
    have R1 := R2.later hb1
    have hs1 : w.heap.size + 1 + 1 ≤ w1.heap.size := by have := hb1.size; rw [HS.out] at this; exact this
    clear hb1 A2 R2
    go_wp2_with fail
    refine (l3Task_is iv _ false HI.out).mono ?_
    rintro e w2 ⟨rfl, hw2⟩
    rw [hw2]
    clear hw2 w2
    have r0 := R1.c 0 rfl
    have rf0 := R1.f 0 rfl
    have r1 := R1.c 1 rfl
    have rf1 := R1.f 1 rfl
    have r2 := R1.c 2 rfl
    have rf2 := R1.f 2 rfl
    go_wp2
    refine bodyPost_ret (v := .tuple #[.agg #[.int .i64 0, .int .i64 0, .slice none 0 0], .slice none 0 0, .int .i64 2]) (by simp [results, Try.results40, go_sem, r0, r1, r2]) rfl ?_
    rw [HR.out]
    exact ⟨⟨none, 0, none, 0, rfl, .inl rfl, .inl rfl⟩, (((hB1.setCell (p := ⟨w.heap.size + 1, 0, none⟩) (by simp) _).setCell (p := ⟨w.heap.size + 1, 1, none⟩) (by simp) _).setCell (p := ⟨w.heap.size + 1, 2, none⟩) (by simp) _)⟩
  have HI := hid hi
  cases hm : hasB (tasksOf l) iv
  · have HM := hid hm
    have HR := hid (leaveR_none hg hi hm)
    clear hg hi hm
    go_enter Try.func40, Try.ntmps40
    go_wp2_with fail
    rw [← HW.out]
    refine (specGoodRoom_is s1 s2 ao cap l W2 true hl (hz.later hB2) HG.out).mono ?_
    rintro e w1 ⟨rfl, hb1⟩
    have hB1 := hB2.trans (hb1.mono hB2.size)
    have A1 := A2.later hb1
    have R1 := R2.later hb1
    have hs1 : w.heap.size + 1 + 1 ≤ w1.heap.size := by have := hb1.size; rw [HS.out] at this; exact this
    clear hb1 A2 R2
    go_wp2_with fail
    refine (l3Task_is iv _ true HI.out).mono ?_
    rintro e w2 ⟨rfl, hw2⟩
    rw [hw2]
    clear hw2 w2
    have a0 := A1.c 0 rfl
    have af0 := A1.f 0 rfl
    have a1 := A1.c 1 rfl
    have af1 := A1.f 1 rfl
    have a2 := A1.c 2 rfl
    have af2 := A1.f 2 rfl
    go_wp2_with fail
    refine (l5Own_any s1 s2 ao cap l w1 hl hno (hz.later hB1)).mono ?_
    rintro e w2 ⟨⟨g, c, rfl, hF, _⟩, hb⟩
    have A3 := A1.later hb
    have R3 := R1.later hb
    have hB3 := hB1.trans (hb.mono hB1.size)
    have hs3 := hb.size
    have HF : Hid (kN.Fresh (w.heap.size + 1 + 1) w2.heap.size w2 (some ⟨g, 0, none⟩) c l) := hF.wide hs1 (Nat.le_refl _)
    have hgc := hF.cap
    clear hb hF a0 a1 a2 af0 af1 af2 A1 R1
    have a0 := A3.c 0 rfl
    have af0 := A3.f 0 rfl
    have a1 := A3.c 1 rfl
    have af1 := A3.f 1 rfl
    have a2 := A3.c 2 rfl
    have af2 := A3.f 2 rfl
    have r0 := R3.c 0 rfl
    have rf0 := R3.f 0 rfl
    have r1 := R3.c 1 rfl
    have rf1 := R3.f 1 rfl
    have r2 := R3.c 2 rfl
    have rf2 := R3.f 2 rfl
    have A4 : Bx (((w2.setCell ⟨w.heap.size, 0, none⟩ (.int .i64 s1)).setCell ⟨w.heap.size, 1, none⟩ (.int .i64 s2)).setCell ⟨w.heap.size, 2, none⟩ (.slice (some ⟨g, 0, none⟩) l.length c)) w.heap.size [.int .i64 s1, .int .i64 s2, .slice (some ⟨g, 0, none⟩) l.length c] := ((A3.set 0 _).set 1 _).set 2 _
    have y0 := A4.c 0 rfl
    have y1 := A4.c 1 rfl
    have y2 := A4.c 2 rfl
    go_wp2_with fail
    obtain ⟨V, hV⟩ : ∃ V, V = (((w2.setCell ⟨w.heap.size, 0, none⟩ (.int .i64 s1)).setCell ⟨w.heap.size, 1, none⟩ (.int .i64 s2)).setCell ⟨w.heap.size, 2, none⟩ (.slice (some ⟨g, 0, none⟩) l.length c)) := ⟨_, rfl⟩
    have hB4 : Below w.heap.size w V := by rw [hV]; exact (((hB3.setCell (p := ⟨w.heap.size, 0, none⟩) (by simp) _).setCell (p := ⟨w.heap.size, 1, none⟩) (by simp) _).setCell (p := ⟨w.heap.size, 2, none⟩) (by simp) _)
    have A5 : Bx V w.heap.size [.int .i64 s1, .int .i64 s2, .slice (some ⟨g, 0, none⟩) l.length c] := by rw [hV]; exact A4
    have R4 : Bx V (w.heap.size + 1) [.int .i64 0, .int .i64 0, .slice none 0 0] := by rw [hV]; exact ((R3.other (by simp) _).other (by simp) _).other (by simp) _
    have F4 : Hid (kN.Fresh (w.heap.size + 1 + 1) V.heap.size V (some ⟨g, 0, none⟩) c l) := by rw [hV]; exact (((HF.out.setBelow (a := ⟨w.heap.size, 0, none⟩) (by simp; omega) _).setBelow (a := ⟨w.heap.size, 1, none⟩) (by simp; omega) _).setBelow (a := ⟨w.heap.size, 2, none⟩) (by simp; omega) _).wide (Nat.le_refl _) (by simp)
    have hs4 : w.heap.size + 1 + 1 ≤ V.heap.size := by rw [hV]; simp; omega
    rw [← hV]
    clear hV y0 y1 y2 A4 A3 R3 HF r0 r1 r2 rf0 rf1 rf2 a0 a1 a2 af0 af1 af2
    refine (l5Waits_is s1 s2 (some ⟨g, 0, none⟩) c l iv V false hl F4.out.in HM.out).mono ?_
    rintro e w4 ⟨rfl, hb4⟩
    have A6 := A5.later hb4
    have R6 := R4.later hb4
    have F6 := hid ((F4.out.later hb4).wide (Nat.le_refl _) hb4.size)
    have hB6 := hB4.trans (hb4.mono hB4.size)
    have hs6 := Nat.le_trans hs4 hb4.size
    clear hb4 A5 R4 F4 hB4 hs4
    have a0 := A6.c 0 rfl
    have af0 := A6.f 0 rfl
    have a1 := A6.c 1 rfl
    have af1 := A6.f 1 rfl
    have a2 := A6.c 2 rfl
    have af2 := A6.f 2 rfl
    have r0 := R6.c 0 rfl
    have rf0 := R6.f 0 rfl
    have r1 := R6.c 1 rfl
    have rf1 := R6.f 1 rfl
    have r2 := R6.c 2 rfl
    have rf2 := R6.f 2 rfl
    go_wp2
    refine bodyPost_ret (v := .tuple #[.agg #[.int .i64 s1, .int .i64 s2, .slice (some ⟨g, 0, none⟩) l.length c], .slice none 0 0, .int .i64 3]) (by simp [results, Try.results40, go_sem, r0, r1, r2]) rfl ?_
    rw [HR.out]
    exact ⟨⟨_, c, none, 0, rfl, (((F6.out.setBelow (a := ⟨w.heap.size + 1, 0, none⟩) (by simp) _).setBelow (a := ⟨w.heap.size + 1, 1, none⟩) (by simp) _).setBelow (a := ⟨w.heap.size + 1, 2, none⟩) (by simp) _).wide (by omega) (by simp), .inl rfl⟩, (((hB6.setCell (p := ⟨w.heap.size + 1, 0, none⟩) (by simp) _).setCell (p := ⟨w.heap.size + 1, 1, none⟩) (by simp) _).setCell (p := ⟨w.heap.size + 1, 2, none⟩) (by simp) _)⟩
  have HM := hid hm
  obtain ⟨⟨U1, L1, L2⟩, eR⟩ : ∃ r, letR s1 s2 (outN l iv) = r := ⟨_, rfl⟩
  have HLR := hid eR
  have HR : Hid (leaveR s1 s2 l iv = (s1, U1, L1, L2, 0)) := by rw [Hid, leaveR_done hg hi hm, eR]
  clear hg hi hm eR
  go_enter Try.func40, Try.ntmps40
  go_wp2_with fail
  rw [← HW.out]
  refine (specGoodRoom_is s1 s2 ao cap l W2 true hl (hz.later hB2) HG.out).mono ?_
  rintro e w1 ⟨rfl, hb1⟩
  have hB1 := hB2.trans (hb1.mono hB2.size)
  have A1 := A2.later hb1
  have R1 := R2.later hb1
  have hs1 : w.heap.size + 1 + 1 ≤ w1.heap.size := by have := hb1.size; rw [HS.out] at this; exact this
  clear hb1 A2 R2
  go_wp2_with fail
  refine (l3Task_is iv _ true HI.out).mono ?_
  rintro e w2 ⟨rfl, hw2⟩
  rw [hw2]
  clear hw2 w2
  have a0 := A1.c 0 rfl
  have af0 := A1.f 0 rfl
  have a1 := A1.c 1 rfl
  have af1 := A1.f 1 rfl
  have a2 := A1.c 2 rfl
  have af2 := A1.f 2 rfl
  go_wp2_with fail
  refine (l5Own_any s1 s2 ao cap l w1 hl hno (hz.later hB1)).mono ?_
  rintro e w2 ⟨⟨g, c, rfl, hF, _⟩, hb⟩
  have A3 := A1.later hb
  have R3 := R1.later hb
  have hB3 := hB1.trans (hb.mono hB1.size)
  have hs3 := hb.size
  have HF : Hid (kN.Fresh (w.heap.size + 1 + 1) w2.heap.size w2 (some ⟨g, 0, none⟩) c l) := hF.wide hs1 (Nat.le_refl _)
  have hgc := hF.cap
  clear hb hF a0 a1 a2 af0 af1 af2 A1 R1
  have a0 := A3.c 0 rfl
  have af0 := A3.f 0 rfl
  have a1 := A3.c 1 rfl
  have af1 := A3.f 1 rfl
  have a2 := A3.c 2 rfl
  have af2 := A3.f 2 rfl
  have r0 := R3.c 0 rfl
  have rf0 := R3.f 0 rfl
  have r1 := R3.c 1 rfl
  have rf1 := R3.f 1 rfl
  have r2 := R3.c 2 rfl
  have rf2 := R3.f 2 rfl
  have A4 : Bx (((w2.setCell ⟨w.heap.size, 0, none⟩ (.int .i64 s1)).setCell ⟨w.heap.size, 1, none⟩ (.int .i64 s2)).setCell ⟨w.heap.size, 2, none⟩ (.slice (some ⟨g, 0, none⟩) l.length c)) w.heap.size [.int .i64 s1, .int .i64 s2, .slice (some ⟨g, 0, none⟩) l.length c] := ((A3.set 0 _).set 1 _).set 2 _
  have y0 := A4.c 0 rfl
  have y1 := A4.c 1 rfl
  have y2 := A4.c 2 rfl
  go_wp2_with fail
  obtain ⟨V, hV⟩ : ∃ V, V = (((w2.setCell ⟨w.heap.size, 0, none⟩ (.int .i64 s1)).setCell ⟨w.heap.size, 1, none⟩ (.int .i64 s2)).setCell ⟨w.heap.size, 2, none⟩ (.slice (some ⟨g, 0, none⟩) l.length c)) := ⟨_, rfl⟩
  have hB4 : Below w.heap.size w V := by rw [hV]; exact (((hB3.setCell (p := ⟨w.heap.size, 0, none⟩) (by simp) _).setCell (p := ⟨w.heap.size, 1, none⟩) (by simp) _).setCell (p := ⟨w.heap.size, 2, none⟩) (by simp) _)
  have A5 : Bx V w.heap.size [.int .i64 s1, .int .i64 s2, .slice (some ⟨g, 0, none⟩) l.length c] := by rw [hV]; exact A4
  have R4 : Bx V (w.heap.size + 1) [.int .i64 0, .int .i64 0, .slice none 0 0] := by rw [hV]; exact ((R3.other (by simp) _).other (by simp) _).other (by simp) _
  have F4 : Hid (kN.Fresh (w.heap.size + 1 + 1) V.heap.size V (some ⟨g, 0, none⟩) c l) := by rw [hV]; exact (((HF.out.setBelow (a := ⟨w.heap.size, 0, none⟩) (by simp; omega) _).setBelow (a := ⟨w.heap.size, 1, none⟩) (by simp; omega) _).setBelow (a := ⟨w.heap.size, 2, none⟩) (by simp; omega) _).wide (Nat.le_refl _) (by simp)
  have hs4 : w.heap.size + 1 + 1 ≤ V.heap.size := by rw [hV]; simp; omega
  rw [← hV]
  clear hV y0 y1 y2 A4 A3 R3 HF r0 r1 r2 rf0 rf1 rf2 a0 a1 a2 af0 af1 af2
  refine (l5Waits_is s1 s2 (some ⟨g, 0, none⟩) c l iv V true hl F4.out.in HM.out).mono ?_
  rintro e w4 ⟨rfl, hb4⟩
  have A6 := A5.later hb4
  have R6 := R4.later hb4
  have F6 := hid ((F4.out.later hb4).wide (Nat.le_refl _) hb4.size)
  have hB6 := hB4.trans (hb4.mono hB4.size)
  have hs6 := Nat.le_trans hs4 hb4.size
  clear hb4 A5 R4 F4 hB4 hs4
  have a0 := A6.c 0 rfl
  have af0 := A6.f 0 rfl
  have a1 := A6.c 1 rfl
  have af1 := A6.f 1 rfl
  have a2 := A6.c 2 rfl
  have af2 := A6.f 2 rfl
  go_wp2
  go_loopw [7, 29] (fun z i wr => ∃ (k : Nat) (v : Value), v = z ∧ k ≤ l.length ∧ i = .int .i64 k ∧ Hid (kN.Own w4.heap.size wr v (outN (l.take k) iv)) ∧ Hid (Bx wr w.heap.size [.int .i64 s1, .int .i64 s2, .slice (some ⟨g, 0, none⟩) l.length c]) ∧ Hid (Bx wr (w.heap.size + 1) [.int .i64 0, .int .i64 0, .slice none 0 0]) ∧ Below w4.heap.size w4 wr) (fun _ i _ => l.length - (intOf i).toNat)
  case atStart => exact ⟨0, _, rfl, Nat.zero_le _, rfl, Kind.Own.nil kN _ _, hid A6, hid R6, Below.refl _ _⟩
  case round =>
    obtain ⟨k, v, rfl, hk, rfl, hO, hA, hR, hb⟩ := hrel
    have hB := hB6.trans (hb.mono hB6.size)
    have hsz := Nat.le_trans hs6 hb.size
    by_cases hlt : k < l.length
    · obtain ⟨g', eg, hg1, hg2, hg3, _⟩ := F6.out.at (by omega)
      cases eg
      obtain ⟨b, off, eb, hb0, hc⟩ := kN_at F6.out.in hlt
      cases eb
      have d1 := (hb.cell (p := ⟨g, 0 + k * 2, none⟩) hb0).trans (hc k hlt).1
      have d2 := (hb.cell (p := ⟨g, 0 + k * 2 + 1, none⟩) hb0).trans (hc k hlt).2
      rw [Nat.zero_add] at d1 d2
      obtain ⟨⟨y1, y2⟩, ey⟩ : ∃ v, v = el l k := ⟨_, rfl⟩
      rw [← ey] at d1 d2
      have HY : Hid (el l k = (y1, y2)) := ey.symm
      have hgw : g < wr.heap.size := Nat.lt_of_lt_of_le hb0 hb.size
      clear ey hc
      dsimp only at d1 d2
      have HSN : Hid (outN (l.take (k + 1)) iv = if y1 = iv then outN (l.take k) iv else outN (l.take k) iv ++ [(y1, y2)]) := by rw [Hid, take_succ_el hlt, outN_snoc, HY.out]
      have hn1 := below1 wr (.cells #[.int .i64 y1, .int .i64 y2] 54)
      by_cases he : y1 = iv
      · have he' : (y1 != iv) = false := by simpa using he
        have HE : Hid (outN (l.take (k + 1)) iv = outN (l.take k) iv) := by rw [Hid, HSN.out, if_pos he]
        have O2 : Hid (kN.Own w4.heap.size (wr.alloc (.cells #[.int .i64 y1, .int .i64 y2] 54)) v (outN (l.take (k + 1)) iv)) := by rw [Hid, HE.out]; exact hO.out.below hn1
        have X2 := hid (hA.out.later hn1)
        have R2 := hid (hR.out.later hn1)
        have hb2 := hb.trans (hn1.mono hb.size)
        clear he hn1
        go_wp2
        go_roundw
        case rel => exact ⟨k + 1, v, rfl, by omega, by go_num, O2, X2, R2, hb2⟩
        case measure => simp [intOf]; omega
      · have he' : (y1 != iv) = true := by simpa using he
        have HE : Hid (outN (l.take (k + 1)) iv = outN (l.take k) iv ++ [(y1, y2)]) := by rw [Hid, HSN.out, if_neg he]
        have hn2 := below1 (wr.alloc (.cells #[.int .i64 y1, .int .i64 y2] 54)) (.cells #[.int .i64 y1, .int .i64 y2] 54)
        have HA : Hid (kN.Own w4.heap.size ((wr.alloc (.cells #[.int .i64 y1, .int .i64 y2] 54)).alloc (.cells #[.int .i64 y1, .int .i64 y2] 54)) v (outN (l.take k) iv)) := (hO.out.below hn1).below hn2
        have HN : Hid (kN.In (wr.heap.size + 1 + 1) ((wr.alloc (.cells #[.int .i64 y1, .int .i64 y2] 54)).alloc (.cells #[.int .i64 y1, .int .i64 y2] 54)) (some ⟨wr.heap.size + 1, 0, none⟩) [(y1, y2)]) := kN_one (by omega) (by simp) (by simp)
        have X2 := hid ((hA.out.later hn1).later hn2)
        have R2 := hid ((hR.out.later hn1).later hn2)
        have hb2 := (hb.trans (hn1.mono hb.size)).trans (hn2.mono (by simp; have := hb.size; omega))
        have hll : (outN (l.take k) iv).length + 1 ≤ 4194304 := by have := outN_len (l.take k) iv; simp at this; omega
        clear he hn1 hn2
        go_wp2_with (at_builtin; refine Kind.app kN_ok ((wr.alloc (.cells #[.int .i64 y1, .int .i64 y2] 54)).alloc (.cells #[.int .i64 y1, .int .i64 y2] 54)) rfl (.tmp 37) (.tmp 39) rfl w4.heap.size v (outN (l.take k) iv) rfl HA.out hb2.size (some ⟨wr.heap.size + 1, 0, none⟩) [(y1, y2)] 1 1 rfl rfl (by simp) _ HN.out hll ?_; intro v' w' hO' hB' hG' hn'; have O3 : Hid (kN.Own w4.heap.size w' v' (outN (l.take (k + 1)) iv)) := (by rw [Hid, HE.out]; exact hO'); have X3 := hid (X2.out.below hB' (by omega)); have R3 := hid (R2.out.below hB' (by omega)); have hb3 := hb2.trans hB'; clear hO' hB' hG' hn')
        go_roundw
        case rel => exact ⟨k + 1, v', rfl, by omega, by go_num, O3, X3, R3, hb3⟩
        case measure => simp [intOf]; omega
    · obtain rfl : k = l.length := by omega
      rw [List.take_length] at hO
      obtain ⟨no, nc, rfl, hnn, hN⟩ := hO.out.fresh
      have HNF := hid hN
      have hncap := hN.cap
      have HNN := hid hnn
      clear hN hnn
      have a0 := hA.out.c 0 rfl
      have a1 := hA.out.c 1 rfl
      have a2 := hA.out.c 2 rfl
      have af2 := hA.out.f 2 rfl
      obtain ⟨V, hV⟩ : ∃ V, V = wr.setCell ⟨w.heap.size, 2, none⟩ (.slice no (outN l iv).length nc) := ⟨_, rfl⟩
      have A8 : Bx V w.heap.size [.int .i64 s1, .int .i64 s2, .slice no (outN l iv).length nc] := by rw [hV]; exact hA.out.set 2 _
      have R4 : Bx V (w.heap.size + 1) [.int .i64 0, .int .i64 0, .slice none 0 0] := by rw [hV]; exact hR.out.other (by simp) _
      have hB4 : Below w.heap.size w V := by rw [hV]; exact hB.setCell (p := ⟨w.heap.size, 2, none⟩) (by simp) _
      have HI4 : Hid (kN.In V.heap.size V no (outN l iv)) := by rw [hV]; exact (HNF.out.setBelow (by simp; omega) _).in
      have hs4 : w.heap.size + 1 + 1 ≤ V.heap.size := by rw [hV]; simpa using hsz
      have y0 : (wr.setCell ⟨w.heap.size, 2, none⟩ (.slice no (outN l iv).length nc)).cell? ⟨w.heap.size, 0, none⟩ = some (.int .i64 s1) := by rw [← hV]; exact A8.c 0 rfl
      have y1 : (wr.setCell ⟨w.heap.size, 2, none⟩ (.slice no (outN l iv).length nc)).cell? ⟨w.heap.size, 1, none⟩ = some (.int .i64 s2) := by rw [← hV]; exact A8.c 1 rfl
      have y2 : (wr.setCell ⟨w.heap.size, 2, none⟩ (.slice no (outN l iv).length nc)).cell? ⟨w.heap.size, 2, none⟩ = some (.slice no (outN l iv).length nc) := by rw [← hV]; exact A8.c 2 rfl
      have HV := hid hV
      clear hV
      go_wp2_with fail
      rw [← HV.out]
      clear y0 y1 y2 a0 a1 a2 af2
      refine (l5Let_any s1 s2 no nc (outN l iv) _ HL30.out hncap HNN.out ⟨by omega, by omega⟩ ⟨by omega, by omega⟩ HMM.out HI4.out).mono ?_
      rintro e w5 ⟨⟨o, c5, o', c', rfl, hF5, hN5⟩, hb5⟩
      rw [HLR.out] at hF5 hN5 ⊢
      dsimp only at hF5 hN5 ⊢
      have hB5 := hB4.trans (hb5.mono hB4.size)
      have R5 := R4.later hb5
      have F5 : Hid (kN.Fresh (w.heap.size + 1 + 1) w5.heap.size w5 o c5 L1) := hF5.wide hs4 (Nat.le_refl _)
      have N5 : Hid (kI.Fresh (w.heap.size + 1 + 1) w5.heap.size w5 o' c' L2) := hN5.wide hs4 (Nat.le_refl _)
      clear hb5 hF5 hN5
      have r0 := R5.c 0 rfl
      have rf0 := R5.f 0 rfl
      have r1 := R5.c 1 rfl
      have rf1 := R5.f 1 rfl
      have r2 := R5.c 2 rfl
      have rf2 := R5.f 2 rfl
      go_wp2
      refine bodyPost_ret (v := .tuple #[.agg #[.int .i64 s1, .int .i64 U1, .slice o L1.length c5], .slice o' L2.length c', .int .i64 0]) (by simp [results, Try.results40, go_sem, r0, r1, r2]) rfl ?_
      rw [HR.out]
      exact ⟨⟨o, c5, o', c', rfl, (((F5.out.setBelow (a := ⟨w.heap.size + 1, 0, none⟩) (by simp) _).setBelow (a := ⟨w.heap.size + 1, 1, none⟩) (by simp) _).setBelow (a := ⟨w.heap.size + 1, 2, none⟩) (by simp) _).wide (by omega) (by simp), (((N5.out.setBelow (a := ⟨w.heap.size + 1, 0, none⟩) (by simp) _).setBelow (a := ⟨w.heap.size + 1, 1, none⟩) (by simp) _).setBelow (a := ⟨w.heap.size + 1, 2, none⟩) (by simp) _).wide (by omega) (by simp)⟩, (((hB5.setCell (p := ⟨w.heap.size + 1, 0, none⟩) (by simp) _).setCell (p := ⟨w.heap.size + 1, 1, none⟩) (by simp) _).setCell (p := ⟨w.heap.size + 1, 2, none⟩) (by simp) _)⟩
end Go.Proofs.Ytcdkdigafcfgmaa
