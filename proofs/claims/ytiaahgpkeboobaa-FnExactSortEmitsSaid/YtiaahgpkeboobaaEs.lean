
/- The specification's sort of emits. No conditions but those written. -/
import Derived.Test.YtiaahgpkeboobaaEo
namespace Go.Proofs.Ytiaahgpkeboobaa
open Go.RowKit

set_option maxHeartbeats 1000000 in
theorem l11Less_is (a1 a2 b1 b2 : Int) (w : World) : Calls Try.prog 17 #[.agg #[.int .i64 a1, .int .i64 a2], .agg #[.int .i64 b1, .int .i64 b2]] w fun e w' => e = .returned (.bool (ltE (a1, a2) (b1, b2))) ∧ Below w.heap.size w w' := by
  by_cases h1 : a1 < b1
  · have g1 : decide (a1 < b1) = true := by simpa using h1
    have e : ltE (a1, a2) (b1, b2) = true := by simp [ltE, h1]
    rw [e]
    clear e h1
    go_enter Try.func17, Try.ntmps17
    go_wp2
    go_ret
    exact ⟨rfl, below2 _ _ _⟩
  · have g1 : decide (a1 < b1) = false := by simpa using h1
    by_cases h2 : a1 = b1
    · have g2 : (a1 == b1) = true := by simpa using h2
      have e : ltE (a1, a2) (b1, b2) = decide (a2 < b2) := by simp [ltE, h2]
      rw [e]
      clear e h1 h2
      go_enter Try.func17, Try.ntmps17
      go_wp2
      go_ret
      exact ⟨rfl, below2 _ _ _⟩
    · have g2 : (a1 == b1) = false := by simpa using h2
      have e : ltE (a1, a2) (b1, b2) = false := by simp [ltE, h2, h1]
      rw [e]
      clear e h1 h2
      go_enter Try.func17, Try.ntmps17
      go_wp2
      go_ret
      exact ⟨rfl, below2 _ _ _⟩
/-- A row of emits of its own. -/
def AnsE (w : World) (r : List (Int × Int)) (e : Ending) (w' : World) : Prop := ∃ o c, e = .returned (.slice o r.length c) ∧ kE.Fresh w.heap.size w'.heap.size w' o c r ∧ Below w.heap.size w w'
set_option maxRecDepth 10000 in
set_option maxHeartbeats 8000000 in
theorem l11Sort_any (ao : Option Addr) (cap : Nat) (ts : List (Int × Int)) (w : World) (hl : ts.length ≤ 1048576) (hz : kE.In w.heap.size w ao ts) (hwf : ao = none → cap = 0) :
    Calls Try.prog 11 #[.slice ao ts.length cap] w fun e w' => AnsE w (sortE ts) e w' := by
  have HE0 : Hid (kE.Own w.heap.size (w.alloc (.cells #[] kE.ty)) (.slice (some ⟨w.heap.size, 0, none⟩) 0 0) []) := Kind.Own.new kE _ w (Nat.le_refl _)
  have HZ0 : Hid (kE.In w.heap.size (w.alloc (.cells #[] kE.ty)) ao ts) := hz.below (below1 _ _)
  clear hz
  go_enter Try.func11, Try.ntmps11
  go_wp2_with (at_builtin; refine Kind.app kE_ok (w.alloc (.cells #[] kE.ty)) rfl (.tmp 7) (.tmp 8) rfl w.heap.size (.slice (some ⟨w.heap.size, 0, none⟩) 0 0) [] rfl HE0.out (by simp) ao ts ts.length cap rfl rfl hwf _ HZ0.out (by simp; omega) ?_; intro v w1 hO hB _ hn; obtain ⟨g, c, rfl, _⟩ := Kind.Own.some hO (hn some_ne); rw [List.nil_append] at hO ⊢; obtain ⟨go, gc, eg, _, hF⟩ := hO.fresh; obtain ⟨rfl, rfl⟩ : some ⟨g, 0, none⟩ = go ∧ c = gc := (by simp at eg; exact eg); have hB1 : Below w.heap.size w w1 := (below1 w _).trans hB; have H1 := hid hF; clear eg hO hn hB hF HE0 HZ0)
  go_loopw [12] (fun i wr => ∃ (k : Nat) (ys : List (Int × Int)), i = .int .i64 (k : Int) ∧ k ≤ ts.length ∧ ys.length = ts.length ∧ Hid (ys.Perm ts) ∧ Hid (SortTo ys k) ∧ Hid (kE.Fresh w.heap.size w1.heap.size wr (some ⟨g, 0, none⟩) c ys) ∧ Below w.heap.size w wr ∧ Hid (w1.heap.size ≤ wr.heap.size)) (fun i _ => ts.length - (intOf i).toNat)
  case atStart => exact ⟨0, ts, rfl, Nat.zero_le _, rfl, List.Perm.refl _, fun a b h1 h2 => by omega, H1, hB1, Nat.le_refl _⟩
  case round =>
    obtain ⟨k, ys, rfl, hk, hyl, hP, hS, hY, hBw, hsz⟩ := hrel
    by_cases hlt : k < ts.length
    · have HS := hid (sort_start hS.out)
      clear hS
      go_wp2
      go_loopw [5] (fun i wr => ∃ (j : Nat) (ys : List (Int × Int)), i = .int .i64 (j : Int) ∧ j ≤ k ∧ ys.length = ts.length ∧ Hid (ys.Perm ts) ∧ Hid (SortBut ys k j) ∧ Hid (kE.Fresh w.heap.size w1.heap.size wr (some ⟨g, 0, none⟩) c ys) ∧ Below w.heap.size w wr ∧ Hid (w1.heap.size ≤ wr.heap.size)) (fun i _ => (intOf i).toNat)
      case atStart => exact ⟨k, ys, rfl, Nat.le_refl _, hyl, hP, HS, hY, hBw, hsz⟩
      case round =>
        clear HS hP hY hBw hsz hyl ys
        obtain ⟨j, ys, rfl, hjk, hyl, hP, hS, hY, hBw, hsz⟩ := hrel
        rcases j with _ | m
        · have HT := hid (sort_stop0 hS.out)
          have h0 : decide ((0 : Int) < ((0 : Nat) : Int)) = false := by decide
          have hYd : Hid (∀ n, kE.Fresh w.heap.size w1.heap.size (wr.drewN n) (some ⟨g, 0, none⟩) c ys) := fun n => hY.out.keep fun _ _ _ _ => rfl
          clear hS
          go_wp2
          go_quiet (fail)
          go_wp2
          go_roundw
          case rel => exact ⟨k + 1, ys, by go_num, by omega, hyl, hP, HT, hid (hYd.out _), below_draws hBw _, hsz⟩
          case measure => simp [intOf]; omega
        · have hmy : m + 1 < ys.length := by omega
          have hm0 : m < ys.length := by omega
          obtain ⟨b0, off, eb, hb0, hc⟩ := kE_at hY.out.in hm0
          obtain ⟨rfl, rfl⟩ : g = b0 ∧ 0 = off := by simp at eb; exact ⟨eb.1, eb.2⟩
          have cm := hc m hm0
          have cj := hc (m + 1) hmy
          simp only [Nat.zero_add] at cm cj
          obtain ⟨⟨x1, x2⟩, hx⟩ : ∃ x, x = el ys (m + 1) := ⟨_, rfl⟩
          obtain ⟨⟨y1, y2⟩, hy⟩ : ∃ y, y = el ys m := ⟨_, rfl⟩
          rw [← hy] at cm
          rw [← hx] at cj
          dsimp only at cm cj
          have HX := hid hx
          have HYY := hid hy
          clear hc eb hx hy
          obtain ⟨j, hj⟩ : ∃ j : Nat, j = m + 1 := ⟨_, rfl⟩
          rw [← hj] at cj ⊢
          have hgt : 0 < j := by omega
          have HJ := hid hj
          have hjm : (j : Int) - 1 = (m : Int) := by omega
          have hjl : (j : Int) < (ts.length : Int) := by omega
          have hml : (m : Int) < (ts.length : Int) := by omega
          have q1 := Later.cell cj.1 hb0; have q2 := Later.cell cj.2 hb0; have q3 := Later.cell cm.1 hb0; have q4 := Later.cell cm.2 hb0
          have hNE := later_some wr
          clear hj
          rcases hc : ltE (x1, x2) (y1, y2) with _ | _
          · have HT := hid (sort_stop hS.out (by have := HJ.out; omega) (by rw [← HX.out, ← HYY.out]; exact hc))
            have HC := hid hc
            clear hS hc cm cj
            go_wp2_with fail
            refine wp_region_later wr (by kernel_rfl) (by kernel_rfl) (Below.refl _ _) ?_
            have hless : ∀ W : World, Calls Try.prog 17 #[.agg #[.int .i64 x1, .int .i64 x2], .agg #[.int .i64 y1, .int .i64 y2]] W fun e w' => e = .returned (.bool false) ∧ Below W.heap.size W w' := fun W => by have h := l11Less_is x1 x2 y1 y2 W; rw [HC.out] at h; exact h
            repeat (go_big_quiet_step (first | (go_at_call 17; exact Calls.later (hless _))))
            refine wpQuiet_nil ?_
            rintro w4 ⟨⟨w5, hb4⟩, hw5⟩
            obtain rfl : w4 = w5 := hw5
            have hB4 : Below w.heap.size w w4 := hBw.trans (hb4.mono hBw.size)
            have hs4 : Hid (w1.heap.size ≤ w4.heap.size) := Nat.le_trans hsz.out hb4.size
            have Y4 : Hid (kE.Fresh w.heap.size w1.heap.size w4 (some ⟨g, 0, none⟩) c ys) := hY.out.later hb4
            clear q1 q2 q3 q4 hNE hb4 hY hBw hsz hless
            go_wp2
            go_roundw
            case rel => exact ⟨k + 1, ys, by go_num, by omega, hyl, hP, HT, Y4, hB4, hs4⟩
            case measure => simp [intOf]; omega
          · have HT := hid (sort_swap hS.out (by have := HJ.out; omega) (by omega) (by rw [← HX.out, ← HYY.out]; exact hc))
            have HC := hid hc
            have HP2 := hid ((swapL_perm hmy).trans hP.out)
            have hl2 : (swapL ys m).length = ts.length := by rw [swapL_len]; exact hyl
            clear hS hc cm cj
            go_wp2_with fail
            refine wp_region_later wr (by kernel_rfl) (by kernel_rfl) (Below.refl _ _) ?_
            have hless : ∀ W : World, Calls Try.prog 17 #[.agg #[.int .i64 x1, .int .i64 x2], .agg #[.int .i64 y1, .int .i64 y2]] W fun e w' => e = .returned (.bool true) ∧ Below W.heap.size W w' := fun W => by have h := l11Less_is x1 x2 y1 y2 W; rw [HC.out] at h; exact h
            repeat (go_big_quiet_step (first | (go_at_call 17; exact Calls.later (hless _))))
            refine wpQuiet_nil ?_
            rintro w4 ⟨⟨w5, hb4⟩, hw5⟩
            obtain rfl : w4 = w5 := hw5
            have hB4 : Below w.heap.size w w4 := hBw.trans (hb4.mono hBw.size)
            have hs4 : Hid (w1.heap.size ≤ w4.heap.size) := Nat.le_trans hsz.out hb4.size
            have Y4 : Hid (kE.Fresh w.heap.size w1.heap.size w4 (some ⟨g, 0, none⟩) c ys) := hY.out.later hb4
            have c1 : w4.cell? ⟨g, j * 2, none⟩ = some (.int .i64 x1) := q1 ⟨w4, hb4⟩
            have c2 : w4.cell? ⟨g, j * 2 + 1, none⟩ = some (.int .i64 x2) := q2 ⟨w4, hb4⟩
            have c3 : w4.cell? ⟨g, m * 2, none⟩ = some (.int .i64 y1) := q3 ⟨w4, hb4⟩
            have c4 : w4.cell? ⟨g, m * 2 + 1, none⟩ = some (.int .i64 y2) := q4 ⟨w4, hb4⟩
            obtain ⟨g2, e2, hg1, hg2, hg3, ho⟩ := Y4.out.at (show 0 < ys.length by omega)
            obtain rfl : g = g2 := by simp at e2; exact e2
            have f1 : w4.frozen? ⟨g, j * 2, none⟩ = false := ho.frozenAt _
            have f2 : w4.frozen? ⟨g, j * 2 + 1, none⟩ = false := ho.frozenAt _
            have f3 : w4.frozen? ⟨g, m * 2, none⟩ = false := ho.frozenAt _
            have f4 : w4.frozen? ⟨g, m * 2 + 1, none⟩ = false := ho.frozenAt _
            have hne : j ≠ m := by have := HJ.out; omega
            have HG1 := hid hg1
            clear q1 q2 q3 q4 hNE hb4 hY hBw hsz hless ho e2 hg2 hg1
            go_wp2
            go_roundw
            case rel =>
              refine ⟨m, swapL ys m, by go_num, by have := HJ.out; omega, hl2, HP2, HT, ?_, ?_, ?_⟩
              · have h := kE_stored Y4.out hmy
                rw [← HX.out, ← HYY.out, ← HJ.out] at h
                exact hid (h.later (below1 _ _))
              · exact Below.allocS ((((hB4.setCell (p := ⟨g, j * 2, none⟩) HG1.out _).setCell (p := ⟨g, j * 2 + 1, none⟩) HG1.out _).setCell (p := ⟨g, m * 2, none⟩) HG1.out _).setCell (p := ⟨g, m * 2 + 1, none⟩) HG1.out _) _
              · have := hs4.out; unfold Hid; simp [World.setCell]; omega
            case measure => simp [intOf]; have := HJ.out; omega
    · obtain rfl : k = ts.length := by omega
      have HS2 : Hid (SortTo ys ys.length) := by rw [hyl]; exact hS
      go_wp2
      go_ret
      have e := sorted_all hP.out HS2.out
      refine ⟨_, _, by rw [sortE_len]; rfl, ?_, hBw⟩
      rw [← e]
      exact hY.out.wide (Nat.le_refl _) hsz.out
end Go.Proofs.Ytiaahgpkeboobaa
