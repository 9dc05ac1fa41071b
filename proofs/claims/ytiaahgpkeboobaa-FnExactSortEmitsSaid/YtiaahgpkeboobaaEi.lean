
/- The program's closure that compares two emits. No conditions but those written. -/
import Derived.Test.YtiaahgpkeboobaaEo
import Derived.Shelf.SlSortCmp.QuietGrown
namespace Go.Proofs.Ytiaahgpkeboobaa
open Go.RowKit Go.Sort

theorem grown_refl (W : World) : ∃ q os, W = grow (W.drewN q) os := ⟨0, #[], by rw [grow_empty]; rfl⟩
theorem grown_trans {W V U : World} (h : ∃ q os, V = grow (W.drewN q) os) (k : ∃ q os, U = grow (V.drewN q) os) : ∃ q os, U = grow (W.drewN q) os := by
  obtain ⟨q, os, rfl⟩ := h
  obtain ⟨q', os', rfl⟩ := k
  exact ⟨q + q', os ++ os', by show grow (grow ((W.drewN q).drewN q') os) os' = _; rw [grow_grow, World.drewN_drewN]⟩
theorem grown_alloc (W : World) (o : Obj) : ∃ q os, W.alloc o = grow (W.drewN q) os := ⟨0, #[o], by rw [alloc_eq_grow]; rfl⟩
theorem grown_cell {W V : World} (h : ∃ q os, V = grow (W.drewN q) os) {a : Addr} {v : Value} (hb : a.block < W.heap.size) (hc : W.cell? a = some v) : V.cell? a = some v := by
  obtain ⟨q, os, rfl⟩ := h
  exact cell_grown hb hc q os
theorem grown_size {W V : World} (h : ∃ q os, V = grow (W.drewN q) os) : W.heap.size ≤ V.heap.size := by
  obtain ⟨q, os, rfl⟩ := h
  rw [size_grow]; exact Nat.le_add_right _ _
theorem isNaN_is (x : Int) (w : World) : Calls Try.prog 24 #[.int .i64 x] w fun e w' => e = .returned (.bool false) ∧ w' = w := by
  have h : (x != x) = false := by simp
  go_enter Try.func24, Try.ntmps24
  go_wp2
  go_ret
  exact ⟨rfl, rfl⟩
/-- Below 0, 0 or above 0. -/
def cmpI (x y : Int) : Int := if x < y then -1 else if y < x then 1 else 0
set_option maxHeartbeats 1000000 in
theorem compare_is (x y : Int) (w : World) : Calls Try.prog 21 #[.int .i64 x, .int .i64 y] w fun e w' => e = .returned (.int .i64 (cmpI x y)) ∧ w' = w := by
  rcases (show (x < y) ∨ (y < x) ∨ (x = y) from by omega) with h | h | h
  · have e : cmpI x y = -1 := by simp [cmpI, h]
    rw [e]
    have g1 : decide (x < y) = true := by simpa using h
    clear e h
    go_enter Try.func21, Try.ntmps21
    go_wp2_with (go_at_call 24; refine (isNaN_is _ _).mono ?_; rintro e w1 ⟨rfl, rfl⟩)
    go_ret
    exact ⟨rfl, rfl⟩
  · have e : cmpI x y = 1 := by rw [cmpI, if_neg (by omega), if_pos h]
    rw [e]
    have g1 : decide (x < y) = false := by simp; omega
    have g2 : decide (y < x) = true := by simpa using h
    clear e h
    go_enter Try.func21, Try.ntmps21
    go_wp2_with (go_at_call 24; refine (isNaN_is _ _).mono ?_; rintro e w1 ⟨rfl, rfl⟩)
    go_ret
    exact ⟨rfl, rfl⟩
  · have e : cmpI x y = 0 := by rw [cmpI, if_neg (by omega), if_neg (by omega)]
    rw [e]
    have g1 : decide (x < y) = false := by simp; omega
    have g2 : decide (y < x) = false := by simp; omega
    clear e h
    go_enter Try.func21, Try.ntmps21
    go_wp2_with (go_at_call 24; refine (isNaN_is _ _).mono ?_; rintro e w1 ⟨rfl, rfl⟩)
    go_ret
    exact ⟨rfl, rfl⟩
theorem byNode_is (x1 x2 : Int) (W : World) : Calls Try.prog 13 #[.agg #[.int .i64 x1, .int .i64 x2]] W fun e w' => e = .returned (.int .i64 x1) ∧ ∃ q os, w' = grow (W.drewN q) os := by
  go_enter Try.func13, Try.ntmps13
  go_wp2
  go_ret
  exact ⟨rfl, grown_alloc _ _⟩
theorem byValue_is (x1 x2 : Int) (W : World) : Calls Try.prog 14 #[.agg #[.int .i64 x1, .int .i64 x2]] W fun e w' => e = .returned (.int .i64 x2) ∧ ∃ q os, w' = grow (W.drewN q) os := by
  go_enter Try.func14, Try.ntmps14
  go_wp2
  go_ret
  exact ⟨rfl, grown_alloc _ _⟩
/-- By node, then by value. -/
def cmpE (x y : Int × Int) : Int := if cmpI x.1 y.1 = 0 then cmpI x.2 y.2 else cmpI x.1 y.1
theorem Calls.same_grown {f : FuncId} {args : Array Value} {W : World} {v : Value} (h : Calls Try.prog f args W fun e w' => e = .returned v ∧ w' = W) : Calls Try.prog f args W fun e w' => e = .returned v ∧ ∃ q os, w' = grow (W.drewN q) os :=
  h.mono fun _ _ ⟨he, hw⟩ => ⟨he, by rw [hw]; exact grown_refl W⟩
set_option maxHeartbeats 4000000 in
theorem cmpCl_any (x1 x2 y1 y2 : Int) (kb kr : Nat) (W : World) (hb : kb < W.heap.size) (hr : kr < W.heap.size) (hk : W.cell? ⟨kb, 0, none⟩ = some (.slice (some ⟨kr, 0, none⟩) 2 2)) (h0 : W.cell? ⟨kr, 0, none⟩ = some (.func (.func 13) #[] #[])) (h1 : W.cell? ⟨kr, 1, none⟩ = some (.func (.func 14) #[] #[])) :
    Calls Try.prog 20 #[.agg #[.int .i64 x1, .int .i64 x2], .agg #[.int .i64 y1, .int .i64 y2], .pointer (some ⟨kb, 0, none⟩)] W fun e w' => e = .returned (.int .i64 (cmpE (x1, x2) (y1, y2))) ∧ ∃ q os, w' = grow (W.drewN q) os := by
  obtain ⟨V, hV⟩ : ∃ V, V = (W.alloc (.cells #[.int .i64 x1, .int .i64 x2] 33)).alloc (.cells #[.int .i64 y1, .int .i64 y2] 33) := ⟨_, rfl⟩
  have hG : ∃ q os, V = grow (W.drewN q) os := by rw [hV]; exact grown_trans (grown_alloc _ _) (grown_alloc _ _)
  have XA : Hid (Bx V W.heap.size [.int .i64 x1, .int .i64 x2]) := by rw [hV]; exact (Bx.new [.int .i64 x1, .int .i64 x2] _ rfl).alloc _
  have XB : Hid (Bx V (W.heap.size + 1) [.int .i64 y1, .int .i64 y2]) := by rw [hV]; exact Bx.new [.int .i64 y1, .int .i64 y2] _ (by simp)
  have hsz : V.heap.size = W.heap.size + 1 + 1 := by rw [hV]; simp
  have k0 := grown_cell hG (a := ⟨kr, 0, none⟩) hr h0
  have k1 := grown_cell hG (a := ⟨kr, 1, none⟩) hr h1
  have kk := grown_cell hG (a := ⟨kb, 0, none⟩) hb hk
  have a0 := XA.out.c 0 rfl
  have a1 := XA.out.c 1 rfl
  have b0 := XB.out.c 0 rfl
  have b1 := XB.out.c 1 rfl
  have HV := hid hV
  have HG := hid hG
  have HSZ := hid hsz
  clear hV hG h0 h1 XA XB
  go_enter Try.func20, Try.ntmps20
  go_wp2
  rw [← HV.out]
  clear hk
  go_loopw [11] (fun i wr => ∃ k : Nat, i = .int .i64 (k : Int) ∧ k ≤ 2 ∧ Hid (1 ≤ k → cmpI x1 y1 = 0) ∧ Hid (2 ≤ k → cmpI x2 y2 = 0) ∧ Hid (∃ q os, wr = grow (V.drewN q) os)) (fun i _ => 2 - (intOf i).toNat)
  case atStart => exact ⟨0, rfl, by omega, fun h => by omega, fun h => by omega, grown_refl V⟩
  case round =>
    obtain ⟨k, rfl, hk, hc1, hc2, hw⟩ := hrel
    have r0 := grown_cell hw.out (a := ⟨kr, 0, none⟩) (by simp only [hsz]; omega) k0
    have r1 := grown_cell hw.out (a := ⟨kr, 1, none⟩) (by simp only [hsz]; omega) k1
    have rk := grown_cell hw.out (a := ⟨kb, 0, none⟩) (by simp only [hsz]; omega) kk
    have ra0 := cell_grown (a := ⟨W.heap.size, 0, none⟩) (by have := grown_size hw.out; simp only; omega) (grown_cell hw.out (a := ⟨W.heap.size, 0, none⟩) (by simp only [hsz]; omega) a0)
    have ra1 := cell_grown (a := ⟨W.heap.size, 1, none⟩) (by have := grown_size hw.out; simp only; omega) (grown_cell hw.out (a := ⟨W.heap.size, 1, none⟩) (by simp only [hsz]; omega) a1)
    have rb0 := cell_grown (a := ⟨W.heap.size + 1, 0, none⟩) (by have := grown_size hw.out; simp only; omega) (grown_cell hw.out (a := ⟨W.heap.size + 1, 0, none⟩) (by simp only [hsz]; omega) b0)
    have rb1 := cell_grown (a := ⟨W.heap.size + 1, 1, none⟩) (by have := grown_size hw.out; simp only; omega) (grown_cell hw.out (a := ⟨W.heap.size + 1, 1, none⟩) (by simp only [hsz]; omega) b1)
    have e1 := fun W' => Calls.same_grown (compare_is x1 y1 W')
    have e2 := fun W' => Calls.same_grown (compare_is x2 y2 W')
    clear hsz
    have mixed : Try.prog.follows .mixedOrders = true := by kernel_rfl
    rcases (show k = 0 ∨ k = 1 ∨ k = 2 from by omega) with h | h | h
    · have H := hid h
      have rc : wr.cell? ⟨kr, k, none⟩ = some (.func (.func 13) #[] #[]) := by rw [h]; exact r0
      have hlt : (k : Int) < 2 := by omega
      clear h r0 r1
      by_cases hz : cmpI x1 y1 = 0
      · have hz' : (cmpI x1 y1 != 0) = false := by simp [hz]
        have HZ := hid hz
        clear hz
        obtain ⟨d, hd⟩ : ∃ d, d = cmpI x1 y1 := ⟨_, rfl⟩
        rw [← hd] at hz' e1
        have HD := hid hd
        clear hd
        go_wp2_with fail
        go_quiet_grown (first | (go_at_call 13; exact Calls.grown_of (byNode_is _ _ _)) | (go_at_call 21; exact Calls.grown_of (e1 _)))
        have hw2 := hid (grown_trans hw.out ⟨nq, osq, rfl⟩)
        clear ra0 ra1 rb0 rb1
        go_wp2
        go_roundw
        case rel => exact ⟨k + 1, by go_num, by have := H.out; omega, fun _ => HZ.out, fun h => by have := H.out; omega, hw2⟩
        case measure => simp [intOf]; have := H.out; omega
      · have hz' : (cmpI x1 y1 != 0) = true := by simp [hz]
        have HZ := hid hz
        clear hz
        obtain ⟨d, hd⟩ : ∃ d, d = cmpI x1 y1 := ⟨_, rfl⟩
        rw [← hd] at hz' e1
        have HD := hid hd
        clear hd
        go_wp2_with fail
        go_quiet_grown (first | (go_at_call 13; exact Calls.grown_of (byNode_is _ _ _)) | (go_at_call 21; exact Calls.grown_of (e1 _)))
        have hw2 := hid (grown_trans hw.out ⟨nq, osq, rfl⟩)
        clear ra0 ra1 rb0 rb1
        go_wp2
        go_ret
        exact ⟨ret_int (by rw [HD.out, cmpE]; exact (if_neg HZ.out).symm), grown_trans HG.out hw2.out⟩
    · have H := hid h
      have rc : wr.cell? ⟨kr, k, none⟩ = some (.func (.func 14) #[] #[]) := by rw [h]; exact r1
      have hlt : (k : Int) < 2 := by omega
      clear h r0 r1
      by_cases hz : cmpI x2 y2 = 0
      · have hz' : (cmpI x2 y2 != 0) = false := by simp [hz]
        have HZ := hid hz
        clear hz
        obtain ⟨d, hd⟩ : ∃ d, d = cmpI x2 y2 := ⟨_, rfl⟩
        rw [← hd] at hz' e2
        have HD := hid hd
        clear hd
        go_wp2_with fail
        go_quiet_grown (first | (go_at_call 14; exact Calls.grown_of (byValue_is _ _ _)) | (go_at_call 21; exact Calls.grown_of (e2 _)))
        have hw2 := hid (grown_trans hw.out ⟨nq, osq, rfl⟩)
        clear ra0 ra1 rb0 rb1
        go_wp2
        go_roundw
        case rel => exact ⟨k + 1, by go_num, by have := H.out; omega, fun _ => hc1.out (by have := H.out; omega), fun h => HZ.out, hw2⟩
        case measure => simp [intOf]; have := H.out; omega
      · have hz' : (cmpI x2 y2 != 0) = true := by simp [hz]
        have HZ := hid hz
        clear hz
        obtain ⟨d, hd⟩ : ∃ d, d = cmpI x2 y2 := ⟨_, rfl⟩
        rw [← hd] at hz' e2
        have HD := hid hd
        clear hd
        go_wp2_with fail
        go_quiet_grown (first | (go_at_call 14; exact Calls.grown_of (byValue_is _ _ _)) | (go_at_call 21; exact Calls.grown_of (e2 _)))
        have hw2 := hid (grown_trans hw.out ⟨nq, osq, rfl⟩)
        clear ra0 ra1 rb0 rb1
        go_wp2
        go_ret
        exact ⟨ret_int (by rw [HD.out, cmpE]; exact (if_pos (hc1.out (by have := H.out; omega))).symm), grown_trans HG.out hw2.out⟩
    · have H := hid h
      have hlt : ¬ (k : Int) < 2 := by omega
      clear h
      go_wp2
      go_ret
      exact ⟨ret_int (by rw [cmpE]; dsimp only; rw [if_pos (hc1.out (by have := H.out; omega)), hc2.out (by have := H.out; omega)]), grown_trans HG.out hw.out⟩
end Go.Proofs.Ytiaahgpkeboobaa
