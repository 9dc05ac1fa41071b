
/- ApplyChain of the program. No conditions but those written. -/
import Derived.Test.YtnjnnilmelmmgaaTa
namespace Go.Proofs.Ytnjnnilmelmmgaa
open Go.RowKit

theorem chGood_long {l : List (Int × Int × Int)} (h : 8 < l.length) : chGood l = false := by
  simp [chGood]; omega
theorem chGood_bad {l : List (Int × Int × Int)} {k : Nat} (hk : k < l.length) (h : goodG (el l k) = false) : chGood l = false := by
  rcases hc : chGood l with _ | _
  · rfl
  · have := (chGood_all hc).2 _ (el_mem hk)
    rw [h] at this; cases this
theorem chGood_yes {l : List (Int × Int × Int)} (h8 : l.length ≤ 8) (h : ∀ j, j < l.length → goodG (el l j) = true) : chGood l = true := by
  rw [chGood, Bool.and_eq_true]
  refine ⟨by simpa using h8, List.all_eq_true.2 fun x hx => ?_⟩
  obtain ⟨j, hj, rfl⟩ := mem_el hx
  exact h j hj
set_option maxHeartbeats 4000000 in
theorem goodChain_is (ao : Option Addr) (cap : Nat) (l : List (Int × Int × Int)) (w : World) (r : Bool) (hl : l.length ≤ 1048576) (hz : kG.In w.heap.size w ao l) (hr : chGood l = r) :
    Calls Try.prog 45 #[.slice ao l.length cap] w fun e w' => e = .returned (.bool r) ∧ Below w.heap.size w w' := by
  have HR := hid hr
  clear hr
  by_cases h8 : 8 < l.length
  · have h8' : decide ((8 : Int) < (l.length : Int)) = true := by simp; omega
    have HC := hid (chGood_long h8)
    clear h8
    go_enter Try.func45, Try.ntmps45
    go_wp2
    go_ret
    exact ⟨ret_bool (by rw [← HR.out, HC.out]), Below.refl _ _⟩
  · have h8' : decide ((8 : Int) < (l.length : Int)) = false := by simp; omega
    have h88 : l.length ≤ 8 := by omega
    clear h8
    go_enter Try.func45, Try.ntmps45
    go_wp2
    go_loopw [10] (fun i wr => ∃ k : Nat, k ≤ l.length ∧ i = .int .i64 k ∧ Below w.heap.size w wr ∧ Hid (∀ j, j < k → goodG (el l j) = true)) (fun i _ => l.length - (intOf i).toNat)
    case atStart => exact ⟨0, Nat.zero_le _, rfl, Below.refl _ _, fun j hj => by omega⟩
    case round =>
      obtain ⟨k, hk, rfl, hB, hno⟩ := hrel
      by_cases hlt : k < l.length
      · obtain ⟨bb, off, rfl, hbb, hc⟩ := kG_at hz hlt
        have d1 := (hB.cell (p := ⟨bb, off + k * 3, none⟩) hbb).trans (hc k hlt).1
        have d2 := (hB.cell (p := ⟨bb, off + k * 3 + 1, none⟩) hbb).trans (hc k hlt).2.1
        have d3 := (hB.cell (p := ⟨bb, off + k * 3 + 2, none⟩) hbb).trans (hc k hlt).2.2
        obtain ⟨⟨y1, y2, y3⟩, ey⟩ : ∃ v, v = el l k := ⟨_, rfl⟩
        rw [← ey] at d1 d2 d3
        have HY : Hid (el l k = (y1, y2, y3)) := ey.symm
        clear ey hc
        dsimp only at d1 d2 d3
        rcases hg : goodSt y1 y2 y3 with _ | _
        · have HG := hid hg
          clear hg
          go_wp2_with fail
          refine (implGood_is y1 y2 y3 _ _ HG.out).mono ?_
          rintro e w1 ⟨rfl, hb1⟩
          have hB1 := (Below.allocS hB (.cells #[.int .i64 y1, .int .i64 y2, .int .i64 y3] 25)).trans (hb1.mono (Below.allocS hB _).size)
          clear hb1
          go_wp2
          go_ret
          exact ⟨ret_bool (by rw [← HR.out, chGood_bad hlt (by rw [HY.out]; exact HG.out)]), hB1⟩
        · have HG := hid hg
          clear hg
          go_wp2_with fail
          refine (implGood_is y1 y2 y3 _ _ HG.out).mono ?_
          rintro e w1 ⟨rfl, hb1⟩
          have hB1 := (Below.allocS hB (.cells #[.int .i64 y1, .int .i64 y2, .int .i64 y3] 25)).trans (hb1.mono (Below.allocS hB _).size)
          clear hb1
          go_wp2
          go_roundw
          case rel => exact ⟨k + 1, by omega, by go_num, hB1, fun j hj => by
            rcases Nat.lt_succ_iff_lt_or_eq.1 hj with h | rfl
            · exact hno.out j h
            · rw [HY.out]; exact HG.out⟩
          case measure => simp [intOf]; omega
      · obtain rfl : k = l.length := by omega
        go_wp2
        go_ret
        exact ⟨ret_bool (by rw [← HR.out, chGood_yes h88 hno.out]), hB⟩
/-- One stage over many values. -/
def allR (s : Int × Int × Int) (vs : List Int) : List Int × Bool := if failsAt s vs then ([], true) else (outs s vs, false)
theorem allR_yes {s : Int × Int × Int} {vs : List Int} (h : failsAt s vs = true) : allR s vs = ([], true) := by simp [allR, h]
theorem allR_no {s : Int × Int × Int} {vs : List Int} (h : failsAt s vs = false) : allR s vs = (outs s vs, false) := by simp [allR, h]
set_option maxHeartbeats 8000000 in
theorem all1_any (a b : Int) (ao : Option Addr) (cap : Nat) (vs : List Int) (w : World) (hl : vs.length ≤ 100000) (hz : kI.In w.heap.size w ao vs) (hg : goodSt 1 a b = true) (hv : ∀ x ∈ vs, valB x = true) :
    Calls Try.prog 46 #[.agg #[.int .i64 1, .int .i64 a, .int .i64 b], .slice ao vs.length cap] w (AnsA w (allR (1, a, b) vs)) := by
  have HG := hid hg
  have HV := hid hv
  clear hg hv
  go_enter Try.func46, Try.ntmps46
  go_wp2_with fail
  refine (goodKind1_true a b _ HG.out).mono ?_
  rintro e w1 ⟨rfl, hb1⟩
  have hB1 := Below.allocS ((below1 w (.cells #[.int .i64 1, .int .i64 a, .int .i64 b] 25)).trans (hb1.mono (by simp))) (.cells #[.func (.func 65) #[] #[], .func (.func 66) #[] #[], .func (.func 67) #[] #[]] 65)
  have XS := hid (((Bx.new (w := w) (p := w.heap.size) [.int .i64 1, .int .i64 a, .int .i64 b] 25 rfl).later hb1).alloc (.cells #[.func (.func 65) #[] #[], .func (.func 66) #[] #[], .func (.func 67) #[] #[]] 65))
  have XK := hid (Bx.new (w := w1) (p := w1.heap.size) [.func (.func 65) #[] #[], .func (.func 66) #[] #[], .func (.func 67) #[] #[]] 65 rfl)
  have hz1 : w.heap.size + 1 ≤ w1.heap.size := by have := hb1.size; simpa using this
  clear hb1
  go_wp2
  go_loopw [8, 20] (fun u i wr => ∃ (k : Nat) (v' : Value), v' = u ∧ k ≤ vs.length ∧ i = .int .i64 k ∧ Hid (kI.Own (w1.heap.size + 1) wr v' (outs (1, a, b) (vs.take k))) ∧ Hid (Bx wr w.heap.size [.int .i64 1, .int .i64 a, .int .i64 b]) ∧ Hid (Bx wr w1.heap.size [.func (.func 65) #[] #[], .func (.func 66) #[] #[], .func (.func 67) #[] #[]]) ∧ Below w.heap.size w wr ∧ w1.heap.size + 1 ≤ wr.heap.size ∧ Hid (∀ j, j < k → (appSt 1 a b (el vs j)).2 = false)) (fun _ i _ => vs.length - (intOf i).toNat)
  case atStart => exact ⟨0, _, rfl, Nat.zero_le _, rfl, Kind.Own.nil _ _ _, XS, XK, hB1, by simp, fun j hj => by omega⟩
  case round =>
    obtain ⟨k, u, rfl, hk, rfl, hO, hS, hK, hB, hs, hno⟩ := hrel
    by_cases hlt : k < vs.length
    · obtain ⟨bb, off, rfl, hbb, hc⟩ := ints_at hz hlt
      have d1 := (hB.cell (p := ⟨bb, off + k, none⟩) hbb).trans (hc k hlt)
      clear hc
      obtain ⟨x, hx⟩ : ∃ x, x = el vs k := ⟨_, rfl⟩
      rw [← hx] at d1
      have HX := hid hx
      have hvx : Hid (valB x = true) := (by rw [Hid, hx]; exact HV.out _ (el_mem hlt))
      clear hx
      have s0 := hS.out.c 0 rfl
      have s1 := hS.out.c 1 rfl
      have s2 := hS.out.c 2 rfl
      have k0 := hK.out.c 0 rfl
      have k1 := hK.out.c 1 rfl
      have k2 := hK.out.c 2 rfl
      go_wp2_with fail
      clear s0 s1 s2 k0 k1 k2
      refine (mapOne_is a b x _ HG.out hvx.out).mono ?_
      rintro e w2 ⟨⟨o, c, rfl, h0, hF⟩, hb2⟩
      have hll3 : (appSt 1 a b x).1.length ≤ 3 := appSt_len HG.out
      generalize hr : appSt 1 a b x = r at hF hll3
      have HR := hid hr
      clear hr
      obtain ⟨r0, r1⟩ := r
      dsimp only at hF hll3 ⊢
      have hB2 := hB.trans (hb2.mono hB.size)
      have hs2 : w1.heap.size + 1 ≤ w2.heap.size := Nat.le_trans hs hb2.size
      have hS2 := hid (hS.out.later hb2)
      have hK2 := hid (hK.out.later hb2)
      have hO2 := hid (hO.out.below hb2)
      have HF := hid hF.in
      have H0 := hid h0
      clear hF hb2 h0 hO hS hK
      cases r1 with
      | true =>
        go_wp2
        refine bodyPost_ret (v := .tuple #[.slice none 0 0, .bool true]) (by simp [results, Try.results46, go_sem]) rfl ?_
        rw [allR_yes (fails_yes (s := (1, a, b)) hlt (by dsimp only; rw [← HX.out, HR.out]))]
        exact ansA_nil hB2
      | false =>
        have hll : (outs (1, a, b) (vs.take k)).length + r0.length ≤ 4194304 := by
          have := outs_len (s := (1, a, b)) HG.out (vs.take k)
          simp at this; omega
        go_wp2_with (at_builtin; refine Kind.app kI_ok w2 rfl (.tmp 33) (.tmp 34) rfl (w1.heap.size + 1) u (outs (1, a, b) (vs.take k)) rfl hO2.out hs2 o r0 r0.length c rfl rfl H0.out _ HF.out hll ?_; intro v' w' hO' hB' hG' hn'; have hB3 : Below w.heap.size w w' := hB2.trans (hB'.mono (by omega)); have hs3 : w1.heap.size + 1 ≤ w'.heap.size := (by have := hB'.size; omega); have HS3 := hid (hS2.out.below hB' (by omega)); have HK3 := hid (hK2.out.below hB' (by omega)); have HO' : Hid (kI.Own (w1.heap.size + 1) w' v' (outs (1, a, b) (vs.take (k + 1)))) := (by rw [Hid, outs_take _ hlt, ← HX.out]; dsimp only; rw [HR.out]; exact hO'); clear hO' hB' hG' hn')
        go_roundw
        case rel => exact ⟨k + 1, v', rfl, by omega, by go_num, HO', HS3, HK3, hB3, hs3, fun j hj => by
          rcases Nat.lt_succ_iff_lt_or_eq.1 hj with h | rfl
          · exact hno.out j h
          · rw [← HX.out, HR.out]⟩
        case measure => simp [intOf]; omega
    · obtain rfl : k = vs.length := by omega
      rw [List.take_length] at hO
      obtain ⟨qo, qc, rfl, hq0, hF⟩ := hO.out.fresh
      have HF : Hid (kI.Fresh w.heap.size wr.heap.size wr qo qc (outs (1, a, b) vs)) := hF.wide (by omega) (Nat.le_refl _)
      have HQ := hid hq0
      clear hF hO hq0
      go_wp2
      refine bodyPost_ret (v := .tuple #[.slice qo (outs (1, a, b) vs).length qc, .bool false]) (by simp [results, Try.results46, go_sem]) rfl ?_
      rw [allR_no (fails_no hno.out)]
      exact ⟨⟨_, _, rfl, HQ.out, HF.out⟩, hB⟩
set_option maxHeartbeats 8000000 in
theorem all2_any (a b : Int) (ao : Option Addr) (cap : Nat) (vs : List Int) (w : World) (hl : vs.length ≤ 100000) (hz : kI.In w.heap.size w ao vs) (hg : goodSt 2 a b = true) (hv : ∀ x ∈ vs, valB x = true) :
    Calls Try.prog 46 #[.agg #[.int .i64 2, .int .i64 a, .int .i64 b], .slice ao vs.length cap] w (AnsA w (allR (2, a, b) vs)) := by
  have HG := hid hg
  have HV := hid hv
  clear hg hv
  go_enter Try.func46, Try.ntmps46
  go_wp2_with fail
  refine (goodKind2_true a b _ HG.out).mono ?_
  rintro e w1 ⟨rfl, hb1⟩
  have hB1 := Below.allocS ((below1 w (.cells #[.int .i64 2, .int .i64 a, .int .i64 b] 25)).trans (hb1.mono (by simp))) (.cells #[.func (.func 68) #[] #[], .func (.func 69) #[] #[], .func (.func 67) #[] #[]] 65)
  have XS := hid (((Bx.new (w := w) (p := w.heap.size) [.int .i64 2, .int .i64 a, .int .i64 b] 25 rfl).later hb1).alloc (.cells #[.func (.func 68) #[] #[], .func (.func 69) #[] #[], .func (.func 67) #[] #[]] 65))
  have XK := hid (Bx.new (w := w1) (p := w1.heap.size) [.func (.func 68) #[] #[], .func (.func 69) #[] #[], .func (.func 67) #[] #[]] 65 rfl)
  have hz1 : w.heap.size + 1 ≤ w1.heap.size := by have := hb1.size; simpa using this
  clear hb1
  go_wp2
  go_loopw [8, 20] (fun u i wr => ∃ (k : Nat) (v' : Value), v' = u ∧ k ≤ vs.length ∧ i = .int .i64 k ∧ Hid (kI.Own (w1.heap.size + 1) wr v' (outs (2, a, b) (vs.take k))) ∧ Hid (Bx wr w.heap.size [.int .i64 2, .int .i64 a, .int .i64 b]) ∧ Hid (Bx wr w1.heap.size [.func (.func 68) #[] #[], .func (.func 69) #[] #[], .func (.func 67) #[] #[]]) ∧ Below w.heap.size w wr ∧ w1.heap.size + 1 ≤ wr.heap.size ∧ Hid (∀ j, j < k → (appSt 2 a b (el vs j)).2 = false)) (fun _ i _ => vs.length - (intOf i).toNat)
  case atStart => exact ⟨0, _, rfl, Nat.zero_le _, rfl, Kind.Own.nil _ _ _, XS, XK, hB1, by simp, fun j hj => by omega⟩
  case round =>
    obtain ⟨k, u, rfl, hk, rfl, hO, hS, hK, hB, hs, hno⟩ := hrel
    by_cases hlt : k < vs.length
    · obtain ⟨bb, off, rfl, hbb, hc⟩ := ints_at hz hlt
      have d1 := (hB.cell (p := ⟨bb, off + k, none⟩) hbb).trans (hc k hlt)
      clear hc
      obtain ⟨x, hx⟩ : ∃ x, x = el vs k := ⟨_, rfl⟩
      rw [← hx] at d1
      have HX := hid hx
      have hvx : Hid (valB x = true) := (by rw [Hid, hx]; exact HV.out _ (el_mem hlt))
      clear hx
      have s0 := hS.out.c 0 rfl
      have s1 := hS.out.c 1 rfl
      have s2 := hS.out.c 2 rfl
      have k0 := hK.out.c 0 rfl
      have k1 := hK.out.c 1 rfl
      have k2 := hK.out.c 2 rfl
      go_wp2_with fail
      clear s0 s1 s2 k0 k1 k2
      refine (filterOne_is a b x _ HG.out).mono ?_
      rintro e w2 ⟨⟨o, c, rfl, h0, hF⟩, hb2⟩
      have hll3 : (appSt 2 a b x).1.length ≤ 3 := appSt_len HG.out
      generalize hr : appSt 2 a b x = r at hF hll3
      have HR := hid hr
      clear hr
      obtain ⟨r0, r1⟩ := r
      dsimp only at hF hll3 ⊢
      have hB2 := hB.trans (hb2.mono hB.size)
      have hs2 : w1.heap.size + 1 ≤ w2.heap.size := Nat.le_trans hs hb2.size
      have hS2 := hid (hS.out.later hb2)
      have hK2 := hid (hK.out.later hb2)
      have hO2 := hid (hO.out.below hb2)
      have HF := hid hF.in
      have H0 := hid h0
      clear hF hb2 h0 hO hS hK
      cases r1 with
      | true =>
        go_wp2
        refine bodyPost_ret (v := .tuple #[.slice none 0 0, .bool true]) (by simp [results, Try.results46, go_sem]) rfl ?_
        rw [allR_yes (fails_yes (s := (2, a, b)) hlt (by dsimp only; rw [← HX.out, HR.out]))]
        exact ansA_nil hB2
      | false =>
        have hll : (outs (2, a, b) (vs.take k)).length + r0.length ≤ 4194304 := by
          have := outs_len (s := (2, a, b)) HG.out (vs.take k)
          simp at this; omega
        go_wp2_with (at_builtin; refine Kind.app kI_ok w2 rfl (.tmp 33) (.tmp 34) rfl (w1.heap.size + 1) u (outs (2, a, b) (vs.take k)) rfl hO2.out hs2 o r0 r0.length c rfl rfl H0.out _ HF.out hll ?_; intro v' w' hO' hB' hG' hn'; have hB3 : Below w.heap.size w w' := hB2.trans (hB'.mono (by omega)); have hs3 : w1.heap.size + 1 ≤ w'.heap.size := (by have := hB'.size; omega); have HS3 := hid (hS2.out.below hB' (by omega)); have HK3 := hid (hK2.out.below hB' (by omega)); have HO' : Hid (kI.Own (w1.heap.size + 1) w' v' (outs (2, a, b) (vs.take (k + 1)))) := (by rw [Hid, outs_take _ hlt, ← HX.out]; dsimp only; rw [HR.out]; exact hO'); clear hO' hB' hG' hn')
        go_roundw
        case rel => exact ⟨k + 1, v', rfl, by omega, by go_num, HO', HS3, HK3, hB3, hs3, fun j hj => by
          rcases Nat.lt_succ_iff_lt_or_eq.1 hj with h | rfl
          · exact hno.out j h
          · rw [← HX.out, HR.out]⟩
        case measure => simp [intOf]; omega
    · obtain rfl : k = vs.length := by omega
      rw [List.take_length] at hO
      obtain ⟨qo, qc, rfl, hq0, hF⟩ := hO.out.fresh
      have HF : Hid (kI.Fresh w.heap.size wr.heap.size wr qo qc (outs (2, a, b) vs)) := hF.wide (by omega) (Nat.le_refl _)
      have HQ := hid hq0
      clear hF hO hq0
      go_wp2
      refine bodyPost_ret (v := .tuple #[.slice qo (outs (2, a, b) vs).length qc, .bool false]) (by simp [results, Try.results46, go_sem]) rfl ?_
      rw [allR_no (fails_no hno.out)]
      exact ⟨⟨_, _, rfl, HQ.out, HF.out⟩, hB⟩
set_option maxHeartbeats 8000000 in
theorem all3_any (a b : Int) (ao : Option Addr) (cap : Nat) (vs : List Int) (w : World) (hl : vs.length ≤ 100000) (hz : kI.In w.heap.size w ao vs) (hg : goodSt 3 a b = true) (hv : ∀ x ∈ vs, valB x = true) :
    Calls Try.prog 46 #[.agg #[.int .i64 3, .int .i64 a, .int .i64 b], .slice ao vs.length cap] w (AnsA w (allR (3, a, b) vs)) := by
  have HG := hid hg
  have HV := hid hv
  clear hg hv
  go_enter Try.func46, Try.ntmps46
  go_wp2_with fail
  refine (goodKind3_true a b _ HG.out).mono ?_
  rintro e w1 ⟨rfl, hb1⟩
  have hB1 := Below.allocS ((below1 w (.cells #[.int .i64 3, .int .i64 a, .int .i64 b] 25)).trans (hb1.mono (by simp))) (.cells #[.func (.func 70) #[] #[], .func (.func 71) #[] #[], .func (.func 72) #[] #[]] 65)
  have XS := hid (((Bx.new (w := w) (p := w.heap.size) [.int .i64 3, .int .i64 a, .int .i64 b] 25 rfl).later hb1).alloc (.cells #[.func (.func 70) #[] #[], .func (.func 71) #[] #[], .func (.func 72) #[] #[]] 65))
  have XK := hid (Bx.new (w := w1) (p := w1.heap.size) [.func (.func 70) #[] #[], .func (.func 71) #[] #[], .func (.func 72) #[] #[]] 65 rfl)
  have hz1 : w.heap.size + 1 ≤ w1.heap.size := by have := hb1.size; simpa using this
  clear hb1
  go_wp2
  go_loopw [8, 20] (fun u i wr => ∃ (k : Nat) (v' : Value), v' = u ∧ k ≤ vs.length ∧ i = .int .i64 k ∧ Hid (kI.Own (w1.heap.size + 1) wr v' (outs (3, a, b) (vs.take k))) ∧ Hid (Bx wr w.heap.size [.int .i64 3, .int .i64 a, .int .i64 b]) ∧ Hid (Bx wr w1.heap.size [.func (.func 70) #[] #[], .func (.func 71) #[] #[], .func (.func 72) #[] #[]]) ∧ Below w.heap.size w wr ∧ w1.heap.size + 1 ≤ wr.heap.size ∧ Hid (∀ j, j < k → (appSt 3 a b (el vs j)).2 = false)) (fun _ i _ => vs.length - (intOf i).toNat)
  case atStart => exact ⟨0, _, rfl, Nat.zero_le _, rfl, Kind.Own.nil _ _ _, XS, XK, hB1, by simp, fun j hj => by omega⟩
  case round =>
    obtain ⟨k, u, rfl, hk, rfl, hO, hS, hK, hB, hs, hno⟩ := hrel
    by_cases hlt : k < vs.length
    · obtain ⟨bb, off, rfl, hbb, hc⟩ := ints_at hz hlt
      have d1 := (hB.cell (p := ⟨bb, off + k, none⟩) hbb).trans (hc k hlt)
      clear hc
      obtain ⟨x, hx⟩ : ∃ x, x = el vs k := ⟨_, rfl⟩
      rw [← hx] at d1
      have HX := hid hx
      have hvx : Hid (valB x = true) := (by rw [Hid, hx]; exact HV.out _ (el_mem hlt))
      clear hx
      have s0 := hS.out.c 0 rfl
      have s1 := hS.out.c 1 rfl
      have s2 := hS.out.c 2 rfl
      have k0 := hK.out.c 0 rfl
      have k1 := hK.out.c 1 rfl
      have k2 := hK.out.c 2 rfl
      go_wp2_with fail
      clear s0 s1 s2 k0 k1 k2
      refine (expandOne_is a b x _ HG.out hvx.out).mono ?_
      rintro e w2 ⟨⟨o, c, rfl, h0, hF⟩, hb2⟩
      have hll3 : (appSt 3 a b x).1.length ≤ 3 := appSt_len HG.out
      generalize hr : appSt 3 a b x = r at hF hll3
      have HR := hid hr
      clear hr
      obtain ⟨r0, r1⟩ := r
      dsimp only at hF hll3 ⊢
      have hB2 := hB.trans (hb2.mono hB.size)
      have hs2 : w1.heap.size + 1 ≤ w2.heap.size := Nat.le_trans hs hb2.size
      have hS2 := hid (hS.out.later hb2)
      have hK2 := hid (hK.out.later hb2)
      have hO2 := hid (hO.out.below hb2)
      have HF := hid hF.in
      have H0 := hid h0
      clear hF hb2 h0 hO hS hK
      cases r1 with
      | true =>
        go_wp2
        refine bodyPost_ret (v := .tuple #[.slice none 0 0, .bool true]) (by simp [results, Try.results46, go_sem]) rfl ?_
        rw [allR_yes (fails_yes (s := (3, a, b)) hlt (by dsimp only; rw [← HX.out, HR.out]))]
        exact ansA_nil hB2
      | false =>
        have hll : (outs (3, a, b) (vs.take k)).length + r0.length ≤ 4194304 := by
          have := outs_len (s := (3, a, b)) HG.out (vs.take k)
          simp at this; omega
        go_wp2_with (at_builtin; refine Kind.app kI_ok w2 rfl (.tmp 33) (.tmp 34) rfl (w1.heap.size + 1) u (outs (3, a, b) (vs.take k)) rfl hO2.out hs2 o r0 r0.length c rfl rfl H0.out _ HF.out hll ?_; intro v' w' hO' hB' hG' hn'; have hB3 : Below w.heap.size w w' := hB2.trans (hB'.mono (by omega)); have hs3 : w1.heap.size + 1 ≤ w'.heap.size := (by have := hB'.size; omega); have HS3 := hid (hS2.out.below hB' (by omega)); have HK3 := hid (hK2.out.below hB' (by omega)); have HO' : Hid (kI.Own (w1.heap.size + 1) w' v' (outs (3, a, b) (vs.take (k + 1)))) := (by rw [Hid, outs_take _ hlt, ← HX.out]; dsimp only; rw [HR.out]; exact hO'); clear hO' hB' hG' hn')
        go_roundw
        case rel => exact ⟨k + 1, v', rfl, by omega, by go_num, HO', HS3, HK3, hB3, hs3, fun j hj => by
          rcases Nat.lt_succ_iff_lt_or_eq.1 hj with h | rfl
          · exact hno.out j h
          · rw [← HX.out, HR.out]⟩
        case measure => simp [intOf]; omega
    · obtain rfl : k = vs.length := by omega
      rw [List.take_length] at hO
      obtain ⟨qo, qc, rfl, hq0, hF⟩ := hO.out.fresh
      have HF : Hid (kI.Fresh w.heap.size wr.heap.size wr qo qc (outs (3, a, b) vs)) := hF.wide (by omega) (Nat.le_refl _)
      have HQ := hid hq0
      clear hF hO hq0
      go_wp2
      refine bodyPost_ret (v := .tuple #[.slice qo (outs (3, a, b) vs).length qc, .bool false]) (by simp [results, Try.results46, go_sem]) rfl ?_
      rw [allR_no (fails_no hno.out)]
      exact ⟨⟨_, _, rfl, HQ.out, HF.out⟩, hB⟩
set_option maxHeartbeats 8000000 in
theorem all4_any (a b : Int) (ao : Option Addr) (cap : Nat) (vs : List Int) (w : World) (hl : vs.length ≤ 100000) (hz : kI.In w.heap.size w ao vs) (hg : goodSt 4 a b = true) (hv : ∀ x ∈ vs, valB x = true) :
    Calls Try.prog 46 #[.agg #[.int .i64 4, .int .i64 a, .int .i64 b], .slice ao vs.length cap] w (AnsA w (allR (4, a, b) vs)) := by
  have HG := hid hg
  have HV := hid hv
  clear hg hv
  go_enter Try.func46, Try.ntmps46
  go_wp2_with fail
  refine (goodKind4_true a b _ HG.out).mono ?_
  rintro e w1 ⟨rfl, hb1⟩
  have hB1 := Below.allocS ((below1 w (.cells #[.int .i64 4, .int .i64 a, .int .i64 b] 25)).trans (hb1.mono (by simp))) (.cells #[.func (.func 68) #[] #[], .func (.func 73) #[] #[], .func (.func 67) #[] #[]] 65)
  have XS := hid (((Bx.new (w := w) (p := w.heap.size) [.int .i64 4, .int .i64 a, .int .i64 b] 25 rfl).later hb1).alloc (.cells #[.func (.func 68) #[] #[], .func (.func 73) #[] #[], .func (.func 67) #[] #[]] 65))
  have XK := hid (Bx.new (w := w1) (p := w1.heap.size) [.func (.func 68) #[] #[], .func (.func 73) #[] #[], .func (.func 67) #[] #[]] 65 rfl)
  have hz1 : w.heap.size + 1 ≤ w1.heap.size := by have := hb1.size; simpa using this
  clear hb1
  go_wp2
  go_loopw [8, 20] (fun u i wr => ∃ (k : Nat) (v' : Value), v' = u ∧ k ≤ vs.length ∧ i = .int .i64 k ∧ Hid (kI.Own (w1.heap.size + 1) wr v' (outs (4, a, b) (vs.take k))) ∧ Hid (Bx wr w.heap.size [.int .i64 4, .int .i64 a, .int .i64 b]) ∧ Hid (Bx wr w1.heap.size [.func (.func 68) #[] #[], .func (.func 73) #[] #[], .func (.func 67) #[] #[]]) ∧ Below w.heap.size w wr ∧ w1.heap.size + 1 ≤ wr.heap.size ∧ Hid (∀ j, j < k → (appSt 4 a b (el vs j)).2 = false)) (fun _ i _ => vs.length - (intOf i).toNat)
  case atStart => exact ⟨0, _, rfl, Nat.zero_le _, rfl, Kind.Own.nil _ _ _, XS, XK, hB1, by simp, fun j hj => by omega⟩
  case round =>
    obtain ⟨k, u, rfl, hk, rfl, hO, hS, hK, hB, hs, hno⟩ := hrel
    by_cases hlt : k < vs.length
    · obtain ⟨bb, off, rfl, hbb, hc⟩ := ints_at hz hlt
      have d1 := (hB.cell (p := ⟨bb, off + k, none⟩) hbb).trans (hc k hlt)
      clear hc
      obtain ⟨x, hx⟩ : ∃ x, x = el vs k := ⟨_, rfl⟩
      rw [← hx] at d1
      have HX := hid hx
      have hvx : Hid (valB x = true) := (by rw [Hid, hx]; exact HV.out _ (el_mem hlt))
      clear hx
      have s0 := hS.out.c 0 rfl
      have s1 := hS.out.c 1 rfl
      have s2 := hS.out.c 2 rfl
      have k0 := hK.out.c 0 rfl
      have k1 := hK.out.c 1 rfl
      have k2 := hK.out.c 2 rfl
      go_wp2_with fail
      clear s0 s1 s2 k0 k1 k2
      refine (poisonOne_is a b x _ HG.out).mono ?_
      rintro e w2 ⟨⟨o, c, rfl, h0, hF⟩, hb2⟩
      have hll3 : (appSt 4 a b x).1.length ≤ 3 := appSt_len HG.out
      generalize hr : appSt 4 a b x = r at hF hll3
      have HR := hid hr
      clear hr
      obtain ⟨r0, r1⟩ := r
      dsimp only at hF hll3 ⊢
      have hB2 := hB.trans (hb2.mono hB.size)
      have hs2 : w1.heap.size + 1 ≤ w2.heap.size := Nat.le_trans hs hb2.size
      have hS2 := hid (hS.out.later hb2)
      have hK2 := hid (hK.out.later hb2)
      have hO2 := hid (hO.out.below hb2)
      have HF := hid hF.in
      have H0 := hid h0
      clear hF hb2 h0 hO hS hK
      cases r1 with
      | true =>
        go_wp2
        refine bodyPost_ret (v := .tuple #[.slice none 0 0, .bool true]) (by simp [results, Try.results46, go_sem]) rfl ?_
        rw [allR_yes (fails_yes (s := (4, a, b)) hlt (by dsimp only; rw [← HX.out, HR.out]))]
        exact ansA_nil hB2
      | false =>
        have hll : (outs (4, a, b) (vs.take k)).length + r0.length ≤ 4194304 := by
          have := outs_len (s := (4, a, b)) HG.out (vs.take k)
          simp at this; omega
        go_wp2_with (at_builtin; refine Kind.app kI_ok w2 rfl (.tmp 33) (.tmp 34) rfl (w1.heap.size + 1) u (outs (4, a, b) (vs.take k)) rfl hO2.out hs2 o r0 r0.length c rfl rfl H0.out _ HF.out hll ?_; intro v' w' hO' hB' hG' hn'; have hB3 : Below w.heap.size w w' := hB2.trans (hB'.mono (by omega)); have hs3 : w1.heap.size + 1 ≤ w'.heap.size := (by have := hB'.size; omega); have HS3 := hid (hS2.out.below hB' (by omega)); have HK3 := hid (hK2.out.below hB' (by omega)); have HO' : Hid (kI.Own (w1.heap.size + 1) w' v' (outs (4, a, b) (vs.take (k + 1)))) := (by rw [Hid, outs_take _ hlt, ← HX.out]; dsimp only; rw [HR.out]; exact hO'); clear hO' hB' hG' hn')
        go_roundw
        case rel => exact ⟨k + 1, v', rfl, by omega, by go_num, HO', HS3, HK3, hB3, hs3, fun j hj => by
          rcases Nat.lt_succ_iff_lt_or_eq.1 hj with h | rfl
          · exact hno.out j h
          · rw [← HX.out, HR.out]⟩
        case measure => simp [intOf]; omega
    · obtain rfl : k = vs.length := by omega
      rw [List.take_length] at hO
      obtain ⟨qo, qc, rfl, hq0, hF⟩ := hO.out.fresh
      have HF : Hid (kI.Fresh w.heap.size wr.heap.size wr qo qc (outs (4, a, b) vs)) := hF.wide (by omega) (Nat.le_refl _)
      have HQ := hid hq0
      clear hF hO hq0
      go_wp2
      refine bodyPost_ret (v := .tuple #[.slice qo (outs (4, a, b) vs).length qc, .bool false]) (by simp [results, Try.results46, go_sem]) rfl ?_
      rw [allR_no (fails_no hno.out)]
      exact ⟨⟨_, _, rfl, HQ.out, HF.out⟩, hB⟩
theorem all_any (k a b : Int) (ao : Option Addr) (cap : Nat) (vs : List Int) (w : World) (hl : vs.length ≤ 100000) (hz : kI.In w.heap.size w ao vs) (hg : goodSt k a b = true) (hv : ∀ x ∈ vs, valB x = true) :
    Calls Try.prog 46 #[.agg #[.int .i64 k, .int .i64 a, .int .i64 b], .slice ao vs.length cap] w (AnsA w (allR (k, a, b) vs)) := by
  rcases good_kind hg with rfl | rfl | rfl | rfl
  · exact all1_any a b ao cap vs w hl hz hg hv
  · exact all2_any a b ao cap vs w hl hz hg hv
  · exact all3_any a b ao cap vs w hl hz hg hv
  · exact all4_any a b ao cap vs w hl hz hg hv
end Go.Proofs.Ytnjnnilmelmmgaa
