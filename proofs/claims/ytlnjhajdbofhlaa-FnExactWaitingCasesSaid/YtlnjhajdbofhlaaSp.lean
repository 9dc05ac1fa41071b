
/- The library's sort of a short row of ints: the walks. No conditions but those written. -/
import Derived.Test.YtlnjhajdbofhlaaSo
import Derived.BigQuiet
namespace Go.Proofs.Ytlnjhajdbofhlaa
open Go.RowKit

theorem OnlyAt.drewS {ao : Option Addr} {w w' : World} (h : OnlyAt ao w w') (n : Nat) : OnlyAt ao w (w'.drewN n) := ⟨h.os, h.tape, h.output, h.size, h.block⟩
theorem isNaN_is (x : Int) (w : World) : Calls Try.prog 150 #[.int .i64 x] w fun e w' => e = .returned (.bool false) ∧ w' = w := by
  have h : (x != x) = false := by simp
  go_enter Try.func150, Try.ntmps150
  go_wp2
  go_ret
  exact ⟨rfl, rfl⟩
theorem less_is (x y : Int) (w : World) (b : Bool) (hb : decide (x < y) = b) : Calls Try.prog 138 #[.int .i64 x, .int .i64 y] w fun e w' => e = .returned (.bool b) ∧ w' = w := by
  have HB := hid hb
  clear hb
  go_enter Try.func138, Try.ntmps138
  go_wp2_with fail
  refine (isNaN_is x _).mono ?_
  rintro e w1 ⟨rfl, rfl⟩
  go_wp2
  go_ret
  exact ⟨ret_bool HB.out, rfl⟩
theorem kI_stored {lo hi : Nat} {W : World} {g c : Nat} {ys : List Int} (h : kI.Fresh lo hi W (some ⟨g, 0, none⟩) c ys) {m : Nat} (hm : m + 1 < ys.length) :
    kI.Fresh lo hi ((W.setCell ⟨g, m + 1, none⟩ (.int .i64 (el ys m))).setCell ⟨g, m, none⟩ (.int .i64 (el ys (m + 1)))) (some ⟨g, 0, none⟩) c (swapL ys m) := by
  obtain ⟨g2, e2, hg1, hg2, hg3, ho⟩ := h.at (show 0 < ys.length by omega)
  simp at e2; subst e2
  have hs := ((World.ownsRow.stored ho (m + 1) (.int .i64 (el ys m))).1.stored m (.int .i64 (el ys (m + 1)))).1
  refine .inr ⟨g, rfl, hg2, ?_⟩
  have e : ((kI.flat ys).set (m + 1) (.int .i64 (el ys m))).set m (.int .i64 (el ys (m + 1))) = kI.flat (swapL ys m) := by
    have hk : ∀ l : List Int, kI.flat l = l.map (Value.int .i64) := fun l => by
      induction l with
      | nil => rfl
      | cons x r ih => rw [Kind.flat_cons, ih]; rfl
    rw [hk, hk, swapL, List.map_set, List.map_set]
  rw [e] at hs
  rw [swapL_len]; exact hs
set_option maxRecDepth 10000 in
set_option maxHeartbeats 8000000 in
theorem insSort_any (lo hi g zc : Nat) (zs : List Int) (w : World) (hl : zs.length ≤ 12) (hF : kI.Fresh lo hi w (some ⟨g, 0, none⟩) zc zs) :
    Calls Try.prog 132 #[.slice (some ⟨g, 0, none⟩) zs.length zc, .int .i64 0, .int .i64 zs.length] w fun e w' => (∃ v, e = .returned v) ∧ ∃ ys, ys.Perm zs ∧ SortTo ys ys.length ∧ kI.Fresh lo hi w' (some ⟨g, 0, none⟩) zc ys ∧ OnlyAt (some ⟨g, 0, none⟩) w w' := by
  have HF := hid hF
  clear hF
  go_enter Try.func132, Try.ntmps132
  go_wp2
  go_loopw [6] (fun i wr => ∃ (k : Nat) (ys : List Int), i = .int .i64 (k : Int) ∧ 1 ≤ k ∧ k ≤ zs.length + 1 ∧ ys.length = zs.length ∧ Hid (ys.Perm zs) ∧ Hid (SortTo ys k) ∧ Hid (kI.Fresh lo hi wr (some ⟨g, 0, none⟩) zc ys) ∧ Hid (OnlyAt (some ⟨g, 0, none⟩) w wr)) (fun i _ => zs.length + 1 - (intOf i).toNat)
  case atStart => exact ⟨1, zs, rfl, by omega, by omega, rfl, List.Perm.refl _, fun a b h1 h2 => by omega, HF, OnlyAt.refl _ _⟩
  case round =>
    obtain ⟨k, ys, rfl, hk1, hk2, hyl, hP, hS, hY, hO⟩ := hrel
    by_cases hlt : k < zs.length
    · have hlt' : decide ((k : Int) < (zs.length : Int)) = true := by simpa using hlt
      have HS := hid (sort_start hS.out)
      clear hS
      go_wp2
      go_loopw [7] (fun i wr => ∃ (j : Nat) (ys : List Int), i = .int .i64 (j : Int) ∧ j ≤ k ∧ ys.length = zs.length ∧ Hid (ys.Perm zs) ∧ Hid (SortBut ys k j) ∧ Hid (kI.Fresh lo hi wr (some ⟨g, 0, none⟩) zc ys) ∧ Hid (OnlyAt (some ⟨g, 0, none⟩) w wr)) (fun i _ => (intOf i).toNat)
      case atStart => exact ⟨k, ys, rfl, Nat.le_refl _, hyl, hP, HS, hY, hO⟩
      case round =>
        clear HS hP hY hO hyl ys
        obtain ⟨j, ys, rfl, hjk, hyl, hP, hS, hY, hO⟩ := hrel
        rcases j with _ | m
        · have HT := hid (sort_stop0 hS.out)
          have h0 : decide ((0 : Int) < ((0 : Nat) : Int)) = false := by decide
          have hYd : Hid (∀ n, kI.Fresh lo hi (wr.drewN n) (some ⟨g, 0, none⟩) zc ys) := fun n => hY.out.keep fun _ _ _ _ => rfl
          have hOd : Hid (∀ n, OnlyAt (some ⟨g, 0, none⟩) w (wr.drewN n)) := fun n => hO.out.drewS n
          clear hS
          go_wp2
          go_quiet (fail)
          go_wp2
          go_roundw
          case rel => exact ⟨k + 1, ys, by go_num, by omega, by omega, hyl, hP, HT, hid (hYd.out _), hid (hOd.out _)⟩
          case measure => simp [intOf]; omega
        · have hmy : m + 1 < ys.length := by omega
          have hm0 : m < ys.length := by omega
          obtain ⟨j, hj⟩ : ∃ j : Nat, j = m + 1 := ⟨_, rfl⟩
          rw [← hj]
          have hgt : 0 < j := by omega
          have HJ := hid hj
          have hjm : (j : Int) - 1 = (m : Int) := by omega
          have hjl : (j : Int) < (zs.length : Int) := by omega
          have hml : (m : Int) < (zs.length : Int) := by omega
          obtain ⟨b0, off, eb, hb0, hc⟩ := ints_at hY.out.in hm0
          obtain ⟨rfl, rfl⟩ : b0 = g ∧ off = 0 := by simp at eb; exact ⟨eb.1.symm, eb.2.symm⟩
          have cm := hc m hm0
          have cj := hc (m + 1) hmy
          simp only [Nat.zero_add] at cm cj
          rw [← hj] at cj
          obtain ⟨x, hx⟩ : ∃ x, x = el ys (m + 1) := ⟨_, rfl⟩
          obtain ⟨y, hy⟩ : ∃ y, y = el ys m := ⟨_, rfl⟩
          rw [← hy] at cm
          rw [hj, ← hx, ← hj] at cj
          have HX := hid hx
          have HYY := hid hy
          obtain ⟨g2, e2, hg1, hg2, hg3, ho⟩ := hY.out.at (show 0 < ys.length by omega)
          simp at e2
          subst e2
          have fm : wr.frozen? ⟨b0, m, none⟩ = false := ho.frozenAt m
          have fj : wr.frozen? ⟨b0, j, none⟩ = false := ho.frozenAt j
          have hne : j ≠ m := by omega
          clear hc eb ho hj hx hy hb0
          rcases hc : decide (x < y) with _ | _
          · have HC := hid hc
            have HT := hid (sort_stop hS.out hjk (by rw [← HX.out, ← HYY.out]; simp at hc; exact hc))
            have hYd : Hid (∀ n, kI.Fresh lo hi (wr.drewN n) (some ⟨b0, 0, none⟩) zc ys) := fun n => hY.out.keep fun _ _ _ _ => rfl
            have hOd : Hid (∀ n, OnlyAt (some ⟨b0, 0, none⟩) w (wr.drewN n)) := fun n => hO.out.drewS n
            clear hS hc
            go_wp2
            go_quiet (exact Calls.quiet_of_same (less_is x y _ false HC.out))
            go_wp2
            go_roundw
            case rel => exact ⟨k + 1, ys, by go_num, by omega, by omega, hyl, hP, HT, hid (hYd.out _), hid (hOd.out _)⟩
            case measure => simp [intOf]; omega
          · have HC := hid hc
            have HT := hid (sort_swap hS.out hjk (by omega) (by rw [← HX.out, ← HYY.out]; simpa using hc))
            have HP2 := hid ((swapL_perm hmy).trans hP.out)
            have hl2 : (swapL ys m).length = zs.length := by rw [swapL_len]; exact hyl
            clear hS hc
            go_wp2
            go_quiet (exact Calls.quiet_of_same (less_is x y _ true HC.out))
            obtain ⟨W1, hW1⟩ : ∃ W1, W1 = wr.drewN nq := ⟨_, rfl⟩
            have Y1 : Hid (kI.Fresh lo hi W1 (some ⟨b0, 0, none⟩) zc ys) := by rw [hW1]; exact hY.out.keep fun _ _ _ _ => rfl
            have O1 : Hid (OnlyAt (some ⟨b0, 0, none⟩) w W1) := by rw [hW1]; exact hO.out.drewS _
            have c1 : W1.cell? ⟨b0, m, none⟩ = some (.int .i64 y) := by rw [hW1]; exact cm
            have c2 : W1.cell? ⟨b0, j, none⟩ = some (.int .i64 x) := by rw [hW1]; exact cj
            have f1 : W1.frozen? ⟨b0, m, none⟩ = false := by rw [hW1]; exact fm
            have f2 : W1.frozen? ⟨b0, j, none⟩ = false := by rw [hW1]; exact fj
            rw [← hW1]
            clear hW1 cm cj fm fj hY hO hg3
            go_wp2
            go_region
            all_goals go_wp2
            all_goals go_roundw
            case rel =>
              refine ⟨m, swapL ys m, by go_num, by omega, hl2, HP2, HT, ?_, ?_⟩
              · have h := kI_stored Y1.out hmy
                rw [← HX.out, ← HYY.out, ← HJ.out] at h
                exact hid (h.keep fun _ _ _ _ => rfl)
              · have h := ((O1.out.trans (OnlyAt.set b0 j _ (.int .i64 y))).trans (OnlyAt.set b0 m _ (.int .i64 x)))
                exact hid ⟨h.os, h.tape, h.output, h.size, h.block⟩
            case measure => simp [intOf]; omega
    · have hlt' : decide ((k : Int) < (zs.length : Int)) = false := by simpa using hlt
      have HS2 : Hid (SortTo ys ys.length) := fun a b h1 h2 => hS.out a b h1 (by omega)
      go_wp2
      first | refine bodyPost_ret (results_none rfl _ _ _) rfl ?_ | refine bodyPost_end (results_none rfl _ _ _) rfl ?_
      exact ⟨⟨_, rfl⟩, ys, hP.out, HS2.out, hY.out, hO.out⟩
theorem insSort_nil (zo : Option Addr) (zc : Nat) (w : World) :
    Calls Try.prog 132 #[.slice zo 0 zc, .int .i64 0, .int .i64 0] w fun e w' => (∃ v, e = .returned v) ∧ w' = w := by
  go_enter Try.func132, Try.ntmps132
  go_wp2
  go_loop [6] (fun i => i = .int .i64 1) (fun _ => 0)
  case atStart => rfl
  case round =>
    subst hrel
    go_wp2
    first | refine bodyPost_ret (results_none rfl _ _ _) rfl ?_ | refine bodyPost_end (results_none rfl _ _ _) rfl ?_
    exact ⟨⟨_, rfl⟩, rfl⟩
set_option maxRecDepth 100000 in
set_option maxHeartbeats 16000000 in
theorem len64_any (n : Nat) (w : World) (h : n ≤ 12) :
    Calls Try.prog 142 #[.int .u64 (n : Int)] w fun e w' => (∃ z : Int, e = .returned (.int .i64 z)) ∧ w' = w := by
  rcases (show n = 0 ∨ n = 1 ∨ n = 2 ∨ n = 3 ∨ n = 4 ∨ n = 5 ∨ n = 6 ∨ n = 7 ∨ n = 8 ∨ n = 9 ∨ n = 10 ∨ n = 11 ∨ n = 12 from by omega) with rfl | rfl | rfl | rfl | rfl | rfl | rfl | rfl | rfl | rfl | rfl | rfl | rfl
  all_goals
    go_enter Try.func142, Try.ntmps142
    go_wp2
    go_ret
    exact ⟨⟨_, rfl⟩, rfl⟩
set_option maxHeartbeats 1000000 in
theorem len_any (n : Nat) (w : World) (h : n ≤ 12) :
    Calls Try.prog 126 #[.int .u64 (n : Int)] w fun e w' => (∃ z : Int, e = .returned (.int .i64 z)) ∧ w' = w := by
  go_enter Try.func126, Try.ntmps126
  go_wp2_with fail
  refine (len64_any n _ h).mono ?_
  rintro e w1 ⟨⟨z, rfl⟩, rfl⟩
  go_wp2
  go_ret
  exact ⟨⟨_, rfl⟩, rfl⟩
/-- What a sort of a short row leaves. -/
def AnsS (lo hi : Nat) (w : World) (zo : Option Addr) (zc : Nat) (zs : List Int) (e : Ending) (w' : World) : Prop := (∃ v, e = .returned v) ∧ ∃ ys, ys.Perm zs ∧ SortTo ys ys.length ∧ kI.Fresh lo hi w' zo zc ys ∧ Between lo hi w w'
set_option maxHeartbeats 2000000 in
theorem pdq_any (lo hi : Nat) (zo : Option Addr) (zc : Nat) (zs : List Int) (z : Int) (w : World) (hl : zs.length ≤ 12) (hF : kI.Fresh lo hi w zo zc zs) :
    Calls Try.prog 125 #[.slice zo zs.length zc, .int .i64 0, .int .i64 zs.length, .int .i64 z] w fun e w' => AnsS lo hi w zo zc zs e w' := by
  have h12 : decide ((zs.length : Int) ≤ 12) = true := by simp; omega
  rcases Nat.eq_zero_or_pos zs.length with h0 | h0
  · obtain rfl : zs = [] := List.length_eq_zero_iff.1 h0
    clear h0 h12
    go_enter Try.func125, Try.ntmps125
    go_wp2
    go_loopw [1, 2] (fun a b wr => a = .int .i64 0 ∧ b = .int .i64 0 ∧ wr = w) (fun _ _ _ => 0)
    case atStart => exact ⟨rfl, rfl, rfl⟩
    case round =>
      obtain ⟨rfl, rfl, rfl⟩ := hrel
      go_wp2_with fail
      refine (insSort_nil zo zc _).mono ?_
      rintro e w1 ⟨⟨v, rfl⟩, rfl⟩
      go_wp2
      first | refine bodyPost_ret (results_none rfl _ _ _) rfl ?_ | refine bodyPost_end (results_none rfl _ _ _) rfl ?_
      exact ⟨⟨_, rfl⟩, [], List.Perm.refl _, fun a b h1 h2 => by simp at h2, hF, Between.refl _ _ _⟩
  · have HF := hid hF
    obtain ⟨g, rfl, _⟩ := hF.at h0
    clear hF
    go_enter Try.func125, Try.ntmps125
    go_wp2
    go_loopw [1, 2] (fun a b wr => a = .int .i64 0 ∧ b = .int .i64 (zs.length : Int) ∧ wr = w) (fun _ _ _ => 0)
    case atStart => exact ⟨rfl, rfl, rfl⟩
    case round =>
      obtain ⟨rfl, rfl, rfl⟩ := hrel
      go_wp2_with fail
      refine (insSort_any lo hi g zc zs _ hl HF.out).mono ?_
      rintro e w1 ⟨⟨v, rfl⟩, ys, hP, hS, hY, hO⟩
      have H1 := hid (And.intro hP (And.intro hS (And.intro hY (HF.out.between (by rw [eff_pos h0]; exact hO)))))
      clear hP hS hY hO
      go_wp2
      first | refine bodyPost_ret (results_none rfl _ _ _) rfl ?_ | refine bodyPost_end (results_none rfl _ _ _) rfl ?_
      exact ⟨⟨_, rfl⟩, ys, H1.out⟩
set_option maxHeartbeats 1000000 in
theorem sortI_any (lo hi : Nat) (zo : Option Addr) (zc : Nat) (zs : List Int) (w : World) (hl : zs.length ≤ 12) (hF : kI.Fresh lo hi w zo zc zs) :
    Calls Try.prog 94 #[.slice zo zs.length zc] w fun e w' => AnsS lo hi w zo zc zs e w' := by
  go_enter Try.func94, Try.ntmps94
  go_wp2_with fail
  refine (len_any zs.length _ hl).mono ?_
  rintro e w1 ⟨⟨z, rfl⟩, rfl⟩
  go_wp2_with fail
  refine (pdq_any lo hi zo zc zs z _ hl hF).mono ?_
  rintro e w2 ⟨⟨v, rfl⟩, H2⟩
  have H2 := hid H2
  go_wp2
  first | refine bodyPost_ret (results_none rfl _ _ _) rfl ?_ | refine bodyPost_end (results_none rfl _ _ _) rfl ?_
  exact ⟨⟨_, rfl⟩, H2.out⟩
end Go.Proofs.Ytlnjhajdbofhlaa
