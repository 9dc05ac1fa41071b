
/- Drawn scopes. No conditions but those written. -/
import Derived.Test.YtdgnolpimmdgjaaPXbAo
import Derived.Test.YtdgnolpimmdgjaaPn
import Derived.Test.YtdgnolpimmdgjaaPSdSf
import Derived.Deep.Cut
import Derived.Deep.RegionLaw
namespace Go.Proofs.Ytdgnolpimmdgjaa
open Go.RowKit

theorem newR_small {l : List Sc} {iv jv : Int} (h : (newR l iv jv).2.2 = 0) : 0 < (newR l iv jv).1.length ∧ (newR l iv jv).1.length ≤ 20 := by
  unfold newR at h ⊢
  split at h
  · next hc =>
    rw [if_pos hc]
    simp only [newB, Bool.and_eq_true, decide_eq_true_eq] at hc
    have := (scopesB_good hc.1).1
    simp; omega
  · simp at h
theorem cancelR_small {l : List Sc} {k : Int} (h : (cancelR l k).2.2 = 0) : 0 < (cancelR l k).1.length ∧ (cancelR l k).1.length ≤ 20 := by
  obtain ⟨_, _, e, h20, _⟩ := cancelR_good h
  rw [e]
  refine ⟨?_, h20⟩
  unfold cancelR at h
  split at h
  · next hc => have := hc.2; omega
  · simp at h
theorem stepN {lo hi : Nat} (ao : Option Addr) (c : Nat) (q : List Sc) (iv jv : Int) (w : World) (hq : q.length ≤ 1048576) (hD : kS.RW lo hi w ao c q) :
    Calls Try.prog 56 #[.slice ao q.length c, .int .i64 iv, .int .i64 jv] w fun e w' => (∃ (vao : Option Addr) (vc : Nat) (vq : List Sc) (xv cv : Int), e = .returned (.tuple #[.slice vao vq.length vc, .int .i64 xv, .int .i64 cv]) ∧ (cv = 0 → vq.length ≤ 20 ∧ kS.RW w.heap.size w'.heap.size w' vao vc vq)) ∧ Below w.heap.size w w' :=
  (specNew_any ao c q iv jv w hq hD.no hD.in).mono fun _ _ ⟨⟨o, c', e, hF⟩, hb⟩ => ⟨⟨o, c', _, _, _, e, fun h => ⟨(newR_small h).2, Kind.RW.of (hF.own (newR_small h).1)⟩⟩, hb⟩
theorem stepC {lo hi : Nat} (ao : Option Addr) (c : Nat) (q : List Sc) (iv : Int) (w : World) (hq : q.length ≤ 1048576) (hD : kS.RW lo hi w ao c q) :
    Calls Try.prog 15 #[.slice ao q.length c, .int .i64 iv] w fun e w' => (∃ (vao : Option Addr) (vc : Nat) (vq : List Sc) (xo : Option Addr) (xc xn : Nat) (cv : Int), e = .returned (.tuple #[.slice vao vq.length vc, .slice xo xn xc, .int .i64 cv]) ∧ (cv = 0 → vq.length ≤ 20 ∧ kS.RW w.heap.size w'.heap.size w' vao vc vq)) ∧ Below w.heap.size w w' :=
  (specCancel_any ao c q iv w hq hD.no hD.in).mono fun _ _ ⟨⟨o, c', o2, c2, e, hF, _⟩, hb⟩ => ⟨⟨o, c', _, o2, c2, _, _, e, fun h => ⟨(cancelR_small h).2, Kind.RW.of (hF.own (cancelR_small h).1)⟩⟩, hb⟩
set_option maxRecDepth 10000 in
set_option maxHeartbeats 16000000 in
theorem scopes_any (p : Nat) (co : Option Addr) (cap : Nat) (bs : List Int) (k : Nat) (sd : Int) (w : World) (hl : bs.length ≤ 9223372036854775807) (ha : k ≤ 1000000000) (hC : Cur w p co cap bs k sd) :
    Calls Try.prog 35 #[.pointer (some ⟨p, 0, none⟩)] w fun e w' => (∃ (ao : Option Addr) (c : Nat) (q : List Sc), e = .returned (.slice ao q.length c) ∧ q.length ≤ 30 ∧ kS.RW w.heap.size w'.heap.size w' ao c q) ∧ DrawnG w p co cap bs k 400 w' := by
  have hp := hC.1
  have C0 := hid hC
  have hR0 := Grew.refl p w
  clear hC
  go_enter Try.func35, Try.ntmps35
  go_wp2_with fail
  refine (pick_any 8 p co cap bs k sd w hl (by omega) C0.out).mono ?_
  rintro e w1 ⟨⟨n0, rfl, h0n0, h1n0⟩, hD⟩
  obtain ⟨k1, sd1, hk1, hC1, hg1, hsz1⟩ := hD.grew
  have C1 := hid hC1
  have hR1 : Grew p w w1 := hR0.trans hg1
  have hz1 : w.heap.size ≤ w1.heap.size := hg1.size
  clear C0 hD hg1 hC1 hsz1
  obtain ⟨m0, rfl⟩ : ∃ m : Nat, n0 = m := ⟨n0.toNat, by omega⟩
  have hm0 : m0 ≤ 7 := by omega
  clear h0n0 h1n0
  go_wp2_with fail
  refine (one_any 30 p co cap bs k1 sd1 w1 hl (by omega) C1.out).mono ?_
  rintro e w2 ⟨⟨b, rfl⟩, hD⟩
  obtain ⟨k2, sd2, hk2, hC2, hg2, hsz2⟩ := hD.grew
  have C2 := hid hC2
  have hR2 : Grew p w w2 := hR1.trans hg2
  have hz2 : w1.heap.size ≤ w2.heap.size := hg2.size
  clear C1 hD hg2 hC2 hsz2
  cases b
  · have D2 : Hid (kS.RW w.heap.size w2.heap.size w2 none 0 []) := hid Kind.RW.nil
    go_wp2
    go_loopw [3, 4] (fun l i wr => ∃ (m k2 : Nat) (sd2 : Int) (ao : Option Addr) (c : Nat) (q : List Sc), l = .slice ao q.length c ∧ i = .int .i64 (m : Int) ∧ m ≤ 21 ∧ q.length ≤ 20 ∧ k2 + 10 * m ≤ k + 300 ∧ Hid (kS.RW w.heap.size wr.heap.size wr ao c q) ∧ Hid (Cur wr p co cap bs k2 sd2) ∧ Grew p w wr) (fun _ i _ => (intOf i).toNat)
    case atStart => exact ⟨m0, k2, sd2, none, 0, [], rfl, rfl, by omega, by simp, by omega, D2, C2, hR2⟩
    case round =>
      clear D2 C2 hR2
      obtain ⟨m, k0, sd0, ao, c, q, rfl, rfl, hm, hq, hk0, D3, C3, hR3⟩ := hrel
      have hs0 : w.heap.size ≤ wr.heap.size := hR3.size
      cases m with
      | succ m =>
        have hm1 : decide (0 < ((m + 1 : Nat) : Int)) = true := by simp <;> omega
        have hm2 : (0 : Int) < ((m + 1 : Nat) : Int) := by omega
        go_wp2_with fail
        refine (pick_any _ p co cap bs k0 sd0 wr hl (by omega) C3.out).mono ?_
        rintro e w4 ⟨⟨z, rfl, h0z, h1z⟩, hD⟩
        obtain ⟨k4, sd4, hk4, hC4, hg4, hsz4⟩ := hD.grew
        have D4 := hid (D3.out.grew hg4 (by omega))
        have C4 := hid hC4
        have hR4 : Grew p w w4 := hR3.trans hg4
        have hz4 : wr.heap.size ≤ w4.heap.size := hg4.size
        clear D3 C3 hD hg4 hC4 hsz4
        by_cases hql : q.length = 0
        · obtain rfl : q = [] := List.length_eq_zero_iff.1 hql
          clear hql
          go_wp2_with fail
          refine (pick_any 30 p co cap bs k4 sd4 w4 hl (by omega) C4.out).mono ?_
          rintro e w5 ⟨⟨z2, rfl, h0z2, h1z2⟩, hD⟩
          obtain ⟨k5, sd5, hk5, hC5, hg5, hsz5⟩ := hD.grew
          have D5 := hid (D4.out.grew hg5 (by omega))
          have C5 := hid hC5
          have hR5 : Grew p w w5 := hR4.trans hg5
          have hz5 : w4.heap.size ≤ w5.heap.size := hg5.size
          clear D4 C4 hD hg5 hC5 hsz5
          go_wp2_with fail
          refine (stepN ao c ([] : List Sc) _ z2 w5 (by omega) D5.out).mono ?_
          rintro e w6 ⟨⟨vao, vc, vq, xv, cv, rfl, hV⟩, hb6⟩
          have D6 := hid (D5.out.later hb6)
          have C6 := hid (C5.out.later hb6)
          have hR6 : Grew p w w6 := hR5.trans (Grew.of_below hb6)
          have hz6 : w5.heap.size ≤ w6.heap.size := hb6.size
          clear D5 C5 
          have HV := hid hV
          clear hV
          by_cases hc : cv = 0
          · have hE := HV.out hc
            subst hc
            have E6 := hid hE.2
            have hvl := hE.1
            clear hE HV
            go_wp2_with fail
            refine (one_any 6 p co cap bs k5 sd5 w6 hl (by omega) C6.out).mono ?_
            rintro e w7 ⟨⟨b2, rfl⟩, hD⟩
            obtain ⟨k7, sd7, hk7, hC7, hg7, hsz7⟩ := hD.grew
            have E7 := hid (E6.out.grew hg7 (by omega))
            have C7 := hid hC7
            have hR7 : Grew p w w7 := hR6.trans hg7
            have hz7 : w6.heap.size ≤ w7.heap.size := hg7.size
            clear E6 C6 hD hg7 hC7 hsz7
            cases b2
            · go_wp2
              go_roundw
              case rel => exact ⟨m, k7, sd7, vao, vc, vq, rfl, by go_num, by omega, by omega, by omega, hid (E7.out.wide (by omega) (by omega)), C7, hR7⟩
              case measure => simp [intOf] <;> omega
            · go_wp2_with fail
              refine (pick_any _ p co cap bs k7 sd7 w7 hl (by omega) C7.out).mono ?_
              rintro e w8 ⟨⟨z3, rfl, h0z3, h1z3⟩, hD⟩
              obtain ⟨k8, sd8, hk8, hC8, hg8, hsz8⟩ := hD.grew
              have E8 := hid (E7.out.grew hg8 (by omega))
              have C8 := hid hC8
              have hR8 : Grew p w w8 := hR7.trans hg8
              have hz8 : w7.heap.size ≤ w8.heap.size := hg8.size
              clear E7 C7 hD hg8 hC8 hsz8
              go_wp2_with fail
              refine (stepC vao vc vq z3 w8 (by omega) E8.out).mono ?_
              rintro e w9 ⟨⟨uao, uc, uq, xo2, xc2, xn2, cv2, rfl, hU⟩, hb9⟩
              have E9 := hid (E8.out.later hb9)
              have C9 := hid (C8.out.later hb9)
              have hR9 : Grew p w w9 := hR8.trans (Grew.of_below hb9)
              have hz9 : w8.heap.size ≤ w9.heap.size := hb9.size
              clear E8 C8 
              have HU := hid hU
              clear hU
              by_cases hc2 : cv2 = 0
              · have hE := HU.out hc2
                subst hc2
                have G9 := hid hE.2
                have hul := hE.1
                clear hE HU
                go_wp2
                go_roundw
                case rel => exact ⟨m, k8, sd8, uao, uc, uq, rfl, by go_num, by omega, by omega, by omega, hid (G9.out.wide (by omega) (by omega)), C9, hR9⟩
                case measure => simp [intOf] <;> omega
              · have hc3 : (cv2 == 0) = false := by simpa using hc2
                clear HU
                go_wp2
                go_roundw
                case rel => exact ⟨m, k8, sd8, vao, vc, vq, rfl, by go_num, by omega, by omega, by omega, hid (E9.out.wide (by omega) (by omega)), C9, hR9⟩
                case measure => simp [intOf] <;> omega
          · have hc1 : (cv == 0) = false := by simpa using hc
            clear HV
            go_wp2_with fail
            refine (one_any 6 p co cap bs k5 sd5 w6 hl (by omega) C6.out).mono ?_
            rintro e w7 ⟨⟨b2, rfl⟩, hD⟩
            obtain ⟨k7, sd7, hk7, hC7, hg7, hsz7⟩ := hD.grew
            have D7 := hid (D6.out.grew hg7 (by omega))
            have C7 := hid hC7
            have hR7 : Grew p w w7 := hR6.trans hg7
            have hz7 : w6.heap.size ≤ w7.heap.size := hg7.size
            clear D6 C6 hD hg7 hC7 hsz7
            cases b2
            · go_wp2
              go_roundw
              case rel => exact ⟨m, k7, sd7, ao, c, ([] : List Sc), rfl, by go_num, by omega, by omega, by omega, hid (D7.out.wide (by omega) (by omega)), C7, hR7⟩
              case measure => simp [intOf] <;> omega
            · go_wp2_with fail
              refine (pick_any _ p co cap bs k7 sd7 w7 hl (by omega) C7.out).mono ?_
              rintro e w8 ⟨⟨z3, rfl, h0z3, h1z3⟩, hD⟩
              obtain ⟨k8, sd8, hk8, hC8, hg8, hsz8⟩ := hD.grew
              have D8 := hid (D7.out.grew hg8 (by omega))
              have C8 := hid hC8
              have hR8 : Grew p w w8 := hR7.trans hg8
              have hz8 : w7.heap.size ≤ w8.heap.size := hg8.size
              clear D7 C7 hD hg8 hC8 hsz8
              go_wp2_with fail
              refine (stepC ao c ([] : List Sc) z3 w8 (by omega) D8.out).mono ?_
              rintro e w9 ⟨⟨uao, uc, uq, xo2, xc2, xn2, cv2, rfl, hU⟩, hb9⟩
              have D9 := hid (D8.out.later hb9)
              have C9 := hid (C8.out.later hb9)
              have hR9 : Grew p w w9 := hR8.trans (Grew.of_below hb9)
              have hz9 : w8.heap.size ≤ w9.heap.size := hb9.size
              clear D8 C8 
              have HU := hid hU
              clear hU
              by_cases hc2 : cv2 = 0
              · have hE := HU.out hc2
                subst hc2
                have G9 := hid hE.2
                have hul := hE.1
                clear hE HU
                go_wp2
                go_roundw
                case rel => exact ⟨m, k8, sd8, uao, uc, uq, rfl, by go_num, by omega, by omega, by omega, hid (G9.out.wide (by omega) (by omega)), C9, hR9⟩
                case measure => simp [intOf] <;> omega
              · have hc3 : (cv2 == 0) = false := by simpa using hc2
                clear HU
                go_wp2
                go_roundw
                case rel => exact ⟨m, k8, sd8, ao, c, ([] : List Sc), rfl, by go_num, by omega, by omega, by omega, hid (D9.out.wide (by omega) (by omega)), C9, hR9⟩
                case measure => simp [intOf] <;> omega
        · have hl0 : 0 < q.length := by omega
          have hl1 : decide (0 < (q.length : Int)) = true := by simp; omega
          have hl3 : decide (0 < q.length) = true := by simpa using hl0
          by_cases hz1 : z = 0
          · subst hz1
            have hz2 : decide ((0 : Int) - 1 < 0) = true := by decide
            go_wp2_with fail
            refine (pick_any 30 p co cap bs k4 sd4 w4 hl (by omega) C4.out).mono ?_
            rintro e w5 ⟨⟨z2, rfl, h0z2, h1z2⟩, hD⟩
            obtain ⟨k5, sd5, hk5, hC5, hg5, hsz5⟩ := hD.grew
            have D5 := hid (D4.out.grew hg5 (by omega))
            have C5 := hid hC5
            have hR5 : Grew p w w5 := hR4.trans hg5
            have hz5 : w4.heap.size ≤ w5.heap.size := hg5.size
            clear D4 C4 hD hg5 hC5 hsz5
            go_wp2_with fail
            refine (stepN ao c q _ z2 w5 (by omega) D5.out).mono ?_
            rintro e w6 ⟨⟨vao, vc, vq, xv, cv, rfl, hV⟩, hb6⟩
            have D6 := hid (D5.out.later hb6)
            have C6 := hid (C5.out.later hb6)
            have hR6 : Grew p w w6 := hR5.trans (Grew.of_below hb6)
            have hz6 : w5.heap.size ≤ w6.heap.size := hb6.size
            clear D5 C5 
            have HV := hid hV
            clear hV
            by_cases hc : cv = 0
            · have hE := HV.out hc
              subst hc
              have E6 := hid hE.2
              have hvl := hE.1
              clear hE HV
              go_wp2_with fail
              refine (one_any 6 p co cap bs k5 sd5 w6 hl (by omega) C6.out).mono ?_
              rintro e w7 ⟨⟨b2, rfl⟩, hD⟩
              obtain ⟨k7, sd7, hk7, hC7, hg7, hsz7⟩ := hD.grew
              have E7 := hid (E6.out.grew hg7 (by omega))
              have C7 := hid hC7
              have hR7 : Grew p w w7 := hR6.trans hg7
              have hz7 : w6.heap.size ≤ w7.heap.size := hg7.size
              clear E6 C6 hD hg7 hC7 hsz7
              cases b2
              · go_wp2
                go_roundw
                case rel => exact ⟨m, k7, sd7, vao, vc, vq, rfl, by go_num, by omega, by omega, by omega, hid (E7.out.wide (by omega) (by omega)), C7, hR7⟩
                case measure => simp [intOf] <;> omega
              · go_wp2_with fail
                refine (pick_any _ p co cap bs k7 sd7 w7 hl (by omega) C7.out).mono ?_
                rintro e w8 ⟨⟨z3, rfl, h0z3, h1z3⟩, hD⟩
                obtain ⟨k8, sd8, hk8, hC8, hg8, hsz8⟩ := hD.grew
                have E8 := hid (E7.out.grew hg8 (by omega))
                have C8 := hid hC8
                have hR8 : Grew p w w8 := hR7.trans hg8
                have hz8 : w7.heap.size ≤ w8.heap.size := hg8.size
                clear E7 C7 hD hg8 hC8 hsz8
                go_wp2_with fail
                refine (stepC vao vc vq z3 w8 (by omega) E8.out).mono ?_
                rintro e w9 ⟨⟨uao, uc, uq, xo2, xc2, xn2, cv2, rfl, hU⟩, hb9⟩
                have E9 := hid (E8.out.later hb9)
                have C9 := hid (C8.out.later hb9)
                have hR9 : Grew p w w9 := hR8.trans (Grew.of_below hb9)
                have hz9 : w8.heap.size ≤ w9.heap.size := hb9.size
                clear E8 C8 
                have HU := hid hU
                clear hU
                by_cases hc2 : cv2 = 0
                · have hE := HU.out hc2
                  subst hc2
                  have G9 := hid hE.2
                  have hul := hE.1
                  clear hE HU
                  go_wp2
                  go_roundw
                  case rel => exact ⟨m, k8, sd8, uao, uc, uq, rfl, by go_num, by omega, by omega, by omega, hid (G9.out.wide (by omega) (by omega)), C9, hR9⟩
                  case measure => simp [intOf] <;> omega
                · have hc3 : (cv2 == 0) = false := by simpa using hc2
                  clear HU
                  go_wp2
                  go_roundw
                  case rel => exact ⟨m, k8, sd8, vao, vc, vq, rfl, by go_num, by omega, by omega, by omega, hid (E9.out.wide (by omega) (by omega)), C9, hR9⟩
                  case measure => simp [intOf] <;> omega
            · have hc1 : (cv == 0) = false := by simpa using hc
              clear HV
              go_wp2_with fail
              refine (one_any 6 p co cap bs k5 sd5 w6 hl (by omega) C6.out).mono ?_
              rintro e w7 ⟨⟨b2, rfl⟩, hD⟩
              obtain ⟨k7, sd7, hk7, hC7, hg7, hsz7⟩ := hD.grew
              have D7 := hid (D6.out.grew hg7 (by omega))
              have C7 := hid hC7
              have hR7 : Grew p w w7 := hR6.trans hg7
              have hz7 : w6.heap.size ≤ w7.heap.size := hg7.size
              clear D6 C6 hD hg7 hC7 hsz7
              cases b2
              · go_wp2
                go_roundw
                case rel => exact ⟨m, k7, sd7, ao, c, q, rfl, by go_num, by omega, by omega, by omega, hid (D7.out.wide (by omega) (by omega)), C7, hR7⟩
                case measure => simp [intOf] <;> omega
              · go_wp2_with fail
                refine (pick_any _ p co cap bs k7 sd7 w7 hl (by omega) C7.out).mono ?_
                rintro e w8 ⟨⟨z3, rfl, h0z3, h1z3⟩, hD⟩
                obtain ⟨k8, sd8, hk8, hC8, hg8, hsz8⟩ := hD.grew
                have D8 := hid (D7.out.grew hg8 (by omega))
                have C8 := hid hC8
                have hR8 : Grew p w w8 := hR7.trans hg8
                have hz8 : w7.heap.size ≤ w8.heap.size := hg8.size
                clear D7 C7 hD hg8 hC8 hsz8
                go_wp2_with fail
                refine (stepC ao c q z3 w8 (by omega) D8.out).mono ?_
                rintro e w9 ⟨⟨uao, uc, uq, xo2, xc2, xn2, cv2, rfl, hU⟩, hb9⟩
                have D9 := hid (D8.out.later hb9)
                have C9 := hid (C8.out.later hb9)
                have hR9 : Grew p w w9 := hR8.trans (Grew.of_below hb9)
                have hz9 : w8.heap.size ≤ w9.heap.size := hb9.size
                clear D8 C8 
                have HU := hid hU
                clear hU
                by_cases hc2 : cv2 = 0
                · have hE := HU.out hc2
                  subst hc2
                  have G9 := hid hE.2
                  have hul := hE.1
                  clear hE HU
                  go_wp2
                  go_roundw
                  case rel => exact ⟨m, k8, sd8, uao, uc, uq, rfl, by go_num, by omega, by omega, by omega, hid (G9.out.wide (by omega) (by omega)), C9, hR9⟩
                  case measure => simp [intOf] <;> omega
                · have hc3 : (cv2 == 0) = false := by simpa using hc2
                  clear HU
                  go_wp2
                  go_roundw
                  case rel => exact ⟨m, k8, sd8, ao, c, q, rfl, by go_num, by omega, by omega, by omega, hid (D9.out.wide (by omega) (by omega)), C9, hR9⟩
                  case measure => simp [intOf] <;> omega
          · have hz2 : decide (z - 1 < 0) = false := by simp; omega
            go_wp2_with fail
            refine (pick_any 30 p co cap bs k4 sd4 w4 hl (by omega) C4.out).mono ?_
            rintro e w5 ⟨⟨z2, rfl, h0z2, h1z2⟩, hD⟩
            obtain ⟨k5, sd5, hk5, hC5, hg5, hsz5⟩ := hD.grew
            have D5 := hid (D4.out.grew hg5 (by omega))
            have C5 := hid hC5
            have hR5 : Grew p w w5 := hR4.trans hg5
            have hz5 : w4.heap.size ≤ w5.heap.size := hg5.size
            clear D4 C4 hD hg5 hC5 hsz5
            go_wp2_with fail
            refine (stepN ao c q _ z2 w5 (by omega) D5.out).mono ?_
            rintro e w6 ⟨⟨vao, vc, vq, xv, cv, rfl, hV⟩, hb6⟩
            have D6 := hid (D5.out.later hb6)
            have C6 := hid (C5.out.later hb6)
            have hR6 : Grew p w w6 := hR5.trans (Grew.of_below hb6)
            have hz6 : w5.heap.size ≤ w6.heap.size := hb6.size
            clear D5 C5 
            have HV := hid hV
            clear hV
            by_cases hc : cv = 0
            · have hE := HV.out hc
              subst hc
              have E6 := hid hE.2
              have hvl := hE.1
              clear hE HV
              go_wp2_with fail
              refine (one_any 6 p co cap bs k5 sd5 w6 hl (by omega) C6.out).mono ?_
              rintro e w7 ⟨⟨b2, rfl⟩, hD⟩
              obtain ⟨k7, sd7, hk7, hC7, hg7, hsz7⟩ := hD.grew
              have E7 := hid (E6.out.grew hg7 (by omega))
              have C7 := hid hC7
              have hR7 : Grew p w w7 := hR6.trans hg7
              have hz7 : w6.heap.size ≤ w7.heap.size := hg7.size
              clear E6 C6 hD hg7 hC7 hsz7
              cases b2
              · go_wp2
                go_roundw
                case rel => exact ⟨m, k7, sd7, vao, vc, vq, rfl, by go_num, by omega, by omega, by omega, hid (E7.out.wide (by omega) (by omega)), C7, hR7⟩
                case measure => simp [intOf] <;> omega
              · go_wp2_with fail
                refine (pick_any _ p co cap bs k7 sd7 w7 hl (by omega) C7.out).mono ?_
                rintro e w8 ⟨⟨z3, rfl, h0z3, h1z3⟩, hD⟩
                obtain ⟨k8, sd8, hk8, hC8, hg8, hsz8⟩ := hD.grew
                have E8 := hid (E7.out.grew hg8 (by omega))
                have C8 := hid hC8
                have hR8 : Grew p w w8 := hR7.trans hg8
                have hz8 : w7.heap.size ≤ w8.heap.size := hg8.size
                clear E7 C7 hD hg8 hC8 hsz8
                go_wp2_with fail
                refine (stepC vao vc vq z3 w8 (by omega) E8.out).mono ?_
                rintro e w9 ⟨⟨uao, uc, uq, xo2, xc2, xn2, cv2, rfl, hU⟩, hb9⟩
                have E9 := hid (E8.out.later hb9)
                have C9 := hid (C8.out.later hb9)
                have hR9 : Grew p w w9 := hR8.trans (Grew.of_below hb9)
                have hz9 : w8.heap.size ≤ w9.heap.size := hb9.size
                clear E8 C8 
                have HU := hid hU
                clear hU
                by_cases hc2 : cv2 = 0
                · have hE := HU.out hc2
                  subst hc2
                  have G9 := hid hE.2
                  have hul := hE.1
                  clear hE HU
                  go_wp2
                  go_roundw
                  case rel => exact ⟨m, k8, sd8, uao, uc, uq, rfl, by go_num, by omega, by omega, by omega, hid (G9.out.wide (by omega) (by omega)), C9, hR9⟩
                  case measure => simp [intOf] <;> omega
                · have hc3 : (cv2 == 0) = false := by simpa using hc2
                  clear HU
                  go_wp2
                  go_roundw
                  case rel => exact ⟨m, k8, sd8, vao, vc, vq, rfl, by go_num, by omega, by omega, by omega, hid (E9.out.wide (by omega) (by omega)), C9, hR9⟩
                  case measure => simp [intOf] <;> omega
            · have hc1 : (cv == 0) = false := by simpa using hc
              clear HV
              go_wp2_with fail
              refine (one_any 6 p co cap bs k5 sd5 w6 hl (by omega) C6.out).mono ?_
              rintro e w7 ⟨⟨b2, rfl⟩, hD⟩
              obtain ⟨k7, sd7, hk7, hC7, hg7, hsz7⟩ := hD.grew
              have D7 := hid (D6.out.grew hg7 (by omega))
              have C7 := hid hC7
              have hR7 : Grew p w w7 := hR6.trans hg7
              have hz7 : w6.heap.size ≤ w7.heap.size := hg7.size
              clear D6 C6 hD hg7 hC7 hsz7
              cases b2
              · go_wp2
                go_roundw
                case rel => exact ⟨m, k7, sd7, ao, c, q, rfl, by go_num, by omega, by omega, by omega, hid (D7.out.wide (by omega) (by omega)), C7, hR7⟩
                case measure => simp [intOf] <;> omega
              · go_wp2_with fail
                refine (pick_any _ p co cap bs k7 sd7 w7 hl (by omega) C7.out).mono ?_
                rintro e w8 ⟨⟨z3, rfl, h0z3, h1z3⟩, hD⟩
                obtain ⟨k8, sd8, hk8, hC8, hg8, hsz8⟩ := hD.grew
                have D8 := hid (D7.out.grew hg8 (by omega))
                have C8 := hid hC8
                have hR8 : Grew p w w8 := hR7.trans hg8
                have hz8 : w7.heap.size ≤ w8.heap.size := hg8.size
                clear D7 C7 hD hg8 hC8 hsz8
                go_wp2_with fail
                refine (stepC ao c q z3 w8 (by omega) D8.out).mono ?_
                rintro e w9 ⟨⟨uao, uc, uq, xo2, xc2, xn2, cv2, rfl, hU⟩, hb9⟩
                have D9 := hid (D8.out.later hb9)
                have C9 := hid (C8.out.later hb9)
                have hR9 : Grew p w w9 := hR8.trans (Grew.of_below hb9)
                have hz9 : w8.heap.size ≤ w9.heap.size := hb9.size
                clear D8 C8 
                have HU := hid hU
                clear hU
                by_cases hc2 : cv2 = 0
                · have hE := HU.out hc2
                  subst hc2
                  have G9 := hid hE.2
                  have hul := hE.1
                  clear hE HU
                  go_wp2
                  go_roundw
                  case rel => exact ⟨m, k8, sd8, uao, uc, uq, rfl, by go_num, by omega, by omega, by omega, hid (G9.out.wide (by omega) (by omega)), C9, hR9⟩
                  case measure => simp [intOf] <;> omega
                · have hc3 : (cv2 == 0) = false := by simpa using hc2
                  clear HU
                  go_wp2
                  go_roundw
                  case rel => exact ⟨m, k8, sd8, ao, c, q, rfl, by go_num, by omega, by omega, by omega, hid (D9.out.wide (by omega) (by omega)), C9, hR9⟩
                  case measure => simp [intOf] <;> omega
      | zero =>
        go_wp2_with fail
        refine (pick_any 40 p co cap bs k0 sd0 wr hl (by omega) C3.out).mono ?_
        rintro e w4 ⟨⟨y, rfl, h0y, h1y⟩, hD⟩
        obtain ⟨k4, sd4, hk4, hC4, hg4, hsz4⟩ := hD.grew
        have D4 := hid (D3.out.grew hg4 (by omega))
        have C4 := hid hC4
        have hR4 : Grew p w w4 := hR3.trans hg4
        have hz4 : wr.heap.size ≤ w4.heap.size := hg4.size
        clear D3 C3 hD hg4 hC4 hsz4
        have hy3 : y = 0 ∨ y = 1 ∨ (y ≠ 0 ∧ y ≠ 1) := by omega
        clear h0y h1y
        rcases hy3 with rfl | rfl | ⟨y0, y1⟩
        · go_wp2_with fail
          refine (pick_any 4 p co cap bs k4 sd4 w4 hl (by omega) C4.out).mono ?_
          rintro e w5 ⟨⟨z, rfl, h0z, h1z⟩, hD⟩
          obtain ⟨k5, sd5, hk5, hC5, hg5, hsz5⟩ := hD.grew
          have D5 := hid (D4.out.grew hg5 (by omega))
          have C5 := hid hC5
          have hR5 : Grew p w w5 := hR4.trans hg5
          have hz5 : w4.heap.size ≤ w5.heap.size := hg5.size
          clear D4 C4 hD hg5 hC5 hsz5
          obtain ⟨w6, hV⟩ : ∃ V, V = w5.alloc (.cells #[.int .i64 (-1), .int .i64 3] 3) := ⟨_, rfl⟩
          have D6 := hid (D5.out.later (below1 w5 (.cells #[.int .i64 (-1), .int .i64 3] 3)))
          rw [← hV] at D6
          have C6 := hid (C5.out.later (below1 w5 (.cells #[.int .i64 (-1), .int .i64 3] 3)))
          rw [← hV] at C6
          have hR6 : Grew p w w6 := by rw [hV]; exact hR5.trans (Grew.alloc p _ _)
          have hz6 : w5.heap.size ≤ w6.heap.size := by rw [hV]; simp
          have H6 := hid hV
          clear hV D5 C5
          have XU6 : Hid (Bx w6 w5.heap.size [.int .i64 (-1), .int .i64 3]) := by rw [H6.out]; exact Bx.new [.int .i64 (-1), .int .i64 3] _ rfl
          have hy6 : w5.heap.size < w6.heap.size := XU6.out.size
          have u0 := XU6.out.c 0 rfl
          have uf0 := XU6.out.f 0 rfl
          have u1 := XU6.out.c 1 rfl
          have uf1 := XU6.out.f 1 rfl
          have uz := XU6.out.size
          go_wp2_with fail
          clear u0 uf0 u1 uf1 uz
          rw [← H6.out]
          clear H6
          refine (among_in [-1, 3] w5.heap.size p co cap bs k5 sd5 w6 hl (by omega) C6.out (by simp) (by simp) XU6.out (by omega)).mono ?_
          rintro e w7 ⟨⟨z2, hmz, rfl⟩, hD⟩
          obtain ⟨k7, sd7, hk7, hC7, hg7, hsz7⟩ := hD.grew
          have XU7 := hid (XU6.out.grew hg7 (by omega))
          have D7 := hid (D6.out.grew hg7 (by omega))
          have C7 := hid hC7
          have hR7 : Grew p w w7 := hR6.trans hg7
          have hz7 : w6.heap.size ≤ w7.heap.size := hg7.size
          clear XU6 D6 C6 hD hg7 hC7 hsz7
          clear hmz
          have u0 := XU7.out.c 0 rfl
          have uf0 := XU7.out.f 0 rfl
          have u1 := XU7.out.c 1 rfl
          have uf1 := XU7.out.f 1 rfl
          have uz := XU7.out.size
          go_wp2_with fail
          clear u0 uf0 u1 uf1 uz
          refine (pick_any 4 p co cap bs k7 sd7 w7 hl (by omega) C7.out).mono ?_
          rintro e w8 ⟨⟨z3, rfl, h0z3, h1z3⟩, hD⟩
          obtain ⟨k8, sd8, hk8, hC8, hg8, hsz8⟩ := hD.grew
          have XU8 := hid (XU7.out.grew hg8 (by omega))
          have D8 := hid (D7.out.grew hg8 (by omega))
          have C8 := hid hC8
          have hR8 : Grew p w w8 := hR7.trans hg8
          have hz8 : w7.heap.size ≤ w8.heap.size := hg8.size
          clear XU7 D7 C7 hD hg8 hC8 hsz8
          have HA := hid (D8.out.later (below1 w8 (.cells #[.int .i64 (z - 2), .int .i64 z2, .int .i64 z3] 48)))
          have Ca := hid (C8.out.later (below1 w8 (.cells #[.int .i64 (z - 2), .int .i64 z2, .int .i64 z3] 48)))
          have hRa : Grew p w (w8.alloc (.cells #[.int .i64 (z - 2), .int .i64 z2, .int .i64 z3] 48)) := hR8.trans (Grew.alloc p _ _)
          have HN : Hid (kS.In (w8.heap.size + 1) (w8.alloc (.cells #[.int .i64 (z - 2), .int .i64 z2, .int .i64 z3] 48)) (some ⟨w8.heap.size, 0, none⟩) [(z - 2, z2, z3)]) := kS_one (by omega) (by simp) (by simp) (by simp)
          obtain ⟨zs, hzs⟩ : ∃ zs, zs = q ++ [(z - 2, z2, z3)] := ⟨_, rfl⟩
          have hzl : zs.length ≤ 30 := by rw [hzs]; simp; omega
          have HZ := hid hzs
          clear hzs
          have hws : w.heap.size ≤ w8.heap.size := hR8.size
          go_wp2_with (at_builtin; refine Kind.app kS_ok (w8.alloc (.cells #[.int .i64 (z - 2), .int .i64 z2, .int .i64 z3] 48)) rfl (.tmp 68) (.tmp 78) rfl w.heap.size (.slice ao q.length c) q rfl HA.out.1 (by simp <;> omega) (some ⟨w8.heap.size, 0, none⟩) [(z - 2, z2, z3)] 1 1 rfl rfl (by simp) _ HN.out (by simp <;> omega) ?_; intro v' w9 hO hB hG hn; rw [← HZ.out] at hO; obtain ⟨ao3, c3, rfl, hO3⟩ := hO.as; have D9 := hid (Kind.RW.of hO3); have C9 := hid (Ca.out.below hB (by omega)); have hR9 := hRa.of_below2 hB (by omega); clear hO hB hG hn hO3)
          go_ret
          exact ⟨⟨ao3, c3, zs, rfl, by omega, D9.out.wide (by omega) (by omega)⟩, k8, sd8, by omega, C9.out, hR9⟩
        · by_cases hql : q.length = 0
          · obtain rfl : q = [] := List.length_eq_zero_iff.1 hql
            clear hql
            go_wp2
            go_ret
            exact ⟨⟨ao, c, ([] : List Sc), rfl, by omega, D4.out.wide (by omega) (by omega)⟩, k4, sd4, by omega, C4.out, hR4⟩
          · have hl1 : decide (0 < (q.length : Int)) = true := by simp; omega
            have hl2 : (0 : Int) < (q.length : Int) := by omega
            obtain ⟨gg, rfl, hF⟩ : ∃ g, ao = some ⟨g, 0, none⟩ ∧ kS.Fresh w.heap.size w4.heap.size w4 (some ⟨g, 0, none⟩) c q := by
              obtain ⟨go, qc, e, _, hF⟩ := D4.out.1.fresh
              simp at e; obtain ⟨rfl, rfl⟩ := e
              obtain ⟨g, e2, _⟩ := hF.at (by omega)
              exact ⟨g, e2, by rw [← e2]; exact hF⟩
            have HF := hid hF
            clear hF
            go_wp2_with fail
            refine (pick_any 3 p co cap bs k4 sd4 w4 hl (by omega) C4.out).mono ?_
            rintro e w5 ⟨⟨z, rfl, h0z, h1z⟩, hD⟩
            obtain ⟨k5, sd5, hk5, hC5, hg5, hsz5⟩ := hD.grew
            have D5 := hid (D4.out.grew hg5 (by omega))
            have C5 := hid hC5
            have hR5 : Grew p w w5 := hR4.trans hg5
            have hz5 : w4.heap.size ≤ w5.heap.size := hg5.size
            clear D4 C4 hD hg5 hC5 hsz5
            have F2 : kS.Fresh w.heap.size w5.heap.size w5 (some ⟨gg, 0, none⟩) c q := by
              obtain ⟨go, qc, e, _, hF⟩ := D5.out.1.fresh
              simp at e; obtain ⟨rfl, rfl⟩ := e
              exact hF
            obtain ⟨g2, eg, hg1, hg2, hg3, hO⟩ := F2.at (by omega)
            cases eg
            have hgl : gg < w5.heap.size := hg3
            have HF2 := hid F2
            obtain ⟨bb, oo, ebo, hbb, hcc⟩ := kS_at F2.in (k := 0) (by omega)
            cases ebo
            have c2 := (hcc 0 (by omega)).2.2
            have f2 := hO.frozenAt 2
            clear hcc hbb hO F2 HF hg2 hg3
            simp only [Nat.zero_add, Nat.zero_mul] at c2
            go_wp2
            go_ret
            have F3 := Kind.Fresh.set HF2.out 0 (by omega) 2 (by decide) (.int .i64 z) ((el q 0).1, (el q 0).2.1, z) rfl
            exact ⟨⟨some ⟨gg, 0, none⟩, c, q.set 0 ((el q 0).1, (el q 0).2.1, z), by simp, by simp; omega, Kind.RW.of (F3.own (by simp; omega))⟩, k5, sd5, by omega, C5.out.other (a := ⟨gg, 2, none⟩) (by dsimp only; omega) _, hR5.set (a := ⟨gg, 2, none⟩) (by dsimp only; omega) _⟩
        · have e0 : (y == 0) = false := by simpa using y0
          have f0 : decide (y = 0) = false := by simpa using y0
          have e1 : (y == 1) = false := by simpa using y1
          have f1 : decide (y = 1) = false := by simpa using y1
          go_wp2
          go_ret
          exact ⟨⟨ao, c, q, rfl, by omega, D4.out.wide (by omega) (by omega)⟩, k4, sd4, by omega, C4.out, hR4⟩
  · go_wp2_with fail
    refine (pick_any 2 p co cap bs k2 sd2 w2 hl (by omega) C2.out).mono ?_
    rintro e w3 ⟨⟨x, rfl, h0x, h1x⟩, hD⟩
    obtain ⟨k3, sd3, hk3, hC3, hg3, hsz3⟩ := hD.grew
    have C3 := hid hC3
    have hR3 : Grew p w w3 := hR2.trans hg3
    have hz3 : w2.heap.size ≤ w3.heap.size := hg3.size
    clear C2 hD hg3 hC3 hsz3
    obtain ⟨m1, hm1e⟩ : ∃ m : Nat, 20 + x = m := ⟨(20 + x).toNat, by omega⟩
    have hm1 : m1 ≤ 21 := by omega
    have HE := hid hm1e
    clear hm1e h0x h1x
    have D3 : Hid (kS.RW w.heap.size w3.heap.size w3 none 0 []) := hid Kind.RW.nil
    go_wp2
    go_loopw [3, 4] (fun l i wr => ∃ (m k2 : Nat) (sd2 : Int) (ao : Option Addr) (c : Nat) (q : List Sc), l = .slice ao q.length c ∧ i = .int .i64 (m : Int) ∧ m ≤ 21 ∧ q.length ≤ 20 ∧ k2 + 10 * m ≤ k + 300 ∧ Hid (kS.RW w.heap.size wr.heap.size wr ao c q) ∧ Hid (Cur wr p co cap bs k2 sd2) ∧ Grew p w wr) (fun _ i _ => (intOf i).toNat)
    case atStart => exact ⟨m1, k3, sd3, none, 0, [], rfl, by rw [HE.out, show wrap64 (m1 : Int) = m1 from by unfold wrap64; omega], by omega, by simp, by omega, D3, C3, hR3⟩
    case round =>
      clear D3 C3 hR3
      obtain ⟨m, k0, sd0, ao, c, q, rfl, rfl, hm, hq, hk0, D4, C4, hR4⟩ := hrel
      have hs0 : w.heap.size ≤ wr.heap.size := hR4.size
      cases m with
      | succ m =>
        have hm1 : decide (0 < ((m + 1 : Nat) : Int)) = true := by simp <;> omega
        have hm2 : (0 : Int) < ((m + 1 : Nat) : Int) := by omega
        go_wp2_with fail
        refine (pick_any _ p co cap bs k0 sd0 wr hl (by omega) C4.out).mono ?_
        rintro e w5 ⟨⟨z, rfl, h0z, h1z⟩, hD⟩
        obtain ⟨k5, sd5, hk5, hC5, hg5, hsz5⟩ := hD.grew
        have D5 := hid (D4.out.grew hg5 (by omega))
        have C5 := hid hC5
        have hR5 : Grew p w w5 := hR4.trans hg5
        have hz5 : wr.heap.size ≤ w5.heap.size := hg5.size
        clear D4 C4 hD hg5 hC5 hsz5
        by_cases hql : q.length = 0
        · obtain rfl : q = [] := List.length_eq_zero_iff.1 hql
          clear hql
          go_wp2_with fail
          refine (pick_any 30 p co cap bs k5 sd5 w5 hl (by omega) C5.out).mono ?_
          rintro e w6 ⟨⟨z2, rfl, h0z2, h1z2⟩, hD⟩
          obtain ⟨k6, sd6, hk6, hC6, hg6, hsz6⟩ := hD.grew
          have D6 := hid (D5.out.grew hg6 (by omega))
          have C6 := hid hC6
          have hR6 : Grew p w w6 := hR5.trans hg6
          have hz6 : w5.heap.size ≤ w6.heap.size := hg6.size
          clear D5 C5 hD hg6 hC6 hsz6
          go_wp2_with fail
          refine (stepN ao c ([] : List Sc) _ z2 w6 (by omega) D6.out).mono ?_
          rintro e w7 ⟨⟨vao, vc, vq, xv, cv, rfl, hV⟩, hb7⟩
          have D7 := hid (D6.out.later hb7)
          have C7 := hid (C6.out.later hb7)
          have hR7 : Grew p w w7 := hR6.trans (Grew.of_below hb7)
          have hz7 : w6.heap.size ≤ w7.heap.size := hb7.size
          clear D6 C6 
          have HV := hid hV
          clear hV
          by_cases hc : cv = 0
          · have hE := HV.out hc
            subst hc
            have E7 := hid hE.2
            have hvl := hE.1
            clear hE HV
            go_wp2_with fail
            refine (one_any 6 p co cap bs k6 sd6 w7 hl (by omega) C7.out).mono ?_
            rintro e w8 ⟨⟨b2, rfl⟩, hD⟩
            obtain ⟨k8, sd8, hk8, hC8, hg8, hsz8⟩ := hD.grew
            have E8 := hid (E7.out.grew hg8 (by omega))
            have C8 := hid hC8
            have hR8 : Grew p w w8 := hR7.trans hg8
            have hz8 : w7.heap.size ≤ w8.heap.size := hg8.size
            clear E7 C7 hD hg8 hC8 hsz8
            cases b2
            · go_wp2
              go_roundw
              case rel => exact ⟨m, k8, sd8, vao, vc, vq, rfl, by go_num, by omega, by omega, by omega, hid (E8.out.wide (by omega) (by omega)), C8, hR8⟩
              case measure => simp [intOf] <;> omega
            · go_wp2_with fail
              refine (pick_any _ p co cap bs k8 sd8 w8 hl (by omega) C8.out).mono ?_
              rintro e w9 ⟨⟨z3, rfl, h0z3, h1z3⟩, hD⟩
              obtain ⟨k9, sd9, hk9, hC9, hg9, hsz9⟩ := hD.grew
              have E9 := hid (E8.out.grew hg9 (by omega))
              have C9 := hid hC9
              have hR9 : Grew p w w9 := hR8.trans hg9
              have hz9 : w8.heap.size ≤ w9.heap.size := hg9.size
              clear E8 C8 hD hg9 hC9 hsz9
              go_wp2_with fail
              refine (stepC vao vc vq z3 w9 (by omega) E9.out).mono ?_
              rintro e w10 ⟨⟨uao, uc, uq, xo2, xc2, xn2, cv2, rfl, hU⟩, hb10⟩
              have E10 := hid (E9.out.later hb10)
              have C10 := hid (C9.out.later hb10)
              have hR10 : Grew p w w10 := hR9.trans (Grew.of_below hb10)
              have hz10 : w9.heap.size ≤ w10.heap.size := hb10.size
              clear E9 C9 
              have HU := hid hU
              clear hU
              by_cases hc2 : cv2 = 0
              · have hE := HU.out hc2
                subst hc2
                have G10 := hid hE.2
                have hul := hE.1
                clear hE HU
                go_wp2
                go_roundw
                case rel => exact ⟨m, k9, sd9, uao, uc, uq, rfl, by go_num, by omega, by omega, by omega, hid (G10.out.wide (by omega) (by omega)), C10, hR10⟩
                case measure => simp [intOf] <;> omega
              · have hc3 : (cv2 == 0) = false := by simpa using hc2
                clear HU
                go_wp2
                go_roundw
                case rel => exact ⟨m, k9, sd9, vao, vc, vq, rfl, by go_num, by omega, by omega, by omega, hid (E10.out.wide (by omega) (by omega)), C10, hR10⟩
                case measure => simp [intOf] <;> omega
          · have hc1 : (cv == 0) = false := by simpa using hc
            clear HV
            go_wp2_with fail
            refine (one_any 6 p co cap bs k6 sd6 w7 hl (by omega) C7.out).mono ?_
            rintro e w8 ⟨⟨b2, rfl⟩, hD⟩
            obtain ⟨k8, sd8, hk8, hC8, hg8, hsz8⟩ := hD.grew
            have D8 := hid (D7.out.grew hg8 (by omega))
            have C8 := hid hC8
            have hR8 : Grew p w w8 := hR7.trans hg8
            have hz8 : w7.heap.size ≤ w8.heap.size := hg8.size
            clear D7 C7 hD hg8 hC8 hsz8
            cases b2
            · go_wp2
              go_roundw
              case rel => exact ⟨m, k8, sd8, ao, c, ([] : List Sc), rfl, by go_num, by omega, by omega, by omega, hid (D8.out.wide (by omega) (by omega)), C8, hR8⟩
              case measure => simp [intOf] <;> omega
            · go_wp2_with fail
              refine (pick_any _ p co cap bs k8 sd8 w8 hl (by omega) C8.out).mono ?_
              rintro e w9 ⟨⟨z3, rfl, h0z3, h1z3⟩, hD⟩
              obtain ⟨k9, sd9, hk9, hC9, hg9, hsz9⟩ := hD.grew
              have D9 := hid (D8.out.grew hg9 (by omega))
              have C9 := hid hC9
              have hR9 : Grew p w w9 := hR8.trans hg9
              have hz9 : w8.heap.size ≤ w9.heap.size := hg9.size
              clear D8 C8 hD hg9 hC9 hsz9
              go_wp2_with fail
              refine (stepC ao c ([] : List Sc) z3 w9 (by omega) D9.out).mono ?_
              rintro e w10 ⟨⟨uao, uc, uq, xo2, xc2, xn2, cv2, rfl, hU⟩, hb10⟩
              have D10 := hid (D9.out.later hb10)
              have C10 := hid (C9.out.later hb10)
              have hR10 : Grew p w w10 := hR9.trans (Grew.of_below hb10)
              have hz10 : w9.heap.size ≤ w10.heap.size := hb10.size
              clear D9 C9 
              have HU := hid hU
              clear hU
              by_cases hc2 : cv2 = 0
              · have hE := HU.out hc2
                subst hc2
                have G10 := hid hE.2
                have hul := hE.1
                clear hE HU
                go_wp2
                go_roundw
                case rel => exact ⟨m, k9, sd9, uao, uc, uq, rfl, by go_num, by omega, by omega, by omega, hid (G10.out.wide (by omega) (by omega)), C10, hR10⟩
                case measure => simp [intOf] <;> omega
              · have hc3 : (cv2 == 0) = false := by simpa using hc2
                clear HU
                go_wp2
                go_roundw
                case rel => exact ⟨m, k9, sd9, ao, c, ([] : List Sc), rfl, by go_num, by omega, by omega, by omega, hid (D10.out.wide (by omega) (by omega)), C10, hR10⟩
                case measure => simp [intOf] <;> omega
        · have hl0 : 0 < q.length := by omega
          have hl1 : decide (0 < (q.length : Int)) = true := by simp; omega
          have hl3 : decide (0 < q.length) = true := by simpa using hl0
          by_cases hz1 : z = 0
          · subst hz1
            have hz2 : decide ((0 : Int) - 1 < 0) = true := by decide
            go_wp2_with fail
            refine (pick_any 30 p co cap bs k5 sd5 w5 hl (by omega) C5.out).mono ?_
            rintro e w6 ⟨⟨z2, rfl, h0z2, h1z2⟩, hD⟩
            obtain ⟨k6, sd6, hk6, hC6, hg6, hsz6⟩ := hD.grew
            have D6 := hid (D5.out.grew hg6 (by omega))
            have C6 := hid hC6
            have hR6 : Grew p w w6 := hR5.trans hg6
            have hz6 : w5.heap.size ≤ w6.heap.size := hg6.size
            clear D5 C5 hD hg6 hC6 hsz6
            go_wp2_with fail
            refine (stepN ao c q _ z2 w6 (by omega) D6.out).mono ?_
            rintro e w7 ⟨⟨vao, vc, vq, xv, cv, rfl, hV⟩, hb7⟩
            have D7 := hid (D6.out.later hb7)
            have C7 := hid (C6.out.later hb7)
            have hR7 : Grew p w w7 := hR6.trans (Grew.of_below hb7)
            have hz7 : w6.heap.size ≤ w7.heap.size := hb7.size
            clear D6 C6 
            have HV := hid hV
            clear hV
            by_cases hc : cv = 0
            · have hE := HV.out hc
              subst hc
              have E7 := hid hE.2
              have hvl := hE.1
              clear hE HV
              go_wp2_with fail
              refine (one_any 6 p co cap bs k6 sd6 w7 hl (by omega) C7.out).mono ?_
              rintro e w8 ⟨⟨b2, rfl⟩, hD⟩
              obtain ⟨k8, sd8, hk8, hC8, hg8, hsz8⟩ := hD.grew
              have E8 := hid (E7.out.grew hg8 (by omega))
              have C8 := hid hC8
              have hR8 : Grew p w w8 := hR7.trans hg8
              have hz8 : w7.heap.size ≤ w8.heap.size := hg8.size
              clear E7 C7 hD hg8 hC8 hsz8
              cases b2
              · go_wp2
                go_roundw
                case rel => exact ⟨m, k8, sd8, vao, vc, vq, rfl, by go_num, by omega, by omega, by omega, hid (E8.out.wide (by omega) (by omega)), C8, hR8⟩
                case measure => simp [intOf] <;> omega
              · go_wp2_with fail
                refine (pick_any _ p co cap bs k8 sd8 w8 hl (by omega) C8.out).mono ?_
                rintro e w9 ⟨⟨z3, rfl, h0z3, h1z3⟩, hD⟩
                obtain ⟨k9, sd9, hk9, hC9, hg9, hsz9⟩ := hD.grew
                have E9 := hid (E8.out.grew hg9 (by omega))
                have C9 := hid hC9
                have hR9 : Grew p w w9 := hR8.trans hg9
                have hz9 : w8.heap.size ≤ w9.heap.size := hg9.size
                clear E8 C8 hD hg9 hC9 hsz9
                go_wp2_with fail
                refine (stepC vao vc vq z3 w9 (by omega) E9.out).mono ?_
                rintro e w10 ⟨⟨uao, uc, uq, xo2, xc2, xn2, cv2, rfl, hU⟩, hb10⟩
                have E10 := hid (E9.out.later hb10)
                have C10 := hid (C9.out.later hb10)
                have hR10 : Grew p w w10 := hR9.trans (Grew.of_below hb10)
                have hz10 : w9.heap.size ≤ w10.heap.size := hb10.size
                clear E9 C9 
                have HU := hid hU
                clear hU
                by_cases hc2 : cv2 = 0
                · have hE := HU.out hc2
                  subst hc2
                  have G10 := hid hE.2
                  have hul := hE.1
                  clear hE HU
                  go_wp2
                  go_roundw
                  case rel => exact ⟨m, k9, sd9, uao, uc, uq, rfl, by go_num, by omega, by omega, by omega, hid (G10.out.wide (by omega) (by omega)), C10, hR10⟩
                  case measure => simp [intOf] <;> omega
                · have hc3 : (cv2 == 0) = false := by simpa using hc2
                  clear HU
                  go_wp2
                  go_roundw
                  case rel => exact ⟨m, k9, sd9, vao, vc, vq, rfl, by go_num, by omega, by omega, by omega, hid (E10.out.wide (by omega) (by omega)), C10, hR10⟩
                  case measure => simp [intOf] <;> omega
            · have hc1 : (cv == 0) = false := by simpa using hc
              clear HV
              go_wp2_with fail
              refine (one_any 6 p co cap bs k6 sd6 w7 hl (by omega) C7.out).mono ?_
              rintro e w8 ⟨⟨b2, rfl⟩, hD⟩
              obtain ⟨k8, sd8, hk8, hC8, hg8, hsz8⟩ := hD.grew
              have D8 := hid (D7.out.grew hg8 (by omega))
              have C8 := hid hC8
              have hR8 : Grew p w w8 := hR7.trans hg8
              have hz8 : w7.heap.size ≤ w8.heap.size := hg8.size
              clear D7 C7 hD hg8 hC8 hsz8
              cases b2
              · go_wp2
                go_roundw
                case rel => exact ⟨m, k8, sd8, ao, c, q, rfl, by go_num, by omega, by omega, by omega, hid (D8.out.wide (by omega) (by omega)), C8, hR8⟩
                case measure => simp [intOf] <;> omega
              · go_wp2_with fail
                refine (pick_any _ p co cap bs k8 sd8 w8 hl (by omega) C8.out).mono ?_
                rintro e w9 ⟨⟨z3, rfl, h0z3, h1z3⟩, hD⟩
                obtain ⟨k9, sd9, hk9, hC9, hg9, hsz9⟩ := hD.grew
                have D9 := hid (D8.out.grew hg9 (by omega))
                have C9 := hid hC9
                have hR9 : Grew p w w9 := hR8.trans hg9
                have hz9 : w8.heap.size ≤ w9.heap.size := hg9.size
                clear D8 C8 hD hg9 hC9 hsz9
                go_wp2_with fail
                refine (stepC ao c q z3 w9 (by omega) D9.out).mono ?_
                rintro e w10 ⟨⟨uao, uc, uq, xo2, xc2, xn2, cv2, rfl, hU⟩, hb10⟩
                have D10 := hid (D9.out.later hb10)
                have C10 := hid (C9.out.later hb10)
                have hR10 : Grew p w w10 := hR9.trans (Grew.of_below hb10)
                have hz10 : w9.heap.size ≤ w10.heap.size := hb10.size
                clear D9 C9 
                have HU := hid hU
                clear hU
                by_cases hc2 : cv2 = 0
                · have hE := HU.out hc2
                  subst hc2
                  have G10 := hid hE.2
                  have hul := hE.1
                  clear hE HU
                  go_wp2
                  go_roundw
                  case rel => exact ⟨m, k9, sd9, uao, uc, uq, rfl, by go_num, by omega, by omega, by omega, hid (G10.out.wide (by omega) (by omega)), C10, hR10⟩
                  case measure => simp [intOf] <;> omega
                · have hc3 : (cv2 == 0) = false := by simpa using hc2
                  clear HU
                  go_wp2
                  go_roundw
                  case rel => exact ⟨m, k9, sd9, ao, c, q, rfl, by go_num, by omega, by omega, by omega, hid (D10.out.wide (by omega) (by omega)), C10, hR10⟩
                  case measure => simp [intOf] <;> omega
          · have hz2 : decide (z - 1 < 0) = false := by simp; omega
            go_wp2_with fail
            refine (pick_any 30 p co cap bs k5 sd5 w5 hl (by omega) C5.out).mono ?_
            rintro e w6 ⟨⟨z2, rfl, h0z2, h1z2⟩, hD⟩
            obtain ⟨k6, sd6, hk6, hC6, hg6, hsz6⟩ := hD.grew
            have D6 := hid (D5.out.grew hg6 (by omega))
            have C6 := hid hC6
            have hR6 : Grew p w w6 := hR5.trans hg6
            have hz6 : w5.heap.size ≤ w6.heap.size := hg6.size
            clear D5 C5 hD hg6 hC6 hsz6
            go_wp2_with fail
            refine (stepN ao c q _ z2 w6 (by omega) D6.out).mono ?_
            rintro e w7 ⟨⟨vao, vc, vq, xv, cv, rfl, hV⟩, hb7⟩
            have D7 := hid (D6.out.later hb7)
            have C7 := hid (C6.out.later hb7)
            have hR7 : Grew p w w7 := hR6.trans (Grew.of_below hb7)
            have hz7 : w6.heap.size ≤ w7.heap.size := hb7.size
            clear D6 C6 
            have HV := hid hV
            clear hV
            by_cases hc : cv = 0
            · have hE := HV.out hc
              subst hc
              have E7 := hid hE.2
              have hvl := hE.1
              clear hE HV
              go_wp2_with fail
              refine (one_any 6 p co cap bs k6 sd6 w7 hl (by omega) C7.out).mono ?_
              rintro e w8 ⟨⟨b2, rfl⟩, hD⟩
              obtain ⟨k8, sd8, hk8, hC8, hg8, hsz8⟩ := hD.grew
              have E8 := hid (E7.out.grew hg8 (by omega))
              have C8 := hid hC8
              have hR8 : Grew p w w8 := hR7.trans hg8
              have hz8 : w7.heap.size ≤ w8.heap.size := hg8.size
              clear E7 C7 hD hg8 hC8 hsz8
              cases b2
              · go_wp2
                go_roundw
                case rel => exact ⟨m, k8, sd8, vao, vc, vq, rfl, by go_num, by omega, by omega, by omega, hid (E8.out.wide (by omega) (by omega)), C8, hR8⟩
                case measure => simp [intOf] <;> omega
              · go_wp2_with fail
                refine (pick_any _ p co cap bs k8 sd8 w8 hl (by omega) C8.out).mono ?_
                rintro e w9 ⟨⟨z3, rfl, h0z3, h1z3⟩, hD⟩
                obtain ⟨k9, sd9, hk9, hC9, hg9, hsz9⟩ := hD.grew
                have E9 := hid (E8.out.grew hg9 (by omega))
                have C9 := hid hC9
                have hR9 : Grew p w w9 := hR8.trans hg9
                have hz9 : w8.heap.size ≤ w9.heap.size := hg9.size
                clear E8 C8 hD hg9 hC9 hsz9
                go_wp2_with fail
                refine (stepC vao vc vq z3 w9 (by omega) E9.out).mono ?_
                rintro e w10 ⟨⟨uao, uc, uq, xo2, xc2, xn2, cv2, rfl, hU⟩, hb10⟩
                have E10 := hid (E9.out.later hb10)
                have C10 := hid (C9.out.later hb10)
                have hR10 : Grew p w w10 := hR9.trans (Grew.of_below hb10)
                have hz10 : w9.heap.size ≤ w10.heap.size := hb10.size
                clear E9 C9 
                have HU := hid hU
                clear hU
                by_cases hc2 : cv2 = 0
                · have hE := HU.out hc2
                  subst hc2
                  have G10 := hid hE.2
                  have hul := hE.1
                  clear hE HU
                  go_wp2
                  go_roundw
                  case rel => exact ⟨m, k9, sd9, uao, uc, uq, rfl, by go_num, by omega, by omega, by omega, hid (G10.out.wide (by omega) (by omega)), C10, hR10⟩
                  case measure => simp [intOf] <;> omega
                · have hc3 : (cv2 == 0) = false := by simpa using hc2
                  clear HU
                  go_wp2
                  go_roundw
                  case rel => exact ⟨m, k9, sd9, vao, vc, vq, rfl, by go_num, by omega, by omega, by omega, hid (E10.out.wide (by omega) (by omega)), C10, hR10⟩
                  case measure => simp [intOf] <;> omega
            · have hc1 : (cv == 0) = false := by simpa using hc
              clear HV
              go_wp2_with fail
              refine (one_any 6 p co cap bs k6 sd6 w7 hl (by omega) C7.out).mono ?_
              rintro e w8 ⟨⟨b2, rfl⟩, hD⟩
              obtain ⟨k8, sd8, hk8, hC8, hg8, hsz8⟩ := hD.grew
              have D8 := hid (D7.out.grew hg8 (by omega))
              have C8 := hid hC8
              have hR8 : Grew p w w8 := hR7.trans hg8
              have hz8 : w7.heap.size ≤ w8.heap.size := hg8.size
              clear D7 C7 hD hg8 hC8 hsz8
              cases b2
              · go_wp2
                go_roundw
                case rel => exact ⟨m, k8, sd8, ao, c, q, rfl, by go_num, by omega, by omega, by omega, hid (D8.out.wide (by omega) (by omega)), C8, hR8⟩
                case measure => simp [intOf] <;> omega
              · go_wp2_with fail
                refine (pick_any _ p co cap bs k8 sd8 w8 hl (by omega) C8.out).mono ?_
                rintro e w9 ⟨⟨z3, rfl, h0z3, h1z3⟩, hD⟩
                obtain ⟨k9, sd9, hk9, hC9, hg9, hsz9⟩ := hD.grew
                have D9 := hid (D8.out.grew hg9 (by omega))
                have C9 := hid hC9
                have hR9 : Grew p w w9 := hR8.trans hg9
                have hz9 : w8.heap.size ≤ w9.heap.size := hg9.size
                clear D8 C8 hD hg9 hC9 hsz9
                go_wp2_with fail
                refine (stepC ao c q z3 w9 (by omega) D9.out).mono ?_
                rintro e w10 ⟨⟨uao, uc, uq, xo2, xc2, xn2, cv2, rfl, hU⟩, hb10⟩
                have D10 := hid (D9.out.later hb10)
                have C10 := hid (C9.out.later hb10)
                have hR10 : Grew p w w10 := hR9.trans (Grew.of_below hb10)
                have hz10 : w9.heap.size ≤ w10.heap.size := hb10.size
                clear D9 C9 
                have HU := hid hU
                clear hU
                by_cases hc2 : cv2 = 0
                · have hE := HU.out hc2
                  subst hc2
                  have G10 := hid hE.2
                  have hul := hE.1
                  clear hE HU
                  go_wp2
                  go_roundw
                  case rel => exact ⟨m, k9, sd9, uao, uc, uq, rfl, by go_num, by omega, by omega, by omega, hid (G10.out.wide (by omega) (by omega)), C10, hR10⟩
                  case measure => simp [intOf] <;> omega
                · have hc3 : (cv2 == 0) = false := by simpa using hc2
                  clear HU
                  go_wp2
                  go_roundw
                  case rel => exact ⟨m, k9, sd9, ao, c, q, rfl, by go_num, by omega, by omega, by omega, hid (D10.out.wide (by omega) (by omega)), C10, hR10⟩
                  case measure => simp [intOf] <;> omega
      | zero =>
        go_wp2_with fail
        refine (pick_any 40 p co cap bs k0 sd0 wr hl (by omega) C4.out).mono ?_
        rintro e w5 ⟨⟨y, rfl, h0y, h1y⟩, hD⟩
        obtain ⟨k5, sd5, hk5, hC5, hg5, hsz5⟩ := hD.grew
        have D5 := hid (D4.out.grew hg5 (by omega))
        have C5 := hid hC5
        have hR5 : Grew p w w5 := hR4.trans hg5
        have hz5 : wr.heap.size ≤ w5.heap.size := hg5.size
        clear D4 C4 hD hg5 hC5 hsz5
        have hy3 : y = 0 ∨ y = 1 ∨ (y ≠ 0 ∧ y ≠ 1) := by omega
        clear h0y h1y
        rcases hy3 with rfl | rfl | ⟨y0, y1⟩
        · go_wp2_with fail
          refine (pick_any 4 p co cap bs k5 sd5 w5 hl (by omega) C5.out).mono ?_
          rintro e w6 ⟨⟨z, rfl, h0z, h1z⟩, hD⟩
          obtain ⟨k6, sd6, hk6, hC6, hg6, hsz6⟩ := hD.grew
          have D6 := hid (D5.out.grew hg6 (by omega))
          have C6 := hid hC6
          have hR6 : Grew p w w6 := hR5.trans hg6
          have hz6 : w5.heap.size ≤ w6.heap.size := hg6.size
          clear D5 C5 hD hg6 hC6 hsz6
          obtain ⟨w7, hV⟩ : ∃ V, V = w6.alloc (.cells #[.int .i64 (-1), .int .i64 3] 3) := ⟨_, rfl⟩
          have D7 := hid (D6.out.later (below1 w6 (.cells #[.int .i64 (-1), .int .i64 3] 3)))
          rw [← hV] at D7
          have C7 := hid (C6.out.later (below1 w6 (.cells #[.int .i64 (-1), .int .i64 3] 3)))
          rw [← hV] at C7
          have hR7 : Grew p w w7 := by rw [hV]; exact hR6.trans (Grew.alloc p _ _)
          have hz7 : w6.heap.size ≤ w7.heap.size := by rw [hV]; simp
          have H7 := hid hV
          clear hV D6 C6
          have XU7 : Hid (Bx w7 w6.heap.size [.int .i64 (-1), .int .i64 3]) := by rw [H7.out]; exact Bx.new [.int .i64 (-1), .int .i64 3] _ rfl
          have hy7 : w6.heap.size < w7.heap.size := XU7.out.size
          have u0 := XU7.out.c 0 rfl
          have uf0 := XU7.out.f 0 rfl
          have u1 := XU7.out.c 1 rfl
          have uf1 := XU7.out.f 1 rfl
          have uz := XU7.out.size
          go_wp2_with fail
          clear u0 uf0 u1 uf1 uz
          rw [← H7.out]
          clear H7
          refine (among_in [-1, 3] w6.heap.size p co cap bs k6 sd6 w7 hl (by omega) C7.out (by simp) (by simp) XU7.out (by omega)).mono ?_
          rintro e w8 ⟨⟨z2, hmz, rfl⟩, hD⟩
          obtain ⟨k8, sd8, hk8, hC8, hg8, hsz8⟩ := hD.grew
          have XU8 := hid (XU7.out.grew hg8 (by omega))
          have D8 := hid (D7.out.grew hg8 (by omega))
          have C8 := hid hC8
          have hR8 : Grew p w w8 := hR7.trans hg8
          have hz8 : w7.heap.size ≤ w8.heap.size := hg8.size
          clear XU7 D7 C7 hD hg8 hC8 hsz8
          clear hmz
          have u0 := XU8.out.c 0 rfl
          have uf0 := XU8.out.f 0 rfl
          have u1 := XU8.out.c 1 rfl
          have uf1 := XU8.out.f 1 rfl
          have uz := XU8.out.size
          go_wp2_with fail
          clear u0 uf0 u1 uf1 uz
          refine (pick_any 4 p co cap bs k8 sd8 w8 hl (by omega) C8.out).mono ?_
          rintro e w9 ⟨⟨z3, rfl, h0z3, h1z3⟩, hD⟩
          obtain ⟨k9, sd9, hk9, hC9, hg9, hsz9⟩ := hD.grew
          have XU9 := hid (XU8.out.grew hg9 (by omega))
          have D9 := hid (D8.out.grew hg9 (by omega))
          have C9 := hid hC9
          have hR9 : Grew p w w9 := hR8.trans hg9
          have hz9 : w8.heap.size ≤ w9.heap.size := hg9.size
          clear XU8 D8 C8 hD hg9 hC9 hsz9
          have HA := hid (D9.out.later (below1 w9 (.cells #[.int .i64 (z - 2), .int .i64 z2, .int .i64 z3] 48)))
          have Ca := hid (C9.out.later (below1 w9 (.cells #[.int .i64 (z - 2), .int .i64 z2, .int .i64 z3] 48)))
          have hRa : Grew p w (w9.alloc (.cells #[.int .i64 (z - 2), .int .i64 z2, .int .i64 z3] 48)) := hR9.trans (Grew.alloc p _ _)
          have HN : Hid (kS.In (w9.heap.size + 1) (w9.alloc (.cells #[.int .i64 (z - 2), .int .i64 z2, .int .i64 z3] 48)) (some ⟨w9.heap.size, 0, none⟩) [(z - 2, z2, z3)]) := kS_one (by omega) (by simp) (by simp) (by simp)
          obtain ⟨zs, hzs⟩ : ∃ zs, zs = q ++ [(z - 2, z2, z3)] := ⟨_, rfl⟩
          have hzl : zs.length ≤ 30 := by rw [hzs]; simp; omega
          have HZ := hid hzs
          clear hzs
          have hws : w.heap.size ≤ w9.heap.size := hR9.size
          go_wp2_with (at_builtin; refine Kind.app kS_ok (w9.alloc (.cells #[.int .i64 (z - 2), .int .i64 z2, .int .i64 z3] 48)) rfl (.tmp 68) (.tmp 78) rfl w.heap.size (.slice ao q.length c) q rfl HA.out.1 (by simp <;> omega) (some ⟨w9.heap.size, 0, none⟩) [(z - 2, z2, z3)] 1 1 rfl rfl (by simp) _ HN.out (by simp <;> omega) ?_; intro v' w10 hO hB hG hn; rw [← HZ.out] at hO; obtain ⟨ao3, c3, rfl, hO3⟩ := hO.as; have D10 := hid (Kind.RW.of hO3); have C10 := hid (Ca.out.below hB (by omega)); have hR10 := hRa.of_below2 hB (by omega); clear hO hB hG hn hO3)
          go_ret
          exact ⟨⟨ao3, c3, zs, rfl, by omega, D10.out.wide (by omega) (by omega)⟩, k9, sd9, by omega, C10.out, hR10⟩
        · by_cases hql : q.length = 0
          · obtain rfl : q = [] := List.length_eq_zero_iff.1 hql
            clear hql
            go_wp2
            go_ret
            exact ⟨⟨ao, c, ([] : List Sc), rfl, by omega, D5.out.wide (by omega) (by omega)⟩, k5, sd5, by omega, C5.out, hR5⟩
          · have hl1 : decide (0 < (q.length : Int)) = true := by simp; omega
            have hl2 : (0 : Int) < (q.length : Int) := by omega
            obtain ⟨gg, rfl, hF⟩ : ∃ g, ao = some ⟨g, 0, none⟩ ∧ kS.Fresh w.heap.size w5.heap.size w5 (some ⟨g, 0, none⟩) c q := by
              obtain ⟨go, qc, e, _, hF⟩ := D5.out.1.fresh
              simp at e; obtain ⟨rfl, rfl⟩ := e
              obtain ⟨g, e2, _⟩ := hF.at (by omega)
              exact ⟨g, e2, by rw [← e2]; exact hF⟩
            have HF := hid hF
            clear hF
            go_wp2_with fail
            refine (pick_any 3 p co cap bs k5 sd5 w5 hl (by omega) C5.out).mono ?_
            rintro e w6 ⟨⟨z, rfl, h0z, h1z⟩, hD⟩
            obtain ⟨k6, sd6, hk6, hC6, hg6, hsz6⟩ := hD.grew
            have D6 := hid (D5.out.grew hg6 (by omega))
            have C6 := hid hC6
            have hR6 : Grew p w w6 := hR5.trans hg6
            have hz6 : w5.heap.size ≤ w6.heap.size := hg6.size
            clear D5 C5 hD hg6 hC6 hsz6
            have F2 : kS.Fresh w.heap.size w6.heap.size w6 (some ⟨gg, 0, none⟩) c q := by
              obtain ⟨go, qc, e, _, hF⟩ := D6.out.1.fresh
              simp at e; obtain ⟨rfl, rfl⟩ := e
              exact hF
            obtain ⟨g2, eg, hg1, hg2, hg3, hO⟩ := F2.at (by omega)
            cases eg
            have hgl : gg < w6.heap.size := hg3
            have HF2 := hid F2
            obtain ⟨bb, oo, ebo, hbb, hcc⟩ := kS_at F2.in (k := 0) (by omega)
            cases ebo
            have c2 := (hcc 0 (by omega)).2.2
            have f2 := hO.frozenAt 2
            clear hcc hbb hO F2 HF hg2 hg3
            simp only [Nat.zero_add, Nat.zero_mul] at c2
            go_wp2
            go_ret
            have F3 := Kind.Fresh.set HF2.out 0 (by omega) 2 (by decide) (.int .i64 z) ((el q 0).1, (el q 0).2.1, z) rfl
            exact ⟨⟨some ⟨gg, 0, none⟩, c, q.set 0 ((el q 0).1, (el q 0).2.1, z), by simp, by simp; omega, Kind.RW.of (F3.own (by simp; omega))⟩, k6, sd6, by omega, C6.out.other (a := ⟨gg, 2, none⟩) (by dsimp only; omega) _, hR6.set (a := ⟨gg, 2, none⟩) (by dsimp only; omega) _⟩
        · have e0 : (y == 0) = false := by simpa using y0
          have f0 : decide (y = 0) = false := by simpa using y0
          have e1 : (y == 1) = false := by simpa using y1
          have f1 : decide (y = 1) = false := by simpa using y1
          go_wp2
          go_ret
          exact ⟨⟨ao, c, q, rfl, by omega, D5.out.wide (by omega) (by omega)⟩, k5, sd5, by omega, C5.out, hR5⟩
end Go.Proofs.Ytdgnolpimmdgjaa
