
/- Whether a box is good: the specification. No conditions but those written. -/
import Derived.Test.YtnnlbnbamhkcaaaDb
namespace Go.Proofs.Ytnnlbnbamhkcaaa
open Go.RowKit

set_option maxRecDepth 10000 in
set_option maxHeartbeats 8000000 in
theorem specGood_is (kap : Int) (cl : Bool) (bo : Option Addr) (bc : Nat) (b : List Int) (so : Option Addr) (sc : Nat) (s : List (Int × Int × Int)) (ro : Option Addr) (rc : Nat) (r : List (Int × Int × Int)) (w : World) (x : Bool) (hlb : b.length ≤ 1048576) (hls : s.length ≤ 1048576) (hlr : r.length ≤ 1048576) (hz : InBox w.heap.size w bo b so s ro r) (hx : goodX kap b s r = x) :
    Calls Try.prog 16 #[.agg #[.int .i64 kap, .bool cl, .slice bo b.length bc, .slice so s.length sc, .slice ro r.length rc]] w fun e w' => e = .returned (.bool x) ∧ Below w.heap.size w w' := by
  have hB0 := below1 w (.cells #[.int .i64 kap, .bool cl, .slice bo b.length bc, .slice so s.length sc, .slice ro r.length rc] 26)
  have A0 := hid (Bx.new (w := w) (p := w.heap.size) [.int .i64 kap, .bool cl, .slice bo b.length bc, .slice so s.length sc, .slice ro r.length rc] 26 rfl)
  cases h1 : (decide (1 ≤ kap) && decide (kap ≤ 30))
  · have HV : Hid (x = false) := by rw [Hid, ← hx]; exact goodX_kap h1
    have H1 : Hid ((decide (1 ≤ kap) && decide (kap ≤ 30)) = false) := h1
    clear hx h1
    go_enter Try.func16, Try.ntmps16
    go_wp2_with fail
    refine (l1In_is kap 1 30 _ false H1.out).mono ?_
    rintro e w1 ⟨rfl, rfl⟩
    go_wp2
    go_ret
    exact ⟨ret_bool HV.out.symm, hB0⟩
  have H1 : Hid ((decide (1 ≤ kap) && decide (kap ≤ 30)) = true) := h1
  by_cases h3 : 30 < b.length
  · have HV : Hid (x = false) := by rw [Hid, ← hx]; exact goodX_sys (by omega)
    have h3' : decide ((30 : Int) < (b.length : Int)) = true := by simp; omega
    clear hx h1
    go_enter Try.func16, Try.ntmps16
    go_wp2_with fail
    refine (l1In_is kap 1 30 _ true H1.out).mono ?_
    rintro e w1 ⟨rfl, rfl⟩
    go_wp2
    go_ret
    exact ⟨ret_bool HV.out.symm, hB0⟩
  have h3' : decide ((30 : Int) < (b.length : Int)) = false := by simp; omega
  by_cases h4 : kap < (s.length : Int) + r.length
  · have HV : Hid (x = false) := by rw [Hid, ← hx]; exact goodX_room (by omega)
    have h4' : decide (kap < (s.length : Int) + (r.length : Int)) = true := by simpa using h4
    clear hx h1
    go_enter Try.func16, Try.ntmps16
    go_wp2_with fail
    refine (l1In_is kap 1 30 _ true H1.out).mono ?_
    rintro e w1 ⟨rfl, rfl⟩
    go_wp2
    go_ret
    exact ⟨ret_bool HV.out.symm, hB0⟩
  have h4' : decide (kap < (s.length : Int) + (r.length : Int)) = false := by simpa using h4
  have HX : Hid ((onceB (idsOf s ++ idsOf r) && (triesB 0 s && triesB 1 r)) = x) := by rw [Hid, ← hx]; exact (goodX_tail h1 (by omega) (by omega)).symm
  have hk30 : kap ≤ 30 := by simp at h1; exact h1.2
  clear hx h1
  go_enter Try.func16, Try.ntmps16
  go_wp2_with fail
  refine (l1In_is kap 1 30 _ true H1.out).mono ?_
  rintro e w1 ⟨rfl, hw1⟩
  subst hw1
  go_wp2_with fail
  refine (l6Ids_any kap cl bo bc b so sc s ro rc r _ hlb hls hlr (hz.later hB0)).mono ?_
  rintro e w1 ⟨⟨qo, qc, rfl, hF1⟩, hb1⟩
  have hB1 := hB0.trans (hb1.mono hB0.size)
  have A1 := hid (A0.out.later hb1)
  have HF := hid hF1
  have HQ : Hid ((idsOf s ++ idsOf r).length ≤ 2097152) := by simp only [Hid, List.length_append, idsOf_len]; omega
  clear hb1 hF1 A0 hB0
  obtain ⟨q, eq⟩ : ∃ q, q = idsOf s ++ idsOf r := ⟨_, rfl⟩
  rw [← eq] at HF HX HQ ⊢
  have hq2 : q.length ≤ 2097152 := HQ.out
  have hsr : s.length + r.length ≤ 1048576 := by omega
  have hq1 : q.length ≤ 1048576 := by rw [eq, List.length_append, idsOf_len, idsOf_len]; exact hsr
  have hcap : q.length ≤ qc := HF.out.cap
  have HI : Hid (kI.In w1.heap.size w1 qo q) := HF.out.in
  clear eq HF HQ hsr
  go_wp2
  go_loop [36] (fun i => ∃ k : Nat, k ≤ q.length ∧ i = .int .i64 k ∧ Hid ((q.take k).Nodup)) (fun i => q.length - (intOf i).toNat)
  case atStart => exact ⟨0, Nat.zero_le _, rfl, by simp [Hid]⟩
  case round =>
    obtain ⟨k, hk, rfl, hno⟩ := hrel
    by_cases hlt : k < q.length
    · obtain ⟨bb, off, rfl, hbb, hcs⟩ := ints_at HI.out hlt
      have hck := hcs k hlt
      clear hcs
      obtain ⟨y, ey⟩ : ∃ x, x = el q k := ⟨_, rfl⟩
      rw [← ey] at hck
      have HY : Hid (y = el q k) := ey
      clear ey
      cases hm : hasB (q.take k) y
      · have HM : Hid (hasB (q.take k) y = false) := hm
        clear hm
        go_wp2_with fail
        refine (l1Has_of w1.heap.size _ k qc (q.take k) y _ false (by simp; omega) (by simp; omega) (HI.out.take k) HM.out).mono ?_
        rintro e w2 ⟨rfl, rfl⟩
        go_wp2
        go_round
        case rel => exact ⟨k + 1, by omega, by go_num, nodup_succ hlt hno.out (by rw [← HY.out]; simpa [hasB] using HM.out)⟩
        case measure => simp [intOf]; omega
      · have HM : Hid (hasB (q.take k) y = true) := hm
        have HV : Hid (x = false) := by rw [Hid, ← HX.out, onceB_no k hlt (by rw [← HY.out]; exact hm)]; rfl
        clear hm
        go_wp2_with fail
        refine (l1Has_of w1.heap.size _ k qc (q.take k) y _ true (by simp; omega) (by simp; omega) (HI.out.take k) HM.out).mono ?_
        rintro e w2 ⟨rfl, rfl⟩
        go_wp2
        go_ret
        exact ⟨ret_bool HV.out.symm, hB1⟩
    · obtain rfl : k = q.length := by omega
      have HX2 : Hid ((triesB 0 s && triesB 1 r) = x) := by rw [Hid, ← HX.out, onceB_yes hno.out]; rfl
      have a3 := A1.out.c 3 rfl
      clear hno HX hk
      go_wp2
      go_loopw [50] (fun i wr => ∃ k : Nat, k ≤ s.length ∧ i = .int .i64 k ∧ Hid (∀ j, j < k → (decide (0 ≤ (el s j).2.2) && decide ((el s j).2.2 ≤ 1000)) = true) ∧ Hid (Bx wr w.heap.size [.int .i64 kap, .bool cl, .slice bo b.length bc, .slice so s.length sc, .slice ro r.length rc]) ∧ Below w.heap.size w wr) (fun i _ => s.length - (intOf i).toNat)
      case atStart => exact ⟨0, Nat.zero_le _, rfl, fun j hj => by omega, A1, hB1⟩
      case round =>
        obtain ⟨k, hk, rfl, hno, hA, hB⟩ := hrel
        have hpA := hA.out.size
        by_cases hlt : k < s.length
        · obtain ⟨bb, off, rfl, hbb, hc⟩ := kL_at hz.2.1 hlt
          have d1 := (hB.cell (p := ⟨bb, off + k * 3, none⟩) hbb).trans (hc k hlt).1
          have d2 := (hB.cell (p := ⟨bb, off + k * 3 + 1, none⟩) hbb).trans (hc k hlt).2.1
          have d3 := (hB.cell (p := ⟨bb, off + k * 3 + 2, none⟩) hbb).trans (hc k hlt).2.2
          obtain ⟨⟨y1, y2, y3⟩, ey⟩ : ∃ v, v = el s k := ⟨_, rfl⟩
          rw [← ey] at d1 d2 d3
          have HY : Hid (el s k = (y1, y2, y3)) := ey.symm
          clear ey hc
          dsimp only at d1 d2 d3
          cases hm : (decide (0 ≤ y3) && decide (y3 ≤ 1000))
          · have HM : Hid ((decide (0 ≤ y3) && decide (y3 ≤ 1000)) = false) := hm
            have HV : Hid (x = false) := by rw [Hid, ← HX2.out, triesB_no k hlt (by rw [HY.out]; exact hm)] <;> simp
            clear hm
            go_wp2_with fail
            refine (l1In_is y3 0 1000 _ false HM.out).mono ?_
            rintro e w2 ⟨rfl, hw2⟩
            rw [hw2]; clear hw2
            go_wp2
            go_ret
            exact ⟨ret_bool HV.out.symm, Below.allocS hB _⟩
          · have HM : Hid ((decide (0 ≤ y3) && decide (y3 ≤ 1000)) = true) := hm
            clear hm
            go_wp2_with fail
            refine (l1In_is y3 0 1000 _ true HM.out).mono ?_
            rintro e w2 ⟨rfl, hw2⟩
            rw [hw2]; clear hw2
            go_wp2
            go_roundw
            case rel => exact ⟨k + 1, by omega, by go_num, fun j hj => by
              rcases Nat.lt_succ_iff_lt_or_eq.1 hj with h | rfl
              · exact hno.out j h
              · rw [HY.out]; exact HM.out, hid (hA.out.alloc _), Below.allocS hB _⟩
            case measure => simp [intOf]; omega
        · obtain rfl : k = s.length := by omega
          have HX3 : Hid (triesB 1 r = x) := by rw [Hid, ← HX2.out, triesB_yes hno.out]; rfl
          have a4 := hA.out.c 4 rfl
          clear hno hk
          go_wp2
          go_loopw [62] (fun i wr => ∃ k : Nat, k ≤ r.length ∧ i = .int .i64 k ∧ Hid (∀ j, j < k → (decide (1 ≤ (el r j).2.2) && decide ((el r j).2.2 ≤ 1000)) = true) ∧ Hid (Bx wr w.heap.size [.int .i64 kap, .bool cl, .slice bo b.length bc, .slice so s.length sc, .slice ro r.length rc]) ∧ Below w.heap.size w wr) (fun i _ => r.length - (intOf i).toNat)
          case atStart => exact ⟨0, Nat.zero_le _, rfl, fun j hj => by omega, hA, hB⟩
          case round =>
            obtain ⟨k, hk, rfl, hno, hA, hB⟩ := hrel
            have hpA := hA.out.size
            by_cases hlt : k < r.length
            · obtain ⟨bb, off, rfl, hbb, hc⟩ := kL_at hz.2.2 hlt
              have d1 := (hB.cell (p := ⟨bb, off + k * 3, none⟩) hbb).trans (hc k hlt).1
              have d2 := (hB.cell (p := ⟨bb, off + k * 3 + 1, none⟩) hbb).trans (hc k hlt).2.1
              have d3 := (hB.cell (p := ⟨bb, off + k * 3 + 2, none⟩) hbb).trans (hc k hlt).2.2
              obtain ⟨⟨y1, y2, y3⟩, ey⟩ : ∃ v, v = el r k := ⟨_, rfl⟩
              rw [← ey] at d1 d2 d3
              have HY : Hid (el r k = (y1, y2, y3)) := ey.symm
              clear ey hc
              dsimp only at d1 d2 d3
              cases hm : (decide (1 ≤ y3) && decide (y3 ≤ 1000))
              · have HM : Hid ((decide (1 ≤ y3) && decide (y3 ≤ 1000)) = false) := hm
                have HV : Hid (x = false) := by rw [Hid, ← HX3.out, triesB_no k hlt (by rw [HY.out]; exact hm)] <;> simp
                clear hm
                go_wp2_with fail
                refine (l1In_is y3 1 1000 _ false HM.out).mono ?_
                rintro e w2 ⟨rfl, hw2⟩
                rw [hw2]; clear hw2
                go_wp2
                go_ret
                exact ⟨ret_bool HV.out.symm, Below.allocS hB _⟩
              · have HM : Hid ((decide (1 ≤ y3) && decide (y3 ≤ 1000)) = true) := hm
                clear hm
                go_wp2_with fail
                refine (l1In_is y3 1 1000 _ true HM.out).mono ?_
                rintro e w2 ⟨rfl, hw2⟩
                rw [hw2]; clear hw2
                go_wp2
                go_roundw
                case rel => exact ⟨k + 1, by omega, by go_num, fun j hj => by
                  rcases Nat.lt_succ_iff_lt_or_eq.1 hj with h | rfl
                  · exact hno.out j h
                  · rw [HY.out]; exact HM.out, hid (hA.out.alloc _), Below.allocS hB _⟩
                case measure => simp [intOf]; omega
            · obtain rfl : k = r.length := by omega
              have HV : Hid (x = true) := by rw [Hid, ← HX3.out]; exact triesB_yes hno.out
              go_wp2
              go_ret
              exact ⟨ret_bool HV.out.symm, hB⟩
end Go.Proofs.Ytnnlbnbamhkcaaa
