
/- Places of ids. No conditions but those written. -/
import Derived.Test.YtimkadnnhfllnaaTq
import Derived.Test.YtimkadnnhfllnaaQt
namespace Go.Proofs.Ytimkadnnhfllnaa
open Go.RowKit

/-- k is the first place whose id is not below id. -/
def PlAt (ps : List PSub) (id : Int) (k : Nat) : Prop := k ≤ ps.length ∧ (∀ j, j < k → (el ps j).1 < id) ∧ (k < ps.length → id ≤ (el ps k).1)
theorem PlAt.is {ps : List PSub} {id : Int} {k j : Nat} (h : PlAt ps id k) (hj : j ≤ ps.length) (h1 : ∀ i, i < j → (el ps i).1 < id) (h2 : j < ps.length → id ≤ (el ps j).1) : j = k := by
  obtain ⟨a, b, c⟩ := h
  rcases Nat.lt_trichotomy j k with hl | rfl | hl
  · have := b j hl; have := h2 (by omega); omega
  · rfl
  · have := h1 k hl; have := c (by omega); omega
/-- The first place whose id is not below id. -/
def pl (ps : List PSub) (id : Int) : Nat := ps.findIdx (fun p => decide (id ≤ p.1))
theorem pl_is (ps : List PSub) (id : Int) : PlAt ps id (pl ps id) := by
  refine ⟨List.findIdx_le_length, fun j hj => ?_, fun hk => ?_⟩
  · have := List.not_of_lt_findIdx hj
    have hl : j < ps.length := Nat.lt_of_lt_of_le hj List.findIdx_le_length
    rw [el_at hl]
    have h2 : ¬ (id ≤ (ps[j]'hl).1) := by simpa using this
    omega
  · have h : decide (id ≤ (ps[ps.findIdx (fun p => decide (id ≤ p.1))]'hk).1) = true := List.findIdx_getElem (w := hk)
    show id ≤ (el ps (pl ps id)).1
    rw [el_at hk]; exact of_decide_eq_true h
/-- The id is there. -/
def thB (ps : List PSub) (id : Int) : Bool := decide (pl ps id < ps.length) && ((el ps (pl ps id)).1 == id)
theorem thB_lt {ps : List PSub} {id : Int} (h : thB ps id = true) : pl ps id < ps.length := by simp [thB] at h; exact h.1
/-- The place of the id, or -1. -/
def atI (ps : List PSub) (id : Int) : Int := if thB ps id then (pl ps id : Int) else -1
theorem rising {ps : List PSub} (h : ∀ j, j < ps.length → stepB ps j = true) : ∀ j i, i < j → j < ps.length → (el ps i).1 < (el ps j).1
  | 0, i, hi, _ => by omega
  | j + 1, i, hi, hj => by
    have hs := h (j + 1) hj
    simp [stepB] at hs
    rcases Nat.lt_succ_iff_lt_or_eq.1 hi with hl | rfl
    · have := rising h j i hl (by omega); omega
    · exact hs.2
set_option maxRecDepth 10000 in
set_option maxHeartbeats 4000000 in
theorem placeOf_is (sd : Int) (ao : Option Addr) (cap : Nat) (ts : List LSub) (id : Int) (w : World) (hl : ts.length ≤ 1048576) (hz : hSub.In w.heap.size w ao ts) :
    Calls Try.prog 21 #[.agg #[.int .i64 sd, .slice ao ts.length cap], .int .i64 id] w fun e w' => e = .returned (.tuple #[.int .i64 (pl (ts.map valSub) id), .bool (thB (ts.map valSub) id)]) ∧ Below w.heap.size w w' := by
  have HZ := hid hz
  have hB0 := below1 w (.cells #[.int .i64 sd, .slice ao ts.length cap] 25)
  have A0 := hid (Bx.new (w := w) (p := w.heap.size) [.int .i64 sd, .slice ao ts.length cap] 25 rfl)
  have hlm : (ts.map valSub).length = ts.length := by simp
  have HLM := hid hlm
  clear hz hlm
  go_enter Try.func21, Try.ntmps21
  go_wp2
  go_loopw [11] (fun i wr => ∃ k : Nat, k ≤ ts.length ∧ i = .int .i64 k ∧ Below w.heap.size w wr ∧ Hid (Bx wr w.heap.size [.int .i64 sd, .slice ao ts.length cap]) ∧ Hid (∀ j, j < k → (el (ts.map valSub) j).1 < id)) (fun i _ => ts.length - (intOf i).toNat)
  case atStart => exact ⟨0, Nat.zero_le _, rfl, hB0, A0, fun j hj => by omega⟩
  case round =>
    clear hB0 A0
    obtain ⟨k, hk, rfl, hB, hX, hno⟩ := hrel
    by_cases hlt : k < ts.length
    · obtain ⟨b0, off, rfl, hb, hc⟩ := hSub_at HZ.out hlt
      have d1 := (hB.cell (p := ⟨b0, off + k * 5, none⟩) hb).trans (hc k hlt).1
      have d2 := (hB.cell (p := ⟨b0, off + k * 5 + 1, none⟩) hb).trans (hc k hlt).2.1
      have d3 := (hB.cell (p := ⟨b0, off + k * 5 + 2, none⟩) hb).trans (hc k hlt).2.2.1
      have d4 := (hB.cell (p := ⟨b0, off + k * 5 + 3, none⟩) hb).trans (hc k hlt).2.2.2.1
      have d5 := (hB.cell (p := ⟨b0, off + k * 5 + 4, none⟩) hb).trans (hc k hlt).2.2.2.2
      have hev := el_val hlt
      obtain ⟨⟨nd, kap, dr, dp, ⟨qo, qc, q⟩⟩, ey⟩ : ∃ v, v = el ts k := ⟨_, rfl⟩
      rw [← ey] at d1 d2 d3 d4 d5 hev
      have HE : Hid (el (ts.map valSub) k = (nd, kap, dr, dp, q)) := hev
      clear ey hev hc
      dsimp only at d1 d2 d3 d4 d5
      have hbW := below1 wr (.cells #[.int .i64 nd, .int .i64 kap, .bool dr, .int .i64 dp, .slice qo q.length qc] 36)
      have hBW := hB.trans (hbW.mono hB.size)
      have XV := hid (hX.out.later hbW)
      clear hbW hX
      by_cases hge : id ≤ nd
      · have hge' : decide (id ≤ nd) = true := by simpa using hge
        have hpl : k = pl (ts.map valSub) id := (pl_is _ _).is (by rw [HLM.out]; exact hk) hno.out (fun _ => by rw [HE.out]; exact hge)
        have HPL := hid hpl
        have HTH : Hid (thB (ts.map valSub) id = (nd == id)) := by rw [Hid, thB, ← hpl, HLM.out, decide_eq_true hlt, HE.out]; rfl
        clear hpl hge
        go_wp2
        go_quiet (fail)
        go_wp2
        refine bodyPost_ret (v := .tuple #[.int .i64 k, .bool (nd == id)]) (by simp [results, Try.results21, go_sem]) rfl ⟨by rw [HTH.out, ← HPL.out], ?_⟩
        exact below_draws hBW _
      · have hge' : decide (id ≤ nd) = false := by simpa using hge
        have HGE := hid hge
        clear hge
        go_wp2
        go_roundw
        case rel => exact ⟨k + 1, by omega, by go_num, hBW, XV, fun j hj => by
          rcases Nat.lt_succ_iff_lt_or_eq.1 hj with h | rfl
          · exact hno.out j h
          · rw [HE.out]; have := HGE.out; dsimp only; omega⟩
        case measure => simp [intOf]; omega
    · obtain rfl : k = ts.length := by omega
      have hpl : ts.length = pl (ts.map valSub) id := (pl_is _ _).is (by rw [HLM.out]; exact hk) hno.out (fun h => by rw [HLM.out] at h; omega)
      have HTH : Hid (thB (ts.map valSub) id = false) := by rw [Hid, thB, ← hpl, HLM.out, decide_eq_false (by omega)]; rfl
      have HPL := hid hpl
      have x1 := hX.out.c 1 rfl
      clear hpl
      go_wp2
      refine bodyPost_ret (v := .tuple #[.int .i64 ts.length, .bool false]) (by simp [results, Try.results21, go_sem]) rfl ⟨by rw [HTH.out, ← HPL.out], hB⟩
set_option maxRecDepth 10000 in
set_option maxHeartbeats 4000000 in
theorem l9At_is (sd : Int) (ao : Option Addr) (cap : Nat) (ts : List LSub) (id : Int) (w : World) (hl : ts.length ≤ 1048576) (hr : ∀ j, j < (ts.map valSub).length → stepB (ts.map valSub) j = true) (hz : hSub.In w.heap.size w ao ts) :
    Calls Try.prog 39 #[.agg #[.int .i64 sd, .slice ao ts.length cap], .int .i64 id] w fun e w' => e = .returned (.int .i64 (atI (ts.map valSub) id)) ∧ Below w.heap.size w w' := by
  have HZ := hid hz
  have hB0 := below1 w (.cells #[.int .i64 sd, .slice ao ts.length cap] 25)
  have hlm : (ts.map valSub).length = ts.length := by simp
  have HLM := hid hlm
  have HR := hid (rising hr)
  clear hz hlm hr
  go_enter Try.func39, Try.ntmps39
  go_wp2
  go_loopw [10] (fun i wr => ∃ k : Nat, k ≤ ts.length ∧ i = .int .i64 k ∧ Below w.heap.size w wr ∧ Hid (∀ j, j < k → (el (ts.map valSub) j).1 ≠ id)) (fun i _ => ts.length - (intOf i).toNat)
  case atStart => exact ⟨0, Nat.zero_le _, rfl, hB0, fun j hj => by omega⟩
  case round =>
    clear hB0
    obtain ⟨k, hk, rfl, hB, hno⟩ := hrel
    by_cases hlt : k < ts.length
    · obtain ⟨b0, off, rfl, hb, hc⟩ := hSub_at HZ.out hlt
      have d1 := (hB.cell (p := ⟨b0, off + k * 5, none⟩) hb).trans (hc k hlt).1
      have d2 := (hB.cell (p := ⟨b0, off + k * 5 + 1, none⟩) hb).trans (hc k hlt).2.1
      have d3 := (hB.cell (p := ⟨b0, off + k * 5 + 2, none⟩) hb).trans (hc k hlt).2.2.1
      have d4 := (hB.cell (p := ⟨b0, off + k * 5 + 3, none⟩) hb).trans (hc k hlt).2.2.2.1
      have d5 := (hB.cell (p := ⟨b0, off + k * 5 + 4, none⟩) hb).trans (hc k hlt).2.2.2.2
      have hev := el_val hlt
      obtain ⟨⟨nd, kap, dr, dp, ⟨qo, qc, q⟩⟩, ey⟩ : ∃ v, v = el ts k := ⟨_, rfl⟩
      rw [← ey] at d1 d2 d3 d4 d5 hev
      have HE : Hid (el (ts.map valSub) k = (nd, kap, dr, dp, q)) := hev
      clear ey hev hc
      dsimp only at d1 d2 d3 d4 d5
      have hBW := Below.allocS hB (.cells #[.int .i64 nd, .int .i64 kap, .bool dr, .int .i64 dp, .slice qo q.length qc] 36)
      by_cases hge : nd = id
      · have hge' : (nd == id) = true := by simpa using hge
        have hpl : k = pl (ts.map valSub) id := (pl_is _ _).is (by rw [HLM.out]; exact hk) (fun i hi => by have := HR.out k i hi (by rw [HLM.out]; exact hlt); rw [HE.out] at this; dsimp only at this; omega) (fun _ => by rw [HE.out]; dsimp only; omega)
        have HPL : Hid ((atI (ts.map valSub) id) = (k : Int)) := by
          have : thB (ts.map valSub) id = true := by rw [thB, ← hpl, HLM.out, decide_eq_true hlt, HE.out]; simpa using hge
          rw [Hid, atI, this, ← hpl]; rfl
        clear hpl hge
        go_wp2
        go_ret
        exact ⟨by rw [HPL.out]; rfl, hBW⟩
      · have hge' : (nd == id) = false := by simpa using hge
        have HGE := hid hge
        clear hge
        go_wp2
        go_roundw
        case rel => exact ⟨k + 1, by omega, by go_num, hBW, fun j hj => by
          rcases Nat.lt_succ_iff_lt_or_eq.1 hj with h | rfl
          · exact hno.out j h
          · rw [HE.out]; exact HGE.out⟩
        case measure => simp [intOf]; omega
    · obtain rfl : k = ts.length := by omega
      have HPL : Hid ((atI (ts.map valSub) id) = -1) := by
        have : thB (ts.map valSub) id = false := by
          rw [Bool.eq_false_iff]; intro h
          have h1 := thB_lt h
          simp [thB] at h
          rw [HLM.out] at h1
          exact hno.out _ h1 h.2
        rw [Hid, atI, this]; rfl
      go_wp2
      go_ret
      exact ⟨by rw [HPL.out]; rfl, hB⟩
end Go.Proofs.Ytimkadnnhfllnaa
