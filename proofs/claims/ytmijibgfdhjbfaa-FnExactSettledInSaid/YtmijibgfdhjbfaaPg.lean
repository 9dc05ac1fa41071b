
/- SettledIn: both sides. No conditions but those written. -/
import Derived.Test.YtmijibgfdhjbfaaPe
import Derived.BigQuiet
import Derived.BigRegion
import Derived.RegionTactic
import Derived.ChangeAlike
import Derived.Deep.RegionHeld3
namespace Go.Proofs.Ytmijibgfdhjbfaa
open Go.RowKit

/-- What SettledIn answers. -/
def setR (s1 s2 : Int) (l : List Wo) : Bool × Int × Bool := if poolB s1 s2 l = true then (!hasL 1 l && !hasL 2 l, s2, true) else (false, 0, false)
theorem setR_bad {s1 s2 : Int} {l : List Wo} (h : poolB s1 s2 l = false) : setR s1 s2 l = (false, 0, false) := by rw [setR, if_neg]; rw [h]; simp
theorem setR_ok {s1 s2 : Int} {l : List Wo} (h : poolB s1 s2 l = true) : setR s1 s2 l = (!hasL 1 l && !hasL 2 l, s2, true) := by rw [setR, if_pos h]
/-- Two bools and a number. -/
def AnsZ (w : World) (R : Bool × Int × Bool) (e : Ending) (w' : World) : Prop := e = .returned (.tuple #[.bool R.1, .int .i64 R.2.1, .bool R.2.2]) ∧ Below w.heap.size w w'
theorem set_no {l : List Wo} (k : Nat) (hk : k < l.length) (h : ((el l k).2.1 == 1) = true ∨ ((el l k).2.1 == 2) = true) : (!hasL 1 l && !hasL 2 l) = false := by
  rw [hasL_any, hasL_any]
  rcases h with h | h
  · have : l.any (fun t => t.2.1 == 1) = true := List.any_eq_true.2 ⟨_, el_mem hk, h⟩
    rw [this]; rfl
  · have : l.any (fun t => t.2.1 == 2) = true := List.any_eq_true.2 ⟨_, el_mem hk, h⟩
    rw [this]; simp
theorem set_yes {l : List Wo} (h : ∀ j, j < l.length → ((el l j).2.1 == 1) = false ∧ ((el l j).2.1 == 2) = false) : (!hasL 1 l && !hasL 2 l) = true := by
  rw [hasL_any, hasL_any, any_no fun j hj => (h j hj).1, any_no fun j hj => (h j hj).2]; rfl
set_option maxRecDepth 10000 in
set_option maxHeartbeats 4000000 in
theorem implSettled_any (s1 s2 : Int) (lo : Option Addr) (lc : Nat) (l : List Wo) (w : World) (hl : l.length ≤ 1048576) (hz : kW.In w.heap.size w lo l) :
    Calls Try.prog 22 #[.agg #[.int .i64 s1, .int .i64 s2, .slice lo l.length lc]] w fun e w' => AnsZ w (setR s1 s2 l) e w' := by
  have hB0 := below1 w (.cells #[.int .i64 s1, .int .i64 s2, .slice lo l.length lc] 29)
  have A0 := hid (Bx.new (w := w) (p := w.heap.size) [.int .i64 s1, .int .i64 s2, .slice lo l.length lc] 29 rfl)
  cases hg : poolB s1 s2 l
  · have HG := hid hg
    have HR := hid (setR_bad hg)
    clear hg
    go_enter Try.func22, Try.ntmps22
    go_wp2_with fail
    refine (implGoodPool_is s1 s2 lo lc l _ false hl (hz.later hB0) HG.out).mono ?_
    rintro e w1 ⟨rfl, hb1⟩
    have hB1 := hB0.trans (hb1.mono hB0.size)
    clear hb1
    go_wp2
    refine bodyPost_ret (v := .tuple #[.bool false, .int .i64 0, .bool false]) (by simp [results, Try.results22, go_sem]) rfl ?_
    rw [HR.out]
    exact ⟨rfl, hB1⟩
  · have HG := hid hg
    have HR := hid (setR_ok hg)
    clear hg
    cases h1 : hasL 1 l
    · have H1 := hid h1
      obtain ⟨y, hy⟩ : ∃ y, hasL 2 l = y := ⟨_, rfl⟩
      have HY := hid hy
      rw [h1, hy] at HR
      clear h1 hy
      go_enter Try.func22, Try.ntmps22
      go_wp2_with fail
      refine (implGoodPool_is s1 s2 lo lc l _ true hl (hz.later hB0) HG.out).mono ?_
      rintro e w1 ⟨rfl, hb1⟩
      have hB1 := hB0.trans (hb1.mono hB0.size)
      have A1 := hid (A0.out.later hb1)
      clear hb1 A0
      have a0 := A1.out.c 0 rfl
      have a1 := A1.out.c 1 rfl
      have a2 := A1.out.c 2 rfl
      go_wp2
      go_region_held3 (fun Y => Y.cell? ⟨w.heap.size, 0, none⟩ = some (.int .i64 s1) ∧ Y.cell? ⟨w.heap.size, 1, none⟩ = some (.int .i64 s2) ∧ Y.cell? ⟨w.heap.size, 2, none⟩ = some (.slice lo l.length lc))
        (first | exact ⟨a0, a1, a2⟩ | exact P2 | exact P3)
        (first
          | (go_at_call_of 40 (Value.int IntKind.i64 1); refine (hasAt_is s1 s2 lo lc l 1 _ false hl (by exact hz.later hB1.drew) H1.out).mono ?_; rintro e w2 ⟨rfl, hb2⟩; have hB2 : Below w.heap.size w w2 := hB1.drew.trans (hb2.mono hB1.size); have A2 := A1.out.drew.later hb2; have P2 := (⟨A2.c 0 rfl, A2.c 1 rfl, A2.c 2 rfl⟩ : w2.cell? ⟨w.heap.size, 0, none⟩ = some (.int .i64 s1) ∧ w2.cell? ⟨w.heap.size, 1, none⟩ = some (.int .i64 s2) ∧ w2.cell? ⟨w.heap.size, 2, none⟩ = some (.slice lo l.length lc)); have c20 := A2.c 0 rfl; have c21 := A2.c 1 rfl; have c22 := A2.c 2 rfl; clear hb2)
          | (go_at_call_of 40 (Value.int IntKind.i64 2); refine (hasAt_is s1 s2 lo lc l 2 _ y hl (by exact hz.later hB2) HY.out).mono ?_; rintro e w3 ⟨rfl, hb3⟩; have hB3 : Below w.heap.size w w3 := hB2.trans (hb3.mono hB2.size); have A3 := A2.later hb3; have P3 := (⟨A3.c 0 rfl, A3.c 1 rfl, A3.c 2 rfl⟩ : w3.cell? ⟨w.heap.size, 0, none⟩ = some (.int .i64 s1) ∧ w3.cell? ⟨w.heap.size, 1, none⟩ = some (.int .i64 s2) ∧ w3.cell? ⟨w.heap.size, 2, none⟩ = some (.slice lo l.length lc)); have c30 := A3.c 0 rfl; have c31 := A3.c 1 rfl; have c32 := A3.c 2 rfl; clear hb3))
      all_goals
        go_wp2
        refine bodyPost_ret (v := .tuple #[.bool (!y), .int .i64 s2, .bool true]) (by simp [results, Try.results22, go_sem]) rfl ?_
        rw [HR.out]
        exact ⟨rfl, hB3⟩
    · have H1 := hid h1
      rw [h1] at HR
      clear h1
      go_enter Try.func22, Try.ntmps22
      go_wp2_with fail
      refine (implGoodPool_is s1 s2 lo lc l _ true hl (hz.later hB0) HG.out).mono ?_
      rintro e w1 ⟨rfl, hb1⟩
      have hB1 := hB0.trans (hb1.mono hB0.size)
      have A1 := hid (A0.out.later hb1)
      clear hb1 A0
      have a0 := A1.out.c 0 rfl
      have a1 := A1.out.c 1 rfl
      have a2 := A1.out.c 2 rfl
      go_wp2
      first
      | go_region_with (first
          | (go_at_call_of 40 (Value.int IntKind.i64 1); refine (hasAt_is s1 s2 lo lc l 1 _ true hl (by exact hz.later hB1.drew) H1.out).mono ?_; rintro e w2 ⟨rfl, hb2⟩; have hB2 : Below w.heap.size w w2 := hB1.drew.trans (hb2.mono hB1.size); have A2 := A1.out.drew.later hb2; have P2 := (⟨A2.c 0 rfl, A2.c 1 rfl, A2.c 2 rfl⟩ : w2.cell? ⟨w.heap.size, 0, none⟩ = some (.int .i64 s1) ∧ w2.cell? ⟨w.heap.size, 1, none⟩ = some (.int .i64 s2) ∧ w2.cell? ⟨w.heap.size, 2, none⟩ = some (.slice lo l.length lc)); have c20 := A2.c 0 rfl; have c21 := A2.c 1 rfl; have c22 := A2.c 2 rfl; clear hb2))
      | fail
      all_goals
        go_wp2
        refine bodyPost_ret (v := .tuple #[.bool false, .int .i64 s2, .bool true]) (by simp [results, Try.results22, go_sem]) rfl ?_
        rw [HR.out]
        exact ⟨rfl, hB2⟩
set_option maxRecDepth 10000 in
set_option maxHeartbeats 4000000 in
theorem specSettled_any (s1 s2 : Int) (lo : Option Addr) (lc : Nat) (l : List Wo) (w : World) (hl : l.length ≤ 1048576) (hcap : l.length ≤ lc) (hz : kW.In w.heap.size w lo l) :
    Calls Try.prog 21 #[.agg #[.int .i64 s1, .int .i64 s2, .slice lo l.length lc]] w fun e w' => AnsZ w (setR s1 s2 l) e w' := by
  have hB0 := below1 w (.cells #[.int .i64 s1, .int .i64 s2, .slice lo l.length lc] 29)
  have A0 := hid (Bx.new (w := w) (p := w.heap.size) [.int .i64 s1, .int .i64 s2, .slice lo l.length lc] 29 rfl)
  cases hg : poolB s1 s2 l
  · have HG := hid hg
    have HR := hid (setR_bad hg)
    clear hg
    go_enter Try.func21, Try.ntmps21
    go_wp2_with fail
    refine (specGoodPool_is s1 s2 lo lc l _ false hl hcap (hz.later hB0) HG.out).mono ?_
    rintro e w1 ⟨rfl, hb1⟩
    have hB1 := hB0.trans (hb1.mono hB0.size)
    clear hb1
    go_wp2
    refine bodyPost_ret (v := .tuple #[.bool false, .int .i64 0, .bool false]) (by simp [results, Try.results21, go_sem]) rfl ?_
    rw [HR.out]
    exact ⟨rfl, hB1⟩
  · have HG := hid hg
    have HR := hid (setR_ok hg)
    clear hg
    go_enter Try.func21, Try.ntmps21
    go_wp2_with fail
    refine (specGoodPool_is s1 s2 lo lc l _ true hl hcap (hz.later hB0) HG.out).mono ?_
    rintro e w1 ⟨rfl, hb1⟩
    have hB1 := hB0.trans (hb1.mono hB0.size)
    have A1 := hid (A0.out.later hb1)
    clear hb1 A0
    have a0 := A1.out.c 0 rfl
    have a1 := A1.out.c 1 rfl
    have a2 := A1.out.c 2 rfl
    go_wp2
    go_loopw [13] (fun i wr => ∃ k : Nat, k ≤ l.length ∧ i = .int .i64 k ∧ Hid (∀ j, j < k → ((el l j).2.1 == 1) = false ∧ ((el l j).2.1 == 2) = false) ∧ Hid (Bx wr w.heap.size [.int .i64 s1, .int .i64 s2, .slice lo l.length lc]) ∧ Below w.heap.size w wr) (fun i _ => l.length - (intOf i).toNat)
    case atStart => exact ⟨0, Nat.zero_le _, rfl, fun j hj => by omega, A1, hB1⟩
    case round =>
      obtain ⟨k, hk, rfl, hno, hA, hB⟩ := hrel
      have hpA := hA.out.size
      clear a0 a1 a2
      have a0 := hA.out.c 0 rfl
      have a1 := hA.out.c 1 rfl
      have a2 := hA.out.c 2 rfl
      by_cases hlt : k < l.length
      · obtain ⟨bb, off, rfl, hbb, hc⟩ := kW_at hz hlt
        have d1 := (hB.cell (p := ⟨bb, off + k * 3, none⟩) hbb).trans (hc k hlt).1
        have d2 := (hB.cell (p := ⟨bb, off + k * 3 + 1, none⟩) hbb).trans (hc k hlt).2.1
        have d3 := (hB.cell (p := ⟨bb, off + k * 3 + 2, none⟩) hbb).trans (hc k hlt).2.2
        obtain ⟨⟨y1, y2, y3⟩, ey⟩ : ∃ v, v = el l k := ⟨_, rfl⟩
        rw [← ey] at d1 d2 d3
        have HY : Hid (el l k = (y1, y2, y3)) := ey.symm
        clear ey hc
        dsimp only at d1 d2 d3
        have hBa := Below.allocS hB (.cells #[.int .i64 y1, .int .i64 y2, .int .i64 y3] 47)
        cases h1 : (y2 == 1)
        · cases h2 : (y2 == 2)
          · have HE := hid (And.intro h1 h2)
            go_wp2
            go_roundw
            case rel => exact ⟨k + 1, by omega, by go_num, fun j hj => by
              rcases Nat.lt_succ_iff_lt_or_eq.1 hj with h | rfl
              · exact hno.out j h
              · rw [HY.out]; exact HE.out, hid (hA.out.alloc _), hBa⟩
            case measure => simp [intOf]; omega
          · have HV := hid (set_no k hlt (by rw [HY.out]; exact .inr h2))
            go_wp2
            go_region
            all_goals go_wp2
            all_goals refine bodyPost_ret (v := .tuple #[.bool false, .int .i64 s2, .bool true]) (by simp [results, Try.results21, go_sem]) rfl ?_
            all_goals rw [HR.out, HV.out]
            all_goals exact ⟨rfl, hBa.drew⟩
        · have HV := hid (set_no k hlt (by rw [HY.out]; exact .inl h1))
          go_wp2
          go_region
          all_goals go_wp2
          all_goals refine bodyPost_ret (v := .tuple #[.bool false, .int .i64 s2, .bool true]) (by simp [results, Try.results21, go_sem]) rfl ?_
          all_goals rw [HR.out, HV.out]
          all_goals exact ⟨rfl, hBa.drew⟩
      · obtain rfl : k = l.length := by omega
        have HV := hid (set_yes hno.out)
        clear hno
        go_wp2
        go_region
        all_goals go_wp2
        all_goals refine bodyPost_ret (v := .tuple #[.bool true, .int .i64 s2, .bool true]) (by simp [results, Try.results21, go_sem]) rfl ?_
        all_goals rw [HR.out, HV.out]
        all_goals exact ⟨rfl, hB.drew⟩
end Go.Proofs.Ytmijibgfdhjbfaa
