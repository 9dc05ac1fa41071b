
/- Rows of keepers: which stands for a child; whether one stands well. No conditions but those written. -/
import Derived.Test.YtbpacibfboldcaaDoorGk
import Derived.Test.YtbpacibfboldcaaDoorKq
import Derived.Test.YtbpacibfboldcaaDoorQt
namespace Go.Proofs.YtbpacibfboldcaaDoor
open Go.RowKit

def upP (p : PKeeper) : Int := p.2.2.2.1
def chP (p : PKeeper) : Int := p.2.2.2.2.1
def runsP (p : PKeeper) : List Bool := p.2.2.2.2.2.1
def fltP (p : PKeeper) : List Int := p.2.2.2.2.2.2.1
def ovP (p : PKeeper) : Bool := p.2.2.2.2.2.2.2
def goodP (p : PKeeper) : Bool := keeperB p.1 p.2.1 p.2.2.1 (runsP p) (fltP p) (ovP p)
/-- It stands for a child. -/
def hitP (u c : Int) (p : PKeeper) : Bool := (upP p == u) && (chP p == c)
/-- The first that stands for a child. -/
def placeP (ps : List PKeeper) (u c : Int) : Option Nat := ps.findIdx? (hitP u c)
theorem placeP_yes {ps : List PKeeper} {u c : Int} {k : Nat} (hk : k < ps.length) (h : hitP u c (el ps k) = true) (hno : ∀ j, j < k → hitP u c (el ps j) = false) : placeP ps u c = some k := by
  rw [placeP, List.findIdx?_eq_some_iff_getElem]
  refine ⟨hk, by rw [← el_at hk]; exact h, fun j hj => ?_⟩
  rw [← el_at (by omega), hno j hj]; simp
theorem placeP_no {ps : List PKeeper} {u c : Int} (hno : ∀ j, j < ps.length → hitP u c (el ps j) = false) : placeP ps u c = none := by
  rw [placeP, List.findIdx?_eq_none_iff]
  intro x hx
  obtain ⟨j, hj, rfl⟩ := mem_el hx
  exact hno j hj
def placeR : Option Nat → Int × Bool
  | some j => ((j : Int), true)
  | none => (0, false)
theorem el_map {α β : Type} [Inhabited α] [Inhabited β] (f : α → β) {l : List α} {j : Nat} (h : j < l.length) : el (l.map f) j = f (el l j) := by simp [el, h]
theorem DIn.take {A : Type} [Inhabited A] {D : Deep A} {n : Nat} {W : World} {ao : Option Addr} {ts : List A} (h : DIn D n W ao ts) (k : Nat) : DIn D n W ao (ts.take k) :=
  ⟨h.1.take k, fun j hj => by
    have hj' : j < k ∧ j < ts.length := by simp at hj; omega
    rw [el_take hj'.1]; exact h.2 j hj'.2⟩
set_option maxRecDepth 10000 in
set_option maxHeartbeats 4000000 in
theorem keeperFor_any (ao : Option Addr) (cap : Nat) (ts : List LKeeper) (u c : Int) (w : World) (hl : ts.length ≤ 1048576) (hz : hKeeper.In w.heap.size w ao ts) :
    Calls Tryd.prog 48 #[.slice ao ts.length cap, .int .i64 u, .int .i64 c] w fun e w' => e = .returned (.tuple #[.int .i64 (placeR (placeP (ts.map valKeeper) u c)).1, .bool (placeR (placeP (ts.map valKeeper) u c)).2]) ∧ Below w.heap.size w w' := by
  have HLM : Hid ((ts.map valKeeper).length = ts.length) := by simp [Hid]
  go_enter Tryd.func48, Tryd.ntmps48
  go_wp2
  go_loopw [12] (fun i wr => ∃ k : Nat, k ≤ ts.length ∧ i = .int .i64 k ∧ Below w.heap.size w wr ∧ Hid (∀ j, j < k → hitP u c (el (ts.map valKeeper) j) = false)) (fun i _ => ts.length - (intOf i).toNat)
  case atStart => exact ⟨0, Nat.zero_le _, rfl, Below.refl _ _, fun j hj => by omega⟩
  case round =>
    obtain ⟨k, hk, rfl, hB, hno⟩ := hrel
    by_cases hlt : k < ts.length
    · obtain ⟨b0, off, rfl, hb, hc⟩ := hKeeper_at hz hlt
      have d1 := (hB.cell (p := ⟨b0, off + k * 8, none⟩) hb).trans (hc k hlt).1
      have d2 := (hB.cell (p := ⟨b0, off + k * 8 + 1, none⟩) hb).trans (hc k hlt).2.1
      have d3 := (hB.cell (p := ⟨b0, off + k * 8 + 2, none⟩) hb).trans (hc k hlt).2.2.1
      have d4 := (hB.cell (p := ⟨b0, off + k * 8 + 3, none⟩) hb).trans (hc k hlt).2.2.2.1
      have d5 := (hB.cell (p := ⟨b0, off + k * 8 + 4, none⟩) hb).trans (hc k hlt).2.2.2.2.1
      have d6 := (hB.cell (p := ⟨b0, off + k * 8 + 5, none⟩) hb).trans (hc k hlt).2.2.2.2.2.1
      have d7 := (hB.cell (p := ⟨b0, off + k * 8 + 6, none⟩) hb).trans (hc k hlt).2.2.2.2.2.2.1
      have d8 := (hB.cell (p := ⟨b0, off + k * 8 + 7, none⟩) hb).trans (hc k hlt).2.2.2.2.2.2.2
      have hev := el_map valKeeper hlt
      obtain ⟨⟨kd, mr, wi, up, ch, ⟨ro, rc, r⟩, ⟨fo, fc, f⟩, ov⟩, ey⟩ : ∃ v, v = el ts k := ⟨_, rfl⟩
      rw [← ey] at d1 d2 d3 d4 d5 d6 d7 d8 hev
      have HE : Hid (el (ts.map valKeeper) k = (kd, mr, wi, up, ch, r, f, ov)) := hev
      clear ey hev hc hz
      dsimp only at d1 d2 d3 d4 d5 d6 d7 d8
      have hBW := Below.allocS hB (.cells #[.int .i64 kd, .int .i64 mr, .int .i64 wi, .int .i64 up, .int .i64 ch, .slice ro r.length rc, .slice fo f.length fc, .bool ov] 27)
      cases h1 : (up == u)
      · have HN : Hid (hitP u c (el (ts.map valKeeper) k) = false) := by rw [Hid, HE.out]; simp only [hitP, upP, h1]; rfl
        go_wp2
        go_roundw
        case rel => exact ⟨k + 1, by omega, by go_num, hBW, fun j hj => by
          rcases Nat.lt_succ_iff_lt_or_eq.1 hj with h | rfl
          · exact hno.out j h
          · exact HN.out⟩
        case measure => simp [intOf]; omega
      cases h2 : (ch == c)
      · have HN : Hid (hitP u c (el (ts.map valKeeper) k) = false) := by rw [Hid, HE.out]; simp only [hitP, upP, chP, h1, h2]; rfl
        go_wp2
        go_roundw
        case rel => exact ⟨k + 1, by omega, by go_num, hBW, fun j hj => by
          rcases Nat.lt_succ_iff_lt_or_eq.1 hj with h | rfl
          · exact hno.out j h
          · exact HN.out⟩
        case measure => simp [intOf]; omega
      have HY : Hid (placeP (ts.map valKeeper) u c = some k) := placeP_yes (by rw [HLM.out]; exact hlt) (by rw [HE.out]; simp only [hitP, upP, chP, h1, h2]; rfl) hno.out
      go_wp2
      refine bodyPost_ret (v := .tuple #[.int .i64 k, .bool true]) (by simp [results, Tryd.results48, go_sem]) rfl ?_
      rw [HY.out]
      exact ⟨rfl, hBW⟩
    · obtain rfl : k = ts.length := by omega
      have HY : Hid (placeP (ts.map valKeeper) u c = none) := placeP_no (by rw [HLM.out]; exact hno.out)
      go_wp2
      refine bodyPost_ret (v := .tuple #[.int .i64 0, .bool false]) (by simp [results, Tryd.results48, go_sem]) rfl ?_
      rw [HY.out]
      exact ⟨rfl, hB⟩
/-- It stands well to those ahead of it. -/
def standB (ps : List PKeeper) (p : PKeeper) : Bool :=
  (decide (0 ≤ upP p) && decide (upP p < (ps.length : Int))) && ((decide (0 ≤ chP p) && decide (chP p < ((runsP (el ps (upP p).toNat)).length : Int))) && ((el (runsP (el ps (upP p).toNat)) (chP p).toNat || ovP p) && (placeP ps (upP p) (chP p)).isNone))
theorem standB_def (ps : List PKeeper) (kd mr wi up ch : Int) (r : List Bool) (f : List Int) (ov : Bool) : standB ps (kd, mr, wi, up, ch, r, f, ov) = ((decide (0 ≤ up) && decide (up < (ps.length : Int))) && ((decide (0 ≤ ch) && decide (ch < ((runsP (el ps up.toNat)).length : Int))) && ((el (runsP (el ps up.toNat)) ch.toNat || ov) && (placeP ps up ch).isNone))) := rfl
theorem placeR_none (o : Option Nat) : (placeR o).2 = !o.isNone := by cases o <;> rfl
set_option maxRecDepth 10000 in
set_option maxHeartbeats 8000000 in
theorem standsWell_is (ao : Option Addr) (cap : Nat) (ts : List LKeeper) (kd : Int) (mr : Int) (wi : Int) (up : Int) (ch : Int) (ov : Bool) (ro : Option Addr) (rc : Nat) (r : List (Bool)) (fo : Option Addr) (fc : Nat) (f : List (Int)) (w : World) (x : Bool) (hl : ts.length ≤ 1048576) (hle : ∀ a ∈ ts, (a.2.2.2.2.2.1).2.2.length ≤ 1048576) (hz : DIn dKeeper w.heap.size w ao ts) (hx : standB (ts.map valKeeper) (kd, mr, wi, up, ch, r, f, ov) = x) :
    Calls Tryd.prog 65 #[.slice ao ts.length cap, .agg #[.int .i64 kd, .int .i64 mr, .int .i64 wi, .int .i64 up, .int .i64 ch, .slice ro r.length rc, .slice fo f.length fc, .bool ov]] w fun e w' => e = .returned (.bool x) ∧ Below w.heap.size w w' := by
  have HX := hid hx
  have HLM : Hid ((ts.map valKeeper).length = ts.length) := by simp [Hid]
  have hB0 := below1 w (.cells #[.int .i64 kd, .int .i64 mr, .int .i64 wi, .int .i64 up, .int .i64 ch, .slice ro r.length rc, .slice fo f.length fc, .bool ov] 27)
  have A0 := hid (Bx.new (w := w) (p := w.heap.size) [.int .i64 kd, .int .i64 mr, .int .i64 wi, .int .i64 up, .int .i64 ch, .slice ro r.length rc, .slice fo f.length fc, .bool ov] 27 rfl)
  have Z0 := hid (hz.later dKeeper_ok hB0)
  clear hx hz
  by_cases h1 : up < 0
  · have HV : Hid (x = false) := by rw [Hid, ← HX.out]; rw [standB_def, decide_eq_false (show ¬ 0 ≤ up by omega)]; rfl
    go_enter Tryd.func65, Tryd.ntmps65
    go_wp2
    go_ret
    exact ⟨ret_bool HV.out.symm, hB0⟩
  by_cases h2 : (ts.length : Int) ≤ up
  · have HV : Hid (x = false) := by rw [Hid, ← HX.out]; rw [standB_def, HLM.out, decide_eq_false (show ¬ up < (ts.length : Int) by omega)]; simp
    go_enter Tryd.func65, Tryd.ntmps65
    go_wp2
    go_ret
    exact ⟨ret_bool HV.out.symm, hB0⟩
  obtain ⟨n, rfl⟩ : ∃ n : Nat, up = n := ⟨up.toNat, by omega⟩
  have hn : n < ts.length := by omega
  obtain ⟨b0, off, rfl, hb, hc⟩ := hKeeper_at Z0.out.1 hn
  have d6 := (hc n hn).2.2.2.2.2.1
  have hIn := Z0.out.2 n hn
  have hln := hle _ (el_mem hn)
  have hev := el_map valKeeper hn
  obtain ⟨⟨kd', mr', wi', up', ch', ⟨ro', rc', r'⟩, ⟨fo', fc', f'⟩, ov'⟩, ey⟩ : ∃ v, v = el ts n := ⟨_, rfl⟩
  rw [← ey] at d6 hIn hln hev
  dsimp only at d6 hln
  have HE : Hid (runsP (el (ts.map valKeeper) n) = r') := by rw [Hid, hev]; rfl
  have HI : Hid (kB.In _ _ ro' r') := hIn.1
  clear ey hev hc hIn
  have hup : ((n : Int)).toNat = n := by omega
  have HS : Hid (x = ((decide (0 ≤ ch) && decide (ch < (r'.length : Int))) && ((el r' ch.toNat || ov) && (placeP (ts.map valKeeper) n ch).isNone))) := by
    rw [Hid, ← HX.out]; rw [standB_def, hup, HE.out, HLM.out, decide_eq_true (show (0 : Int) ≤ (n : Int) by omega), decide_eq_true (show (n : Int) < (ts.length : Int) by omega)]; rfl
  clear HX hup
  by_cases h3 : ch < 0
  · have HV : Hid (x = false) := by rw [Hid, HS.out, decide_eq_false (show ¬ 0 ≤ ch by omega)]; rfl
    go_enter Tryd.func65, Tryd.ntmps65
    go_wp2
    go_ret
    exact ⟨ret_bool HV.out.symm, hB0⟩
  by_cases h4 : (r'.length : Int) ≤ ch
  · have HV : Hid (x = false) := by rw [Hid, HS.out, decide_eq_false (show ¬ ch < (r'.length : Int) by omega)]; simp
    go_enter Tryd.func65, Tryd.ntmps65
    go_wp2
    go_ret
    exact ⟨ret_bool HV.out.symm, hB0⟩
  obtain ⟨m, rfl⟩ : ∃ m : Nat, ch = m := ⟨ch.toNat, by omega⟩
  have hm : m < r'.length := by omega
  obtain ⟨b1, off1, rfl, hb1, hc1⟩ := bools_at HI.out hm
  have e1 := hc1 m hm
  obtain ⟨y, hy⟩ : ∃ y, y = el r' m := ⟨_, rfl⟩
  rw [← hy] at e1
  have HT : Hid (x = ((y || ov) && (placeP (ts.map valKeeper) n m).isNone)) := by
    rw [Hid, HS.out, decide_eq_true (show (0 : Int) ≤ (m : Int) by omega), decide_eq_true (show (m : Int) < (r'.length : Int) by omega), hy]; rfl
  clear HS hy hc1
  obtain ⟨q, hq⟩ : ∃ q, placeP (ts.map valKeeper) n m = q := ⟨_, rfl⟩
  have HQ := hid hq
  have HU : Hid (x = ((y || ov) && !(placeR q).2)) := by rw [Hid, HT.out, hq, placeR_none]; simp
  clear HT hq
  obtain ⟨⟨q1, q2⟩, hr⟩ : ∃ v, placeR q = v := ⟨_, rfl⟩
  have HR := hid hr
  rw [hr] at HU
  clear hr
  cases y
  · cases ov
    · have HV : Hid (x = false) := by rw [Hid, HU.out]; rfl
      go_enter Tryd.func65, Tryd.ntmps65
      go_wp2
      go_ret
      exact ⟨ret_bool HV.out.symm, hB0⟩
    · have HV : Hid (x = !q2) := by rw [Hid, HU.out]; rfl
      go_enter Tryd.func65, Tryd.ntmps65
      go_wp2_with fail
      refine (keeperFor_any (some ⟨b0, off, none⟩) cap ts n m _ hl Z0.out.1).mono ?_
      rw [HQ.out, HR.out]
      rintro e w2 ⟨rfl, hb2⟩
      have hB2 := hB0.trans (hb2.mono hB0.size)
      clear hb2
      go_wp2
      go_ret
      exact ⟨ret_bool HV.out.symm, hB2⟩
  · have HV : Hid (x = !q2) := by rw [Hid, HU.out]; rfl
    go_enter Tryd.func65, Tryd.ntmps65
    go_wp2_with fail
    refine (keeperFor_any (some ⟨b0, off, none⟩) cap ts n m _ hl Z0.out.1).mono ?_
    rw [HQ.out, HR.out]
    rintro e w2 ⟨rfl, hb2⟩
    have hB2 := hB0.trans (hb2.mono hB0.size)
    clear hb2
    go_wp2
    go_ret
    exact ⟨ret_bool HV.out.symm, hB2⟩
end Go.Proofs.YtbpacibfboldcaaDoor
