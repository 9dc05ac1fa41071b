/- Scopes as branches: the small functions over them. No conditions but those written. Whether scopes are good: the program and the specification. No conditions but those written. NewScope: what it answers, and the program. No conditions but those written. What ends ends all below it: plain facts, and a row one of whose elements is written. No conditions but those written. How the program ends scopes. No conditions but those written. Ending all that is told, and all below: the program. No conditions but those written. CancelScope and ExpireScopes: what they answer, and the program. No conditions but those written. -/
import Derived.Test.YtdgnolpimmdgjaaPGenCb
import Derived.Test.YtdgnolpimmdgjaaPWaMc
namespace Go.Proofs.Ytdgnolpimmdgjaa
section
open Go.RowKit

/-- A scope: up, deadline, why. -/
abbrev Sc := Int × Int × Int
/-- A row of branches: deadline, why, up. -/
def kB : Kind Sc := ⟨77, 81, 3, fun t => [.int .i64 t.2.1, .int .i64 t.2.2, .int .i64 t.1], fun _ => rfl, fun a v h => by simp at h; rcases h with rfl | rfl | rfl <;> rfl⟩
theorem Try.info77 : (Try.prog.info? 77).map (fun i => (i.zero, i.size, i.bytes)) = some (some (.agg #[.int .i64 0, .int .i64 0, .int .i64 0]), 3, 24) := by kernel_rfl
theorem kB_ok : kB.Ok := kind_ok (K := kB) Try.underlying81 Try.info77 rfl (by decide) (by decide)
theorem kB_at {n : Nat} {W : World} {ao : Option Addr} {ts : List Sc} (h : kB.In n W ao ts) {k : Nat} (hk : k < ts.length) :
    ∃ b off, ao = some ⟨b, off, none⟩ ∧ b < n ∧ ∀ j, j < ts.length → W.cell? ⟨b, off + j * 3, none⟩ = some (.int .i64 (el ts j).2.1) ∧ W.cell? ⟨b, off + j * 3 + 1, none⟩ = some (.int .i64 (el ts j).2.2) ∧ W.cell? ⟨b, off + j * 3 + 2, none⟩ = some (.int .i64 (el ts j).1) := by
  obtain ⟨b, off, e, hb, hc⟩ := h.pos hk
  exact ⟨b, off, e, hb, fun j hj => ⟨hc j hj 0 (by decide), hc j hj 1 (by decide), hc j hj 2 (by decide)⟩⟩
theorem kB_one {n : Nat} {W : World} {p : Nat} {t : Sc} (hp : p < n) (h0 : W.cell? ⟨p, 0, none⟩ = some (.int .i64 t.2.1)) (h1 : W.cell? ⟨p, 1, none⟩ = some (.int .i64 t.2.2)) (h2 : W.cell? ⟨p, 2, none⟩ = some (.int .i64 t.1)) : kB.In n W (some ⟨p, 0, none⟩) [t] := by
  refine Kind.In.mk1 hp fun i hi => ?_
  rw [Nat.zero_add]
  have hi' : i < 3 := hi
  rcases (show i = 0 ∨ i = 1 ∨ i = 2 from by omega) with rfl | rfl | rfl
  · exact h0
  · exact h1
  · exact h2

set_option maxHeartbeats 2000000 in
theorem branchesOf_any (ao : Option Addr) (cap : Nat) (l : List Sc) (w : World) (hl : l.length ≤ 1048576) (hz : kS.In w.heap.size w ao l) :
    Calls Try.prog 42 #[.slice ao l.length cap] w fun e w' => (∃ v, e = .returned v ∧ kB.Own w.heap.size w' v l) ∧ Below w.heap.size w w' := by
  go_enter Try.func42, Try.ntmps42
  go_wp2
  go_loopw [3, 8] (fun u i wr => ∃ (k : Nat) (v : Value), v = u ∧ k ≤ l.length ∧ i = .int .i64 k ∧ Hid (kB.Own w.heap.size wr v (l.take k)) ∧ Below w.heap.size w wr) (fun _ i _ => l.length - (intOf i).toNat)
  case atStart => exact ⟨0, _, rfl, Nat.zero_le _, rfl, Kind.Own.nil _ _ _, Below.refl _ _⟩
  case round =>
    obtain ⟨k, v, rfl, hk, rfl, hO, hB⟩ := hrel
    have hsz := hB.size
    by_cases hlt : k < l.length
    · obtain ⟨b, off, rfl, hb, hc⟩ := kS_at hz hlt
      have d1 := (hB.cell (p := ⟨b, off + k * 3, none⟩) hb).trans (hc k hlt).1
      have d2 := (hB.cell (p := ⟨b, off + k * 3 + 1, none⟩) hb).trans (hc k hlt).2.1
      have d3 := (hB.cell (p := ⟨b, off + k * 3 + 2, none⟩) hb).trans (hc k hlt).2.2
      obtain ⟨⟨y1, y2, y3⟩, ey⟩ : ∃ v, v = el l k := ⟨_, rfl⟩
      rw [← ey] at d1 d2 d3
      have HY : Hid (el l k = (y1, y2, y3)) := ey.symm
      clear ey hc
      dsimp only at d1 d2 d3
      have HA : Hid (kB.Own w.heap.size ((wr.alloc (.cells #[.int .i64 y1, .int .i64 y2, .int .i64 y3] 48)).alloc (.cells #[.int .i64 y2, .int .i64 y3, .int .i64 y1] 77)) v (l.take k)) := (hO.out.below (below1 _ _)).below (below1 _ _)
      have HN : Hid (kB.In (wr.heap.size + 1 + 1) ((wr.alloc (.cells #[.int .i64 y1, .int .i64 y2, .int .i64 y3] 48)).alloc (.cells #[.int .i64 y2, .int .i64 y3, .int .i64 y1] 77)) (some ⟨wr.heap.size + 1, 0, none⟩) [(y1, y2, y3)]) := kB_one (by omega) (by simp) (by simp) (by simp)
      have hll : (l.take k).length + 1 ≤ 4194304 := by simp; omega
      have hBa : Below w.heap.size w ((wr.alloc (.cells #[.int .i64 y1, .int .i64 y2, .int .i64 y3] 48)).alloc (.cells #[.int .i64 y2, .int .i64 y3, .int .i64 y1] 77)) := Below.allocS (Below.allocS hB _) _
      go_wp2_with (at_builtin; refine Kind.app kB_ok ((wr.alloc (.cells #[.int .i64 y1, .int .i64 y2, .int .i64 y3] 48)).alloc (.cells #[.int .i64 y2, .int .i64 y3, .int .i64 y1] 77)) rfl (.tmp 12) (.tmp 21) rfl w.heap.size v (l.take k) rfl HA.out hBa.size (some ⟨wr.heap.size + 1, 0, none⟩) [(y1, y2, y3)] 1 1 rfl rfl (by simp) _ HN.out hll ?_; intro v' w' hO' hB' hG' hn'; have hB2 : Below w.heap.size w w' := hBa.trans hB'; have HO' : Hid (kB.Own w.heap.size w' v' (l.take (k + 1))) := (by rw [Hid, take_succ_el hlt, HY.out]; exact hO'); clear hO' hB' hG' hn')
      go_roundw
      case rel => exact ⟨k + 1, v', rfl, by omega, by go_num, HO', hB2⟩
      case measure => simp [intOf]; omega
    · obtain rfl : k = l.length := by omega
      go_wp2
      go_ret
      exact ⟨⟨_, rfl, by have := hO.out; rwa [List.take_length] at this⟩, hB⟩

set_option maxHeartbeats 400000 in
theorem ended_is (dl why : Int) (w : World) (x : Bool) (hx : (why != 0) = x) :
    Calls Try.prog 46 #[.agg #[.int .i64 dl, .int .i64 why]] w fun e w' => e = .returned (.bool x) ∧ Below w.heap.size w w' := by
  have HX : Hid ((why != 0) = x) := hx
  clear hx
  go_enter Try.func46, Try.ntmps46
  go_wp2
  go_ret
  exact ⟨ret_bool HX.out, below1 _ _⟩
/-- An ending is good. -/
def endB (dl why : Int) : Bool := decide (0 ≤ dl) && (decide (0 ≤ why) && decide (why ≤ 2))
set_option maxHeartbeats 400000 in
theorem goodEnd_is (dl why : Int) (w : World) (x : Bool) (hx : endB dl why = x) :
    Calls Try.prog 43 #[.agg #[.int .i64 dl, .int .i64 why]] w fun e w' => e = .returned (.bool x) ∧ Below w.heap.size w w' := by
  subst hx
  by_cases h1 : 0 ≤ dl
  · have h1' : decide (0 ≤ dl) = true := by simpa using h1
    by_cases h2 : 0 ≤ why
    · have h2' : decide (0 ≤ why) = true := by simpa using h2
      have HX : Hid (decide (why ≤ 2) = endB dl why) := by rw [Hid, endB, h1', h2']; simp
      generalize endB dl why = x at HX ⊢
      go_enter Try.func43, Try.ntmps43
      go_wp2
      go_ret
      exact ⟨ret_bool HX.out, below1 _ _⟩
    · have h2' : decide (0 ≤ why) = false := by simpa using h2
      have HX : Hid (endB dl why = false) := by rw [Hid, endB, h2']; simp
      generalize endB dl why = x at HX ⊢
      go_enter Try.func43, Try.ntmps43
      go_wp2
      go_ret
      exact ⟨ret_bool HX.out.symm, below1 _ _⟩
  · have h1' : decide (0 ≤ dl) = false := by simpa using h1
    have HX : Hid (endB dl why = false) := by rw [Hid, endB, h1']; simp
    generalize endB dl why = x at HX ⊢
    go_enter Try.func43, Try.ntmps43
    go_wp2
    go_ret
    exact ⟨ret_bool HX.out.symm, below1 _ _⟩
/-- An up is good at a place. -/
def upB (k : Int) (up : Int) : Bool := if k = 0 then up == -1 else decide (0 ≤ up) && decide (up < k)
set_option maxHeartbeats 400000 in
theorem goodUp_is (k up : Int) (w : World) (x : Bool) (hx : upB k up = x) :
    Calls Try.prog 44 #[.int .i64 k, .int .i64 up] w fun e w' => e = .returned (.bool x) ∧ w' = w := by
  by_cases h0 : k = 0
  · have h0' : (k == 0) = true := by simpa using h0
    have HX : Hid ((up == -1) = x) := by rw [Hid, ← hx, upB, if_pos h0]
    clear hx h0
    go_enter Try.func44, Try.ntmps44
    go_wp2
    go_ret
    exact ⟨ret_bool HX.out, rfl⟩
  · have h0' : (k == 0) = false := by simpa using h0
    by_cases h1 : 0 ≤ up
    · have h1' : decide (0 ≤ up) = true := by simpa using h1
      have HX : Hid (decide (up < k) = x) := by rw [Hid, ← hx, upB, if_neg h0, h1']; simp
      clear hx
      go_enter Try.func44, Try.ntmps44
      go_wp2
      go_ret
      exact ⟨ret_bool HX.out, rfl⟩
    · have h1' : decide (0 ≤ up) = false := by simpa using h1
      have HX : Hid (x = false) := by rw [Hid, ← hx, upB, if_neg h0, h1']; simp
      clear hx
      go_enter Try.func44, Try.ntmps44
      go_wp2
      go_ret
      exact ⟨ret_bool HX.out.symm, rfl⟩
/-- The scope above has ended. -/
def aboveB (l : List Sc) (up : Int) : Bool := (up != -1) && ((el l up.toNat).2.2 != 0)
set_option maxHeartbeats 1000000 in
theorem endedAbove_is (ao : Option Addr) (cap : Nat) (l : List Sc) (up : Int) (w : World) (x : Bool) (hu : up = -1 ∨ (0 ≤ up ∧ up < l.length)) (hz : kB.In w.heap.size w ao l) (hx : aboveB l up = x) :
    Calls Try.prog 45 #[.slice ao l.length cap, .int .i64 up] w fun e w' => e = .returned (.bool x) ∧ Below w.heap.size w w' := by
  by_cases h0 : up = -1
  · have h0' : (up != -1) = false := by simpa using h0
    have HX : Hid (x = false) := by rw [Hid, ← hx, aboveB, h0']; simp
    clear hx h0 hu
    go_enter Try.func45, Try.ntmps45
    go_wp2
    go_ret
    exact ⟨ret_bool HX.out.symm, Below.refl _ _⟩
  · have h0' : (up != -1) = true := by simpa using h0
    have hu' : 0 ≤ up ∧ up < l.length := by rcases hu with h | h; exact absurd h h0; exact h
    obtain ⟨k, rfl⟩ : ∃ k : Nat, up = k := ⟨up.toNat, by omega⟩
    have hk : k < l.length := by omega
    have HX : Hid (((el l k).2.2 != 0) = x) := by rw [Hid, ← hx, aboveB, h0']; simp
    clear hx hu hu' h0
    obtain ⟨b, off, rfl, hb, hc⟩ := kB_at hz hk
    obtain ⟨c1, c2, c3⟩ := hc k hk
    obtain ⟨⟨y1, y2, y3⟩, ey⟩ : ∃ v, v = el l k := ⟨_, rfl⟩
    rw [← ey] at c1 c2 c3 HX
    clear ey hc hz
    dsimp only at c1 c2 c3 HX
    go_enter Try.func45, Try.ntmps45
    go_wp2_with fail
    refine (ended_is y2 y3 _ x HX.out).mono ?_
    rintro e w1 ⟨rfl, hb1⟩
    go_wp2
    go_ret
    exact ⟨rfl, hb1⟩
end
section
open Go.RowKit

/-- The scope at a place is good. -/
def scB (l : List Sc) (k : Nat) : Bool := (endB (el l k).2.1 (el l k).2.2 && upB k (el l k).1) && !(aboveB l (el l k).1 && ((el l k).2.2 == 0))
/-- Scopes are good. -/
def scopesB (l : List Sc) : Bool := decide (l.length ≤ 20) && (List.range l.length).all (scB l)
theorem scopesB_long {l : List Sc} (h : 20 < l.length) : scopesB l = false := by
  have : decide (l.length ≤ 20) = false := by simp; omega
  simp [scopesB, this]
theorem scopesB_bad {l : List Sc} (k : Nat) (hk : k < l.length) (h : scB l k = false) : scopesB l = false := by
  have : (List.range l.length).all (scB l) = false := by rw [List.all_eq_false]; exact ⟨k, by simpa using hk, by simp [h]⟩
  simp [scopesB, this]
theorem scopesB_end {l : List Sc} (h : l.length ≤ 20) (hk : ∀ j, j < l.length → scB l j = true) : scopesB l = true := by
  have : (List.range l.length).all (scB l) = true := by rw [List.all_eq_true]; intro x hx; exact hk x (by simpa using hx)
  simp [scopesB, this, h]
theorem scopesB_good {l : List Sc} (h : scopesB l = true) : l.length ≤ 20 ∧ ∀ j, j < l.length → scB l j = true := by
  simp only [scopesB, Bool.and_eq_true, decide_eq_true_eq, List.all_eq_true] at h
  exact ⟨h.1, fun j hj => h.2 j (by simpa using hj)⟩
theorem upB_in {k : Nat} {up : Int} (h : upB k up = true) : up = -1 ∨ (0 ≤ up ∧ up < k) := by
  unfold upB at h
  split at h
  · simp at h; exact .inl h
  · simp at h; exact .inr h
theorem scB_end {l : List Sc} {k : Nat} {y : Sc} (hy : el l k = y) (h : endB y.2.1 y.2.2 = false) : scB l k = false := by rw [scB, hy, h]; rfl
theorem scB_up {l : List Sc} {k : Nat} {y : Sc} (hy : el l k = y) (h : upB k y.1 = false) : scB l k = false := by rw [scB, hy, h]; simp
theorem scB_tail {l : List Sc} {k : Nat} {y : Sc} (hy : el l k = y) (h : endB y.2.1 y.2.2 = true) (h2 : upB k y.1 = true) : scB l k = !(aboveB l y.1 && (y.2.2 == 0)) := by rw [scB, hy, h, h2]; rfl

set_option maxHeartbeats 4000000 in
theorem implGoodScopes_is (ao : Option Addr) (cap : Nat) (l : List Sc) (w : World) (x : Bool) (hl : l.length ≤ 1048576) (hz : kS.In w.heap.size w ao l) (hx : scopesB l = x) :
    Calls Try.prog 16 #[.slice ao l.length cap] w fun e w' => e = .returned (.bool x) ∧ Below w.heap.size w w' := by
  by_cases h20 : 20 < l.length
  · have HX : Hid (x = false) := by rw [Hid, ← hx, scopesB_long h20]
    clear hx
    go_enter Try.func16, Try.ntmps16
    go_wp2
    go_ret
    exact ⟨ret_bool HX.out.symm, Below.refl _ _⟩
  have h20' : decide ((20 : Int) < (l.length : Int)) = false := by simp; omega
  have HX : Hid (scopesB l = x) := hx
  clear hx
  go_enter Try.func16, Try.ntmps16
  go_wp2_with fail
  refine (branchesOf_any ao cap l w hl hz).mono ?_
  rintro e w1 ⟨⟨v, rfl, hO⟩, hB1⟩
  obtain ⟨bo, bc, rfl, _, hI⟩ := hO.in
  clear hO
  go_wp2
  go_loopw [13] (fun i wr => ∃ k : Nat, k ≤ l.length ∧ i = .int .i64 k ∧ Hid (∀ j, j < k → scB l j = true) ∧ Below w1.heap.size w1 wr) (fun i _ => l.length - (intOf i).toNat)
  case atStart => exact ⟨0, Nat.zero_le _, rfl, fun j hj => by omega, Below.refl _ _⟩
  case round =>
    obtain ⟨k, hk, rfl, hno, hb⟩ := hrel
    have hB := hB1.trans (hb.mono hB1.size)
    by_cases hlt : k < l.length
    · have HI : Hid (kB.In wr.heap.size wr bo l) := hI.later hb
      obtain ⟨b, off, rfl, hb0, hc⟩ := kB_at hI hlt
      have d1 := (hb.cell (p := ⟨b, off + k * 3, none⟩) hb0).trans (hc k hlt).1
      have d2 := (hb.cell (p := ⟨b, off + k * 3 + 1, none⟩) hb0).trans (hc k hlt).2.1
      have d3 := (hb.cell (p := ⟨b, off + k * 3 + 2, none⟩) hb0).trans (hc k hlt).2.2
      obtain ⟨⟨y1, y2, y3⟩, ey⟩ : ∃ v, v = el l k := ⟨_, rfl⟩
      rw [← ey] at d1 d2 d3
      have HY : Hid (el l k = (y1, y2, y3)) := ey.symm
      clear ey hc hI
      dsimp only at d1 d2 d3
      have hn := below1 wr (.cells #[.int .i64 y2, .int .i64 y3, .int .i64 y1] 77)
      have X0 : Bx (wr.alloc (.cells #[.int .i64 y2, .int .i64 y3, .int .i64 y1] 77)) wr.heap.size [.int .i64 y2, .int .i64 y3, .int .i64 y1] := Bx.new _ _ rfl
      cases he : endB y2 y3
      · have HE : Hid (endB y2 y3 = false) := he
        have HF : Hid (x = false) := by rw [Hid, ← HX.out]; exact scopesB_bad k hlt (scB_end HY.out he)
        clear he
        go_wp2_with fail
        refine (goodEnd_is y2 y3 _ false HE.out).mono ?_
        rintro e w2 ⟨rfl, hb2⟩
        have hb3 := hn.trans (hb2.mono (by simp))
        have hB3 := hB.trans (hb3.mono hB.size)
        go_wp2
        go_ret
        exact ⟨ret_bool HF.out.symm, hB3⟩
      have HE : Hid (endB y2 y3 = true) := he
      cases hu : upB k y1
      · have HU : Hid (upB k y1 = false) := hu
        have HF : Hid (x = false) := by rw [Hid, ← HX.out]; exact scopesB_bad k hlt (scB_up HY.out hu)
        clear he hu
        go_wp2_with fail
        refine (goodEnd_is y2 y3 _ true HE.out).mono ?_
        rintro e w2 ⟨rfl, hb2⟩
        have hb3 := hn.trans (hb2.mono (by simp))
        have hB3 := hB.trans (hb3.mono hB.size)
        have X2 := X0.later hb2
        have x0 := X2.c 0 rfl
        have x1 := X2.c 1 rfl
        have x2 := X2.c 2 rfl
        clear hb2 X0
        go_wp2_with fail
        refine (goodUp_is k y1 _ false HU.out).mono ?_
        rintro e w3 ⟨rfl, rfl⟩
        go_wp2
        go_ret
        exact ⟨ret_bool HF.out.symm, hB3⟩
      have HU : Hid (upB k y1 = true) := hu
      have HT : Hid (scB l k = !(aboveB l y1 && (y3 == 0))) := scB_tail HY.out he hu
      have hup : y1 = -1 ∨ (0 ≤ y1 ∧ y1 < l.length) := by rcases upB_in hu with h | h; exact .inl h; exact .inr ⟨h.1, by omega⟩
      have HUP : Hid (y1 = -1 ∨ (0 ≤ y1 ∧ y1 < l.length)) := hup
      clear he hu hup
      cases ha : aboveB l y1
      · have HA : Hid (aboveB l y1 = false) := ha
        have HK : Hid (scB l k = true) := by rw [Hid, HT.out, ha]; rfl
        clear ha
        go_wp2_with fail
        refine (goodEnd_is y2 y3 _ true HE.out).mono ?_
        rintro e w2 ⟨rfl, hb2⟩
        have hb3 := hn.trans (hb2.mono (by simp))
        have X2 := X0.later hb2
        have x0 := X2.c 0 rfl
        have x1 := X2.c 1 rfl
        have x2 := X2.c 2 rfl
        clear hb2 X0
        go_wp2_with fail
        refine (goodUp_is k y1 _ true HU.out).mono ?_
        rintro e w3 ⟨rfl, hw3⟩
        subst hw3
        go_wp2_with fail
        refine (endedAbove_is (some ⟨b, off, none⟩) bc l y1 _ false HUP.out (HI.out.later hb3) HA.out).mono ?_
        rintro e w4 ⟨rfl, hb4⟩
        have hb5 := hb3.trans (hb4.mono hb3.size)
        have hb6 : Below w1.heap.size w1 w4 := hb.trans (hb5.mono hb.size)
        clear hb4 hb3 x0 x1 x2 X2
        go_wp2
        go_roundw
        case rel => exact ⟨k + 1, by omega, by go_num, fun j hj => by
          rcases Nat.lt_succ_iff_lt_or_eq.1 hj with h | rfl
          · exact hno.out j h
          · exact HK.out, hb6⟩
        case measure => simp [intOf]; omega
      · have HA : Hid (aboveB l y1 = true) := ha
        obtain ⟨z, hz3⟩ : ∃ z, (y3 != 0) = z := ⟨_, rfl⟩
        have HZ3 : Hid ((y3 != 0) = z) := hz3
        have HK : Hid (scB l k = z) := by rw [Hid, HT.out, ha, ← hz3]; simp [bne]
        clear ha hz3
        go_wp2_with fail
        refine (goodEnd_is y2 y3 _ true HE.out).mono ?_
        rintro e w2 ⟨rfl, hb2⟩
        have hb3 := hn.trans (hb2.mono (by simp))
        have X2 := X0.later hb2
        have x0 := X2.c 0 rfl
        have x1 := X2.c 1 rfl
        have x2 := X2.c 2 rfl
        clear hb2 X0
        go_wp2_with fail
        refine (goodUp_is k y1 _ true HU.out).mono ?_
        rintro e w3 ⟨rfl, hw3⟩
        subst hw3
        go_wp2_with fail
        refine (endedAbove_is (some ⟨b, off, none⟩) bc l y1 _ true HUP.out (HI.out.later hb3) HA.out).mono ?_
        rintro e w4 ⟨rfl, hb4⟩
        have hb5 := hb3.trans (hb4.mono hb3.size)
        have X4 := X2.later hb4
        clear x0 x1 x2 X2 hb4 hb3
        have x0 := X4.c 0 rfl
        have x1 := X4.c 1 rfl
        have x2 := X4.c 2 rfl
        go_wp2_with fail
        refine (ended_is y2 y3 _ z HZ3.out).mono ?_
        rintro e w5 ⟨rfl, hb6⟩
        have hb7 := hb5.trans (hb6.mono hb5.size)
        have hb8 : Below w1.heap.size w1 w5 := hb.trans (hb7.mono hb.size)
        have hB8 := hB1.trans (hb8.mono hB1.size)
        clear x0 x1 x2 X4 hb6 hb5
        cases z
        · have HF : Hid (x = false) := by rw [Hid, ← HX.out]; exact scopesB_bad k hlt HK.out
          go_wp2
          go_ret
          exact ⟨ret_bool HF.out.symm, hB8⟩
        · go_wp2
          go_roundw
          case rel => exact ⟨k + 1, by omega, by go_num, fun j hj => by
            rcases Nat.lt_succ_iff_lt_or_eq.1 hj with h | rfl
            · exact hno.out j h
            · exact HK.out, hb8⟩
          case measure => simp [intOf]; omega
    · obtain rfl : k = l.length := by omega
      have HT : Hid (x = true) := by rw [Hid, ← HX.out]; exact scopesB_end (by omega) hno.out
      go_wp2
      go_ret
      exact ⟨ret_bool HT.out.symm, hB⟩
end
section
open Go.RowKit

/-- Why a new scope below up has ended. -/
def whyOf (l : List Sc) (up : Int) : Int := if up = -1 then 0 else (el l up.toNat).2.2
/-- A new scope may be made. -/
def newB (l : List Sc) (up dl : Int) : Bool := scopesB l && (decide (l.length ≠ 20) && (upB l.length up && decide (0 ≤ dl)))
/-- What NewScope answers. -/
def newR (l : List Sc) (up dl : Int) : List Sc × Int × Int := if newB l up dl = true then (l ++ [(up, dl, whyOf l up)], (l.length : Int), 0) else ([], 0, 2)
theorem newR_bad {l : List Sc} {up dl : Int} (h : newB l up dl = false) : newR l up dl = ([], 0, 2) := by rw [newR, if_neg]; rw [h]; simp
theorem newR_good {l : List Sc} {up dl : Int} (h : newB l up dl = true) : newR l up dl = (l ++ [(up, dl, whyOf l up)], (l.length : Int), 0) := by rw [newR, if_pos h]
theorem newR_len {l : List Sc} {up dl : Int} (hl : l.length ≤ 1048576) : (newR l up dl).1.length ≤ 1048576 := by
  unfold newR
  split
  · rename_i h
    have hs : scopesB l = true := by unfold newB at h; revert h; cases scopesB l <;> simp
    have := (scopesB_good hs).1
    simp; omega
  · simp
/-- Scopes, a number and a code, in memory of their own. -/
def AnsN (w : World) (R : List Sc × Int × Int) (e : Ending) (w' : World) : Prop :=
  (∃ o c, e = .returned (.tuple #[.slice o R.1.length c, .int .i64 R.2.1, .int .i64 R.2.2]) ∧ kS.Fresh w.heap.size w'.heap.size w' o c R.1) ∧ Below w.heap.size w w'
end
section
open Go.RowKit

theorem Kind.flat_set {α : Type} [Inhabited α] (K : Kind α) : ∀ (xs : List α) (j : Nat), j < xs.length → ∀ i, i < K.sz → ∀ (v : Value) (x' : α), K.enc x' = (K.enc (el xs j)).set i v → (K.flat xs).set (j * K.sz + i) v = K.flat (xs.set j x')
  | [], j, h, _, _, _, _, _ => by simp at h
  | x :: r, 0, _, i, hi, v, x', he => by
    rw [el_zero] at he
    rw [Nat.zero_mul, Nat.zero_add, Kind.flat_cons, List.set_append_left _ _ (by rw [K.len]; exact hi), ← he, List.set_cons_zero, Kind.flat_cons]
  | x :: r, j + 1, h, i, hi, v, x', he => by
    rw [el_cons] at he
    have e : (j + 1) * K.sz + i - (K.enc x).length = j * K.sz + i := by rw [K.len, Nat.add_mul, Nat.one_mul]; omega
    rw [Kind.flat_cons, List.set_append_right _ _ (by rw [K.len, Nat.add_mul, Nat.one_mul]; omega), e, Kind.flat_set K r j (by simpa using h) i hi v x' he, List.set_cons_succ, Kind.flat_cons]
theorem Kind.Fresh.set {α : Type} [Inhabited α] {K : Kind α} {lo hi g : Nat} {W : World} {tc : Nat} {xs : List α} (h : K.Fresh lo hi W (some ⟨g, 0, none⟩) tc xs) (j : Nat) (hj : j < xs.length) (i : Nat) (hi' : i < K.sz) (v : Value) (x' : α) (he : K.enc x' = (K.enc (el xs j)).set i v) :
    K.Fresh lo hi (W.setCell ⟨g, j * K.sz + i, none⟩ v) (some ⟨g, 0, none⟩) tc (xs.set j x') := by
  rcases h with rfl | ⟨g', e, hg, ho⟩
  · simp at hj
  · cases e
    refine .inr ⟨g, rfl, hg, ?_⟩
    have := (ho.stored (j * K.sz + i) v).1
    rw [K.flat_set xs j hj i hi' v x' he] at this
    rw [List.length_set]; exact this
theorem Kind.Fresh.cells {α : Type} [Inhabited α] {K : Kind α} {lo hi g : Nat} {W : World} {tc : Nat} {xs : List α} (h : K.Fresh lo hi W (some ⟨g, 0, none⟩) tc xs) (j : Nat) (hj : j < xs.length) (i : Nat) (hi' : i < K.sz) : W.cell? ⟨g, j * K.sz + i, none⟩ = (K.enc (el xs j))[i]? ∧ W.frozen? ⟨g, j * K.sz + i, none⟩ = false := by
  rcases h with rfl | ⟨g', e, hg, ho⟩
  · simp at hj
  · cases e
    have hlt : j * K.sz + i < xs.length * K.sz := by
      have : (j + 1) * K.sz ≤ xs.length * K.sz := Nat.mul_le_mul_right _ hj
      rw [Nat.add_mul, Nat.one_mul] at this; omega
    exact ⟨by rw [ho.cellAt _ hlt, K.flat_at xs j hj i hi'], ho.frozenAt _⟩
theorem el_set_same {α : Type} [Inhabited α] {xs : List α} {j : Nat} (h : j < xs.length) (x : α) : el (xs.set j x) j = x := by simp [el, h]
theorem el_set_other {α : Type} [Inhabited α] {xs : List α} {i j : Nat} (h : i ≠ j) (x : α) : el (xs.set j x) i = el xs i := by rw [el, List.getElem?_set, if_neg (fun e => h e.symm)]; rfl

/-- Scopes that end up to a place: the scopes, and the numbers of those that ended. -/
def endTo (f : Nat → Sc → Bool) (why : Int) (l : List Sc) : Nat → List Sc × List Int
  | 0 => (l, [])
  | j + 1 => if ((f j (el (endTo f why l j).1 j) || aboveB (endTo f why l j).1 (el (endTo f why l j).1 j).1) && ((el (endTo f why l j).1 j).2.2 == 0)) = true
      then ((endTo f why l j).1.set j ((el (endTo f why l j).1 j).1, (el (endTo f why l j).1 j).2.1, why), (endTo f why l j).2 ++ [(j : Int)])
      else endTo f why l j
theorem endTo_len (f : Nat → Sc → Bool) (why : Int) (l : List Sc) : ∀ j, (endTo f why l j).1.length = l.length
  | 0 => rfl
  | j + 1 => by
    rw [endTo]
    split
    · rw [List.length_set]; exact endTo_len f why l j
    · exact endTo_len f why l j
theorem endTo_num (f : Nat → Sc → Bool) (why : Int) (l : List Sc) : ∀ j, (endTo f why l j).2.length ≤ j
  | 0 => by simp [endTo]
  | j + 1 => by
    have := endTo_num f why l j
    rw [endTo]
    split
    · simp; omega
    · omega
theorem endTo_rest (f : Nat → Sc → Bool) (why : Int) (l : List Sc) : ∀ j i, j ≤ i → el (endTo f why l j).1 i = el l i
  | 0, i, _ => rfl
  | j + 1, i, h => by
    rw [endTo]
    split
    · rw [el_set_other (by omega)]; exact endTo_rest f why l j i (by omega)
    · exact endTo_rest f why l j i (by omega)
/-- One more. -/
theorem endTo_yes {f : Nat → Sc → Bool} {why : Int} {l : List Sc} {j : Nat} {y1 y2 : Int} (hy : el l j = (y1, y2, 0)) (h : (f j (y1, y2, 0) || aboveB (endTo f why l j).1 y1) = true) : endTo f why l (j + 1) = ((endTo f why l j).1.set j (y1, y2, why), (endTo f why l j).2 ++ [(j : Int)]) := by
  rw [endTo, endTo_rest f why l j j (Nat.le_refl _), hy, if_pos]
  dsimp only
  rw [h]; rfl
theorem endTo_no {f : Nat → Sc → Bool} {why : Int} {l : List Sc} {j : Nat} {y1 y2 y3 : Int} (hy : el l j = (y1, y2, y3)) (h : (f j (y1, y2, y3) || aboveB (endTo f why l j).1 y1) = false ∨ (y3 == 0) = false) : endTo f why l (j + 1) = endTo f why l j := by
  rw [endTo, endTo_rest f why l j j (Nat.le_refl _), hy, if_neg]
  dsimp only
  rcases h with h | h
  · rw [h]; simp
  · rw [h]; simp
/-- Who is to end, at the beginning. -/
def ends0 (f : Nat → Sc → Bool) (l : List Sc) (i : Nat) : Bool := ((el l i).2.2 == 0) && f i (el l i)
/-- Who is to end, when j have been gone through. -/
def endsAt (f : Nat → Sc → Bool) (why : Int) (l : List Sc) (j i : Nat) : Bool := if i < j then ((el l i).2.2 == 0) && ((el (endTo f why l j).1 i).2.2 != 0) else ends0 f l i
theorem endTo_before (f : Nat → Sc → Bool) (why : Int) (l : List Sc) (j i : Nat) (h : i < j) : el (endTo f why l (j + 1)).1 i = el (endTo f why l j).1 i := by
  rw [endTo]
  split
  · rw [el_set_other (by omega)]
  · rfl
/-- The specification's look above is the program's. -/
theorem above_ends {f : Nat → Sc → Bool} {why : Int} {l : List Sc} {j u : Nat} {y2 : Int} (hu : u < j) (hy : el l j = ((u : Int), y2, 0)) (hs : scB l j = true) : endsAt f why l j u = aboveB (endTo f why l j).1 u := by
  have h0 : (el l u).2.2 = 0 := by
    rw [scB, hy] at hs
    simp [aboveB] at hs
    exact hs.2
  rw [endsAt, if_pos hu, h0, aboveB]
  simp
theorem endsAt_other {f : Nat → Sc → Bool} {why : Int} {l : List Sc} {j i : Nat} (h : i ≠ j) : endsAt f why l (j + 1) i = endsAt f why l j i := by
  unfold endsAt
  by_cases hi : i < j
  · rw [if_pos (by omega), if_pos hi, endTo_before f why l j i hi]
  · rw [if_neg (by omega), if_neg hi]
theorem endsAt_skip {f : Nat → Sc → Bool} {why : Int} {l : List Sc} {j : Nat} {y1 y2 y3 : Int} (hy : el l j = (y1, y2, y3)) (h : y3 ≠ 0) (i : Nat) : endsAt f why l (j + 1) i = endsAt f why l j i := by
  by_cases hi : i = j
  · subst hi
    have e : (y3 == 0) = false := by simpa using h
    rw [endsAt, if_pos (by omega), endsAt, if_neg (by omega), ends0, hy]
    dsimp only
    rw [e]; rfl
  · exact endsAt_other hi
theorem endsAt_yes {f : Nat → Sc → Bool} {why : Int} {l : List Sc} {j : Nat} {y1 y2 : Int} (hj : j < l.length) (hw : why ≠ 0) (hy : el l j = (y1, y2, 0)) (h : (f j (y1, y2, 0) || aboveB (endTo f why l j).1 y1) = true) : endsAt f why l (j + 1) j = true := by
  rw [endsAt, if_pos (by omega), endTo_yes hy h, hy]
  dsimp only
  rw [el_set_same (by rw [endTo_len]; exact hj)]
  simpa using hw
theorem endsAt_no {f : Nat → Sc → Bool} {why : Int} {l : List Sc} {j : Nat} {y1 y2 : Int} (hy : el l j = (y1, y2, 0)) (h : (f j (y1, y2, 0) || aboveB (endTo f why l j).1 y1) = false) : endsAt f why l (j + 1) j = false := by
  rw [endsAt, if_pos (by omega), endTo_no hy (.inl h), endTo_rest f why l j j (Nat.le_refl _), hy]
  rfl
theorem endsAt_now {f : Nat → Sc → Bool} {why : Int} {l : List Sc} {j : Nat} {y1 y2 : Int} (hy : el l j = (y1, y2, 0)) : endsAt f why l j j = f j (y1, y2, 0) := by
  rw [endsAt, if_neg (by omega), ends0, hy]
  rfl
end
section
open Go.RowKit

set_option maxHeartbeats 1000000 in
theorem endPtr_no (b o : Nat) (dl wy why : Int) (w : World) (hw : wy ≠ 0) (c0 : w.cell? ⟨b, o, none⟩ = some (.int .i64 dl)) (c1 : w.cell? ⟨b, o + 1, none⟩ = some (.int .i64 wy)) :
    Calls Try.prog 57 #[.pointer (some ⟨b, o, none⟩), .int .i64 why] w fun e w' => e = .returned (.bool false) ∧ Below w.heap.size w w' := by
  have HW : Hid ((wy != 0) = true) := by simpa [Hid] using hw
  clear hw
  go_enter Try.func57, Try.ntmps57
  go_wp2_with fail
  refine (ended_is dl wy _ true HW.out).mono ?_
  rintro e w1 ⟨rfl, hb1⟩
  go_wp2
  go_ret
  exact ⟨rfl, hb1⟩
set_option maxHeartbeats 1000000 in
theorem endPtr_yes (b o : Nat) (dl why : Int) (w : World) (c0 : w.cell? ⟨b, o, none⟩ = some (.int .i64 dl)) (c1 : w.cell? ⟨b, o + 1, none⟩ = some (.int .i64 0)) (f1 : w.frozen? ⟨b, o + 1, none⟩ = false) :
    Calls Try.prog 57 #[.pointer (some ⟨b, o, none⟩), .int .i64 why] w fun e w' => e = .returned (.bool true) ∧ ∃ w1, Below w.heap.size w w1 ∧ w' = w1.setCell ⟨b, o + 1, none⟩ (.int .i64 why) := by
  have hb : b < w.heap.size := World.block_lt_of_cell? _ _ c0
  go_enter Try.func57, Try.ntmps57
  go_wp2_with fail
  refine (ended_is dl 0 _ false rfl).mono ?_
  rintro e w1 ⟨rfl, hb1⟩
  have d0 := (hb1.cell (p := ⟨b, o, none⟩) hb).trans c0
  have d1 := (hb1.cell (p := ⟨b, o + 1, none⟩) hb).trans c1
  have e1 := (hb1.frozen (p := ⟨b, o + 1, none⟩) hb).trans f1
  go_wp2
  go_ret
  exact ⟨rfl, w1, hb1, rfl⟩
/-- The scope at a place is the one that is told. -/
def isB (k : Int) (j : Nat) (_ : Sc) : Bool := ((j : Int) == k)
/-- The scope's time has come. -/
def dueB (now : Int) (_ : Nat) (b : Sc) : Bool := decide (b.2.1 ≤ now)
set_option maxHeartbeats 400000 in
theorem is_is (k : Int) (j : Nat) (y1 y2 y3 : Int) (p : Nat) (w : World) (x : Bool) (hc : w.cell? ⟨p, 0, none⟩ = some (.int .i64 k)) (hx : isB k j (y1, y2, y3) = x) :
    Calls Try.prog 39 #[.int .i64 (j : Int), .agg #[.int .i64 y2, .int .i64 y3, .int .i64 y1], .pointer (some ⟨p, 0, none⟩)] w fun e w' => e = .returned (.bool x) ∧ Below w.heap.size w w' := by
  have HX : Hid (((j : Int) == k) = x) := hx
  have hp : p < w.heap.size := World.block_lt_of_cell? _ _ hc
  clear hx
  go_enter Try.func39, Try.ntmps39
  go_wp2
  go_ret
  exact ⟨ret_bool HX.out, below1 _ _⟩
set_option maxHeartbeats 2000000 in
theorem scopesOf_any (ao : Option Addr) (cap : Nat) (l : List Sc) (w : World) (hl : l.length ≤ 1048576) (hz : kB.In w.heap.size w ao l) :
    Calls Try.prog 58 #[.slice ao l.length cap] w fun e w' => (∃ v, e = .returned v ∧ kS.Own w.heap.size w' v l) ∧ Below w.heap.size w w' := by
  go_enter Try.func58, Try.ntmps58
  go_wp2
  go_loopw [3, 8] (fun u i wr => ∃ (k : Nat) (v : Value), v = u ∧ k ≤ l.length ∧ i = .int .i64 k ∧ Hid (kS.Own w.heap.size wr v (l.take k)) ∧ Below w.heap.size w wr) (fun _ i _ => l.length - (intOf i).toNat)
  case atStart => exact ⟨0, _, rfl, Nat.zero_le _, rfl, Kind.Own.nil _ _ _, Below.refl _ _⟩
  case round =>
    obtain ⟨k, v, rfl, hk, rfl, hO, hB⟩ := hrel
    have hsz := hB.size
    by_cases hlt : k < l.length
    · obtain ⟨b, off, rfl, hb, hc⟩ := kB_at hz hlt
      have d1 := (hB.cell (p := ⟨b, off + k * 3, none⟩) hb).trans (hc k hlt).1
      have d2 := (hB.cell (p := ⟨b, off + k * 3 + 1, none⟩) hb).trans (hc k hlt).2.1
      have d3 := (hB.cell (p := ⟨b, off + k * 3 + 2, none⟩) hb).trans (hc k hlt).2.2
      obtain ⟨⟨y1, y2, y3⟩, ey⟩ : ∃ v, v = el l k := ⟨_, rfl⟩
      rw [← ey] at d1 d2 d3
      have HY : Hid (el l k = (y1, y2, y3)) := ey.symm
      clear ey hc
      dsimp only at d1 d2 d3
      have HA : Hid (kS.Own w.heap.size ((wr.alloc (.cells #[.int .i64 y2, .int .i64 y3, .int .i64 y1] 77)).alloc (.cells #[.int .i64 y1, .int .i64 y2, .int .i64 y3] 48)) v (l.take k)) := (hO.out.below (below1 _ _)).below (below1 _ _)
      have HN : Hid (kS.In (wr.heap.size + 1 + 1) ((wr.alloc (.cells #[.int .i64 y2, .int .i64 y3, .int .i64 y1] 77)).alloc (.cells #[.int .i64 y1, .int .i64 y2, .int .i64 y3] 48)) (some ⟨wr.heap.size + 1, 0, none⟩) [(y1, y2, y3)]) := kS_one (by omega) (by simp) (by simp) (by simp)
      have hll : (l.take k).length + 1 ≤ 4194304 := by simp; omega
      have hBa : Below w.heap.size w ((wr.alloc (.cells #[.int .i64 y2, .int .i64 y3, .int .i64 y1] 77)).alloc (.cells #[.int .i64 y1, .int .i64 y2, .int .i64 y3] 48)) := Below.allocS (Below.allocS hB _) _
      go_wp2_with (at_builtin; refine Kind.app kS_ok ((wr.alloc (.cells #[.int .i64 y2, .int .i64 y3, .int .i64 y1] 77)).alloc (.cells #[.int .i64 y1, .int .i64 y2, .int .i64 y3] 48)) rfl (.tmp 12) (.tmp 22) rfl w.heap.size v (l.take k) rfl HA.out hBa.size (some ⟨wr.heap.size + 1, 0, none⟩) [(y1, y2, y3)] 1 1 rfl rfl (by simp) _ HN.out hll ?_; intro v' w' hO' hB' hG' hn'; have hB2 : Below w.heap.size w w' := hBa.trans hB'; have HO' : Hid (kS.Own w.heap.size w' v' (l.take (k + 1))) := (by rw [Hid, take_succ_el hlt, HY.out]; exact hO'); clear hO' hB' hG' hn')
      go_roundw
      case rel => exact ⟨k + 1, v', rfl, by omega, by go_num, HO', hB2⟩
      case measure => simp [intOf]; omega
    · obtain rfl : k = l.length := by omega
      go_wp2
      go_ret
      exact ⟨⟨_, rfl, by have := hO.out; rwa [List.take_length] at this⟩, hB⟩
end
section
open Go.RowKit

set_option maxRecDepth 10000 in
set_option maxHeartbeats 8000000 in
theorem endAllIs_any (ao : Option Addr) (cap : Nat) (l : List Sc) (why kv : Int) (pk : Nat) (w : World) (hl : l.length ≤ 1048576) (hg : scopesB l = true) (hz : kS.In w.heap.size w ao l) (hk : w.cell? ⟨pk, 0, none⟩ = some (.int .i64 kv)) :
    Calls Try.prog 38 #[.slice ao l.length cap, .int .i64 why, .func (.func 39) #[] #[.pointer (some ⟨pk, 0, none⟩)]] w fun e w' => (∃ o c o' c', e = .returned (.tuple #[.slice o l.length c, .slice o' (endTo (isB kv) why l l.length).2.length c']) ∧ kS.Fresh w.heap.size w'.heap.size w' o c (endTo (isB kv) why l l.length).1 ∧ kI.Fresh w.heap.size w'.heap.size w' o' c' (endTo (isB kv) why l l.length).2) ∧ Below w.heap.size w w' := by
  have hpk : pk < w.heap.size := World.block_lt_of_cell? _ _ hk
  have HG : Hid (∀ j, j < l.length → scB l j = true) := (scopesB_good hg).2
  clear hg
  go_enter Try.func38, Try.ntmps38
  go_wp2_with fail
  refine (branchesOf_any ao cap l w hl hz).mono ?_
  rintro e w1 ⟨⟨v, rfl, hO⟩, hB1⟩
  obtain ⟨bo, bc, rfl, _, hF⟩ := hO.fresh
  have HF0 := hid hF
  have hs1 := hB1.size
  clear hO hF
  go_wp2
  go_loopw [9, 16] (fun u i wr => ∃ (k : Nat) (v : Value), v = u ∧ k ≤ l.length ∧ i = .int .i64 k ∧ Hid (kI.Own w1.heap.size wr v (endTo (isB kv) why l k).2) ∧ Hid (kB.Fresh w.heap.size w1.heap.size wr bo bc (endTo (isB kv) why l k).1) ∧ Below w.heap.size w wr ∧ w1.heap.size ≤ wr.heap.size) (fun _ i _ => l.length - (intOf i).toNat)
  case atStart => exact ⟨0, _, rfl, Nat.zero_le _, rfl, Kind.Own.nil _ _ _, HF0, hB1, Nat.le_refl _⟩
  case round =>
    obtain ⟨k, v, rfl, hk', rfl, hO, hF, hB, hsz⟩ := hrel
    by_cases hlt : k < l.length
    · have hlen := endTo_len (isB kv) why l k
      obtain ⟨g, rfl, hg1, hg2, _, _⟩ := hF.out.at (by rw [hlen]; omega)
      have hkl : k < (endTo (isB kv) why l k).1.length := by rw [hlen]; exact hlt
      obtain ⟨⟨y1, y2, y3⟩, ey⟩ : ∃ v, v = el l k := ⟨_, rfl⟩
      have HY : Hid (el l k = (y1, y2, y3)) := ey.symm
      have hel : el (endTo (isB kv) why l k).1 k = (y1, y2, y3) := by rw [endTo_rest _ _ _ _ _ (Nat.le_refl _), ← ey]
      have HEL := hid hel
      have d1 : wr.cell? ⟨g, k * 3, none⟩ = some (.int .i64 y2) := (hF.out.cells k hkl 0 (by decide)).1.trans (by rw [hel]; rfl)
      have d2 : wr.cell? ⟨g, k * 3 + 1, none⟩ = some (.int .i64 y3) := (hF.out.cells k hkl 1 (by decide)).1.trans (by rw [hel]; rfl)
      have d3 : wr.cell? ⟨g, k * 3 + 2, none⟩ = some (.int .i64 y1) := (hF.out.cells k hkl 2 (by decide)).1.trans (by rw [hel]; rfl)
      have hsc := HG.out k hlt
      have hup : upB k y1 = true := by
        rw [scB, ← ey] at hsc
        revert hsc; cases upB (↑k) y1 <;> simp
      have HUP : Hid (y1 = -1 ∨ (0 ≤ y1 ∧ y1 < (endTo (isB kv) why l k).1.length)) := by
        rcases upB_in hup with h | h
        · exact .inl h
        · exact .inr ⟨h.1, by rw [hlen]; omega⟩
      clear ey hel hsc hup
      have hn := below1 wr (.cells #[.int .i64 y2, .int .i64 y3, .int .i64 y1] 77)
      have X0 : Bx (wr.alloc (.cells #[.int .i64 y2, .int .i64 y3, .int .i64 y1] 77)) wr.heap.size [.int .i64 y2, .int .i64 y3, .int .i64 y1] := Bx.new _ _ rfl
      have hB0 := Below.allocS hB (.cells #[.int .i64 y2, .int .i64 y3, .int .i64 y1] 77)
      have ck := (hB0.cell (p := ⟨pk, 0, none⟩) hpk).trans hk
      have HL : Hid (l.length = (endTo (isB kv) why l k).1.length) := hlen.symm
      clear hlen hkl
      obtain ⟨fx, hfx⟩ : ∃ x, isB kv k (y1, y2, y3) = x := ⟨_, rfl⟩
      have HFX := hid hfx
      clear hfx
      cases fx
      · -- not told
        obtain ⟨ax, hax⟩ : ∃ x, aboveB (endTo (isB kv) why l k).1 y1 = x := ⟨_, rfl⟩
        have HAX := hid hax
        clear hax
        go_wp2_with fail
        refine (is_is kv k y1 y2 y3 pk _ false ck HFX.out).mono ?_
        rintro e w2 ⟨rfl, hb2⟩
        have hb3 := hn.trans (hb2.mono (by simp))
        have X2 := X0.later hb2
        have x0 := X2.c 0 rfl
        have x1 := X2.c 1 rfl
        have x2 := X2.c 2 rfl
        have HI : Hid (kB.In w2.heap.size w2 (some ⟨g, 0, none⟩) (endTo (isB kv) why l k).1) := (hF.out.later hb3).in
        clear hb2 X0
        go_wp2_with fail
        rw [HL.out]
        refine (endedAbove_is (some ⟨g, 0, none⟩) bc (endTo (isB kv) why l k).1 y1 w2 ax HUP.out HI.out HAX.out).mono ?_
        rw [← HL.out]
        rintro e w3 ⟨rfl, hb4⟩
        have hb5 := hb3.trans (hb4.mono hb3.size)
        have hB5 := hB.trans (hb5.mono hB.size)
        have hs5 := hb5.size
        have F5 := hid (hF.out.later hb5)
        have O5 := hid (hO.out.below hb5)
        clear hb4 hb3 x0 x1 x2 HI X2 hb5
        cases ax
        · have HE : Hid (endTo (isB kv) why l (k + 1) = endTo (isB kv) why l k) := endTo_no HY.out (.inl (by rw [HFX.out, HAX.out]; rfl))
          go_wp2
          go_roundw
          case rel => exact ⟨k + 1, v, rfl, by omega, by go_num, by rw [HE.out]; exact O5, by rw [HE.out]; exact F5, hB5, by omega⟩
          case measure => simp [intOf]; omega
        · have e1 : w3.cell? ⟨g, k * 3, none⟩ = some (.int .i64 y2) := (F5.out.cells k (by rw [← HL.out]; exact hlt) 0 (by decide)).1.trans (by rw [HEL.out]; rfl)
          have e2 : w3.cell? ⟨g, k * 3 + 1, none⟩ = some (.int .i64 y3) := (F5.out.cells k (by rw [← HL.out]; exact hlt) 1 (by decide)).1.trans (by rw [HEL.out]; rfl)
          have e3 : w3.frozen? ⟨g, k * 3 + 1, none⟩ = false := (F5.out.cells k (by rw [← HL.out]; exact hlt) 1 (by decide)).2
          by_cases hy3 : y3 = 0
          · subst hy3
            have HE : Hid (endTo (isB kv) why l (k + 1) = ((endTo (isB kv) why l k).1.set k (y1, y2, why), (endTo (isB kv) why l k).2 ++ [(k : Int)])) := endTo_yes HY.out (by rw [HFX.out, HAX.out]; rfl)
            clear d1 d2 d3 ck
            go_wp2_with fail
            refine (endPtr_yes g (k * 3) y2 why w3 e1 e2 e3).mono ?_
            rintro e w4 ⟨rfl, w4', hb4, rfl⟩
            have hB6 : Below w.heap.size w (w4'.setCell ⟨g, k * 3 + 1, none⟩ (.int .i64 why)) := (hB5.trans (hb4.mono hB5.size)).setCell (p := ⟨g, k * 3 + 1, none⟩) hg1 _
            have hs6 := hb4.size
            have F6 : Hid (kB.Fresh w.heap.size w1.heap.size (w4'.setCell ⟨g, k * 3 + 1, none⟩ (.int .i64 why)) (some ⟨g, 0, none⟩) bc ((endTo (isB kv) why l k).1.set k (y1, y2, why))) := (F5.out.later hb4).set k (by rw [← HL.out]; exact hlt) 1 (by decide) (.int .i64 why) (y1, y2, why) (by rw [HEL.out]; rfl)
            have O6 : Hid (kI.Own w1.heap.size (w4'.setCell ⟨g, k * 3 + 1, none⟩ (.int .i64 why)) v (endTo (isB kv) why l k).2) := (O5.out.below hb4).setBelow (by simpa using hg2) _
            obtain ⟨W6, hW6⟩ : ∃ W6, W6 = w4'.setCell ⟨g, k * 3 + 1, none⟩ (.int .i64 why) := ⟨_, rfl⟩
            have hs7 : w1.heap.size ≤ W6.heap.size := by rw [hW6]; simp; omega
            rw [← hW6] at hB6 F6 O6 ⊢
            clear hW6 hb4 F5 O5 e1 e2 e3
            have HA : Hid (kI.Own w1.heap.size (W6.alloc (.cells #[.int .i64 (k : Int)] 3)) v (endTo (isB kv) why l k).2) := O6.out.below (below1 _ _)
            have HN : Hid (kI.In (W6.heap.size + 1) (W6.alloc (.cells #[.int .i64 (k : Int)] 3)) (some ⟨W6.heap.size, 0, none⟩) [(k : Int)]) := int_one (by omega) (by simp)
            have hll : (endTo (isB kv) why l k).2.length + 1 ≤ 4194304 := by have := endTo_num (isB kv) why l k; omega
            have F7 := hid (F6.out.later (below1 W6 (.cells #[.int .i64 (k : Int)] 3)))
            have hB7 := Below.allocS hB6 (.cells #[.int .i64 (k : Int)] 3)
            go_wp2_with (at_builtin; refine Kind.app kI_ok (W6.alloc (.cells #[.int .i64 (k : Int)] 3)) rfl (.tmp 39) (.tmp 41) rfl w1.heap.size v (endTo (isB kv) why l k).2 rfl HA.out (by simp; omega) (some ⟨W6.heap.size, 0, none⟩) [(k : Int)] 1 1 rfl rfl (by simp) _ HN.out hll ?_; intro v' w' hO' hB' hG' hn'; have hB8 : Below w.heap.size w w' := hB7.trans (hB'.mono (by omega)); have hs8 : w1.heap.size ≤ w'.heap.size := (by have := hB'.size; simp at this; omega); have F8 : Hid (kB.Fresh w.heap.size w1.heap.size w' (some ⟨g, 0, none⟩) bc (endTo (isB kv) why l (k + 1)).1) := (by rw [HE.out]; exact F7.out.keep fun i _ h2 _ => hB'.block i h2); have O8 : Hid (kI.Own w1.heap.size w' v' (endTo (isB kv) why l (k + 1)).2) := (by rw [HE.out]; exact hO'); clear hO' hB' hG' hn')
            go_roundw
            case rel => exact ⟨k + 1, v', rfl, by omega, by go_num, O8, F8, hB8, hs8⟩
            case measure => simp [intOf]; omega
          · have hy3' : (y3 == 0) = false := by simpa using hy3
            have HE : Hid (endTo (isB kv) why l (k + 1) = endTo (isB kv) why l k) := endTo_no HY.out (.inr hy3')
            have HY3 := hid hy3
            clear hy3 hy3' d1 d2 d3 ck
            go_wp2_with fail
            refine (endPtr_no g (k * 3) y2 y3 why w3 HY3.out e1 e2).mono ?_
            rintro e w4 ⟨rfl, hb4⟩
            have hB6 := hB5.trans (hb4.mono hB5.size)
            have hs6 := hb4.size
            have F6 := hid (F5.out.later hb4)
            have O6 := hid (O5.out.below hb4)
            clear hb4 F5 O5 e1 e2 e3
            go_wp2
            go_roundw
            case rel => exact ⟨k + 1, v, rfl, by omega, by go_num, by rw [HE.out]; exact O6, by rw [HE.out]; exact F6, hB6, by omega⟩
            case measure => simp [intOf]; omega
      · -- told
        go_wp2_with fail
        refine (is_is kv k y1 y2 y3 pk _ true ck HFX.out).mono ?_
        rintro e w3 ⟨rfl, hb2⟩
        have hb5 := hn.trans (hb2.mono (by simp))
        have hB5 := hB.trans (hb5.mono hB.size)
        have hs5 := hb5.size
        have F5 := hid (hF.out.later hb5)
        have O5 := hid (hO.out.below hb5)
        clear hb2 hb5 X0
        have e1 : w3.cell? ⟨g, k * 3, none⟩ = some (.int .i64 y2) := (F5.out.cells k (by rw [← HL.out]; exact hlt) 0 (by decide)).1.trans (by rw [HEL.out]; rfl)
        have e2 : w3.cell? ⟨g, k * 3 + 1, none⟩ = some (.int .i64 y3) := (F5.out.cells k (by rw [← HL.out]; exact hlt) 1 (by decide)).1.trans (by rw [HEL.out]; rfl)
        have e3 : w3.frozen? ⟨g, k * 3 + 1, none⟩ = false := (F5.out.cells k (by rw [← HL.out]; exact hlt) 1 (by decide)).2
        by_cases hy3 : y3 = 0
        · subst hy3
          have HE : Hid (endTo (isB kv) why l (k + 1) = ((endTo (isB kv) why l k).1.set k (y1, y2, why), (endTo (isB kv) why l k).2 ++ [(k : Int)])) := endTo_yes HY.out (by rw [HFX.out]; rfl)
          clear d1 d2 d3 ck
          go_wp2_with fail
          refine (endPtr_yes g (k * 3) y2 why w3 e1 e2 e3).mono ?_
          rintro e w4 ⟨rfl, w4', hb4, rfl⟩
          have hB6 : Below w.heap.size w (w4'.setCell ⟨g, k * 3 + 1, none⟩ (.int .i64 why)) := (hB5.trans (hb4.mono hB5.size)).setCell (p := ⟨g, k * 3 + 1, none⟩) hg1 _
          have hs6 := hb4.size
          have F6 : Hid (kB.Fresh w.heap.size w1.heap.size (w4'.setCell ⟨g, k * 3 + 1, none⟩ (.int .i64 why)) (some ⟨g, 0, none⟩) bc ((endTo (isB kv) why l k).1.set k (y1, y2, why))) := (F5.out.later hb4).set k (by rw [← HL.out]; exact hlt) 1 (by decide) (.int .i64 why) (y1, y2, why) (by rw [HEL.out]; rfl)
          have O6 : Hid (kI.Own w1.heap.size (w4'.setCell ⟨g, k * 3 + 1, none⟩ (.int .i64 why)) v (endTo (isB kv) why l k).2) := (O5.out.below hb4).setBelow (by simpa using hg2) _
          obtain ⟨W6, hW6⟩ : ∃ W6, W6 = w4'.setCell ⟨g, k * 3 + 1, none⟩ (.int .i64 why) := ⟨_, rfl⟩
          have hs7 : w1.heap.size ≤ W6.heap.size := by rw [hW6]; simp; omega
          rw [← hW6] at hB6 F6 O6 ⊢
          clear hW6 hb4 F5 O5 e1 e2 e3
          have HA : Hid (kI.Own w1.heap.size (W6.alloc (.cells #[.int .i64 (k : Int)] 3)) v (endTo (isB kv) why l k).2) := O6.out.below (below1 _ _)
          have HN : Hid (kI.In (W6.heap.size + 1) (W6.alloc (.cells #[.int .i64 (k : Int)] 3)) (some ⟨W6.heap.size, 0, none⟩) [(k : Int)]) := int_one (by omega) (by simp)
          have hll : (endTo (isB kv) why l k).2.length + 1 ≤ 4194304 := by have := endTo_num (isB kv) why l k; omega
          have F7 := hid (F6.out.later (below1 W6 (.cells #[.int .i64 (k : Int)] 3)))
          have hB7 := Below.allocS hB6 (.cells #[.int .i64 (k : Int)] 3)
          go_wp2_with (at_builtin; refine Kind.app kI_ok (W6.alloc (.cells #[.int .i64 (k : Int)] 3)) rfl (.tmp 39) (.tmp 41) rfl w1.heap.size v (endTo (isB kv) why l k).2 rfl HA.out (by simp; omega) (some ⟨W6.heap.size, 0, none⟩) [(k : Int)] 1 1 rfl rfl (by simp) _ HN.out hll ?_; intro v' w' hO' hB' hG' hn'; have hB8 : Below w.heap.size w w' := hB7.trans (hB'.mono (by omega)); have hs8 : w1.heap.size ≤ w'.heap.size := (by have := hB'.size; simp at this; omega); have F8 : Hid (kB.Fresh w.heap.size w1.heap.size w' (some ⟨g, 0, none⟩) bc (endTo (isB kv) why l (k + 1)).1) := (by rw [HE.out]; exact F7.out.keep fun i _ h2 _ => hB'.block i h2); have O8 : Hid (kI.Own w1.heap.size w' v' (endTo (isB kv) why l (k + 1)).2) := (by rw [HE.out]; exact hO'); clear hO' hB' hG' hn')
          go_roundw
          case rel => exact ⟨k + 1, v', rfl, by omega, by go_num, O8, F8, hB8, hs8⟩
          case measure => simp [intOf]; omega
        · have hy3' : (y3 == 0) = false := by simpa using hy3
          have HE : Hid (endTo (isB kv) why l (k + 1) = endTo (isB kv) why l k) := endTo_no HY.out (.inr hy3')
          have HY3 := hid hy3
          clear hy3 hy3' d1 d2 d3 ck
          go_wp2_with fail
          refine (endPtr_no g (k * 3) y2 y3 why w3 HY3.out e1 e2).mono ?_
          rintro e w4 ⟨rfl, hb4⟩
          have hB6 := hB5.trans (hb4.mono hB5.size)
          have hs6 := hb4.size
          have F6 := hid (F5.out.later hb4)
          have O6 := hid (O5.out.below hb4)
          clear hb4 F5 O5 e1 e2 e3
          go_wp2
          go_roundw
          case rel => exact ⟨k + 1, v, rfl, by omega, by go_num, by rw [HE.out]; exact O6, by rw [HE.out]; exact F6, hB6, by omega⟩
          case measure => simp [intOf]; omega
    · obtain rfl : k = l.length := by omega
      have HL : Hid (l.length = (endTo (isB kv) why l l.length).1.length) := (endTo_len _ _ _ _).symm
      go_wp2_with fail
      rw [HL.out]
      refine (scopesOf_any bo bc (endTo (isB kv) why l l.length).1 wr (by rw [endTo_len]; exact hl) (hF.out.in)).mono ?_
      rw [← HL.out]
      rintro e w2 ⟨⟨v2, rfl, hO2⟩, hb2⟩
      obtain ⟨so, sc, rfl, _, hF2⟩ := hO2.fresh
      obtain ⟨no, nc, rfl, _, hF3⟩ := hO.out.fresh
      have HF2 := hid hF2
      have HF3 := hid (hF3.later hb2)
      have hB2 := hB.trans (hb2.mono hB.size)
      have hs2 := hb2.size
      have hszw := hB.size
      clear hO2 hF2 hF3 hb2
      rw [← HL.out]
      go_wp2
      refine bodyPost_ret (v := .tuple #[.slice so l.length sc, .slice no (endTo (isB kv) why l l.length).2.length nc]) (by simp [results, Try.results38, go_sem]) rfl ?_
      exact ⟨⟨so, sc, no, nc, rfl, HF2.out.wide hszw (Nat.le_refl _), HF3.out.wide hs1 hs2⟩, hB2⟩
end
section
open Go.RowKit

/-- What CancelScope answers. -/
def cancelR (l : List Sc) (k : Int) : List Sc × List Int × Int :=
  if scopesB l = true ∧ (0 ≤ k ∧ k < l.length) then
    if (el l k.toNat).2.2 = 0 then ((endTo (isB k) 1 l l.length).1, (endTo (isB k) 1 l l.length).2, 0) else (l, [], 4)
  else ([], [], 2)
theorem cancelR_bad {l : List Sc} {k : Int} (h : scopesB l = false) : cancelR l k = ([], [], 2) := by rw [cancelR, if_neg]; rw [h]; simp
theorem cancelR_none {l : List Sc} {k : Int} (h : ¬ (0 ≤ k ∧ k < l.length)) : cancelR l k = ([], [], 2) := by rw [cancelR, if_neg]; exact fun x => h x.2
theorem cancelR_busy {l : List Sc} {k : Nat} (h : scopesB l = true) (hk : k < l.length) (h2 : (el l k).2.2 ≠ 0) : cancelR l k = (l, [], 4) := by rw [cancelR, if_pos ⟨h, by omega, by omega⟩, if_neg]; exact h2
theorem cancelR_done {l : List Sc} {k : Nat} (h : scopesB l = true) (hk : k < l.length) (h2 : (el l k).2.2 = 0) : cancelR l k = ((endTo (isB k) 1 l l.length).1, (endTo (isB k) 1 l l.length).2, 0) := by rw [cancelR, if_pos ⟨h, by omega, by omega⟩, if_pos]; exact h2
theorem cancelR_len {l : List Sc} {k : Int} (hl : l.length ≤ 1048576) : (cancelR l k).1.length ≤ 1048576 ∧ (cancelR l k).2.1.length ≤ 1048576 := by
  unfold cancelR
  repeat' split
  · dsimp only
    have := endTo_num (isB k) 1 l l.length
    rw [endTo_len]; omega
  · simp [hl]
  · simp
/-- What ExpireScopes answers. -/
def expireR (l : List Sc) (now : Int) : List Sc × List Int × Bool :=
  if scopesB l = true then ((endTo (dueB now) 2 l l.length).1, (endTo (dueB now) 2 l l.length).2, true) else ([], [], false)
theorem expireR_bad {l : List Sc} {k : Int} (h : scopesB l = false) : expireR l k = ([], [], false) := by rw [expireR, if_neg]; rw [h]; simp
theorem expireR_good {l : List Sc} {k : Int} (h : scopesB l = true) : expireR l k = ((endTo (dueB k) 2 l l.length).1, (endTo (dueB k) 2 l l.length).2, true) := by rw [expireR, if_pos h]
theorem expireR_len {l : List Sc} {k : Int} (hl : l.length ≤ 1048576) : (expireR l k).1.length ≤ 1048576 ∧ (expireR l k).2.1.length ≤ 1048576 := by
  unfold expireR
  split
  · dsimp only
    have := endTo_num (dueB k) 2 l l.length
    rw [endTo_len]; omega
  · simp
/-- Scopes, numbers and a code, in memory of their own. -/
def AnsC (w : World) (R : List Sc × List Int × Int) (e : Ending) (w' : World) : Prop :=
  (∃ o c o' c', e = .returned (.tuple #[.slice o R.1.length c, .slice o' R.2.1.length c', .int .i64 R.2.2]) ∧ kS.Fresh w.heap.size w'.heap.size w' o c R.1 ∧ kI.Fresh w.heap.size w'.heap.size w' o' c' R.2.1) ∧ Below w.heap.size w w'
/-- Scopes, numbers and a bool, in memory of their own. -/
def AnsE (w : World) (R : List Sc × List Int × Bool) (e : Ending) (w' : World) : Prop :=
  (∃ o c o' c', e = .returned (.tuple #[.slice o R.1.length c, .slice o' R.2.1.length c', .bool R.2.2]) ∧ kS.Fresh w.heap.size w'.heap.size w' o c R.1 ∧ kI.Fresh w.heap.size w'.heap.size w' o' c' R.2.1) ∧ Below w.heap.size w w'

set_option maxRecDepth 10000 in
set_option maxHeartbeats 4000000 in
theorem implCancel_any (ao : Option Addr) (cap : Nat) (l : List Sc) (iv : Int) (w : World) (hl : l.length ≤ 1048576) (hz : kS.In w.heap.size w ao l) :
    Calls Try.prog 14 #[.slice ao l.length cap, .int .i64 iv] w fun e w' => AnsC w (cancelR l iv) e w' := by
  have hn0 := below1 w (.cells #[.int .i64 iv] 3)
  have X0 : Bx (w.alloc (.cells #[.int .i64 iv] 3)) w.heap.size [.int .i64 iv] := Bx.new _ _ rfl
  cases hg : scopesB l
  · have HG := hid hg
    have HR : Hid (cancelR l iv = ([], [], 2)) := cancelR_bad hg
    clear hg
    go_enter Try.func14, Try.ntmps14
    go_wp2_with fail
    refine (implGoodScopes_is ao cap l _ false hl (hz.later hn0) HG.out).mono ?_
    rintro e w1 ⟨rfl, hb1⟩
    have hB1 := hn0.trans (hb1.mono (by simp))
    have X1 := X0.later hb1
    have x0 := X1.c 0 rfl
    clear hb1
    go_wp2
    refine bodyPost_ret (v := .tuple #[.slice none 0 0, .slice none 0 0, .int .i64 2]) (by simp [results, Try.results14, go_sem]) rfl ?_
    rw [HR.out]
    exact ⟨⟨none, 0, none, 0, rfl, .inl rfl, .inl rfl⟩, hB1⟩
  have HG := hid hg
  by_cases h1 : iv < 0
  · have h1' : decide (iv < 0) = true := by simpa using h1
    have HR : Hid (cancelR l iv = ([], [], 2)) := cancelR_none (by omega)
    clear hg
    go_enter Try.func14, Try.ntmps14
    go_wp2_with fail
    refine (implGoodScopes_is ao cap l _ true hl (hz.later hn0) HG.out).mono ?_
    rintro e w1 ⟨rfl, hb1⟩
    have hB1 := hn0.trans (hb1.mono (by simp))
    have X1 := X0.later hb1
    have x0 := X1.c 0 rfl
    clear hb1
    go_wp2
    refine bodyPost_ret (v := .tuple #[.slice none 0 0, .slice none 0 0, .int .i64 2]) (by simp [results, Try.results14, go_sem]) rfl ?_
    rw [HR.out]
    exact ⟨⟨none, 0, none, 0, rfl, .inl rfl, .inl rfl⟩, hB1⟩
  have h1' : decide (iv < 0) = false := by simpa using h1
  by_cases h2 : (l.length : Int) ≤ iv
  · have h2' : decide ((l.length : Int) ≤ iv) = true := by simpa using h2
    have HR : Hid (cancelR l iv = ([], [], 2)) := cancelR_none (by omega)
    clear hg
    go_enter Try.func14, Try.ntmps14
    go_wp2_with fail
    refine (implGoodScopes_is ao cap l _ true hl (hz.later hn0) HG.out).mono ?_
    rintro e w1 ⟨rfl, hb1⟩
    have hB1 := hn0.trans (hb1.mono (by simp))
    have X1 := X0.later hb1
    have x0 := X1.c 0 rfl
    clear hb1
    go_wp2
    refine bodyPost_ret (v := .tuple #[.slice none 0 0, .slice none 0 0, .int .i64 2]) (by simp [results, Try.results14, go_sem]) rfl ?_
    rw [HR.out]
    exact ⟨⟨none, 0, none, 0, rfl, .inl rfl, .inl rfl⟩, hB1⟩
  have h2' : decide ((l.length : Int) ≤ iv) = false := by simpa using h2
  obtain ⟨k, rfl⟩ : ∃ k : Nat, iv = k := ⟨iv.toNat, by omega⟩
  have hk : k < l.length := by omega
  have hkI : (k : Int) < (l.length : Int) := by omega
  obtain ⟨b, off, rfl, hb0, hc⟩ := kS_at hz hk
  have c0 := (hc k hk).2.2
  obtain ⟨z, ez⟩ : ∃ z, z = (el l k).2.2 := ⟨_, rfl⟩
  rw [← ez] at c0
  have HEZ := hid ez
  clear hc ez
  by_cases hz0 : z = 0
  · have hz0' : (z != 0) = false := by simpa using hz0
    have HR : Hid (cancelR l k = ((endTo (isB k) 1 l l.length).1, (endTo (isB k) 1 l l.length).2, 0)) := cancelR_done hg hk (by rw [← HEZ.out]; exact hz0)
    clear hg hz0
    go_enter Try.func14, Try.ntmps14
    go_wp2_with fail
    refine (implGoodScopes_is (some ⟨b, off, none⟩) cap l _ true hl (hz.later hn0) HG.out).mono ?_
    rintro e w1 ⟨rfl, hb1⟩
    have hB1 := hn0.trans (hb1.mono (by simp))
    have X1 := X0.later hb1
    have x0 := X1.c 0 rfl
    clear hb1
    have cz := (hB1.cell (p := ⟨b, off + k * 3 + 2, none⟩) hb0).trans c0
    go_wp2_with fail
    refine (endAllIs_any (some ⟨b, off, none⟩) cap l 1 k w.heap.size w1 hl HG.out (hz.later hB1) x0).mono ?_
    rintro e w2 ⟨⟨o, c, o', c', rfl, hF1, hF2⟩, hb2⟩
    have HF := hid (And.intro hF1 hF2)
    have hB2 := hB1.trans (hb2.mono hB1.size)
    have hs1 := hB1.size
    clear hF1 hF2 hb2
    go_wp2
    refine bodyPost_ret (v := .tuple #[.slice o l.length c, .slice o' (endTo (isB k) 1 l l.length).2.length c', .int .i64 0]) (by simp [results, Try.results14, go_sem]) rfl ?_
    rw [HR.out]
    exact ⟨⟨o, c, o', c', by rw [endTo_len], HF.out.1.wide hs1 (Nat.le_refl _), HF.out.2.wide hs1 (Nat.le_refl _)⟩, hB2⟩
  · have hz0' : (z != 0) = true := by simpa using hz0
    have HR : Hid (cancelR l k = (l, [], 4)) := cancelR_busy hg hk (by rw [← HEZ.out]; exact hz0)
    clear hg hz0
    go_enter Try.func14, Try.ntmps14
    go_wp2_with fail
    refine (implGoodScopes_is (some ⟨b, off, none⟩) cap l _ true hl (hz.later hn0) HG.out).mono ?_
    rintro e w1 ⟨rfl, hb1⟩
    have hB1 := hn0.trans (hb1.mono (by simp))
    have X1 := X0.later hb1
    have x0 := X1.c 0 rfl
    clear hb1
    have cz := (hB1.cell (p := ⟨b, off + k * 3 + 2, none⟩) hb0).trans c0
    go_wp2_with fail
    refine (copyListS_any (some ⟨b, off, none⟩) cap l w1 hl (hz.later hB1)).mono ?_
    rintro e w2 ⟨⟨o, rfl, hF1⟩, hb2⟩
    have HF := hid hF1
    have hB2 := hB1.trans (hb2.mono hB1.size)
    have hs1 := hB1.size
    clear hF1 hb2
    go_wp2
    refine bodyPost_ret (v := .tuple #[.slice o l.length l.length, .slice none 0 0, .int .i64 4]) (by simp [results, Try.results14, go_sem]) rfl ?_
    rw [HR.out]
    exact ⟨⟨o, _, none, 0, rfl, HF.out.wide hs1 (Nat.le_refl _), .inl rfl⟩, hB2⟩
end
end Go.Proofs.Ytdgnolpimmdgjaa
