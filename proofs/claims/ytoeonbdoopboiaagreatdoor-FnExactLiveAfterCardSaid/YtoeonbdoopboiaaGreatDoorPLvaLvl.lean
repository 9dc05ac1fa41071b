/- How many live behind moves: both sides. No conditions but those written. The walk of the law of LiveAfter: it returns true. No conditions but those written. -/
import Derived.Test.YtoeonbdoopboiaaGreatDoorPHs
import Derived.Test.YtoeonbdoopboiaaGreatDoorPYtYj
import Derived.Test.YtoeonbdoopboiaaGreatDoorPSpiMvr
namespace Go.Proofs.YtoeonbdoopboiaaGreatDoor
section
open Go.RowKit

/-- How many tokens live behind moves. -/
def liveR (gs : List PNode) (ms : List (Int × Int × Int)) : Int × Bool := if pipeB gs = true ∧ ms.length ≤ 300 then ((totT (playP gs (srcP gs gs.length) ms (pp0 gs.length)).2.bx : Int), true) else (0, false)
def AnsLv (w : World) (x : Int × Bool) (e : Ending) (w' : World) : Prop := e = .returned (.tuple #[.int .i64 x.1, .bool x.2]) ∧ Below w.heap.size w w'
set_option maxHeartbeats 2000000 in
theorem implLive_any (ao : Option Addr) (cap : Nat) (ts : List LNode) (ea : Nat → Addr) (mo : Option Addr) (mc : Nat) (ms : List (Int × Int × Int)) (w : World) (hC : Roomy ts cap) (hE : Errs w ea) (hz : DIn dNode w.heap.size w ao ts) (hM : kMv.In w.heap.size w mo ms) (h64 : ∀ k, k < ms.length → (el ms k).1 ≤ 9223372036854775807) :
    Calls Tryz.prog 35 #[.slice ao ts.length cap, .slice mo ms.length mc] w (AnsLv w (liveR (ts.map valNode) ms)) := by
  have HP := hid (played_any ao cap ts ea mo mc ms w hC hE hz hM h64)
  clear hC hE hz hM h64
  by_cases hok : pipeB (ts.map valNode) = true ∧ ms.length ≤ 300
  · have HR : Hid (liveR (ts.map valNode) ms = ((totT (playP (ts.map valNode) (srcP (ts.map valNode) ts.length) ms (pp0 ts.length)).2.bx : Int), true)) := by rw [Hid, liveR, if_pos hok, val_len]
    go_enter Tryz.func35, Tryz.ntmps35
    go_wp2_with fail
    refine HP.out.mono ?_
    rintro e w1 ⟨hq, hb1⟩
    rw [if_pos hok] at hq
    obtain ⟨lo, p, bb, so, sc, xs, ev, fv, uv, v, rfl, hlo, hI, F, hO, hA⟩ := hq
    have c9 := F.box.c 9 rfl
    have HB1 := hid hb1
    clear hb1 hI F hO hA HP hok
    generalize (totT (playP (ts.map valNode) (srcP (ts.map valNode) ts.length) ms (pp0 ts.length)).2.bx : Int) = x at c9 HR
    go_wp2_with fail
    refine (load_any p 9 x w1 c9).mono ?_
    rintro e w2 ⟨rfl, hw2⟩
    rw [hw2]
    clear hw2 w2 c9
    go_wp2
    refine bodyPost_ret (v := .tuple #[.int .i64 x, .bool true]) (by simp [results, Tryz.results35, go_sem]) rfl ?_
    rw [HR.out]
    exact ⟨rfl, HB1.out⟩
  · have HR : Hid (liveR (ts.map valNode) ms = (0, false)) := by rw [Hid, liveR, if_neg hok]
    go_enter Tryz.func35, Tryz.ntmps35
    go_wp2_with fail
    refine HP.out.mono ?_
    rintro e w1 ⟨hq, hb1⟩
    rw [if_neg hok] at hq
    obtain rfl := hq
    go_wp2
    refine bodyPost_ret (v := .tuple #[.int .i64 0, .bool false]) (by simp [results, Tryz.results35, go_sem]) rfl ?_
    rw [HR.out]
    exact ⟨rfl, hb1⟩
set_option maxHeartbeats 2000000 in
theorem specLive_any (ao : Option Addr) (cap : Nat) (ts : List LNode) (mo : Option Addr) (mc : Nat) (ms : List (Int × Int × Int)) (w : World) (hC : Roomy ts cap) (hz : DIn dNode w.heap.size w ao ts) (hM : kMv.In w.heap.size w mo ms) (h64 : ∀ k, k < ms.length → (el ms k).1 ≤ 9223372036854775807) :
    Calls Tryz.prog 34 #[.slice ao ts.length cap, .slice mo ms.length mc] w (AnsLv w (liveR (ts.map valNode) ms)) := by
  have HP := hid (l12Play_any ao cap ts mo mc ms w hC hz hM h64)
  clear hC hz hM h64
  by_cases hok : pipeB (ts.map valNode) = true ∧ ms.length ≤ 300
  · have HR : Hid (liveR (ts.map valNode) ms = ((totT (playP (ts.map valNode) (srcP (ts.map valNode) ts.length) ms (pp0 ts.length)).2.bx : Int), true)) := by rw [Hid, liveR, if_pos hok, val_len]
    have h0 : codeG (ts.map valNode) = 0 := by have := hok.1; simp [pipeB] at this; exact this.1
    have HGE := hid (goodE_of h0)
    have hml := hok.2
    have hBN := playP_bnd (srcP (ts.map valNode) ts.length) HGE.out.edg ms (by rw [val_len]; exact pp0_bnd ts.length) ms.length (Nat.le_refl _)
    rw [List.take_length] at hBN
    have h1 := hBN.len
    have h2 := hBN.tot
    have h3 := HGE.out.edg.many
    rw [val_len] at h1 h3
    obtain ⟨s, hs⟩ : ∃ s, s = (playP (ts.map valNode) (srcP (ts.map valNode) ts.length) ms (pp0 ts.length)).2 := ⟨_, rfl⟩
    go_enter Tryz.func34, Tryz.ntmps34
    go_wp2_with fail
    refine HP.out.mono ?_
    rintro e w1 ⟨hq, hb1⟩
    rw [if_pos hok] at hq
    obtain ⟨lo, p, bb, xs, ev, fv, uv, v, rfl, hlo, F, hO, hA⟩ := hq
    have HB1 := hid hb1
    rw [← hs] at F HR h1 h2
    have HL := hid (liveM_any lo w1 p bb _ xs ev fv uv s F (by omega) (by omega))
    clear hb1 F hO hA HP hok hs hBN h0
    go_wp2_with fail
    refine HL.out.mono ?_
    rintro e w2 ⟨rfl, hb2⟩
    have HB2 := hid (HB1.out.trans (hb2.mono HB1.out.size))
    clear hb2
    go_wp2
    refine bodyPost_ret (v := .tuple #[.int .i64 (totT s.bx : Int), .bool true]) (by simp [results, Tryz.results34, go_sem]) rfl ?_
    rw [HR.out]
    exact ⟨rfl, HB2.out⟩
  · have HR : Hid (liveR (ts.map valNode) ms = (0, false)) := by rw [Hid, liveR, if_neg hok]
    go_enter Tryz.func34, Tryz.ntmps34
    go_wp2_with fail
    refine HP.out.mono ?_
    rintro e w1 ⟨hq, hb1⟩
    rw [if_neg hok] at hq
    obtain ⟨q, rfl⟩ := hq
    go_wp2
    refine bodyPost_ret (v := .tuple #[.int .i64 0, .bool false]) (by simp [results, Tryz.results34, go_sem]) rfl ?_
    rw [HR.out]
    exact ⟨rfl, hb1⟩
end
section
open Go.RowKit

set_option maxRecDepth 100000 in
set_option maxHeartbeats 16000000 in
theorem lawLive_any (ao : Option Addr) (cap : Nat) (ts : List LNode) (mo : Option Addr) (mc : Nat) (ms : List (Int × Int × Int)) (ea : Nat → Addr) (w : World) (hl : ts.length ≤ 9223372036854775807) (hle : ∀ a ∈ ts, a.1.size ≤ 9223372036854775807 ∧ (a.2.2.2.2.2).2.2.length ≤ 9223372036854775807) (hz : DIn dNode w.heap.size w ao ts) (hml : ms.length ≤ 9223372036854775807) (h64 : ∀ k, k < ms.length → (el ms k).1 ≤ 9223372036854775807) (hM : kMv.In w.heap.size w mo ms) (hE : Errs w ea) :
    Calls Tryz.prog 7 #[.slice ao ts.length cap, .slice mo ms.length mc] w fun e w' => e = .returned (.bool true) ∧ Below w.heap.size w w' := by
  have HZ := hid hz
  have HLE := hid hle
  have HE := hid hE
  have HM := hid hM
  have H64 := hid h64
  clear hz hle hE hM h64
  obtain ⟨⟨x, y⟩, hR⟩ : ∃ R, liveR (ts.map valNode) ms = R := ⟨_, rfl⟩
  have HR := hid hR
  have hn1 : (x != x) = false := by simp
  have hn2 : (y != y) = false := by simp
  clear hR
  go_enter Tryz.func7, Tryz.ntmps7
  go_wp2_with fail
  refine (szNodeS_any ao cap ts 1048576 w (by omega) (by omega) hl HLE.out HZ.out.1).mono ?_
  rintro e w1 ⟨⟨r, rfl, hr1, hr⟩, hB1⟩
  rcases hr with hr | ⟨hr2, hr0⟩
  · go_wp2
    go_ret
    exact ⟨rfl, hB1⟩
  have hl2 : ts.length ≤ 1048576 := by omega
  have htt : totNode ts ≤ 1048576 := by omega
  have HTT := hid htt
  have hr' : decide (r < 0) = false := by simpa using hr0
  clear hr2 htt
  go_wp2_with fail
  refine (szMoveS_any mo ms.length mc r w1 hr0 hr1 hml).mono ?_
  rintro e w1b ⟨⟨r2, rfl, hq1, hq⟩, hw1b⟩
  rw [hw1b]
  clear hw1b w1b
  rcases hq with hq | ⟨hq2, hq0⟩
  · go_wp2
    go_ret
    exact ⟨rfl, hB1⟩
  have hml2 : ms.length ≤ 1048576 := by omega
  have hr2' : decide (r2 < 0) = false := by simpa using hq0
  clear hq2 hq0 hq1 hr0 hr1
  go_wp2_with fail
  refine (toNodeS_ts ao cap ts w1 hl2 HTT.out (HZ.out.later dNode_ok hB1)).mono ?_
  rintro e w2 ⟨g2, us2, rfl, hn2', hv2, hD2, hC2, hb2⟩
  have hB2 := hB1.trans (hb2.mono hB1.size)
  have D2 := hid (hD2.in dNode_ok)
  have V2 := hid (And.intro hn2' (And.intro hv2 hC2))
  clear hb2 hD2 hv2 hC2 hn2'
  go_wp2_with fail
  refine (toMoveS_any mo mc ms w2 hml2 (HM.out.later hB2)).mono ?_
  rintro e w3 ⟨rfl, hF3, hb3⟩
  have hB3 := hB2.trans (hb3.mono hB2.size)
  have D3 := hid (D2.out.later dNode_ok hb3)
  have M3 := hid hF3.in
  clear hb3 hF3 D2
  have hcon := specLive_any (some ⟨g2, 0, none⟩) ts.length us2 (some ⟨w2.heap.size, 0, none⟩) ms.length ms w3 V2.out.2.2 D3.out M3.out H64.out
  rw [V2.out.1, V2.out.2.1, HR.out] at hcon
  clear D3 V2 M3
  try dsimp only at hcon
  go_wp2_with fail
  refine hcon.mono ?_
  rintro e w4 ⟨rfl, hb4⟩
  have hB4 := hB3.trans (hb4.mono hB3.size)
  clear hb4 hcon
  go_wp2_with fail
  refine (toNodeS_ts ao cap ts w4 hl2 HTT.out (HZ.out.later dNode_ok hB4)).mono ?_
  rintro e w5 ⟨g5, us5, rfl, hn5', hv5, hD5, hC5, hb5⟩
  have hB5 := hB4.trans (hb5.mono hB4.size)
  have D5 := hid (hD5.in dNode_ok)
  have V5 := hid (And.intro hn5' (And.intro hv5 hC5))
  clear hb5 hD5 hv5 hC5 hn5'
  go_wp2_with fail
  refine (toMoveS_any mo mc ms w5 hml2 (HM.out.later hB5)).mono ?_
  rintro e w6 ⟨rfl, hF6, hb6⟩
  have hB6 := hB5.trans (hb6.mono hB5.size)
  have D6 := hid (D5.out.later dNode_ok hb6)
  have M6 := hid hF6.in
  have hcon := implLive_any (some ⟨g5, 0, none⟩) ts.length us5 ea (some ⟨w5.heap.size, 0, none⟩) ms.length ms w6 V5.out.2.2 (HE.out.later hB6) D6.out M6.out H64.out
  rw [V5.out.1, V5.out.2.1, HR.out] at hcon
  clear hb6 hF6 D5
  try dsimp only at hcon
  go_wp2_with fail
  refine hcon.mono ?_
  rintro e w7 ⟨rfl, hb7⟩
  have hB7 := hB6.trans (hb7.mono hB6.size)
  have D7 := hid (D6.out.later dNode_ok hb7)
  have M7 := hid (M6.out.later hb7)
  clear hb7 hcon D6 M6
  go_wp2_with fail
  refine (toNodeS_ts ao cap ts w7 hl2 HTT.out (HZ.out.later dNode_ok hB7)).mono ?_
  rintro e w8 ⟨g8, us8, rfl, hn8, hv8, hD8, hC8, hb8⟩
  have hB8 := hB7.trans (hb8.mono hB7.size)
  have D8 := hid (D7.out.later dNode_ok hb8)
  have M8 := hid (M7.out.later hb8)
  have X8 := hid (hD8.in dNode_ok)
  have HV8 := hid hv8
  clear hb8 hD8 hv8 hC8 hn8 D7 M7
  go_wp2_with fail
  refine (eqNodeS_ts g5 g8 us5 us8 ts w8 hl2 V5.out.2.1 HV8.out V5.out.2.2 D8.out X8.out).mono ?_
  rintro e w9 ⟨rfl, hb9⟩
  have hB9 := hB8.trans (hb9.mono hB8.size)
  have M9 := hid (M8.out.later hb9)
  clear hb9 D8 M8 X8 HV8 V5
  go_wp2_with fail
  refine (toMoveS_any mo mc ms w9 hml2 (HM.out.later hB9)).mono ?_
  rintro e w10 ⟨rfl, hF10, hb10⟩
  have hB10 := hB9.trans (hb10.mono hB9.size)
  have M10 := hid (M9.out.later hb10)
  have N10 := hid hF10.in
  clear hb10 hF10 M9
  go_wp2_with fail
  refine (eqMoveS_same (some ⟨w5.heap.size, 0, none⟩) (some ⟨w9.heap.size, 0, none⟩) ms.length ms.length ms w10 hml2 M10.out N10.out).mono ?_
  rintro e w11 ⟨rfl, hb11⟩
  have hB11 := hB10.trans (hb11.mono hB10.size)
  clear hb11
  go_wp2
  go_ret
  exact ⟨rfl, hB11⟩
end
end Go.Proofs.YtoeonbdoopboiaaGreatDoor
