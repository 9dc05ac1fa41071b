
/- The walk of the law of RunOut: it returns true. No conditions but those written. -/
import Derived.Test.YtoeonbdoopboiaaGreatDoorPRniMvk
import Derived.Test.YtoeonbdoopboiaaGreatDoorPMnLpp
namespace Go.Proofs.YtoeonbdoopboiaaGreatDoor
open Go.RowKit

theorem run_ends (gs : List PNode) (ms : List (Int × Int × Int)) : ∃ K, K ≤ 1000000000000000000 ∧ (pipeB gs = true ∧ ms.length ≤ 300 → Halts gs { (playP gs (srcP gs gs.length) ms (pp0 gs.length)).2 with cl := true } K) := by
  by_cases hok : pipeB gs = true ∧ ms.length ≤ 300
  · obtain ⟨hG, hR, hI⟩ := run_start hok
    obtain ⟨K, hK, hH⟩ := halts hG hR (400 * 31 ^ 10) _ hI (by have := phi_most hG hI hR; omega)
    exact ⟨K, by omega, fun _ => hH⟩
  · exact ⟨0, by omega, fun h => absurd h hok⟩
theorem roR_small (gs : List PNode) (ms : List (Int × Int × Int)) (K : Nat) : SmallP (roR gs ms K).1 [] := by
  unfold roR
  split
  · rename_i hok
    obtain ⟨hG, hR, hI⟩ := run_start hok
    have h := hI.it hG hR K
    revert h
    generalize itS gs K { (playP gs (srcP gs gs.length) ms (pp0 gs.length)).2 with cl := true } = s2
    intro h
    have h1 := h.len
    have h2 := tot_cap hG h.inv h.len
    have h3 := h.em
    have h4 := h.fa2
    obtain ⟨n, hn⟩ := h.bnd
    have h5 := hG.edg.many
    have h6 := hn.fu
    have hwn : 0 ≤ bxsF (fun k _ => wdP gs (orderP gs) k) s2.bx := bxsF_nn fun i t hi _ => by have := wdP_one hR hG.edg hG.st (show i < gs.length by omega); omega
    exact ⟨⟨by dsimp only; omega, by dsimp only; omega⟩, by dsimp only; omega, by dsimp only; omega, by dsimp only; omega, by simp⟩
  · exact ⟨⟨by simp, by simp [totT]⟩, by simp, by simp, by simp, by simp⟩
set_option maxRecDepth 100000 in
set_option maxHeartbeats 16000000 in
theorem lawRun_any (ao : Option Addr) (cap : Nat) (ts : List LNode) (mo : Option Addr) (mc : Nat) (ms : List (Int × Int × Int)) (ea : Nat → Addr) (w : World) (hl : ts.length ≤ 9223372036854775807) (hle : ∀ a ∈ ts, a.1.size ≤ 9223372036854775807 ∧ (a.2.2.2.2.2).2.2.length ≤ 9223372036854775807) (hz : DIn dNode w.heap.size w ao ts) (hml : ms.length ≤ 9223372036854775807) (h64 : ∀ k, k < ms.length → (el ms k).1 ≤ 9223372036854775807) (hM : kMv.In w.heap.size w mo ms) (hE : Errs w ea) :
    Calls Tryz.prog 4 #[.slice ao ts.length cap, .slice mo ms.length mc] w fun e w' => e = .returned (.bool true) ∧ Below w.heap.size w w' := by
  have HZ := hid hz
  have HLE := hid hle
  have HE := hid hE
  have HM := hid hM
  have H64 := hid h64
  clear hz hle hE hM h64
  obtain ⟨K, hK2, hK⟩ := run_ends (ts.map valNode) ms
  have hsm := roR_small (ts.map valNode) ms K
  obtain ⟨⟨s, cn, y⟩, hR⟩ : ∃ R, roR (ts.map valNode) ms K = R := ⟨_, rfl⟩
  rw [hR] at hsm
  have HSM : Hid (SmallP s []) := hsm
  have hn2 : (y != y) = false := by simp
  have hn3 : (cn != cn) = false := by simp
  have HR := hid hR
  have HKK := hid hK
  clear hR hsm hK
  go_enter Tryz.func4, Tryz.ntmps4
  go_wp2_with fail
  refine (szNodeS_any ao cap ts 1048576 w (by omega) (by omega) hl HLE.out HZ.out.1).mono ?_
  rintro e w1 ⟨⟨r, rfl, hr1, hr⟩, hB1⟩
  rcases hr with hr | ⟨hr2, hr0⟩
  · go_wp2
    go_ret
    exact ⟨rfl, hB1⟩
  have hl2 : ts.length ≤ 1048576 := by omega
  have htt : totNode ts ≤ 1048576 := by omega
  have HTT := hid htt
  have hr' : decide (r < 0) = false := by simpa using hr0
  clear hr2 htt
  go_wp2_with fail
  refine (szMoveS_any mo ms.length mc r w1 hr0 hr1 hml).mono ?_
  rintro e w1b ⟨⟨r2, rfl, hq1, hq⟩, hw1b⟩
  rw [hw1b]
  clear hw1b w1b
  rcases hq with hq | ⟨hq2, hq0⟩
  · go_wp2
    go_ret
    exact ⟨rfl, hB1⟩
  have hml2 : ms.length ≤ 1048576 := by omega
  have hr2' : decide (r2 < 0) = false := by simpa using hq0
  clear hq2 hq0 hq1 hr0 hr1
  go_wp2_with fail
  refine (toNodeS_ts ao cap ts w1 hl2 HTT.out (HZ.out.later dNode_ok hB1)).mono ?_
  rintro e w2 ⟨g2, us2, rfl, hn2', hv2, hD2, hC2, hb2⟩
  have hB2 := hB1.trans (hb2.mono hB1.size)
  have D2 := hid (hD2.in dNode_ok)
  have V2 := hid (And.intro hn2' (And.intro hv2 hC2))
  clear hb2 hD2 hv2 hC2 hn2'
  go_wp2_with fail
  refine (toMoveS_any mo mc ms w2 hml2 (HM.out.later hB2)).mono ?_
  rintro e w3 ⟨rfl, hF3, hb3⟩
  have hB3 := hB2.trans (hb3.mono hB2.size)
  have D3 := hid (D2.out.later dNode_ok hb3)
  have M3 := hid hF3.in
  clear hb3 hF3 D2
  have hcon := specRun_any (some ⟨g2, 0, none⟩) ts.length us2 (some ⟨w2.heap.size, 0, none⟩) ms.length ms w3 V2.out.2.2 D3.out M3.out H64.out K (by rw [V2.out.2.1]; exact HKK.out) hK2
  rw [V2.out.1, V2.out.2.1, HR.out] at hcon
  clear D3 V2 M3
  try dsimp only at hcon
  go_wp2_with fail
  refine hcon.mono ?_
  rintro e w4' ⟨⟨so, sc, eo, ec, fo, fc, uo, uc, rfl, hP4⟩, hb40⟩
  obtain ⟨w4, h4⟩ : ∃ q, q = w4'.alloc (.cells #[.int .i64 s.ti, .int .i64 s.it, .bool s.cl, .slice so s.bx.length sc, .slice eo s.em.length ec, .slice fo s.fa.length fc, .slice uo s.fu.length uc] 31) := ⟨_, rfl⟩
  have hb4a : Below w4'.heap.size w4' w4 := by rw [h4]; exact below1 _ _
  have KS4 : Hid (Bx w4 w4'.heap.size [.int .i64 s.ti, .int .i64 s.it, .bool s.cl, .slice so s.bx.length sc, .slice eo s.em.length ec, .slice fo s.fa.length fc, .slice uo s.fu.length uc]) := by rw [Hid, h4]; exact Bx.new (w := w4') [.int .i64 s.ti, .int .i64 s.it, .bool s.cl, .slice so s.bx.length sc, .slice eo s.em.length ec, .slice fo s.fa.length fc, .slice uo s.fu.length uc] 31 rfl
  have hz4 : w4'.heap.size < w4.heap.size := by rw [h4]; simp
  have H4 := hid h4
  have hb4 := hb40.trans (hb4a.mono hb40.size)
  have hB4 := hB3.trans (hb4.mono hB3.size)
  have S4 := hid (hP4.later hb4a)
  have C4 : Hid (kI.Fresh w3.heap.size w4'.heap.size w4 none 0 []) := Kind.Fresh.nil _ _ _ _ _ _
  clear hb4 hb40 hb4a h4 hcon hP4
  try dsimp only at S4
  try dsimp only
  go_wp2_with fail
  rw [← H4.out]
  refine (toNodeS_ts ao cap ts w4 hl2 HTT.out (HZ.out.later dNode_ok hB4)).mono ?_
  rintro e w5 ⟨g5, us5, rfl, hn5', hv5, hD5, hC5, hb5⟩
  have hB5 := hB4.trans (hb5.mono hB4.size)
  have KS5 := hid (KS4.out.later hb5)
  have S5 := hid (S4.out.later hb5)
  have C5 := hid (C4.out.later hb5)
  have h45 := hb5.size
  have X5 := hid hD5
  have V5 := hid (And.intro hn5' (And.intro hv5 hC5))
  clear hb5 hD5 hv5 hC5 hn5' S4 C4 KS4
  go_wp2_with fail
  refine (toMoveS_any mo mc ms w5 hml2 (HM.out.later hB5)).mono ?_
  rintro e w6 ⟨rfl, hF6, hb6⟩
  have hB6 := hB5.trans (hb6.mono hB5.size)
  have h56 := hb6.size
  have KS6 := hid (KS5.out.later hb6)
  have S6 := hid (S5.out.later hb6)
  have C6 := hid (C5.out.later hb6)
  have X6 := hid (X5.out.later dNode_ok hb6)
  have Y6 := hid hF6
  have hcon := implRun_any (some ⟨g5, 0, none⟩) ts.length us5 ea (some ⟨w5.heap.size, 0, none⟩) ms.length ms w6 V5.out.2.2 (HE.out.later hB6) (X6.out.in dNode_ok) Y6.out.in H64.out K (by rw [V5.out.2.1]; exact HKK.out) hK2
  rw [V5.out.1, V5.out.2.1, HR.out] at hcon
  clear hb6 hF6 X5 S5 C5 KS5
  try dsimp only at hcon
  go_wp2_with fail
  refine hcon.mono ?_
  rintro e w7' ⟨⟨so7, sc7, eo7, ec7, fo7, fc7, uo7, uc7, rfl, hP7⟩, hb70⟩
  obtain ⟨w7, h7⟩ : ∃ q, q = w7'.alloc (.cells #[.int .i64 s.ti, .int .i64 s.it, .bool s.cl, .slice so7 s.bx.length sc7, .slice eo7 s.em.length ec7, .slice fo7 s.fa.length fc7, .slice uo7 s.fu.length uc7] 31) := ⟨_, rfl⟩
  have hb7a : Below w7'.heap.size w7' w7 := by rw [h7]; exact below1 _ _
  have KT7 : Hid (Bx w7 w7'.heap.size [.int .i64 s.ti, .int .i64 s.it, .bool s.cl, .slice so7 s.bx.length sc7, .slice eo7 s.em.length ec7, .slice fo7 s.fa.length fc7, .slice uo7 s.fu.length uc7]) := by rw [Hid, h7]; exact Bx.new (w := w7') [.int .i64 s.ti, .int .i64 s.it, .bool s.cl, .slice so7 s.bx.length sc7, .slice eo7 s.em.length ec7, .slice fo7 s.fa.length fc7, .slice uo7 s.fu.length uc7] 31 rfl
  have hz7 : w7'.heap.size < w7.heap.size := by rw [h7]; simp
  have H7 := hid h7
  have hb7 := hb70.trans (hb7a.mono hb70.size)
  have hB7 := hB6.trans (hb7.mono hB6.size)
  have h67 := hb70.size
  have KS7 := hid (KS6.out.later hb7)
  have KR7 := hid (KS6.out.later hb70)
  have S7 := hid (S6.out.later hb7)
  have C7 := hid (C6.out.later hb7)
  have X7 := hid (X6.out.later dNode_ok hb7)
  have Y7 := hid (Y6.out.later hb7)
  have T7 := hid (hP7.later hb7a)
  have D7 : Hid (kI.Fresh w6.heap.size w7'.heap.size w7 none 0 []) := Kind.Fresh.nil _ _ _ _ _ _
  have O7 : Hid (Off uo7 s.fu.length none ([] : List Int).length) := .inr (.inl rfl)
  have N7 : Hid (w7'.heap.size ≤ w7.heap.size) := hb7a.size
  clear hb7 hb70 hb7a h7 hcon hP7 S6 C6 X6 Y6 KS6
  try dsimp only at T7
  try dsimp only
  have kz7 := KR7.out.size
  have p0 := KR7.out.c 0 rfl
  have p1 := KR7.out.c 1 rfl
  have p2 := KR7.out.c 2 rfl
  have p3 := KR7.out.c 3 rfl
  have p4 := KR7.out.c 4 rfl
  have p5 := KR7.out.c 5 rfl
  have p6 := KR7.out.c 6 rfl
  go_wp2_with fail
  rw [← H7.out]
  refine (eqPipe_same s.ti s.it s.cl so7 sc7 s.bx eo7 ec7 s.em fo7 fc7 s.fa uo7 uc7 s.fu so sc eo ec fo fc uo uc w7 HSM.out.b HSM.out.e HSM.out.f HSM.out.u T7.out.in S7.out.in).mono ?_
  rintro e w8 ⟨rfl, hb8⟩
  clear p0 p1 p2 p3 p4 p5 p6
  clear KR7
  have hB8 := hB7.trans (hb8.mono hB7.size)
  have KS8 := hid (KS7.out.later hb8)
  have KT8 := hid (KT7.out.later hb8)
  have S8 := hid (S7.out.later hb8)
  have C8 := hid (C7.out.later hb8)
  have X8 := hid (X7.out.later dNode_ok hb8)
  have Y8 := hid (Y7.out.later hb8)
  have T8 := hid (T7.out.later hb8)
  have D8 := hid (D7.out.later hb8)
  have N8 := hid (Nat.le_trans N7.out hb8.size)
  clear KS7 KT7 S7 C7 X7 Y7 T7 D7 N7
  clear hb8
  obtain ⟨w9, h9w9⟩ : ∃ q, q = w8 := ⟨_, rfl⟩
  have hb9 : Below w8.heap.size w8 w9 := by rw [h9w9]; exact Below.refl _ _
  rw [← h9w9]
  clear h9w9
  have hB9 := hB8.trans (hb9.mono hB8.size)
  have KS9 := hid (KS8.out.later hb9)
  have KT9 := hid (KT8.out.later hb9)
  have S9 := hid (S8.out.later hb9)
  have C9 := hid (C8.out.later hb9)
  have X9 := hid (X8.out.later dNode_ok hb9)
  have Y9 := hid (Y8.out.later hb9)
  have T9 := hid (T8.out.later hb9)
  have D9 := hid (D8.out.later hb9)
  have N9 := hid (Nat.le_trans N8.out hb9.size)
  clear KS8 KT8 S8 C8 X8 Y8 T8 D8 N8
  clear hb9
  go_wp2_with fail
  refine (toNodeS_ts ao cap ts w9 hl2 HTT.out (HZ.out.later dNode_ok hB9)).mono ?_
  rintro e w10 ⟨g10, us10, rfl, hn10, hv10, hD10, hC10, hb10⟩
  have hB10 := hB9.trans (hb10.mono hB9.size)
  have KS10 := hid (KS9.out.later hb10)
  have KT10 := hid (KT9.out.later hb10)
  have S10 := hid (S9.out.later hb10)
  have C10 := hid (C9.out.later hb10)
  have X10 := hid (X9.out.later dNode_ok hb10)
  have Y10 := hid (Y9.out.later hb10)
  have T10 := hid (T9.out.later hb10)
  have D10 := hid (D9.out.later hb10)
  have N10 := hid (Nat.le_trans N9.out hb10.size)
  clear KS9 KT9 S9 C9 X9 Y9 T9 D9 N9
  have Q10 := hid (hD10.in dNode_ok)
  have HV10 := hid hv10
  clear hb10 hD10 hv10 hC10 hn10
  go_wp2_with fail
  refine (eqNodeS_ts g5 g10 us5 us10 ts w10 hl2 V5.out.2.1 HV10.out V5.out.2.2 (X10.out.in dNode_ok) Q10.out).mono ?_
  rintro e w11 ⟨rfl, hb11⟩
  have hB11 := hB10.trans (hb11.mono hB10.size)
  have KS11 := hid (KS10.out.later hb11)
  have KT11 := hid (KT10.out.later hb11)
  have S11 := hid (S10.out.later hb11)
  have C11 := hid (C10.out.later hb11)
  have X11 := hid (X10.out.later dNode_ok hb11)
  have Y11 := hid (Y10.out.later hb11)
  have T11 := hid (T10.out.later hb11)
  have D11 := hid (D10.out.later hb11)
  have N11 := hid (Nat.le_trans N10.out hb11.size)
  clear KS10 KT10 S10 C10 X10 Y10 T10 D10 N10
  clear hb11 Q10 HV10
  go_wp2_with fail
  refine (toMoveS_any mo mc ms w11 hml2 (HM.out.later hB11)).mono ?_
  rintro e w12 ⟨rfl, hF12, hb12⟩
  have hB12 := hB11.trans (hb12.mono hB11.size)
  have KS12 := hid (KS11.out.later hb12)
  have KT12 := hid (KT11.out.later hb12)
  have S12 := hid (S11.out.later hb12)
  have C12 := hid (C11.out.later hb12)
  have X12 := hid (X11.out.later dNode_ok hb12)
  have Y12 := hid (Y11.out.later hb12)
  have T12 := hid (T11.out.later hb12)
  have D12 := hid (D11.out.later hb12)
  have N12 := hid (Nat.le_trans N11.out hb12.size)
  clear KS11 KT11 S11 C11 X11 Y11 T11 D11 N11
  have M12 := hid hF12.in
  clear hb12 hF12
  go_wp2_with fail
  refine (eqMoveS_same (some ⟨w5.heap.size, 0, none⟩) (some ⟨w11.heap.size, 0, none⟩) ms.length ms.length ms w12 hml2 Y12.out.in M12.out).mono ?_
  rintro e w13 ⟨rfl, hb13⟩
  have hB13 := hB12.trans (hb13.mono hB12.size)
  have KS13 := hid (KS12.out.later hb13)
  have KT13 := hid (KT12.out.later hb13)
  have S13 := hid (S12.out.later hb13)
  have C13 := hid (C12.out.later hb13)
  have X13 := hid (X12.out.later dNode_ok hb13)
  have Y13 := hid (Y12.out.later hb13)
  have T13 := hid (T12.out.later hb13)
  have D13 := hid (D12.out.later hb13)
  have N13 := hid (Nat.le_trans N12.out hb13.size)
  clear KS12 KT12 S12 C12 X12 Y12 T12 D12 N12
  clear hb13 M12
  have hmk := markNodeK_any w4.heap.size w5.heap.size g5 ts.length us5 w13 (by rw [V5.out.1]; exact hl2) (by rw [tot_valP V5.out.2.1]; exact HTT.out) X13.out
  rw [V5.out.1, tot_valP V5.out.2.1] at hmk
  go_wp2_with fail
  refine hmk.mono ?_
  rintro e w14 ⟨⟨kk, rfl, hkk, hkm⟩, hb14⟩
  have hlow : w4.heap.size ≤ w13.heap.size := by have := N13.out; omega
  have hB14 := hB13.trans ((hb14.below hlow).mono (by have := hB4.size; omega))
  have KS14 := hid (KS13.out.betw hb14 (by omega))
  have KT14 := hid (KT13.out.betw hb14 (by omega))
  have S14 := hid (S13.out.betw hb14 (by omega))
  have C14 := hid (C13.out.between' hb14 (by omega))
  have Y14 := hid (Y13.out.between' hb14 (by omega))
  have T14 := hid (T13.out.betw hb14 (by omega))
  have D14 := hid (D13.out.between' hb14 (by omega))
  have N14 := hid (Nat.le_trans N13.out hb14.size)
  have hkm2 : kk ≤ 8000000 := by have := HTT.out; omega
  clear KS13 KT13 S13 C13 X13 Y13 T13 D13 N13 hb14 hlow hmk hkm
  go_wp2_with fail
  refine (markMoveS_any w5.heap.size w6.heap.size (some ⟨w5.heap.size, 0, none⟩) ms.length ms kk w14 (by omega) hkk (by omega) Y14.out).mono ?_
  rintro e w15 ⟨rfl, _, hO15⟩
  have hb15 : Between w5.heap.size w6.heap.size w14 w15 := Y14.out.between hO15
  have hlow : w5.heap.size ≤ w14.heap.size := by have := N14.out; omega
  have hB15 := hB14.trans ((hb15.below hlow).mono (by have := hB5.size; omega))
  have KS15 := hid (KS14.out.betw hb15 (by omega))
  have KT15 := hid (KT14.out.betw hb15 (by omega))
  have S15 := hid (S14.out.betw hb15 (by omega))
  have C15 := hid (C14.out.between' hb15 (by omega))
  have T15 := hid (T14.out.betw hb15 (by omega))
  have D15 := hid (D14.out.between' hb15 (by omega))
  have N15 := hid (Nat.le_trans N14.out hb15.size)
  clear KS14 KT14 S14 C14 Y14 T14 D14 N14 hb15 hO15 hlow
  have hk0 : decide (kk + 3 * (ms.length : Int) < 0) = false := by simp; omega
  have p0 := KS15.out.c 0 rfl
  have p1 := KS15.out.c 1 rfl
  have p2 := KS15.out.c 2 rfl
  have p3 := KS15.out.c 3 rfl
  have p4 := KS15.out.c 4 rfl
  have p5 := KS15.out.c 5 rfl
  have p6 := KS15.out.c 6 rfl
  have t0 := KT15.out.c 0 rfl
  have t1 := KT15.out.c 1 rfl
  have t2 := KT15.out.c 2 rfl
  have t3 := KT15.out.c 3 rfl
  have t4 := KT15.out.c 4 rfl
  have t5 := KT15.out.c 5 rfl
  have t6 := KT15.out.c 6 rfl
  go_wp2_with fail
  refine (eqPipe_same s.ti s.it s.cl so7 sc7 s.bx eo7 ec7 s.em fo7 fc7 s.fa uo7 uc7 s.fu so sc eo ec fo fc uo uc w15 HSM.out.b HSM.out.e HSM.out.f HSM.out.u T15.out.in S15.out.in).mono ?_
  rintro e w16 ⟨rfl, hb16⟩
  clear p0 p1 p2 p3 p4 p5 p6
  clear t0 t1 t2 t3 t4 t5 t6
  have hB16 := hB15.trans (hb16.mono hB15.size)
  have KS16 := hid (KS15.out.later hb16)
  have KT16 := hid (KT15.out.later hb16)
  have S16 := hid (S15.out.later hb16)
  have C16 := hid (C15.out.later hb16)
  have T16 := hid (T15.out.later hb16)
  have D16 := hid (D15.out.later hb16)
  have N16 := hid (Nat.le_trans N15.out hb16.size)
  clear KS15 KT15 S15 C15 T15 D15 N15
  clear hb16
  obtain ⟨w17, h9w17⟩ : ∃ q, q = w16 := ⟨_, rfl⟩
  have hb17 : Below w16.heap.size w16 w17 := by rw [h9w17]; exact Below.refl _ _
  rw [← h9w17]
  clear h9w17
  have hB17 := hB16.trans (hb17.mono hB16.size)
  have KS17 := hid (KS16.out.later hb17)
  have KT17 := hid (KT16.out.later hb17)
  have S17 := hid (S16.out.later hb17)
  have C17 := hid (C16.out.later hb17)
  have T17 := hid (T16.out.later hb17)
  have D17 := hid (D16.out.later hb17)
  have N17 := hid (Nat.le_trans N16.out hb17.size)
  clear KS16 KT16 S16 C16 T16 D16 N16
  clear hb17 hk0
  have t0 := KT17.out.c 0 rfl
  have t1 := KT17.out.c 1 rfl
  have t2 := KT17.out.c 2 rfl
  have t3 := KT17.out.c 3 rfl
  have t4 := KT17.out.c 4 rfl
  have t5 := KT17.out.c 5 rfl
  have t6 := KT17.out.c 6 rfl
  go_wp2_with fail
  refine (markPipe_any w6.heap.size w7'.heap.size s.ti s.it s.cl so7 sc7 s.bx eo7 ec7 s.em fo7 fc7 s.fa uo7 uc7 s.fu none 0 [] 1 w17 HSM.out.b HSM.out.e HSM.out.f HSM.out.u (by omega) (by omega) N17.out T17.out D17.out O7.out).mono ?_
  rintro e w18 ⟨rfl, hT18, hD18, wx, hbx, hby⟩
  clear t0 t1 t2 t3 t4 t5 t6
  have hlow : w6.heap.size ≤ wx.heap.size := by have := N17.out; have := hbx.size; omega
  have hB18 := hB17.trans ((hbx.mono hB17.size).trans ((hby.below hlow).mono (by have := hB6.size; omega)))
  have KS18 := hid ((KS17.out.later hbx).betw hby (by omega))
  have KT18 := hid ((KT17.out.later hbx).betw hby (by omega))
  have S18 := hid ((S17.out.later hbx).betw hby (by omega))
  have C18 := hid ((C17.out.later hbx).between' hby (by omega))
  have T18 := hid hT18
  have D18 := hid hD18
  have N18 := hid (Nat.le_trans N17.out (Nat.le_trans hbx.size hby.size))
  clear KS17 KT17 S17 C17 T17 D17 N17 hT18 hD18 hbx hby hlow
  have hme := mkEnd_le (fu := s.fu) HSM.out.b.2 HSM.out.e HSM.out.f HSM.out.u
  obtain ⟨mm, hmm⟩ : ∃ mm, mm = mkEnd 1 s.bx s.em s.fa s.fu := ⟨_, rfl⟩
  have HMM := hid hmm
  rw [← hmm] at hme ⊢
  clear hmm
  obtain ⟨w19, h19⟩ : ∃ q, q = w18 := ⟨_, rfl⟩
  have hb19 : Below w18.heap.size w18 w19 := by rw [h19]; exact Below.refl _ _
  rw [← h19]
  clear h19
  have hB19 := hB18.trans (hb19.mono hB18.size)
  have KS19 := hid (KS18.out.later hb19)
  have KT19 := hid (KT18.out.later hb19)
  have S19 := hid (S18.out.later hb19)
  have C19 := hid (C18.out.later hb19)
  have T19 := hid (T18.out.later hb19)
  have D19 := hid (D18.out.later hb19)
  have N19 := hid (Nat.le_trans N18.out hb19.size)
  clear KS18 KT18 S18 C18 T18 D18 N18
  clear hb19
  have hmq : (mm != mm) = false := by simp
  have t0 := KT19.out.c 0 rfl
  have t1 := KT19.out.c 1 rfl
  have t2 := KT19.out.c 2 rfl
  have t3 := KT19.out.c 3 rfl
  have t4 := KT19.out.c 4 rfl
  have t5 := KT19.out.c 5 rfl
  have t6 := KT19.out.c 6 rfl
  go_wp2_with fail
  refine (heldPipe_any s.ti s.it s.cl so7 sc7 s.bx eo7 ec7 s.em fo7 fc7 s.fa uo7 uc7 s.fu 1 w19 HSM.out.b HSM.out.e HSM.out.f HSM.out.u (by omega) (by omega) T19.out.in).mono ?_
  rintro e w20 ⟨rfl, hb20⟩
  clear t0 t1 t2 t3 t4 t5 t6
  rw [← HMM.out]
  have hB20 := hB19.trans (hb20.mono hB19.size)
  have KS20 := hid (KS19.out.later hb20)
  have KT20 := hid (KT19.out.later hb20)
  have S20 := hid (S19.out.later hb20)
  have C20 := hid (C19.out.later hb20)
  have T20 := hid (T19.out.later hb20)
  have D20 := hid (D19.out.later hb20)
  have N20 := hid (Nat.le_trans N19.out hb20.size)
  clear KS19 KT19 S19 C19 T19 D19 N19
  clear hb20
  have hm0 : decide (mm < 0) = false := by simp; omega
  go_wp2_with fail
  refine (toNodeS_ts ao cap ts w20 hl2 HTT.out (HZ.out.later dNode_ok hB20)).mono ?_
  rintro e w22 ⟨g22, us22, rfl, hn22, hv22, hD22, hC22, hb22⟩
  have hB22 := hB20.trans (hb22.mono hB20.size)
  have KS22 := hid (KS20.out.later hb22)
  have KT22 := hid (KT20.out.later hb22)
  have S22 := hid (S20.out.later hb22)
  have C22 := hid (C20.out.later hb22)
  have T22 := hid (T20.out.later hb22)
  have D22 := hid (D20.out.later hb22)
  have N22 := hid (Nat.le_trans N20.out hb22.size)
  clear KS20 KT20 S20 C20 T20 D20 N20
  have Q22 := hid (hD22.in dNode_ok)
  have V22 := hid (And.intro hn22 (And.intro hv22 hC22))
  clear hb22 hD22 hv22 hC22 hn22
  go_wp2_with fail
  refine (toMoveS_any mo mc ms w22 hml2 (HM.out.later hB22)).mono ?_
  rintro e w23 ⟨rfl, hF23, hb23⟩
  have hB23 := hB22.trans (hb23.mono hB22.size)
  have KS23 := hid (KS22.out.later hb23)
  have KT23 := hid (KT22.out.later hb23)
  have S23 := hid (S22.out.later hb23)
  have C23 := hid (C22.out.later hb23)
  have T23 := hid (T22.out.later hb23)
  have D23 := hid (D22.out.later hb23)
  have N23 := hid (Nat.le_trans N22.out hb23.size)
  clear KS22 KT22 S22 C22 T22 D22 N22
  have Q23 := hid (Q22.out.later dNode_ok hb23)
  have M23 := hid hF23.in
  have hcon := implRun_any (some ⟨g22, 0, none⟩) ts.length us22 ea (some ⟨w22.heap.size, 0, none⟩) ms.length ms w23 V22.out.2.2 (HE.out.later hB23) Q23.out M23.out H64.out K (by rw [V22.out.2.1]; exact HKK.out) hK2
  rw [V22.out.1, V22.out.2.1, HR.out] at hcon
  clear hb23 hF23 Q22
  try dsimp only at hcon
  go_wp2_with fail
  refine hcon.mono ?_
  rintro e w24' ⟨⟨so9, sc9, eo9, ec9, fo9, fc9, uo9, uc9, rfl, hP9⟩, hb240⟩
  obtain ⟨w24, h24⟩ : ∃ q, q = w24'.alloc (.cells #[.int .i64 s.ti, .int .i64 s.it, .bool s.cl, .slice so9 s.bx.length sc9, .slice eo9 s.em.length ec9, .slice fo9 s.fa.length fc9, .slice uo9 s.fu.length uc9] 31) := ⟨_, rfl⟩
  have hb24a : Below w24'.heap.size w24' w24 := by rw [h24]; exact below1 _ _
  have KU24 : Hid (Bx w24 w24'.heap.size [.int .i64 s.ti, .int .i64 s.it, .bool s.cl, .slice so9 s.bx.length sc9, .slice eo9 s.em.length ec9, .slice fo9 s.fa.length fc9, .slice uo9 s.fu.length uc9]) := by rw [Hid, h24]; exact Bx.new (w := w24') [.int .i64 s.ti, .int .i64 s.it, .bool s.cl, .slice so9 s.bx.length sc9, .slice eo9 s.em.length ec9, .slice fo9 s.fa.length fc9, .slice uo9 s.fu.length uc9] 31 rfl
  have hz24 : w24'.heap.size < w24.heap.size := by rw [h24]; simp
  have H24 := hid h24
  have hb24 := hb240.trans (hb24a.mono hb240.size)
  have KR24 := hid (KS23.out.later hb240)
  have hB24 := hB23.trans (hb24.mono hB23.size)
  have KS24 := hid (KS23.out.later hb24)
  have KT24 := hid (KT23.out.later hb24)
  have S24 := hid (S23.out.later hb24)
  have C24 := hid (C23.out.later hb24)
  have T24 := hid (T23.out.later hb24)
  have D24 := hid (D23.out.later hb24)
  have N24 := hid (Nat.le_trans N23.out hb24.size)
  clear KS23 KT23 S23 C23 T23 D23 N23
  have U24 := hid (hP9.later hb24a)
  clear hb24 hb240 hb24a h24 hcon hP9 Q23 M23
  try dsimp only at U24 Z24
  try dsimp only
  have kz24 := KR24.out.size
  have p0 := KR24.out.c 0 rfl
  have p1 := KR24.out.c 1 rfl
  have p2 := KR24.out.c 2 rfl
  have p3 := KR24.out.c 3 rfl
  have p4 := KR24.out.c 4 rfl
  have p5 := KR24.out.c 5 rfl
  have p6 := KR24.out.c 6 rfl
  go_wp2_with fail
  rw [← H24.out]
  refine (eqPipe_same s.ti s.it s.cl so9 sc9 s.bx eo9 ec9 s.em fo9 fc9 s.fa uo9 uc9 s.fu so sc eo ec fo fc uo uc w24 HSM.out.b HSM.out.e HSM.out.f HSM.out.u U24.out.in S24.out.in).mono ?_
  rintro e w25 ⟨rfl, hb25⟩
  clear p0 p1 p2 p3 p4 p5 p6
  clear KR24
  have hB25 := hB24.trans (hb25.mono hB24.size)
  have KT25 := hid (KT24.out.later hb25)
  have C25 := hid (C24.out.later hb25)
  have T25 := hid (T24.out.later hb25)
  have D25 := hid (D24.out.later hb25)
  have N25 := hid (Nat.le_trans N24.out hb25.size)
  clear KT24 C24 T24 D24 N24
  clear hb25 S24 U24 KS24 KU24
  obtain ⟨w26, h9w26⟩ : ∃ q, q = w25 := ⟨_, rfl⟩
  have hb26 : Below w25.heap.size w25 w26 := by rw [h9w26]; exact Below.refl _ _
  rw [← h9w26]
  clear h9w26
  have hB26 := hB25.trans (hb26.mono hB25.size)
  have KT26 := hid (KT25.out.later hb26)
  have T26 := hid (T25.out.later hb26)
  have D26 := hid (D25.out.later hb26)
  have N26 := hid (Nat.le_trans N25.out hb26.size)
  clear KT25 T25 D25 N25
  clear hb26 C25
  have t0 := KT26.out.c 0 rfl
  have t1 := KT26.out.c 1 rfl
  have t2 := KT26.out.c 2 rfl
  have t3 := KT26.out.c 3 rfl
  have t4 := KT26.out.c 4 rfl
  have t5 := KT26.out.c 5 rfl
  have t6 := KT26.out.c 6 rfl
  go_wp2_with fail
  refine (heldPipe_any s.ti s.it s.cl so7 sc7 s.bx eo7 ec7 s.em fo7 fc7 s.fa uo7 uc7 s.fu 1 w26 HSM.out.b HSM.out.e HSM.out.f HSM.out.u (by omega) (by omega) T26.out.in).mono ?_
  rintro e w27 ⟨rfl, hb27⟩
  clear t0 t1 t2 t3 t4 t5 t6
  rw [← HMM.out]
  have hB27 := hB26.trans (hb27.mono hB26.size)
  have D27 := hid (D26.out.later hb27)
  have N27 := hid (Nat.le_trans N26.out hb27.size)
  clear D26 N26
  clear hb27
  go_wp2
  go_ret
  exact ⟨rfl, hB27⟩
end Go.Proofs.YtoeonbdoopboiaaGreatDoor
