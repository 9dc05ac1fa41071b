
/- The walk of the law of OrderOf: it returns true. No conditions but those written. -/
import Derived.Test.YtmdgnlhnmnajkaaDoorLro
import Derived.Test.YtmdgnlhnmnajkaaDoorOd
import Derived.Test.YtmdgnlhnmnajkaaDoorMn
namespace Go.Proofs.YtmdgnlhnmnajkaaDoor
open Go.RowKit

theorem tot_val {us ts : List LNode} (hv : us.map valNode = ts.map valNode) : totNode us = totNode ts := by
  have h : ∀ l : List LNode, totNode l = ((l.map valNode).map fun p : PNode => p.1.size + p.2.2.2.2.2.length).sum := fun l => by rw [totNode, List.map_map]; rfl
  rw [h, h, hv]
set_option maxRecDepth 100000 in
set_option maxHeartbeats 16000000 in
theorem lawOrder_any (ao : Option Addr) (cap : Nat) (ts : List LNode) (ea : Nat → Addr) (w : World) (hl : ts.length ≤ 9223372036854775807) (hle : ∀ a ∈ ts, a.1.size ≤ 9223372036854775807 ∧ (a.2.2.2.2.2).2.2.length ≤ 9223372036854775807) (hz : DIn dNode w.heap.size w ao ts) (hE : Errs w ea) :
    Calls Tryd.prog 4 #[.slice ao ts.length cap] w fun e w' => e = .returned (.bool true) ∧ Below w.heap.size w w' := by
  have HZ := hid hz
  have HLE := hid hle
  have HE := hid hE
  clear hz hle hE
  have hq0 := orderR_len (ts.map valNode)
  obtain ⟨⟨Rl, y⟩, hR⟩ : ∃ R, orderR (ts.map valNode) = R := ⟨_, rfl⟩
  rw [hR] at hq0
  have hq : Rl.length ≤ 1048576 := by dsimp only at hq0; omega
  have HR := hid hR
  have hn2 : (y != y) = false := by simp
  clear hR hq0
  go_enter Tryd.func4, Tryd.ntmps4
  go_wp2_with fail
  refine (szNodeS_any ao cap ts 1048576 w (by omega) (by omega) hl HLE.out HZ.out.1).mono ?_
  rintro e w1 ⟨⟨r, rfl, hr1, hr⟩, hB1⟩
  rcases hr with hr | ⟨hr2, hr0⟩
  · go_wp2
    go_ret
    exact ⟨rfl, hB1⟩
  have hl2 : ts.length ≤ 1048576 := by omega
  have htt : totNode ts ≤ 1048576 := by omega
  have HTT := hid htt
  have hr' : decide (r < 0) = false := by simpa using hr0
  clear hr2 hr0 hr1 htt
  go_wp2_with fail
  refine (toNodeS_ts ao cap ts w1 hl2 HTT.out (HZ.out.later dNode_ok hB1)).mono ?_
  rintro e w2 ⟨g2, us2, rfl, hn2', hv2, hD2, hC2, hb2⟩
  have hB2 := hB1.trans (hb2.mono hB1.size)
  have D2 := hid (hD2.in dNode_ok)
  have hcon := specOrder_is (some ⟨g2, 0, none⟩) ts.length us2 w2 hC2 D2.out
  rw [hn2', hv2, HR.out] at hcon
  clear hb2 hD2 D2 hv2 hC2 hn2'
  dsimp only at hcon
  go_wp2_with fail
  refine hcon.mono ?_
  rintro e w3 ⟨⟨o3, c3, rfl, hF3⟩, hb3⟩
  have hB3 := hB2.trans (hb3.mono hB2.size)
  have S3 := hid hF3
  have hs3 := hB3.size
  clear hb3 hcon hF3
  go_wp2_with fail
  refine (toNodeS_ts ao cap ts w3 hl2 HTT.out (HZ.out.later dNode_ok hB3)).mono ?_
  rintro e w4 ⟨g4, us4, rfl, hn4, hv4, hD4, hC4, hb4⟩
  have hB4 := hB3.trans (hb4.mono hB3.size)
  have S4 := hid (S3.out.later hb4)
  have hs4 := hb4.size
  have X4 := hid hD4
  have HV4 := hid (And.intro hv4 (And.intro hC4 hn4))
  have hcon := implOrder_is (some ⟨g4, 0, none⟩) ts.length us4 ea w4 hC4 (HE.out.later hB4) (hD4.in dNode_ok)
  rw [hn4, hv4, HR.out] at hcon
  clear hb4 hD4 hv4 hC4 hn4 S3
  dsimp only at hcon
  go_wp2_with fail
  refine hcon.mono ?_
  rintro e w5 ⟨⟨o5, c5, rfl, hF5⟩, hb5⟩
  have hs5 := hb5.size
  have hB5 := hB4.trans (hb5.mono hB4.size)
  have S5 := hid (S4.out.later hb5)
  have X5 := hid (X4.out.later dNode_ok hb5)
  have T5 := hid hF5
  have N5 : Hid (w5.heap.size ≤ w5.heap.size) := Nat.le_refl _
  clear hb5 hcon hF5 S4 X4
  go_wp2_with fail
  refine (eqIntS_same o5 o3 c5 c3 Rl _ hq T5.out.in S5.out.in).mono ?_
  rintro e w6 ⟨rfl, hb6⟩
  have hB6 := hB5.trans (hb6.mono hB5.size)
  have S6 := hid (S5.out.later hb6)
  have X6 := hid (X5.out.later dNode_ok hb6)
  have T6 := hid (T5.out.later hb6)
  have N6 := hid (Nat.le_trans N5.out hb6.size)
  clear S5 X5 T5 N5
  clear hb6
  go_wp2_with fail
  refine (toNodeS_ts ao cap ts w6 hl2 HTT.out (HZ.out.later dNode_ok hB6)).mono ?_
  rintro e w7 ⟨g7, us7, rfl, hn7, hv7, hD7, hC7, hb7⟩
  have hB7 := hB6.trans (hb7.mono hB6.size)
  have S7 := hid (S6.out.later hb7)
  have X7 := hid (X6.out.later dNode_ok hb7)
  have T7 := hid (T6.out.later hb7)
  have N7 := hid (Nat.le_trans N6.out hb7.size)
  clear S6 X6 T6 N6
  have D7 := hid (hD7.in dNode_ok)
  have HV7 := hid hv7
  clear hb7 hD7 hv7 hC7 hn7
  go_wp2_with fail
  refine (eqNodeS_ts g4 g7 us4 us7 ts w7 hl2 HV4.out.1 HV7.out HV4.out.2.1 (X7.out.in dNode_ok) D7.out).mono ?_
  rintro e w8 ⟨rfl, hb8⟩
  have hB8 := hB7.trans (hb8.mono hB7.size)
  have S8 := hid (S7.out.later hb8)
  have X8 := hid (X7.out.later dNode_ok hb8)
  have T8 := hid (T7.out.later hb8)
  have N8 := hid (Nat.le_trans N7.out hb8.size)
  clear S7 X7 T7 N7
  clear hb8 D7 HV7
  have hmk := markNodeS_any w3.heap.size w4.heap.size g4 ts.length us4 w8 (by rw [HV4.out.2.2]; exact hl2) (by rw [tot_val HV4.out.1]; exact HTT.out) X8.out
  rw [HV4.out.2.2] at hmk
  go_wp2_with fail
  refine hmk.mono ?_
  rintro e w9 ⟨⟨kk, rfl, hkk⟩, hb9⟩
  have hlow : w3.heap.size ≤ w8.heap.size := by have := N8.out; omega
  have hB9 := hB8.trans ((hb9.below hlow).mono (by omega))
  have S9 := hid (S8.out.between' hb9 (by omega))
  have T9 := hid (T8.out.between' hb9 (by omega))
  have N9 := hid (Nat.le_trans N8.out hb9.size)
  clear S8 X8 T8 N8 hb9 hlow hmk HV4
  have hk0 : decide (kk < 0) = false := by simpa using hkk
  go_wp2_with fail
  refine (eqIntS_same o5 o3 c5 c3 Rl _ hq T9.out.in S9.out.in).mono ?_
  rintro e w10 ⟨rfl, hb10⟩
  have hB10 := hB9.trans (hb10.mono hB9.size)
  have S10 := hid (S9.out.later hb10)
  have T10 := hid (T9.out.later hb10)
  have N10 := hid (Nat.le_trans N9.out hb10.size)
  clear S9 T9 N9
  clear hb10 hk0 hkk
  go_wp2_with fail
  refine (markIntS_any w4.heap.size w5.heap.size o5 c5 Rl 1 _ (by omega) (by omega) (by omega) T10.out).mono ?_
  rintro e w11 ⟨rfl, hT11, hOz⟩
  have hb11 : Between w4.heap.size w5.heap.size w10 w11 := T10.out.between hOz
  have hlow : w4.heap.size ≤ w10.heap.size := by have := N10.out; omega
  have hB11 := hB10.trans ((hb11.below hlow).mono (by omega))
  have S11 := hid (S10.out.between' hb11 (by omega))
  have N11 := hid (Nat.le_trans N10.out hb11.size)
  have T11 := hid hT11
  clear S10 T10 N10 hT11 hb11 hOz hlow
  have hmq : ((1 : Int) + (Rl.length : Int) != 1 + (Rl.length : Int)) = false := by simp
  go_wp2_with fail
  refine (heldIntS_any o5 c5 Rl.length 1 _ (by omega) (by omega) (by omega) T11.out.in).mono ?_
  rintro e w12 ⟨rfl, hw12⟩
  rw [hw12]
  clear hw12 w12
  have hm0 : decide ((1 : Int) + (Rl.length : Int) < 0) = false := by simp; omega
  go_wp2_with fail
  refine (toNodeS_ts ao cap ts w11 hl2 HTT.out (HZ.out.later dNode_ok hB11)).mono ?_
  rintro e w13 ⟨g13, us13, rfl, hn13, hv13, hD13, hC13, hb13⟩
  have hB13 := hB11.trans (hb13.mono hB11.size)
  have S13 := hid (S11.out.later hb13)
  have T13 := hid (T11.out.later hb13)
  have N13 := hid (Nat.le_trans N11.out hb13.size)
  clear S11 T11 N11
  have hcon := implOrder_is (some ⟨g13, 0, none⟩) ts.length us13 ea w13 hC13 (HE.out.later hB13) (hD13.in dNode_ok)
  rw [hn13, hv13, HR.out] at hcon
  clear hb13 hD13 hv13 hC13 hn13
  dsimp only at hcon
  go_wp2_with fail
  refine hcon.mono ?_
  rintro e w14 ⟨⟨o14, c14, rfl, hF14⟩, hb14⟩
  have hB14 := hB13.trans (hb14.mono hB13.size)
  have S14 := hid (S13.out.later hb14)
  have T14 := hid (T13.out.later hb14)
  have N14 := hid (Nat.le_trans N13.out hb14.size)
  clear S13 T13 N13
  have U14 := hid hF14
  clear hb14 hcon hF14
  go_wp2_with fail
  refine (eqIntS_same o14 o3 c14 c3 Rl _ hq U14.out.in S14.out.in).mono ?_
  rintro e w15 ⟨rfl, hb15⟩
  have hB15 := hB14.trans (hb15.mono hB14.size)
  have T15 := hid (T14.out.later hb15)
  clear hb15 S14 U14 T14 N14
  go_wp2_with fail
  refine (heldIntS_any o5 c5 Rl.length 1 _ (by omega) (by omega) (by omega) T15.out.in).mono ?_
  rintro e w16 ⟨rfl, hw16⟩
  rw [hw16]
  clear hw16 w16
  go_wp2
  go_ret
  exact ⟨rfl, hB15⟩
end Go.Proofs.YtmdgnlhnmnajkaaDoor
