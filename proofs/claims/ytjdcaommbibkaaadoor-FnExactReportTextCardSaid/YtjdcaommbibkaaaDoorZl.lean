
/- The walk of the law of ReportText: it returns true. No conditions but those written. -/
import Derived.Test.YtjdcaommbibkaaaDoorZo
namespace Go.Proofs.YtjdcaommbibkaaaDoor
open Go.RowKit

set_option maxRecDepth 100000 in
set_option maxHeartbeats 4000000 in
theorem lawReport_any (ti it : Int) (cl : Bool) (bxo : Option Addr) (bxc : Nat) (bx : List (List (Int × Int × Int))) (emo : Option Addr) (emc : Nat) (em : List (Int × Int × Int)) (fao : Option Addr) (fac : Nat) (fa : List (Int × Int × Int × Int)) (fuo : Option Addr) (fuc : Nat) (fu : List Int) (w : World)
    (hi : -9223372036854775808 ≤ it ∧ it ≤ 9223372036854775807) (hlb : bx.length ≤ 9223372036854775807) (hle : ∀ l ∈ bx, l.length ≤ 9223372036854775807) (hlm : em.length ≤ 9223372036854775807) (hlf : fa.length ≤ 9223372036854775807) (hlu : fu.length ≤ 9223372036854775807) (hz : InPipe w.heap.size w bxo bx emo em fao fa fuo fu) (hT : PowTab w) :
    Calls Tryd.prog 3 #[.agg #[.int .i64 ti, .int .i64 it, .bool cl, .slice bxo bx.length bxc, .slice emo em.length emc, .slice fao fa.length fac, .slice fuo fu.length fuc]] w fun e w' => e = .returned (.bool true) ∧ Below w.heap.size w w' := by
  have HZ := hid hz
  have HT := hid hT
  have HLE := hid hle
  have HI := hid hi
  have hB0 := below1 w (.cells #[.int .i64 ti, .int .i64 it, .bool cl, .slice bxo bx.length bxc, .slice emo em.length emc, .slice fao fa.length fac, .slice fuo fu.length fuc] 27)
  have X0 := hid (Bx.new (w := w) [.int .i64 ti, .int .i64 it, .bool cl, .slice bxo bx.length bxc, .slice emo em.length emc, .slice fao fa.length fac, .slice fuo fu.length fuc] 27 rfl)
  clear hz hT hle hi
  go_enter Tryd.func3, Tryd.ntmps3
  go_wp2_with fail
  refine (szPipe_any ti it cl bxo bxc bx emo em.length emc fao fa.length fac fuo fu.length fuc _ hlb HLE.out hlm hlf hlu (HZ.out.1.later hB0)).mono ?_
  rintro e w1 ⟨⟨z, rfl, hr⟩, hb1⟩
  have hB1 := hB0.trans (hb1.mono hB0.size)
  have X1 := hid (X0.out.later hb1)
  clear hb1 hB0 X0
  rcases hr with hr | ⟨hr0, h1, h2, h3, h4⟩
  · go_wp2
    go_ret
    exact ⟨rfl, hB1⟩
  have hr' : decide (z < 0) = false := by simpa using hr0
  have HL := hid h1
  clear hr0 h1
  have x0 := X1.out.c 0 rfl
  have x1 := X1.out.c 1 rfl
  have x2 := X1.out.c 2 rfl
  have x3 := X1.out.c 3 rfl
  have x4 := X1.out.c 4 rfl
  have x5 := X1.out.c 5 rfl
  have x6 := X1.out.c 6 rfl
  go_wp2_with fail
  refine (toPipe_any ti it cl bxo bxc bx emo emc em fao fac fa fuo fuc fu w1 HL.out h2 h3 h4 (HZ.out.later hB1)).mono ?_
  rintro e w2 ⟨gbx2, gem2, gfa2, gfu2, rfl, hF2, hb2⟩
  have hB2 := hB1.trans (hb2.mono hB1.size)
  have X2 := hid (X1.out.later hb2)
  have I2 := hid hF2.in
  clear hb2 hF2 hB1 X1 x0 x1 x2 x3 x4 x5 x6
  go_wp2_with fail
  refine (specReport_is ti it cl _ _ bx _ _ _ _ _ _ _ _ _ w2 HI.out.1 HI.out.2 h2 h3 HL.out I2.out.1).mono ?_
  rintro e w3 ⟨rfl, hb3⟩
  have hB3 := hB2.trans (hb3.mono hB2.size)
  have X3 := hid (X2.out.later hb3)
  clear hb3 I2 hB2 X2
  have x0 := X3.out.c 0 rfl
  have x1 := X3.out.c 1 rfl
  have x2 := X3.out.c 2 rfl
  have x3 := X3.out.c 3 rfl
  have x4 := X3.out.c 4 rfl
  have x5 := X3.out.c 5 rfl
  have x6 := X3.out.c 6 rfl
  go_wp2_with fail
  refine (toPipe_any ti it cl bxo bxc bx emo emc em fao fac fa fuo fuc fu w3 HL.out h2 h3 h4 (HZ.out.later hB3)).mono ?_
  rintro e w4 ⟨gbx4, gem4, gfa4, gfu4, rfl, hF4, hb4⟩
  have hB4 := hB3.trans (hb4.mono hB3.size)
  have X4 := hid (X3.out.later hb4)
  have I4 := hid hF4.in
  clear hb4 hF4 hB3 X3 x0 x1 x2 x3 x4 x5 x6
  obtain ⟨T, hT⟩ : ∃ T, T = repP it em.length fa.length (totT bx) cl := ⟨_, rfl⟩
  rw [← hT]
  have HTT := hid hT
  clear hT
  have hTT : (T.toList != T.toList) = false := by simp
  obtain ⟨V, hV⟩ : ∃ V, V = w4.alloc (.cells #[.int .i64 ti, .int .i64 it, .bool cl, .slice (some ⟨gbx4, 0, none⟩) bx.length bx.length, .slice (some ⟨gem4, 0, none⟩) em.length em.length, .slice (some ⟨gfa4, 0, none⟩) fa.length fa.length, .slice (some ⟨gfu4, 0, none⟩) fu.length fu.length] 34) := ⟨_, rfl⟩
  have hbV : Below w4.heap.size w4 V := by rw [hV]; exact below1 _ _
  have XV := hid (X4.out.later hbV)
  have YV : Hid (Bx V w4.heap.size [.int .i64 ti, .int .i64 it, .bool cl, .slice (some ⟨gbx4, 0, none⟩) bx.length bx.length, .slice (some ⟨gem4, 0, none⟩) em.length em.length, .slice (some ⟨gfa4, 0, none⟩) fa.length fa.length, .slice (some ⟨gfu4, 0, none⟩) fu.length fu.length]) := by rw [Hid, hV]; exact Bx.new [.int .i64 ti, .int .i64 it, .bool cl, .slice (some ⟨gbx4, 0, none⟩) bx.length bx.length, .slice (some ⟨gem4, 0, none⟩) em.length em.length, .slice (some ⟨gfa4, 0, none⟩) fa.length fa.length, .slice (some ⟨gfu4, 0, none⟩) fu.length fu.length] _ rfl
  have IV := hid (I4.out.later hbV)
  have hBV := hB4.trans (hbV.mono hB4.size)
  have HV := hid hV
  clear hV hbV X4 I4 hB4
  go_wp2_with fail
  rw [← HV.out]
  have hc := implReport_is ti it cl (some ⟨gbx4, 0, none⟩) bx.length bx (some ⟨gem4, 0, none⟩) em.length em.length (some ⟨gfa4, 0, none⟩) fa.length fa.length (some ⟨gfu4, 0, none⟩) fu.length fu.length V HI.out.1 HI.out.2 h2 h3 HL.out IV.out.1 (HT.out.later hBV)
  rw [← HTT.out] at hc
  refine hc.mono ?_
  rintro e w5 ⟨rfl, hb5⟩
  have hB5 := hBV.trans (hb5.mono hBV.size)
  have X5 := hid (XV.out.later hb5)
  have Y5 := hid (YV.out.later hb5)
  have I5 := hid (IV.out.later hb5)
  clear hb5 hc XV YV IV hBV
  have x0 := X5.out.c 0 rfl
  have y0 := Y5.out.c 0 rfl
  have x1 := X5.out.c 1 rfl
  have y1 := Y5.out.c 1 rfl
  have x2 := X5.out.c 2 rfl
  have y2 := Y5.out.c 2 rfl
  have x3 := X5.out.c 3 rfl
  have y3 := Y5.out.c 3 rfl
  have x4 := X5.out.c 4 rfl
  have y4 := Y5.out.c 4 rfl
  have x5 := X5.out.c 5 rfl
  have y5 := Y5.out.c 5 rfl
  have x6 := X5.out.c 6 rfl
  have y6 := Y5.out.c 6 rfl
  go_wp2
  go_region_with (first
    | (go_at_call 6; refine (toPipe_any ti it cl bxo bxc bx emo emc em fao fac fa fuo fuc fu _ HL.out h2 h3 h4 (by exact HZ.out.later hB5.drew)).mono ?_; rintro e w7 ⟨gbx7, gem7, gfa7, gfu7, rfl, hF7, hb7⟩; have hb67 : Below w5.heap.size w5 w7 := (Below.refl w5.heap.size w5).drew.trans hb7; have B7 := Y5.out.later hb67; have q0 := B7.c 0 rfl; have q1 := B7.c 1 rfl; have q2 := B7.c 2 rfl; have q3 := B7.c 3 rfl; have q4 := B7.c 4 rfl; have q5 := B7.c 5 rfl; have q6 := B7.c 6 rfl; have F7 := hid (And.intro (I5.out.later hb67) hF7.in); clear hb7 hF7)
    | (go_at_call 8; refine (eqPipe_same ti it cl (some ⟨gbx4, 0, none⟩) bx.length bx (some ⟨gem4, 0, none⟩) em.length em (some ⟨gfa4, 0, none⟩) fa.length fa (some ⟨gfu4, 0, none⟩) fu.length fu (some ⟨gbx7, 0, none⟩) bx.length (some ⟨gem7, 0, none⟩) em.length (some ⟨gfa7, 0, none⟩) fa.length (some ⟨gfu7, 0, none⟩) fu.length _ HL.out h2 h3 h4 (by exact F7.out.1) (by exact F7.out.2)).mono ?_; rintro e w8 ⟨rfl, hb8⟩; have hB8 : Below w.heap.size w w8 := hB5.trans ((hb67.trans (hb8.mono hb67.size)).mono hB5.size); clear hb8))
  all_goals go_wp2
  all_goals go_ret
  all_goals exact ⟨rfl, hB8⟩
end Go.Proofs.YtjdcaommbibkaaaDoor
