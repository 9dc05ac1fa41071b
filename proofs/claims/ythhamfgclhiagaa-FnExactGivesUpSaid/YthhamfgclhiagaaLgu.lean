
/- The walk of the law of GivesUp. No conditions but those written. -/
import Derived.Test.YthhamfgclhiagaaTm
namespace Go.Proofs.Ythhamfgclhiagaa
open Go.RowKit

theorem toI_ex (ao : Option Addr) (cap : Nat) (zs : List Int) (w : World) (hl : zs.length ≤ 1048576) (hz : kI.In w.heap.size w ao zs) :
    Calls Try.prog 27 #[.slice ao zs.length cap] w fun e w' => (∃ o c, e = .returned (.slice o zs.length c) ∧ kI.Fresh w.heap.size w'.heap.size w' o c zs) ∧ Below w.heap.size w w' :=
  (toIntS_any ao cap zs w hl hz).mono fun _ _ ⟨h1, h2, h3⟩ => ⟨⟨_, _, h1, h2⟩, h3⟩
set_option maxRecDepth 100000 in
set_option maxHeartbeats 4000000 in
theorem lawGives_any (ao : Option Addr) (cap : Nat) (ts : List Int) (m wi : Int) (w : World) (hl : ts.length ≤ 9223372036854775807) (hz : kI.In w.heap.size w ao ts) :
    Calls Try.prog 7 #[.slice ao ts.length cap, .int .i64 m, .int .i64 wi] w fun e w' => e = .returned (.bool true) ∧ Below w.heap.size w w' := by
  obtain ⟨⟨r1, r2⟩, hr⟩ : ∃ r, givesR ts m wi = r := ⟨_, rfl⟩
  have HR := hid hr
  clear hr
  by_cases hbig : ts.length > 1048576
  · go_enter Try.func7, Try.ntmps7
    go_wp2
    go_ret
    exact ⟨rfl, Below.refl _ _⟩
  have k1 : ts.length ≤ 1048576 := by omega
  have hc1 : (r1 != r1) = false := by simp
  have hc2 : (r2 != r2) = false := by simp
  go_enter Try.func7, Try.ntmps7
  go_wp2_with fail
  refine (toI_ex ao cap ts _ k1 hz).mono ?_
  rintro e w1 ⟨⟨o1, c1, rfl, hF1⟩, hb1⟩
  have F1 := hid hF1.in
  have hcap1 := hid hF1.cap
  have hB1 := hid hb1
  clear hF1 hb1
  go_wp2_with fail
  refine (specGives_any o1 c1 ts m wi _ k1 hcap1.out F1.out).mono ?_
  rw [HR.out]
  rintro e w2 ⟨rfl, hb2⟩
  have hB2 := hid (hB1.out.trans (hb2.mono hB1.out.size))
  clear hb2 F1 hB1 hcap1
  go_wp2_with fail
  refine (toI_ex ao cap ts _ k1 (hz.later hB2.out)).mono ?_
  rintro e w3 ⟨⟨o3, c3, rfl, hF3⟩, hb3⟩
  have F3 := hid hF3.in
  have hcap3 := hid hF3.cap
  have hB3 := hid (hB2.out.trans (hb3.mono hB2.out.size))
  clear hF3 hb3 hB2
  go_wp2_with fail
  refine (implGives_any o3 c3 ts m wi _ k1 hcap3.out F3.out).mono ?_
  rw [HR.out]
  rintro e w4 ⟨rfl, hb4⟩
  have F4 := hid (F3.out.later hb4)
  have hB4 := hid (hB3.out.trans (hb4.mono hB3.out.size))
  clear hb4 F3 hB3 hcap3
  go_wp2_with fail
  refine (toI_ex ao cap ts _ k1 (hz.later hB4.out)).mono ?_
  rintro e w5 ⟨⟨o5, c5, rfl, hF5⟩, hb5⟩
  have F5 := hid hF5.in
  have F6 := hid (F4.out.later hb5)
  have hB5 := hid (hB4.out.trans (hb5.mono hB4.out.size))
  clear hF5 hb5 hB4 F4
  go_wp2_with fail
  refine (eqIntS_same o3 o5 c3 c5 ts _ k1 F6.out F5.out).mono ?_
  rintro e w6 ⟨rfl, hb6⟩
  go_wp2
  go_ret
  exact ⟨rfl, hB5.out.trans (by first | exact hb6.mono hB5.out.size | (rw [hb6]; exact Below.refl _ _))⟩
end Go.Proofs.Ythhamfgclhiagaa
