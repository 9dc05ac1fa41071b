/- The walk of the law: it returns true. No conditions but those written. -/
import Derived.Test.YtcdkdigafcfgmaaSd
namespace Go.Proofs.Ytcdkdigafcfgmaa
open Go.RowKit

set_option maxRecDepth 100000 in
set_option maxHeartbeats 8000000 in
theorem lawGoodScopes_any (ao : Option Addr) (cap : Nat) (ts : List (Int × Int × Int)) (w : World) (hl : ts.length ≤ 9223372036854775807) (hz : kS.In w.heap.size w ao ts) :
    Calls Try.prog 10 #[.slice ao ts.length cap] w fun e w' => e = .returned (.bool true) ∧ Below w.heap.size w w' := by
  obtain ⟨x, hx⟩ : ∃ x, scopesB ts = x := ⟨_, rfl⟩
  have HX : Hid (scopesB ts = x) := hx
  have hne : (x != x) = false := by simp
  clear hx
  go_enter Try.func10, Try.ntmps10
  go_wp2_with fail
  refine (szScopeS_any ao ts.length cap 1048576 _ (by omega) (by omega) hl).mono ?_
  rintro e w1 ⟨⟨z, rfl, _, hr⟩, hw1⟩
  have hB1 : Below w.heap.size w w1 := by rw [hw1]; exact Below.refl _ _
  clear hw1
  rcases hr with hr | ⟨hr0, hr1⟩
  · go_wp2
    go_ret
    exact ⟨rfl, hB1⟩
  have k1 : ts.length ≤ 1048576 := by omega
  have hr0' : decide (z < 0) = false := by simpa using hr1
  clear hr0
  go_wp2_with fail
  refine (toScopeS_any ao cap ts _ k1 (hz.later hB1)).mono ?_
  rintro e w2 ⟨rfl, hF2, hb2⟩
  generalize hgg : (some ⟨w1.heap.size, 0, none⟩ : Option Addr) = ad2 at hF2 ⊢
  obtain ⟨g2, hgg2⟩ : ∃ g, ad2 = some ⟨g, 0, none⟩ := ⟨_, hgg.symm⟩
  clear hgg
  subst hgg2
  have hB2 := hB1.trans (hb2.mono hB1.size)
  have Z2 := hid (hF2.in)
  clear hb2 hF2
  go_wp2_with fail
  refine (specGoodScopes_is (some ⟨g2, 0, none⟩) ts.length ts w2 x k1 Z2.out HX.out).mono ?_
  rintro e w3 ⟨rfl, hb3⟩
  have hB3 := hB2.trans (hb3.mono hB2.size)
  clear hb3 Z2
  go_wp2_with fail
  refine (toScopeS_any ao cap ts _ k1 (hz.later hB3)).mono ?_
  rintro e w4 ⟨rfl, hF4, hb4⟩
  generalize hgg : (some ⟨w3.heap.size, 0, none⟩ : Option Addr) = ad4 at hF4 ⊢
  obtain ⟨g4, hgg4⟩ : ∃ g, ad4 = some ⟨g, 0, none⟩ := ⟨_, hgg.symm⟩
  clear hgg
  subst hgg4
  have hB4 := hB3.trans (hb4.mono hB3.size)
  have X4 := hid (hF4)
  clear hb4 hF4
  go_wp2_with fail
  refine (implGoodScopes_is (some ⟨g4, 0, none⟩) ts.length ts _ x k1 X4.out.in HX.out).mono ?_
  rintro e w5 ⟨rfl, hb5⟩
  have hB5 := hB4.trans (hb5.mono hB4.size)
  have X5 := hid (X4.out.later hb5)
  clear hb5 X4
  go_wp2_with fail
  refine (toScopeS_any ao cap ts _ k1 (hz.later hB5)).mono ?_
  rintro e w7 ⟨rfl, hF7, hb7⟩
  generalize hgg : (some ⟨w5.heap.size, 0, none⟩ : Option Addr) = ad7 at hF7 ⊢
  obtain ⟨g7, hgg7⟩ : ∃ g, ad7 = some ⟨g, 0, none⟩ := ⟨_, hgg.symm⟩
  clear hgg
  subst hgg7
  have hB7 := hB5.trans (hb7.mono hB5.size)
  have X7 := hid (X5.out.later hb7)
  have Z7 := hid (hF7.in)
  clear hb7 hF7 X5
  go_wp2_with fail
  refine (eqScopeS_same (some ⟨g4, 0, none⟩) (some ⟨g7, 0, none⟩) ts.length ts.length ts _ k1 X7.out.in Z7.out).mono ?_
  rintro e w8 ⟨rfl, hb8⟩
  have hB8 := hB7.trans (hb8.mono hB7.size)
  go_wp2
  go_ret
  exact ⟨rfl, hB8⟩
end Go.Proofs.Ytcdkdigafcfgmaa
