/- NewScope: the specification. No conditions but those written. -/
import Derived.Test.YtcdkdigafcfgmaaSe
import Derived.Test.YtcdkdigafcfgmaaSd
namespace Go.Proofs.Ytcdkdigafcfgmaa
open Go.RowKit

theorem upB_pos {n : Nat} {up : Int} (h : n ≠ 0) : upB n up = (decide (0 ≤ up) && decide (up ≤ (n : Int) - 1)) := by
  rw [upB, if_neg (by omega)]
  congr 1
  exact decide_eq_decide.2 (by omega)
set_option maxRecDepth 10000 in
set_option maxHeartbeats 8000000 in
theorem specNew_any (ao : Option Addr) (cap : Nat) (l : List Sc) (iv jv : Int) (w : World) (hl : l.length ≤ 1048576) (hno : ao = none → cap = 0) (hz : kS.In w.heap.size w ao l) :
    Calls Try.prog 47 #[.slice ao l.length cap, .int .i64 iv, .int .i64 jv] w fun e w' => AnsN w (newR l iv jv) e w' := by
  cases hg : scopesB l
  · have HG : Hid (scopesB l = false) := hg
    have HR : Hid (newR l iv jv = ([], 0, 2)) := newR_bad (by rw [newB, hg]; rfl)
    clear hg
    by_cases h0 : l.length = 0
    · have z1 := (len0 h0).1
      clear h0
      cases hm : (iv == -1)
      all_goals
        go_enter Try.func47, Try.ntmps47
        go_wp2_with fail
        refine (specGoodScopes_is ao cap l w false hl hz HG.out).mono ?_
        rintro e w1 ⟨rfl, hB1⟩
        go_wp2
        refine bodyPost_ret (v := .tuple #[.slice none 0 0, .int .i64 0, .int .i64 2]) (by simp [results, Try.results47, go_sem]) rfl ?_
        rw [HR.out]
        exact ⟨⟨none, 0, rfl, .inl rfl⟩, hB1⟩
    · have z1 := (len1 h0).1
      clear h0
      go_enter Try.func47, Try.ntmps47
      go_wp2_with fail
      refine (specGoodScopes_is ao cap l w false hl hz HG.out).mono ?_
      rintro e w1 ⟨rfl, hB1⟩
      go_wp2
      refine bodyPost_ret (v := .tuple #[.slice none 0 0, .int .i64 0, .int .i64 2]) (by simp [results, Try.results47, go_sem]) rfl ?_
      rw [HR.out]
      exact ⟨⟨none, 0, rfl, .inl rfl⟩, hB1⟩
  have HG : Hid (scopesB l = true) := hg
  have h20 := (scopesB_good hg).1
  by_cases h0 : l.length = 0
  · have z1 := (len0 h0).1
    cases hm : (iv == -1)
    · have HI : Hid ((decide (0 ≤ iv) && decide (iv ≤ (l.length : Int) - 1)) = false) := by rw [Hid, h0]; simp; omega
      have HR : Hid (newR l iv jv = ([], 0, 2)) := newR_bad (by rw [newB, upB, if_pos (by omega), hm]; simp)
      clear hg h0
      go_enter Try.func47, Try.ntmps47
      go_wp2_with fail
      refine (specGoodScopes_is ao cap l w true hl hz HG.out).mono ?_
      rintro e w1 ⟨rfl, hB1⟩
      go_wp2_with fail
      refine (l1In_is iv 0 ((l.length : Int) - 1) _ false HI.out).mono ?_
      rintro e w2 ⟨rfl, hw2⟩
      rw [hw2]
      clear hw2 w2
      go_wp2
      refine bodyPost_ret (v := .tuple #[.slice none 0 0, .int .i64 0, .int .i64 2]) (by simp [results, Try.results47, go_sem]) rfl ?_
      rw [HR.out]
      exact ⟨⟨none, 0, rfl, .inl rfl⟩, hB1⟩
    have hu : upB l.length iv = true := by rw [upB, if_pos (by omega), hm]
    have hm1 : iv = -1 := by simpa using hm
    have HM1 := hid hm1
    clear hm1
    by_cases hd : jv < 0
    · have hd' : decide (jv < 0) = true := by simpa using hd
      have HR : Hid (newR l iv jv = ([], 0, 2)) := newR_bad (by have : decide (0 ≤ jv) = false := by simp; omega
                                                                rw [newB, this]; simp)
      clear h0
      go_enter Try.func47, Try.ntmps47
      go_wp2_with fail
      refine (specGoodScopes_is ao cap l w true hl hz HG.out).mono ?_
      rintro e w1 ⟨rfl, hB1⟩
      go_wp2
      refine bodyPost_ret (v := .tuple #[.slice none 0 0, .int .i64 0, .int .i64 2]) (by simp [results, Try.results47, go_sem]) rfl ?_
      rw [HR.out]
      exact ⟨⟨none, 0, rfl, .inl rfl⟩, hB1⟩
    have hd' : decide (jv < 0) = false := by simpa using hd
    by_cases h2 : l.length = 20
    · have h2' : ((l.length : Int) == 20) = true := by simp; omega
      have HR : Hid (newR l iv jv = ([], 0, 2)) := newR_bad (by rw [newB, h2]; simp)
      clear h2
      clear h0
      go_enter Try.func47, Try.ntmps47
      go_wp2_with fail
      refine (specGoodScopes_is ao cap l w true hl hz HG.out).mono ?_
      rintro e w1 ⟨rfl, hB1⟩
      go_wp2
      refine bodyPost_ret (v := .tuple #[.slice none 0 0, .int .i64 0, .int .i64 2]) (by simp [results, Try.results47, go_sem]) rfl ?_
      rw [HR.out]
      exact ⟨⟨none, 0, rfl, .inl rfl⟩, hB1⟩
    have h2' : ((l.length : Int) == 20) = false := by simp; omega
    have hnb : newB l iv jv = true := by rw [newB, hg, hu]; simp [h2]; omega
    have HR : Hid (newR l iv jv = (l ++ [(iv, jv, 0)], (l.length : Int), 0)) := by rw [Hid, newR_good hnb, whyOf, if_pos HM1.out]
    clear h0 hg hu hnb h2
    go_enter Try.func47, Try.ntmps47
    go_wp2_with fail
    refine (specGoodScopes_is ao cap l w true hl hz HG.out).mono ?_
    rintro e w1 ⟨rfl, hB1⟩
    have HE : Hid (kS.Own w.heap.size (w1.alloc (.cells #[] 104)) (.slice (some ⟨w1.heap.size, 0, none⟩) 0 0) []) := Kind.Own.new kS _ w1 hB1.size
    have HZ : Hid (kS.In w1.heap.size (w1.alloc (.cells #[] 104)) ao l) := (hz.later hB1).below (below1 _ _)
    have hBe := Below.allocS hB1 (.cells #[] 104)
    go_wp2_with (at_builtin; first
      | (have _g := HW4; refine Kind.app kS_ok ((w3.alloc (.cells #[.int .i64 iv, .int .i64 jv, .int .i64 0] 104)).alloc (.cells #[.int .i64 iv, .int .i64 jv, .int .i64 0] 104)) rfl (.tmp 56) (.tmp 58) rfl w.heap.size (.slice (some ⟨g, 0, none⟩) l.length c) l rfl HO5.out hBV.size (some ⟨w3.heap.size + 1, 0, none⟩) [(iv, jv, 0)] 1 1 rfl rfl (by simp) _ HN5.out (by simp; omega) ?_; intro v6 w6 hO6 hB6 hG6 hn6; obtain ⟨g', c', rfl, hF6⟩ := hO6.some (hn6 some_ne); have hB7 : Below w.heap.size w w6 := hBV.trans hB6; have HF6 := hid hF6; clear hO6 hB6 hG6 hn6 hF6 HO5 HN5)
      | ((fail_if_success (have _g := HW4)); refine Kind.app kS_ok (w1.alloc (.cells #[] 104)) rfl (.tmp 42) (.tmp 43) rfl w.heap.size (.slice (some ⟨w1.heap.size, 0, none⟩) 0 0) [] rfl HE.out hBe.size ao l l.length cap rfl rfl hno _ HZ.out (by simp; omega) ?_; intro v3 w3 hO3 hB3 hG3 hn3; obtain ⟨g, c, rfl, hF3⟩ := hO3.some (hn3 some_ne); rw [List.nil_append] at hF3 hO3; have HO3 := hid hO3; have hB4 : Below w.heap.size w w3 := hBe.trans hB3; have HF3 := hid hF3; have HW4 : True := trivial; have hBV : Below w.heap.size w ((w3.alloc (.cells #[.int .i64 iv, .int .i64 jv, .int .i64 0] 104)).alloc (.cells #[.int .i64 iv, .int .i64 jv, .int .i64 0] 104)) := Below.allocS (Below.allocS hB4 _) _; have HO5 : Hid (kS.Own w.heap.size ((w3.alloc (.cells #[.int .i64 iv, .int .i64 jv, .int .i64 0] 104)).alloc (.cells #[.int .i64 iv, .int .i64 jv, .int .i64 0] 104)) (.slice (some ⟨g, 0, none⟩) l.length c) l) := (HO3.out.below (below1 _ _)).below (below1 _ _); have HN5 : Hid (kS.In (w3.heap.size + 1 + 1) ((w3.alloc (.cells #[.int .i64 iv, .int .i64 jv, .int .i64 0] 104)).alloc (.cells #[.int .i64 iv, .int .i64 jv, .int .i64 0] 104)) (some ⟨w3.heap.size + 1, 0, none⟩) [(iv, jv, 0)]) := kS_one (by omega) (by simp) (by simp) (by simp); clear hO3 hB3 hG3 hn3 hF3 HE HZ hBe))
    refine bodyPost_ret (v := .tuple #[.slice (some ⟨g', 0, none⟩) (l ++ [(iv, jv, 0)]).length c', .int .i64 (l.length : Int), .int .i64 0]) (by simp [results, Try.results47, go_sem]) rfl ?_
    rw [HR.out]
    exact ⟨⟨_, c', rfl, HF6.out⟩, hB7⟩
  · have z1 := (len1 h0).1
    cases hu : upB l.length iv
    · have HI : Hid ((decide (0 ≤ iv) && decide (iv ≤ (l.length : Int) - 1)) = false) := by rw [Hid, ← upB_pos h0]; exact hu
      have HR : Hid (newR l iv jv = ([], 0, 2)) := newR_bad (by rw [newB, hu]; simp)
      clear hg hu h0
      go_enter Try.func47, Try.ntmps47
      go_wp2_with fail
      refine (specGoodScopes_is ao cap l w true hl hz HG.out).mono ?_
      rintro e w1 ⟨rfl, hB1⟩
      go_wp2_with fail
      refine (l1In_is iv 0 ((l.length : Int) - 1) _ false HI.out).mono ?_
      rintro e w2 ⟨rfl, hw2⟩
      rw [hw2]
      clear hw2 w2
      go_wp2
      refine bodyPost_ret (v := .tuple #[.slice none 0 0, .int .i64 0, .int .i64 2]) (by simp [results, Try.results47, go_sem]) rfl ?_
      rw [HR.out]
      exact ⟨⟨none, 0, rfl, .inl rfl⟩, hB1⟩
    have HI : Hid ((decide (0 ≤ iv) && decide (iv ≤ (l.length : Int) - 1)) = true) := by rw [Hid, ← upB_pos h0]; exact hu
    have hin : 0 ≤ iv ∧ iv < l.length := by have := HI.out; simp at this; omega
    by_cases hd : jv < 0
    · have hd' : decide (jv < 0) = true := by simpa using hd
      have HR : Hid (newR l iv jv = ([], 0, 2)) := newR_bad (by have : decide (0 ≤ jv) = false := by simp; omega
                                                                rw [newB, this]; simp)
      clear h0
      go_enter Try.func47, Try.ntmps47
      go_wp2_with fail
      refine (specGoodScopes_is ao cap l w true hl hz HG.out).mono ?_
      rintro e w1 ⟨rfl, hB1⟩
      go_wp2_with fail
      refine (l1In_is iv 0 ((l.length : Int) - 1) _ true HI.out).mono ?_
      rintro e w2 ⟨rfl, hw2⟩
      rw [hw2]
      clear hw2 w2
      go_wp2
      refine bodyPost_ret (v := .tuple #[.slice none 0 0, .int .i64 0, .int .i64 2]) (by simp [results, Try.results47, go_sem]) rfl ?_
      rw [HR.out]
      exact ⟨⟨none, 0, rfl, .inl rfl⟩, hB1⟩
    have hd' : decide (jv < 0) = false := by simpa using hd
    by_cases h2 : l.length = 20
    · have h2' : ((l.length : Int) == 20) = true := by simp; omega
      have HR : Hid (newR l iv jv = ([], 0, 2)) := newR_bad (by rw [newB, h2]; simp)
      clear h2
      clear h0
      go_enter Try.func47, Try.ntmps47
      go_wp2_with fail
      refine (specGoodScopes_is ao cap l w true hl hz HG.out).mono ?_
      rintro e w1 ⟨rfl, hB1⟩
      go_wp2_with fail
      refine (l1In_is iv 0 ((l.length : Int) - 1) _ true HI.out).mono ?_
      rintro e w2 ⟨rfl, hw2⟩
      rw [hw2]
      clear hw2 w2
      go_wp2
      refine bodyPost_ret (v := .tuple #[.slice none 0 0, .int .i64 0, .int .i64 2]) (by simp [results, Try.results47, go_sem]) rfl ?_
      rw [HR.out]
      exact ⟨⟨none, 0, rfl, .inl rfl⟩, hB1⟩
    have h2' : ((l.length : Int) == 20) = false := by simp; omega
    have hnb : newB l iv jv = true := by rw [newB, hg, hu]; simp [h2]; omega
    obtain ⟨u, eu⟩ : ∃ u : Nat, iv = u := ⟨iv.toNat, by omega⟩
    have hul : u < l.length := by omega
    obtain ⟨z, ez⟩ : ∃ z, z = (el l u).2.2 := ⟨_, rfl⟩
    have HR : Hid (newR l iv jv = (l ++ [(iv, jv, z)], (l.length : Int), 0)) := by
      rw [Hid, newR_good hnb, whyOf, if_neg (by omega), ez, eu]; rfl
    have HEZ := hid ez
    clear hg hu hnb h2 h0 ez
    subst eu
    have hul' : (u : Int) < (l.length : Int) := by omega
    go_enter Try.func47, Try.ntmps47
    go_wp2_with fail
    refine (specGoodScopes_is ao cap l w true hl hz HG.out).mono ?_
    rintro e w1 ⟨rfl, hB1⟩
    go_wp2_with fail
    refine (l1In_is u 0 ((l.length : Int) - 1) _ true HI.out).mono ?_
    rintro e w2 ⟨rfl, hw2⟩
    rw [hw2]
    clear hw2 w2
    have HE : Hid (kS.Own w.heap.size (w1.alloc (.cells #[] 104)) (.slice (some ⟨w1.heap.size, 0, none⟩) 0 0) []) := Kind.Own.new kS _ w1 hB1.size
    have HZ : Hid (kS.In w1.heap.size (w1.alloc (.cells #[] 104)) ao l) := (hz.later hB1).below (below1 _ _)
    have hBe := Below.allocS hB1 (.cells #[] 104)
    go_wp2_with (at_builtin; first
      | (have _g := HW4; refine Kind.app kS_ok ((w3.alloc (.cells #[.int .i64 (u : Int), .int .i64 jv, .int .i64 z] 104)).alloc (.cells #[.int .i64 (u : Int), .int .i64 jv, .int .i64 z] 104)) rfl (.tmp 56) (.tmp 58) rfl w.heap.size (.slice (some ⟨g, 0, none⟩) l.length c) l rfl HO5.out hBV.size (some ⟨w3.heap.size + 1, 0, none⟩) [((u : Int), jv, z)] 1 1 rfl rfl (by simp) _ HN5.out (by simp; omega) ?_; intro v6 w6 hO6 hB6 hG6 hn6; obtain ⟨g', c', rfl, hF6⟩ := hO6.some (hn6 some_ne); have hB7 : Below w.heap.size w w6 := hBV.trans hB6; have HF6 := hid hF6; clear hO6 hB6 hG6 hn6 hF6 HO5 HN5)
      | ((fail_if_success (have _g := HW4)); refine Kind.app kS_ok (w1.alloc (.cells #[] 104)) rfl (.tmp 42) (.tmp 43) rfl w.heap.size (.slice (some ⟨w1.heap.size, 0, none⟩) 0 0) [] rfl HE.out hBe.size ao l l.length cap rfl rfl hno _ HZ.out (by simp; omega) ?_; intro v3 w3 hO3 hB3 hG3 hn3; obtain ⟨g, c, rfl, hF3⟩ := hO3.some (hn3 some_ne); rw [List.nil_append] at hF3 hO3; have HO3 := hid hO3; have hB4 : Below w.heap.size w w3 := hBe.trans hB3; have HF3 := hid hF3; obtain ⟨bb, oo, ebo, hbb, hcc⟩ := kS_at hF3.in hul; cases ebo; have cz := (hcc u hul).2.2; rw [Nat.zero_add, ← HEZ.out] at cz; have hgs : g < w3.heap.size := hbb; clear hcc hbb; have HW4 : True := trivial; have hBV : Below w.heap.size w ((w3.alloc (.cells #[.int .i64 (u : Int), .int .i64 jv, .int .i64 z] 104)).alloc (.cells #[.int .i64 (u : Int), .int .i64 jv, .int .i64 z] 104)) := Below.allocS (Below.allocS hB4 _) _; have HO5 : Hid (kS.Own w.heap.size ((w3.alloc (.cells #[.int .i64 (u : Int), .int .i64 jv, .int .i64 z] 104)).alloc (.cells #[.int .i64 (u : Int), .int .i64 jv, .int .i64 z] 104)) (.slice (some ⟨g, 0, none⟩) l.length c) l) := (HO3.out.below (below1 _ _)).below (below1 _ _); have HN5 : Hid (kS.In (w3.heap.size + 1 + 1) ((w3.alloc (.cells #[.int .i64 (u : Int), .int .i64 jv, .int .i64 z] 104)).alloc (.cells #[.int .i64 (u : Int), .int .i64 jv, .int .i64 z] 104)) (some ⟨w3.heap.size + 1, 0, none⟩) [((u : Int), jv, z)]) := kS_one (by omega) (by simp) (by simp) (by simp); clear hO3 hB3 hG3 hn3 hF3 HE HZ hBe))
    refine bodyPost_ret (v := .tuple #[.slice (some ⟨g', 0, none⟩) (l ++ [((u : Int), jv, z)]).length c', .int .i64 (l.length : Int), .int .i64 0]) (by simp [results, Try.results47, go_sem]) rfl ?_
    rw [HR.out]
    exact ⟨⟨_, c', rfl, HF6.out⟩, hB7⟩
end Go.Proofs.Ytcdkdigafcfgmaa
