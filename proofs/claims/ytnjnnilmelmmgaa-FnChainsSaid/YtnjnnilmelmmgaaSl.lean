
/- Stages: what a stage makes of a value: the walks. No conditions but those written. -/
import Derived.Test.YtnjnnilmelmmgaaSk
namespace Go.Proofs.Ytnjnnilmelmmgaa
open Go.RowKit

/-- A row of ints of its own and a bool are answered. -/
def AnsA (w : World) (r : List Int × Bool) (e : Ending) (w' : World) : Prop :=
  (∃ o c, e = .returned (.tuple #[.slice o r.1.length c, .bool r.2]) ∧ (o = none → c = 0) ∧ kI.Fresh w.heap.size w'.heap.size w' o c r.1) ∧ Below w.heap.size w w'
theorem fresh_one {lo : Nat} {W : World} {z : Int} (h : lo ≤ W.heap.size) : kI.Fresh lo (W.alloc (.cells #[.int .i64 z] 3)).heap.size (W.alloc (.cells #[.int .i64 z] 3)) (some ⟨W.heap.size, 0, none⟩) 1 [z] :=
  .inr ⟨W.heap.size, rfl, by simp, Kind.own_of_heap (K := kI) (cs := [.int .i64 z]) (xs := [z]) (Array.getElem?_push_size) rfl h (by simp)⟩
theorem ansA_one {w W : World} {z : Int} {p : Nat} (hB : Below w.heap.size w W) (hp : W.heap.size = p) : AnsA w ([z], false) (.returned (.tuple #[.slice (some ⟨p, 0, none⟩) 1 1, .bool false])) (W.alloc (.cells #[.int .i64 z] 3)) := by
  subst hp; exact ⟨⟨_, _, rfl, (fun h => by cases h), fresh_one hB.size⟩, Below.allocS hB _⟩
theorem ansA_nil {w W : World} {b : Bool} (hB : Below w.heap.size w W) : AnsA w ([], b) (.returned (.tuple #[.slice none 0 0, .bool b])) W :=
  ⟨⟨_, _, rfl, fun _ => rfl, .inl rfl⟩, hB⟩
set_option maxHeartbeats 4000000 in
theorem l7Apply1 (a b v : Int) (w : World) (hg : goodSt 1 a b = true) (hv : valB v = true) :
    Calls Try.prog 43 #[.agg #[.int .i64 1, .int .i64 a, .int .i64 b], .int .i64 v] w (AnsA w (appSt 1 a b v)) := by
  have g1 := good1 hg
  have v1 := val_of hv
  have m1 := mul_le100 v1 ⟨g1.1, g1.2.1⟩
  clear hg hv
  go_enter Try.func43, Try.ntmps43
  go_wp2_with fail
  refine (l7Cut_is (v * a + b) _ _ rfl).mono ?_
  rintro e w1 ⟨rfl, hw1⟩
  rw [hw1]; clear hw1 w1
  go_wp2
  exact bodyPost_ret (v := .tuple #[.slice (some ⟨w.heap.size + 1, 0, none⟩) 1 1, .bool false]) (by simp [results, Try.results43, go_sem]) rfl (ansA_one (below1 _ _) (by simp))
set_option maxHeartbeats 4000000 in
theorem mapOne_is (a b v : Int) (w : World) (hg : goodSt 1 a b = true) (hv : valB v = true) :
    Calls Try.prog 66 #[.agg #[.int .i64 1, .int .i64 a, .int .i64 b], .int .i64 v] w (AnsA w (appSt 1 a b v)) := by
  have g1 := good1 hg
  have v1 := val_of hv
  have m1 := mul_le100 v1 ⟨g1.1, g1.2.1⟩
  clear hg hv
  go_enter Try.func66, Try.ntmps66
  go_wp2_with fail
  refine (cutTo_is (v * a + b) _ _ rfl).mono ?_
  rintro e w1 ⟨rfl, hw1⟩
  rw [hw1]; clear hw1 w1
  go_wp2
  exact bodyPost_ret (v := .tuple #[.slice (some ⟨w.heap.size + 1, 0, none⟩) 1 1, .bool false]) (by simp [results, Try.results66, go_sem]) rfl (ansA_one (below1 _ _) (by simp))
set_option maxHeartbeats 4000000 in
theorem l7Apply2 (a b v : Int) (w : World) (hg : goodSt 2 a b = true) :
    Calls Try.prog 43 #[.agg #[.int .i64 2, .int .i64 a, .int .i64 b], .int .i64 v] w (AnsA w (appSt 2 a b v)) := by
  have g1 := good2 hg
  clear hg
  generalize hm : v % a = m
  have HM := hid hm
  clear hm
  by_cases hh : m = b
  · have ha : appSt 2 a b v = ([v], false) := by rw [appSt2, HM.out, if_pos hh]
    rw [ha]
    have hc : (m != b) = false := by simp [hh]
    clear hh ha
    go_enter Try.func43, Try.ntmps43
    go_wp2
    go_quiet (exact Calls.quiet_of_same (l1Mod_is v a _ m HM.out (by omega) (by omega)))
    go_wp2
    exact bodyPost_ret (v := .tuple #[.slice (some ⟨w.heap.size + 1, 0, none⟩) 1 1, .bool false]) (by simp [results, Try.results43, go_sem]) rfl (ansA_one (below_draws (below1 _ _) _) (by simp))
  · have ha : appSt 2 a b v = ([], false) := by rw [appSt2, HM.out, if_neg hh]
    rw [ha]
    have hc : (m != b) = true := by simp [hh]
    clear hh ha
    go_enter Try.func43, Try.ntmps43
    go_wp2
    go_quiet (exact Calls.quiet_of_same (l1Mod_is v a _ m HM.out (by omega) (by omega)))
    go_wp2
    exact bodyPost_ret (v := .tuple #[.slice none 0 0, .bool false]) (by simp [results, Try.results43, go_sem]) rfl (ansA_nil (below_draws (below1 _ _) _))
set_option maxHeartbeats 4000000 in
theorem l7Apply4 (a b v : Int) (w : World) (hg : goodSt 4 a b = true) :
    Calls Try.prog 43 #[.agg #[.int .i64 4, .int .i64 a, .int .i64 b], .int .i64 v] w (AnsA w (appSt 4 a b v)) := by
  have g1 := good4 hg
  clear hg
  generalize hm : v % a = m
  have HM := hid hm
  clear hm
  by_cases hh : m = b
  · have ha : appSt 4 a b v = ([], true) := by rw [appSt4, HM.out, if_pos hh]
    rw [ha]
    have hc : (m == b) = true := by simp [hh]
    clear hh ha
    go_enter Try.func43, Try.ntmps43
    go_wp2
    go_quiet (exact Calls.quiet_of_same (l1Mod_is v a _ m HM.out (by omega) (by omega)))
    go_wp2
    exact bodyPost_ret (v := .tuple #[.slice none 0 0, .bool true]) (by simp [results, Try.results43, go_sem]) rfl (ansA_nil (below_draws (below1 _ _) _))
  · have ha : appSt 4 a b v = ([v], false) := by rw [appSt4, HM.out, if_neg hh]
    rw [ha]
    have hc : (m == b) = false := by simp [hh]
    clear hh ha
    go_enter Try.func43, Try.ntmps43
    go_wp2
    go_quiet (exact Calls.quiet_of_same (l1Mod_is v a _ m HM.out (by omega) (by omega)))
    go_wp2
    exact bodyPost_ret (v := .tuple #[.slice (some ⟨w.heap.size + 1, 0, none⟩) 1 1, .bool false]) (by simp [results, Try.results43, go_sem]) rfl (ansA_one (below_draws (below1 _ _) _) (by simp))
set_option maxHeartbeats 4000000 in
theorem filterOne_is (a b v : Int) (w : World) (hg : goodSt 2 a b = true) :
    Calls Try.prog 69 #[.agg #[.int .i64 2, .int .i64 a, .int .i64 b], .int .i64 v] w (AnsA w (appSt 2 a b v)) := by
  have g1 := good2 hg
  clear hg
  generalize hm : v % a = m
  have HM := hid hm
  clear hm
  by_cases hh : m = b
  · have ha : appSt 2 a b v = ([v], false) := by rw [appSt2, HM.out, if_pos hh]
    rw [ha]
    have hc : (m != b) = false := by simp [hh]
    clear hh ha
    go_enter Try.func69, Try.ntmps69
    go_wp2
    go_quiet (exact Calls.quiet_of_same (modulo_is v a _ m HM.out (by omega) (by omega)))
    go_wp2
    exact bodyPost_ret (v := .tuple #[.slice (some ⟨w.heap.size + 1, 0, none⟩) 1 1, .bool false]) (by simp [results, Try.results69, go_sem]) rfl (ansA_one (below_draws (below1 _ _) _) (by simp))
  · have ha : appSt 2 a b v = ([], false) := by rw [appSt2, HM.out, if_neg hh]
    rw [ha]
    have hc : (m != b) = true := by simp [hh]
    clear hh ha
    go_enter Try.func69, Try.ntmps69
    go_wp2
    go_quiet (exact Calls.quiet_of_same (modulo_is v a _ m HM.out (by omega) (by omega)))
    go_wp2
    exact bodyPost_ret (v := .tuple #[.slice none 0 0, .bool false]) (by simp [results, Try.results69, go_sem]) rfl (ansA_nil (below_draws (below1 _ _) _))
set_option maxHeartbeats 4000000 in
theorem poisonOne_is (a b v : Int) (w : World) (hg : goodSt 4 a b = true) :
    Calls Try.prog 73 #[.agg #[.int .i64 4, .int .i64 a, .int .i64 b], .int .i64 v] w (AnsA w (appSt 4 a b v)) := by
  have g1 := good4 hg
  clear hg
  generalize hm : v % a = m
  have HM := hid hm
  clear hm
  by_cases hh : m = b
  · have ha : appSt 4 a b v = ([], true) := by rw [appSt4, HM.out, if_pos hh]
    rw [ha]
    have hc : (m == b) = true := by simp [hh]
    clear hh ha
    go_enter Try.func73, Try.ntmps73
    go_wp2
    go_quiet (exact Calls.quiet_of_same (modulo_is v a _ m HM.out (by omega) (by omega)))
    go_wp2
    exact bodyPost_ret (v := .tuple #[.slice none 0 0, .bool true]) (by simp [results, Try.results73, go_sem]) rfl (ansA_nil (below_draws (below1 _ _) _))
  · have ha : appSt 4 a b v = ([v], false) := by rw [appSt4, HM.out, if_neg hh]
    rw [ha]
    have hc : (m == b) = false := by simp [hh]
    clear hh ha
    go_enter Try.func73, Try.ntmps73
    go_wp2
    go_quiet (exact Calls.quiet_of_same (modulo_is v a _ m HM.out (by omega) (by omega)))
    go_wp2
    exact bodyPost_ret (v := .tuple #[.slice (some ⟨w.heap.size + 1, 0, none⟩) 1 1, .bool false]) (by simp [results, Try.results73, go_sem]) rfl (ansA_one (below_draws (below1 _ _) _) (by simp))
set_option maxHeartbeats 8000000 in
theorem l7Apply3 (a b v : Int) (w : World) (hg : goodSt 3 a b = true) (hv : valB v = true) :
    Calls Try.prog 43 #[.agg #[.int .i64 3, .int .i64 a, .int .i64 b], .int .i64 v] w (AnsA w (appSt 3 a b v)) := by
  have g1 := good3 hg
  have v1 := val_of hv
  rw [appSt3]
  obtain ⟨n, hn⟩ : ∃ n : Nat, a = n := ⟨a.toNat, by omega⟩
  subst hn
  have hn3 : n ≤ 3 := by omega
  have hn1 : 1 ≤ n := by omega
  have hb1 : -1000 ≤ b ∧ b ≤ 1000 := g1.2.2
  rw [show (n : Int).toNat = n from by simp]
  clear hg hv g1
  have A0 := hid (Bx.new (w := w) (p := w.heap.size) [.int .i64 3, .int .i64 n, .int .i64 b] 25 rfl)
  have hB0 := below1 w (.cells #[.int .i64 3, .int .i64 n, .int .i64 b] 25)
  go_enter Try.func43, Try.ntmps43
  go_wp2
  go_loopw [6, 7] (fun u i wr => ∃ (k : Nat) (v' : Value), v' = u ∧ k ≤ n ∧ i = .int .i64 k ∧ Hid (kI.Own (w.heap.size + 1) wr v' (expI k b v)) ∧ Hid (Bx wr w.heap.size [.int .i64 3, .int .i64 n, .int .i64 b]) ∧ Below w.heap.size w wr ∧ w.heap.size + 1 ≤ wr.heap.size) (fun _ i _ => n - (intOf i).toNat)
  case atStart => exact ⟨0, _, rfl, Nat.zero_le _, rfl, Kind.Own.nil _ _ _, A0, hB0, by simp⟩
  case round =>
    obtain ⟨k, u, rfl, hk, rfl, hO, hA, hB, hs⟩ := hrel
    have a0 := hA.out.c 0 rfl
    have a1 := hA.out.c 1 rfl
    have a2 := hA.out.c 2 rfl
    by_cases hlt : k < n
    · have hkb : -3000 ≤ (k : Int) * b ∧ (k : Int) * b ≤ 3000 := by
        have hq : ((k : Int) * b).natAbs ≤ 3 * 1000 := by rw [Int.natAbs_mul]; exact Nat.mul_le_mul (by omega) (by omega)
        omega
      obtain ⟨z, hz⟩ : ∃ z, z = cutI (v + (k : Int) * b) := ⟨_, rfl⟩
      have HZ := hid hz
      clear hz
      have HA : Hid (kI.Own (w.heap.size + 1) (wr.alloc (.cells #[.int .i64 z] 3)) u (expI k b v)) := hO.out.below (below1 _ _)
      have HN : Hid (kI.In (wr.heap.size + 1) (wr.alloc (.cells #[.int .i64 z] 3)) (some ⟨wr.heap.size, 0, none⟩) [z]) := int_one (by omega) (by simp)
      have hll : (expI k b v).length + 1 ≤ 4194304 := by rw [expI_len]; omega
      have hBa : Below w.heap.size w (wr.alloc (.cells #[.int .i64 z] 3)) := Below.allocS hB _
      have hA2 := hid (hA.out.alloc (.cells #[.int .i64 z] 3))
      go_wp2_with fail
      refine (l7Cut_is (v + (k : Int) * b) _ z HZ.out.symm).mono ?_
      rintro e w1 ⟨rfl, hw1⟩
      rw [hw1]; clear hw1 w1
      go_wp2_with (at_builtin; refine Kind.app kI_ok (wr.alloc (.cells #[.int .i64 z] 3)) rfl (.tmp 45) (.tmp 53) rfl (w.heap.size + 1) u (expI k b v) rfl HA.out (by simp; omega) (some ⟨wr.heap.size, 0, none⟩) [z] 1 1 rfl rfl (by simp) _ HN.out hll ?_; intro v' w' hO' hB' hG' hn'; have hB2 : Below w.heap.size w w' := hBa.trans (hB'.mono (by omega)); have hs2 : w.heap.size + 1 ≤ w'.heap.size := (by have := hB'.size; simp at this; omega); have HA3 := hid (hA2.out.below hB' (by omega)); have HO' : Hid (kI.Own (w.heap.size + 1) w' v' (expI (k + 1) b v)) := (by rw [Hid, expI_succ, ← HZ.out]; exact hO'); clear hO' hB' hG' hn')
      go_roundw
      case rel => exact ⟨k + 1, v', rfl, by omega, by go_num, HO', HA3, hB2, hs2⟩
      case measure => simp [intOf]; omega
    · obtain rfl : k = n := by omega
      obtain ⟨qo, qc, rfl, hq0, hF⟩ := hO.out.fresh
      have HF : Hid (kI.Fresh w.heap.size wr.heap.size wr qo qc (expI k b v)) := hF.wide (by omega) (Nat.le_refl _)
      have HQ := hid hq0
      clear hF hO hq0
      go_wp2
      exact bodyPost_ret (v := .tuple #[.slice qo (expI k b v).length qc, .bool false]) (by simp [results, Try.results43, go_sem]) rfl ⟨⟨_, _, rfl, HQ.out, HF.out⟩, hB⟩
set_option maxHeartbeats 8000000 in
theorem expandOne_is (a b v : Int) (w : World) (hg : goodSt 3 a b = true) (hv : valB v = true) :
    Calls Try.prog 71 #[.agg #[.int .i64 3, .int .i64 a, .int .i64 b], .int .i64 v] w (AnsA w (appSt 3 a b v)) := by
  have g1 := good3 hg
  have v1 := val_of hv
  rw [appSt3]
  obtain ⟨n, hn⟩ : ∃ n : Nat, a = n := ⟨a.toNat, by omega⟩
  subst hn
  have hn3 : n ≤ 3 := by omega
  have hn1 : 1 ≤ n := by omega
  have hb1 : -1000 ≤ b ∧ b ≤ 1000 := g1.2.2
  rw [show (n : Int).toNat = n from by simp]
  clear hg hv g1
  have A0 := hid (Bx.new (w := w) (p := w.heap.size) [.int .i64 3, .int .i64 n, .int .i64 b] 25 rfl)
  have hB0 := below1 w (.cells #[.int .i64 3, .int .i64 n, .int .i64 b] 25)
  go_enter Try.func71, Try.ntmps71
  go_wp2
  go_loopw [6, 10] (fun u i wr => ∃ (k : Nat) (v' : Value), v' = u ∧ k ≤ n ∧ i = .int .i64 k ∧ Hid (kI.Own (w.heap.size + 1) wr v' (expI k b v)) ∧ Hid (Bx wr w.heap.size [.int .i64 3, .int .i64 n, .int .i64 b]) ∧ Below w.heap.size w wr ∧ w.heap.size + 1 ≤ wr.heap.size) (fun _ i _ => n - (intOf i).toNat)
  case atStart => exact ⟨0, _, rfl, Nat.zero_le _, rfl, Kind.Own.nil _ _ _, A0, hB0, by simp⟩
  case round =>
    obtain ⟨k, u, rfl, hk, rfl, hO, hA, hB, hs⟩ := hrel
    have a0 := hA.out.c 0 rfl
    have a1 := hA.out.c 1 rfl
    have a2 := hA.out.c 2 rfl
    by_cases hlt : k < n
    · have hkb : -3000 ≤ (k : Int) * b ∧ (k : Int) * b ≤ 3000 := by
        have hq : ((k : Int) * b).natAbs ≤ 3 * 1000 := by rw [Int.natAbs_mul]; exact Nat.mul_le_mul (by omega) (by omega)
        omega
      obtain ⟨z, hz⟩ : ∃ z, z = cutI (v + (k : Int) * b) := ⟨_, rfl⟩
      have HZ := hid hz
      clear hz
      have HA : Hid (kI.Own (w.heap.size + 1) (wr.alloc (.cells #[.int .i64 z] 3)) u (expI k b v)) := hO.out.below (below1 _ _)
      have HN : Hid (kI.In (wr.heap.size + 1) (wr.alloc (.cells #[.int .i64 z] 3)) (some ⟨wr.heap.size, 0, none⟩) [z]) := int_one (by omega) (by simp)
      have hll : (expI k b v).length + 1 ≤ 4194304 := by rw [expI_len]; omega
      have hBa : Below w.heap.size w (wr.alloc (.cells #[.int .i64 z] 3)) := Below.allocS hB _
      have hA2 := hid (hA.out.alloc (.cells #[.int .i64 z] 3))
      go_wp2_with fail
      refine (cutTo_is (v + (k : Int) * b) _ z HZ.out.symm).mono ?_
      rintro e w1 ⟨rfl, hw1⟩
      rw [hw1]; clear hw1 w1
      go_wp2_with (at_builtin; refine Kind.app kI_ok (wr.alloc (.cells #[.int .i64 z] 3)) rfl (.tmp 13) (.tmp 21) rfl (w.heap.size + 1) u (expI k b v) rfl HA.out (by simp; omega) (some ⟨wr.heap.size, 0, none⟩) [z] 1 1 rfl rfl (by simp) _ HN.out hll ?_; intro v' w' hO' hB' hG' hn'; have hB2 : Below w.heap.size w w' := hBa.trans (hB'.mono (by omega)); have hs2 : w.heap.size + 1 ≤ w'.heap.size := (by have := hB'.size; simp at this; omega); have HA3 := hid (hA2.out.below hB' (by omega)); have HO' : Hid (kI.Own (w.heap.size + 1) w' v' (expI (k + 1) b v)) := (by rw [Hid, expI_succ, ← HZ.out]; exact hO'); clear hO' hB' hG' hn')
      go_roundw
      case rel => exact ⟨k + 1, v', rfl, by omega, by go_num, HO', HA3, hB2, hs2⟩
      case measure => simp [intOf]; omega
    · obtain rfl : k = n := by omega
      obtain ⟨qo, qc, rfl, hq0, hF⟩ := hO.out.fresh
      have HF : Hid (kI.Fresh w.heap.size wr.heap.size wr qo qc (expI k b v)) := hF.wide (by omega) (Nat.le_refl _)
      have HQ := hid hq0
      clear hF hO hq0
      go_wp2
      exact bodyPost_ret (v := .tuple #[.slice qo (expI k b v).length qc, .bool false]) (by simp [results, Try.results71, go_sem]) rfl ⟨⟨_, _, rfl, HQ.out, HF.out⟩, hB⟩
theorem l7Apply_any (k a b v : Int) (w : World) (hg : goodSt k a b = true) (hv : valB v = true) :
    Calls Try.prog 43 #[.agg #[.int .i64 k, .int .i64 a, .int .i64 b], .int .i64 v] w (AnsA w (appSt k a b v)) := by
  rcases good_kind hg with rfl | rfl | rfl | rfl
  · exact l7Apply1 a b v w hg hv
  · exact l7Apply2 a b v w hg
  · exact l7Apply3 a b v w hg hv
  · exact l7Apply4 a b v w hg
end Go.Proofs.Ytnjnnilmelmmgaa
