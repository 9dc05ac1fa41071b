
/- Stages: what a stage makes of a value: the walks. No conditions but those written. ApplyStage on both sides. No conditions but those written. Rows of stages; chains in plain words. No conditions but those written. -/
import Derived.Test.YtdacedbfnlkghaaGreatDoorPSiSk
namespace Go.Proofs.YtdacedbfnlkghaaGreatDoor
section
open Go.RowKit

/-- A row of ints of its own and a bool are answered. -/
def AnsA (w : World) (r : List Int × Bool) (e : Ending) (w' : World) : Prop :=
 (∃ o c, e = .returned (.tuple #[.slice o r.1.length c, .bool r.2]) ∧ (o = none → c = 0) ∧ kI.Fresh w.heap.size w'.heap.size w' o c r.1) ∧ Below w.heap.size w w'
theorem fresh_one {lo : Nat} {W : World} {z : Int} (h : lo ≤ W.heap.size) : kI.Fresh lo (W.alloc (.cells #[.int .i64 z] 3)).heap.size (W.alloc (.cells #[.int .i64 z] 3)) (some ⟨W.heap.size, 0, none⟩) 1 [z] :=
 .inr ⟨W.heap.size, rfl, by simp, Kind.own_of_heap (K := kI) (cs := [.int .i64 z]) (xs := [z]) (Array.getElem?_push_size) rfl h (by simp)⟩
theorem ansA_one {w W : World} {z : Int} {p : Nat} (hB : Below w.heap.size w W) (hp : W.heap.size = p) : AnsA w ([z], false) (.returned (.tuple #[.slice (some ⟨p, 0, none⟩) 1 1, .bool false])) (W.alloc (.cells #[.int .i64 z] 3)) := by
 subst hp; exact ⟨⟨_, _, rfl, (fun h => by cases h), fresh_one hB.size⟩, Below.allocS hB _⟩
theorem ansA_nil {w W : World} {b : Bool} (hB : Below w.heap.size w W) : AnsA w ([], b) (.returned (.tuple #[.slice none 0 0, .bool b])) W :=
 ⟨⟨_, _, rfl, fun _ => rfl, .inl rfl⟩, hB⟩
set_option maxHeartbeats 4000000 in
theorem l7Apply1 (a b v : Int) (w : World) (hg : goodSt 1 a b = true) (hv : valB v = true) :
  Calls Tryz.prog 216 #[.agg #[.int .i64 1, .int .i64 a, .int .i64 b], .int .i64 v] w (AnsA w (appSt 1 a b v)) := by
 have g1 := good1 hg;have v1 := val_of hv;have m1 := mul_le100 v1 ⟨g1.1, g1.2.1⟩;clear hg hv;go_enter Tryz.func216, Tryz.ntmps216;go_wp2_with fail;refine (l7Cut_is (v * a + b) _ _ rfl).mono ?_;rintro e w1 ⟨rfl, hw1⟩;rw [hw1]; clear hw1 w1
 go_wp2;exact bodyPost_ret (v := .tuple #[.slice (some ⟨w.heap.size + 1, 0, none⟩) 1 1, .bool false]) (by simp [results, Tryz.results216, go_sem]) rfl (ansA_one (below1 _ _) (by simp))
set_option maxHeartbeats 4000000 in
theorem mapOne_is (a b v : Int) (w : World) (hg : goodSt 1 a b = true) (hv : valB v = true) :
  Calls Tryz.prog 145 #[.agg #[.int .i64 1, .int .i64 a, .int .i64 b], .int .i64 v] w (AnsA w (appSt 1 a b v)) := by
 have g1 := good1 hg;have v1 := val_of hv;have m1 := mul_le100 v1 ⟨g1.1, g1.2.1⟩;clear hg hv;go_enter Tryz.func145, Tryz.ntmps145;go_wp2_with fail;refine (cutTo_is (v * a + b) _ _ rfl).mono ?_;rintro e w1 ⟨rfl, hw1⟩;rw [hw1]; clear hw1 w1
 go_wp2;exact bodyPost_ret (v := .tuple #[.slice (some ⟨w.heap.size + 1, 0, none⟩) 1 1, .bool false]) (by simp [results, Tryz.results145, go_sem]) rfl (ansA_one (below1 _ _) (by simp))
set_option maxHeartbeats 4000000 in
theorem l7Apply2 (a b v : Int) (w : World) (hg : goodSt 2 a b = true) :
  Calls Tryz.prog 216 #[.agg #[.int .i64 2, .int .i64 a, .int .i64 b], .int .i64 v] w (AnsA w (appSt 2 a b v)) := by
 have g1 := good2 hg;clear hg
 generalize hm : v % a = m
 have HM := hid hm;clear hm
 by_cases hh : m = b
 ·have ha : appSt 2 a b v = ([v], false) := by rw [appSt2, HM.out, if_pos hh]
  rw [ha];have hc : (m != b) = false := by simp [hh]
  clear hh ha;go_enter Tryz.func216, Tryz.ntmps216;go_wp2
  go_quiet (exact Calls.quiet_of_same (l1Mod_is v a _ m HM.out (by omega) (by omega)))
  go_wp2;exact bodyPost_ret (v := .tuple #[.slice (some ⟨w.heap.size + 1, 0, none⟩) 1 1, .bool false]) (by simp [results, Tryz.results216, go_sem]) rfl (ansA_one (below_draws (below1 _ _) _) (by simp))
 ·have ha : appSt 2 a b v = ([], false) := by rw [appSt2, HM.out, if_neg hh]
  rw [ha];have hc : (m != b) = true := by simp [hh]
  clear hh ha;go_enter Tryz.func216, Tryz.ntmps216;go_wp2
  go_quiet (exact Calls.quiet_of_same (l1Mod_is v a _ m HM.out (by omega) (by omega)))
  go_wp2;exact bodyPost_ret (v := .tuple #[.slice none 0 0, .bool false]) (by simp [results, Tryz.results216, go_sem]) rfl (ansA_nil (below_draws (below1 _ _) _))
set_option maxHeartbeats 4000000 in
theorem l7Apply4 (a b v : Int) (w : World) (hg : goodSt 4 a b = true) :
  Calls Tryz.prog 216 #[.agg #[.int .i64 4, .int .i64 a, .int .i64 b], .int .i64 v] w (AnsA w (appSt 4 a b v)) := by
 have g1 := good4 hg;clear hg
 generalize hm : v % a = m
 have HM := hid hm;clear hm
 by_cases hh : m = b
 ·have ha : appSt 4 a b v = ([], true) := by rw [appSt4, HM.out, if_pos hh]
  rw [ha];have hc : (m == b) = true := by simp [hh]
  clear hh ha;go_enter Tryz.func216, Tryz.ntmps216;go_wp2
  go_quiet (exact Calls.quiet_of_same (l1Mod_is v a _ m HM.out (by omega) (by omega)))
  go_wp2;exact bodyPost_ret (v := .tuple #[.slice none 0 0, .bool true]) (by simp [results, Tryz.results216, go_sem]) rfl (ansA_nil (below_draws (below1 _ _) _))
 ·have ha : appSt 4 a b v = ([v], false) := by rw [appSt4, HM.out, if_neg hh]
  rw [ha];have hc : (m == b) = false := by simp [hh]
  clear hh ha;go_enter Tryz.func216, Tryz.ntmps216;go_wp2
  go_quiet (exact Calls.quiet_of_same (l1Mod_is v a _ m HM.out (by omega) (by omega)))
  go_wp2;exact bodyPost_ret (v := .tuple #[.slice (some ⟨w.heap.size + 1, 0, none⟩) 1 1, .bool false]) (by simp [results, Tryz.results216, go_sem]) rfl (ansA_one (below_draws (below1 _ _) _) (by simp))
set_option maxHeartbeats 4000000 in
theorem filterOne_is (a b v : Int) (w : World) (hg : goodSt 2 a b = true) :
  Calls Tryz.prog 148 #[.agg #[.int .i64 2, .int .i64 a, .int .i64 b], .int .i64 v] w (AnsA w (appSt 2 a b v)) := by
 have g1 := good2 hg;clear hg
 generalize hm : v % a = m
 have HM := hid hm;clear hm
 by_cases hh : m = b
 ·have ha : appSt 2 a b v = ([v], false) := by rw [appSt2, HM.out, if_pos hh]
  rw [ha];have hc : (m != b) = false := by simp [hh]
  clear hh ha;go_enter Tryz.func148, Tryz.ntmps148;go_wp2
  go_quiet (exact Calls.quiet_of_same (modulo_is v a _ m HM.out (by omega) (by omega)))
  go_wp2;exact bodyPost_ret (v := .tuple #[.slice (some ⟨w.heap.size + 1, 0, none⟩) 1 1, .bool false]) (by simp [results, Tryz.results148, go_sem]) rfl (ansA_one (below_draws (below1 _ _) _) (by simp))
 ·have ha : appSt 2 a b v = ([], false) := by rw [appSt2, HM.out, if_neg hh]
  rw [ha];have hc : (m != b) = true := by simp [hh]
  clear hh ha;go_enter Tryz.func148, Tryz.ntmps148;go_wp2
  go_quiet (exact Calls.quiet_of_same (modulo_is v a _ m HM.out (by omega) (by omega)))
  go_wp2;exact bodyPost_ret (v := .tuple #[.slice none 0 0, .bool false]) (by simp [results, Tryz.results148, go_sem]) rfl (ansA_nil (below_draws (below1 _ _) _))
set_option maxHeartbeats 4000000 in
theorem poisonOne_is (a b v : Int) (w : World) (hg : goodSt 4 a b = true) :
  Calls Tryz.prog 152 #[.agg #[.int .i64 4, .int .i64 a, .int .i64 b], .int .i64 v] w (AnsA w (appSt 4 a b v)) := by
 have g1 := good4 hg;clear hg
 generalize hm : v % a = m
 have HM := hid hm;clear hm
 by_cases hh : m = b
 ·have ha : appSt 4 a b v = ([], true) := by rw [appSt4, HM.out, if_pos hh]
  rw [ha];have hc : (m == b) = true := by simp [hh]
  clear hh ha;go_enter Tryz.func152, Tryz.ntmps152;go_wp2
  go_quiet (exact Calls.quiet_of_same (modulo_is v a _ m HM.out (by omega) (by omega)))
  go_wp2;exact bodyPost_ret (v := .tuple #[.slice none 0 0, .bool true]) (by simp [results, Tryz.results152, go_sem]) rfl (ansA_nil (below_draws (below1 _ _) _))
 ·have ha : appSt 4 a b v = ([v], false) := by rw [appSt4, HM.out, if_neg hh]
  rw [ha];have hc : (m == b) = false := by simp [hh]
  clear hh ha;go_enter Tryz.func152, Tryz.ntmps152;go_wp2
  go_quiet (exact Calls.quiet_of_same (modulo_is v a _ m HM.out (by omega) (by omega)))
  go_wp2;exact bodyPost_ret (v := .tuple #[.slice (some ⟨w.heap.size + 1, 0, none⟩) 1 1, .bool false]) (by simp [results, Tryz.results152, go_sem]) rfl (ansA_one (below_draws (below1 _ _) _) (by simp))
set_option maxHeartbeats 8000000 in
theorem l7Apply3 (a b v : Int) (w : World) (hg : goodSt 3 a b = true) (hv : valB v = true) :
  Calls Tryz.prog 216 #[.agg #[.int .i64 3, .int .i64 a, .int .i64 b], .int .i64 v] w (AnsA w (appSt 3 a b v)) := by
 have g1 := good3 hg;have v1 := val_of hv;rw [appSt3];obtain ⟨n, hn⟩ : ∃ n : Nat, a = n := ⟨a.toNat, by omega⟩;subst hn;have hn3 : n ≤ 3 := by omega
 have hn1 : 1 ≤ n := by omega
 have hb1 : -1000 ≤ b ∧ b ≤ 1000 := g1.2.2;rw [show (n : Int).toNat = n from by simp];clear hg hv g1;have A0 := hid (Bx.new (w := w) (p := w.heap.size) [.int .i64 3, .int .i64 n, .int .i64 b] 24 rfl);have hB0 := below1 w (.cells #[.int .i64 3, .int .i64 n, .int .i64 b] 24);go_enter Tryz.func216, Tryz.ntmps216;go_wp2
 go_loopw [6, 7] (fun u i wr => ∃ (k : Nat) (v' : Value), v' = u ∧ k ≤ n ∧ i = .int .i64 k ∧ Hid (kI.Own (w.heap.size + 1) wr v' (expI k b v)) ∧ Hid (Bx wr w.heap.size [.int .i64 3, .int .i64 n, .int .i64 b]) ∧ Below w.heap.size w wr ∧ w.heap.size + 1 ≤ wr.heap.size) (fun _ i _ => n - (intOf i).toNat)
 case atStart => exact ⟨0, _, rfl, Nat.zero_le _, rfl, Kind.Own.nil _ _ _, A0, hB0, by simp⟩
 case round =>
  obtain ⟨k, u, rfl, hk, rfl, hO, hA, hB, hs⟩ := hrel;have a0 := hA.out.c 0 rfl;have a1 := hA.out.c 1 rfl;have a2 := hA.out.c 2 rfl
  by_cases hlt : k < n
  ·have hkb : -3000 ≤ (k : Int) * b ∧ (k : Int) * b ≤ 3000 := by
    have hq : ((k : Int) * b).natAbs ≤ 3 * 1000 := by rw [Int.natAbs_mul]; exact Nat.mul_le_mul (by omega) (by omega)
    omega
   obtain ⟨z, hz⟩ : ∃ z, z = cutI (v + (k : Int) * b) := ⟨_, rfl⟩;have HZ := hid hz;clear hz;have HA : Hid (kI.Own (w.heap.size + 1) (wr.alloc (.cells #[.int .i64 z] 3)) u (expI k b v)) := hO.out.below (below1 _ _);have HN : Hid (kI.In (wr.heap.size + 1) (wr.alloc (.cells #[.int .i64 z] 3)) (some ⟨wr.heap.size, 0, none⟩) [z]) := int_one (by omega) (by simp);have hll : (expI k b v).length + 1 ≤ 4194304 := by rw [expI_len]; omega
   have hBa : Below w.heap.size w (wr.alloc (.cells #[.int .i64 z] 3)) := Below.allocS hB _;have hA2 := hid (hA.out.alloc (.cells #[.int .i64 z] 3));go_wp2_with fail;refine (l7Cut_is (v + (k : Int) * b) _ z HZ.out.symm).mono ?_;rintro e w1 ⟨rfl, hw1⟩;rw [hw1]; clear hw1 w1
   go_wp2_with (at_builtin; refine Kind.app kI_ok (wr.alloc (.cells #[.int .i64 z] 3)) rfl (.tmp 45) (.tmp 53) rfl (w.heap.size + 1) u (expI k b v) rfl HA.out (by simp; omega) (some ⟨wr.heap.size, 0, none⟩) [z] 1 1 rfl rfl (by simp) _ HN.out hll ?_; intro v' w' hO' hB' hG' hn'; have hB2 : Below w.heap.size w w' := hBa.trans (hB'.mono (by omega)); have hs2 : w.heap.size + 1 ≤ w'.heap.size := (by have := hB'.size; simp at this; omega); have HA3 := hid (hA2.out.below hB' (by omega)); have HO' : Hid (kI.Own (w.heap.size + 1) w' v' (expI (k + 1) b v)) := (by rw [Hid, expI_succ, ← HZ.out]; exact hO'); clear hO' hB' hG' hn');go_roundw
   case rel => exact ⟨k + 1, v', rfl, by omega, by go_num, HO', HA3, hB2, hs2⟩
   case measure => simp [intOf]; omega
  ·obtain rfl : k = n := by omega
   obtain ⟨qo, qc, rfl, hq0, hF⟩ := hO.out.fresh;have HF : Hid (kI.Fresh w.heap.size wr.heap.size wr qo qc (expI k b v)) := hF.wide (by omega) (Nat.le_refl _);have HQ := hid hq0;clear hF hO hq0;go_wp2;exact bodyPost_ret (v := .tuple #[.slice qo (expI k b v).length qc, .bool false]) (by simp [results, Tryz.results216, go_sem]) rfl ⟨⟨_, _, rfl, HQ.out, HF.out⟩, hB⟩
set_option maxHeartbeats 8000000 in
theorem expandOne_is (a b v : Int) (w : World) (hg : goodSt 3 a b = true) (hv : valB v = true) :
  Calls Tryz.prog 150 #[.agg #[.int .i64 3, .int .i64 a, .int .i64 b], .int .i64 v] w (AnsA w (appSt 3 a b v)) := by
 have g1 := good3 hg;have v1 := val_of hv;rw [appSt3];obtain ⟨n, hn⟩ : ∃ n : Nat, a = n := ⟨a.toNat, by omega⟩;subst hn;have hn3 : n ≤ 3 := by omega
 have hn1 : 1 ≤ n := by omega
 have hb1 : -1000 ≤ b ∧ b ≤ 1000 := g1.2.2;rw [show (n : Int).toNat = n from by simp];clear hg hv g1;have A0 := hid (Bx.new (w := w) (p := w.heap.size) [.int .i64 3, .int .i64 n, .int .i64 b] 24 rfl);have hB0 := below1 w (.cells #[.int .i64 3, .int .i64 n, .int .i64 b] 24);go_enter Tryz.func150, Tryz.ntmps150;go_wp2
 go_loopw [6, 10] (fun u i wr => ∃ (k : Nat) (v' : Value), v' = u ∧ k ≤ n ∧ i = .int .i64 k ∧ Hid (kI.Own (w.heap.size + 1) wr v' (expI k b v)) ∧ Hid (Bx wr w.heap.size [.int .i64 3, .int .i64 n, .int .i64 b]) ∧ Below w.heap.size w wr ∧ w.heap.size + 1 ≤ wr.heap.size) (fun _ i _ => n - (intOf i).toNat)
 case atStart => exact ⟨0, _, rfl, Nat.zero_le _, rfl, Kind.Own.nil _ _ _, A0, hB0, by simp⟩
 case round =>
  obtain ⟨k, u, rfl, hk, rfl, hO, hA, hB, hs⟩ := hrel;have a0 := hA.out.c 0 rfl;have a1 := hA.out.c 1 rfl;have a2 := hA.out.c 2 rfl
  by_cases hlt : k < n
  ·have hkb : -3000 ≤ (k : Int) * b ∧ (k : Int) * b ≤ 3000 := by
    have hq : ((k : Int) * b).natAbs ≤ 3 * 1000 := by rw [Int.natAbs_mul]; exact Nat.mul_le_mul (by omega) (by omega)
    omega
   obtain ⟨z, hz⟩ : ∃ z, z = cutI (v + (k : Int) * b) := ⟨_, rfl⟩;have HZ := hid hz;clear hz;have HA : Hid (kI.Own (w.heap.size + 1) (wr.alloc (.cells #[.int .i64 z] 3)) u (expI k b v)) := hO.out.below (below1 _ _);have HN : Hid (kI.In (wr.heap.size + 1) (wr.alloc (.cells #[.int .i64 z] 3)) (some ⟨wr.heap.size, 0, none⟩) [z]) := int_one (by omega) (by simp);have hll : (expI k b v).length + 1 ≤ 4194304 := by rw [expI_len]; omega
   have hBa : Below w.heap.size w (wr.alloc (.cells #[.int .i64 z] 3)) := Below.allocS hB _;have hA2 := hid (hA.out.alloc (.cells #[.int .i64 z] 3));go_wp2_with fail;refine (cutTo_is (v + (k : Int) * b) _ z HZ.out.symm).mono ?_;rintro e w1 ⟨rfl, hw1⟩;rw [hw1]; clear hw1 w1
   go_wp2_with (at_builtin; refine Kind.app kI_ok (wr.alloc (.cells #[.int .i64 z] 3)) rfl (.tmp 13) (.tmp 21) rfl (w.heap.size + 1) u (expI k b v) rfl HA.out (by simp; omega) (some ⟨wr.heap.size, 0, none⟩) [z] 1 1 rfl rfl (by simp) _ HN.out hll ?_; intro v' w' hO' hB' hG' hn'; have hB2 : Below w.heap.size w w' := hBa.trans (hB'.mono (by omega)); have hs2 : w.heap.size + 1 ≤ w'.heap.size := (by have := hB'.size; simp at this; omega); have HA3 := hid (hA2.out.below hB' (by omega)); have HO' : Hid (kI.Own (w.heap.size + 1) w' v' (expI (k + 1) b v)) := (by rw [Hid, expI_succ, ← HZ.out]; exact hO'); clear hO' hB' hG' hn');go_roundw
   case rel => exact ⟨k + 1, v', rfl, by omega, by go_num, HO', HA3, hB2, hs2⟩
   case measure => simp [intOf]; omega
  ·obtain rfl : k = n := by omega
   obtain ⟨qo, qc, rfl, hq0, hF⟩ := hO.out.fresh;have HF : Hid (kI.Fresh w.heap.size wr.heap.size wr qo qc (expI k b v)) := hF.wide (by omega) (Nat.le_refl _);have HQ := hid hq0;clear hF hO hq0;go_wp2;exact bodyPost_ret (v := .tuple #[.slice qo (expI k b v).length qc, .bool false]) (by simp [results, Tryz.results150, go_sem]) rfl ⟨⟨_, _, rfl, HQ.out, HF.out⟩, hB⟩
theorem l7Apply_any (k a b v : Int) (w : World) (hg : goodSt k a b = true) (hv : valB v = true) :
  Calls Tryz.prog 216 #[.agg #[.int .i64 k, .int .i64 a, .int .i64 b], .int .i64 v] w (AnsA w (appSt k a b v)) := by
 rcases good_kind hg with rfl | rfl | rfl | rfl
 ·exact l7Apply1 a b v w hg hv
 ·exact l7Apply2 a b v w hg
 ·exact l7Apply3 a b v w hg hv
 ·exact l7Apply4 a b v w hg
end
section
open Go.RowKit

/-- A row of ints of its own and two bools are answered. -/
def AnsB (w : World) (r : List Int × Bool × Bool) (e : Ending) (w' : World) : Prop :=
 (∃ o c, e = .returned (.tuple #[.slice o r.1.length c, .bool r.2.1, .bool r.2.2]) ∧ (o = none → c = 0) ∧ kI.Fresh w.heap.size w'.heap.size w' o c r.1) ∧ Below w.heap.size w w'
theorem ansB_nil {w W : World} {b c : Bool} (hB : Below w.heap.size w W) : AnsB w ([], b, c) (.returned (.tuple #[.slice none 0 0, .bool b, .bool c])) W :=
 ⟨⟨_, _, rfl, fun _ => rfl, .inl rfl⟩, hB⟩
/-- ApplyStage. -/
def appR (k a b v : Int) : List Int × Bool × Bool := if goodSt k a b && valB v then ((appSt k a b v).1, (appSt k a b v).2, true) else ([], false, false)
theorem appR_yes {k a b v : Int} (h : goodSt k a b = true) (hv : valB v = true) : appR k a b v = ((appSt k a b v).1, (appSt k a b v).2, true) := by simp [appR, h, hv]
theorem appR_no1 {k a b v : Int} (h : goodSt k a b = false) : appR k a b v = ([], false, false) := by simp [appR, h]
theorem appR_no2 {k a b v : Int} (hv : valB v = false) : appR k a b v = ([], false, false) := by simp [appR, hv]
theorem appR_len (k a b v : Int) : (appR k a b v).1.length ≤ 3 := by
 unfold appR
 split
 ·rename_i h;exact appSt_len (by revert h; cases goodSt k a b <;> simp)
 ·simp
set_option maxHeartbeats 4000000 in
theorem implApp0 (k a b v : Int) (w : World) (hg : goodSt k a b = false) : Calls Tryz.prog 237 #[.agg #[.int .i64 k, .int .i64 a, .int .i64 b], .int .i64 v] w (AnsB w (appR k a b v)) := by
 rw [appR_no1 hg];have HG := hid hg;clear hg;go_enter Tryz.func237, Tryz.ntmps237;go_wp2_with fail;refine (goodKind_no k a b _ HG.out).mono ?_;rintro e w1 ⟨rfl, hb1⟩;have hB1 := (below1 w (.cells #[.int .i64 k, .int .i64 a, .int .i64 b] 24)).trans (hb1.mono (by simp));clear hb1;go_wp2;exact bodyPost_ret (v := .tuple #[.slice none 0 0, .bool false, .bool false]) (by simp [results, Tryz.results237, go_sem]) rfl (ansB_nil (Below.allocS hB1 _))
set_option maxHeartbeats 4000000 in
theorem implApp1n (a b v : Int) (w : World) (hg : goodSt 1 a b = true) (hv : valB v = false) : Calls Tryz.prog 237 #[.agg #[.int .i64 1, .int .i64 a, .int .i64 b], .int .i64 v] w (AnsB w (appR 1 a b v)) := by
 rw [appR_no2 hv];have HG := hid hg;have HV := hid hv;clear hg hv;go_enter Tryz.func237, Tryz.ntmps237;go_wp2_with fail;refine (goodKind1_true a b _ HG.out).mono ?_;rintro e w1 ⟨rfl, hb1⟩;have hB1 := Below.allocS ((below1 w (.cells #[.int .i64 1, .int .i64 a, .int .i64 b] 24)).trans (hb1.mono (by simp))) (.cells #[.func (.func 144) #[] #[], .func (.func 145) #[] #[], .func (.func 146) #[] #[]] 147);have XS := hid (((Bx.new (w := w) (p := w.heap.size) [.int .i64 1, .int .i64 a, .int .i64 b] 24 rfl).later hb1).alloc (.cells #[.func (.func 144) #[] #[], .func (.func 145) #[] #[], .func (.func 146) #[] #[]] 147));have XK := hid (Bx.new (w := w1) (p := w1.heap.size) [.func (.func 144) #[] #[], .func (.func 145) #[] #[], .func (.func 146) #[] #[]] 147 rfl);clear hb1;go_wp2_with fail;refine (isValue_is v _ _ HV.out).mono ?_;rintro e w2 ⟨rfl, hw2⟩;rw [hw2]; clear hw2 w2
 go_wp2;exact bodyPost_ret (v := .tuple #[.slice none 0 0, .bool false, .bool false]) (by simp [results, Tryz.results237, go_sem]) rfl (ansB_nil hB1)
set_option maxHeartbeats 4000000 in
theorem implApp1y (a b v : Int) (w : World) (hg : goodSt 1 a b = true) (hv : valB v = true) : Calls Tryz.prog 237 #[.agg #[.int .i64 1, .int .i64 a, .int .i64 b], .int .i64 v] w (AnsB w (appR 1 a b v)) := by
 rw [appR_yes hg hv];have HG := hid hg;have HV := hid hv;clear hg hv
 generalize hr : appSt 1 a b v = r
 have HR := hid hr;clear hr;go_enter Tryz.func237, Tryz.ntmps237;go_wp2_with fail;refine (goodKind1_true a b _ HG.out).mono ?_;rintro e w1 ⟨rfl, hb1⟩;have hB1 := Below.allocS ((below1 w (.cells #[.int .i64 1, .int .i64 a, .int .i64 b] 24)).trans (hb1.mono (by simp))) (.cells #[.func (.func 144) #[] #[], .func (.func 145) #[] #[], .func (.func 146) #[] #[]] 147);have XS := hid (((Bx.new (w := w) (p := w.heap.size) [.int .i64 1, .int .i64 a, .int .i64 b] 24 rfl).later hb1).alloc (.cells #[.func (.func 144) #[] #[], .func (.func 145) #[] #[], .func (.func 146) #[] #[]] 147));have XK := hid (Bx.new (w := w1) (p := w1.heap.size) [.func (.func 144) #[] #[], .func (.func 145) #[] #[], .func (.func 146) #[] #[]] 147 rfl);clear hb1;go_wp2_with fail;refine (isValue_is v _ _ HV.out).mono ?_;rintro e w2 ⟨rfl, hw2⟩;rw [hw2]; clear hw2 w2
 have s0 := XS.out.c 0 rfl;have s1 := XS.out.c 1 rfl;have s2 := XS.out.c 2 rfl;have k0 := XK.out.c 0 rfl;have k1 := XK.out.c 1 rfl;have k2 := XK.out.c 2 rfl;go_wp2_with fail;clear s0 s1 s2 k0 k1 k2;refine (mapOne_is a b v _ HG.out HV.out).mono ?_;rintro e w2 ⟨⟨o, c, rfl, h0, hF⟩, hb2⟩;rw [HR.out] at hF ⊢;have hB2 := hB1.trans (hb2.mono hB1.size);have HF := hid (hF.wide (lo' := w.heap.size) hB1.size (Nat.le_refl _));have H0 := hid h0;clear hF hb2 h0 XS XK hB1;go_wp2;exact bodyPost_ret (v := .tuple #[.slice o r.1.length c, .bool r.2, .bool true]) (by simp [results, Tryz.results237, go_sem]) rfl ⟨⟨_, _, rfl, H0.out, HF.out⟩, hB2⟩
set_option maxHeartbeats 4000000 in
theorem implApp2n (a b v : Int) (w : World) (hg : goodSt 2 a b = true) (hv : valB v = false) : Calls Tryz.prog 237 #[.agg #[.int .i64 2, .int .i64 a, .int .i64 b], .int .i64 v] w (AnsB w (appR 2 a b v)) := by
 rw [appR_no2 hv];have HG := hid hg;have HV := hid hv;clear hg hv;go_enter Tryz.func237, Tryz.ntmps237;go_wp2_with fail;refine (goodKind2_true a b _ HG.out).mono ?_;rintro e w1 ⟨rfl, hb1⟩;have hB1 := Below.allocS ((below1 w (.cells #[.int .i64 2, .int .i64 a, .int .i64 b] 24)).trans (hb1.mono (by simp))) (.cells #[.func (.func 147) #[] #[], .func (.func 148) #[] #[], .func (.func 146) #[] #[]] 147);have XS := hid (((Bx.new (w := w) (p := w.heap.size) [.int .i64 2, .int .i64 a, .int .i64 b] 24 rfl).later hb1).alloc (.cells #[.func (.func 147) #[] #[], .func (.func 148) #[] #[], .func (.func 146) #[] #[]] 147));have XK := hid (Bx.new (w := w1) (p := w1.heap.size) [.func (.func 147) #[] #[], .func (.func 148) #[] #[], .func (.func 146) #[] #[]] 147 rfl);clear hb1;go_wp2_with fail;refine (isValue_is v _ _ HV.out).mono ?_;rintro e w2 ⟨rfl, hw2⟩;rw [hw2]; clear hw2 w2
 go_wp2;exact bodyPost_ret (v := .tuple #[.slice none 0 0, .bool false, .bool false]) (by simp [results, Tryz.results237, go_sem]) rfl (ansB_nil hB1)
set_option maxHeartbeats 4000000 in
theorem implApp2y (a b v : Int) (w : World) (hg : goodSt 2 a b = true) (hv : valB v = true) : Calls Tryz.prog 237 #[.agg #[.int .i64 2, .int .i64 a, .int .i64 b], .int .i64 v] w (AnsB w (appR 2 a b v)) := by
 rw [appR_yes hg hv];have HG := hid hg;have HV := hid hv;clear hg hv
 generalize hr : appSt 2 a b v = r
 have HR := hid hr;clear hr;go_enter Tryz.func237, Tryz.ntmps237;go_wp2_with fail;refine (goodKind2_true a b _ HG.out).mono ?_;rintro e w1 ⟨rfl, hb1⟩;have hB1 := Below.allocS ((below1 w (.cells #[.int .i64 2, .int .i64 a, .int .i64 b] 24)).trans (hb1.mono (by simp))) (.cells #[.func (.func 147) #[] #[], .func (.func 148) #[] #[], .func (.func 146) #[] #[]] 147);have XS := hid (((Bx.new (w := w) (p := w.heap.size) [.int .i64 2, .int .i64 a, .int .i64 b] 24 rfl).later hb1).alloc (.cells #[.func (.func 147) #[] #[], .func (.func 148) #[] #[], .func (.func 146) #[] #[]] 147));have XK := hid (Bx.new (w := w1) (p := w1.heap.size) [.func (.func 147) #[] #[], .func (.func 148) #[] #[], .func (.func 146) #[] #[]] 147 rfl);clear hb1;go_wp2_with fail;refine (isValue_is v _ _ HV.out).mono ?_;rintro e w2 ⟨rfl, hw2⟩;rw [hw2]; clear hw2 w2
 have s0 := XS.out.c 0 rfl;have s1 := XS.out.c 1 rfl;have s2 := XS.out.c 2 rfl;have k0 := XK.out.c 0 rfl;have k1 := XK.out.c 1 rfl;have k2 := XK.out.c 2 rfl;go_wp2_with fail;clear s0 s1 s2 k0 k1 k2;refine (filterOne_is a b v _ HG.out).mono ?_;rintro e w2 ⟨⟨o, c, rfl, h0, hF⟩, hb2⟩;rw [HR.out] at hF ⊢;have hB2 := hB1.trans (hb2.mono hB1.size);have HF := hid (hF.wide (lo' := w.heap.size) hB1.size (Nat.le_refl _));have H0 := hid h0;clear hF hb2 h0 XS XK hB1;go_wp2;exact bodyPost_ret (v := .tuple #[.slice o r.1.length c, .bool r.2, .bool true]) (by simp [results, Tryz.results237, go_sem]) rfl ⟨⟨_, _, rfl, H0.out, HF.out⟩, hB2⟩
set_option maxHeartbeats 4000000 in
theorem implApp3n (a b v : Int) (w : World) (hg : goodSt 3 a b = true) (hv : valB v = false) : Calls Tryz.prog 237 #[.agg #[.int .i64 3, .int .i64 a, .int .i64 b], .int .i64 v] w (AnsB w (appR 3 a b v)) := by
 rw [appR_no2 hv];have HG := hid hg;have HV := hid hv;clear hg hv;go_enter Tryz.func237, Tryz.ntmps237;go_wp2_with fail;refine (goodKind3_true a b _ HG.out).mono ?_;rintro e w1 ⟨rfl, hb1⟩;have hB1 := Below.allocS ((below1 w (.cells #[.int .i64 3, .int .i64 a, .int .i64 b] 24)).trans (hb1.mono (by simp))) (.cells #[.func (.func 149) #[] #[], .func (.func 150) #[] #[], .func (.func 151) #[] #[]] 147);have XS := hid (((Bx.new (w := w) (p := w.heap.size) [.int .i64 3, .int .i64 a, .int .i64 b] 24 rfl).later hb1).alloc (.cells #[.func (.func 149) #[] #[], .func (.func 150) #[] #[], .func (.func 151) #[] #[]] 147));have XK := hid (Bx.new (w := w1) (p := w1.heap.size) [.func (.func 149) #[] #[], .func (.func 150) #[] #[], .func (.func 151) #[] #[]] 147 rfl);clear hb1;go_wp2_with fail;refine (isValue_is v _ _ HV.out).mono ?_;rintro e w2 ⟨rfl, hw2⟩;rw [hw2]; clear hw2 w2
 go_wp2;exact bodyPost_ret (v := .tuple #[.slice none 0 0, .bool false, .bool false]) (by simp [results, Tryz.results237, go_sem]) rfl (ansB_nil hB1)
set_option maxHeartbeats 4000000 in
theorem implApp3y (a b v : Int) (w : World) (hg : goodSt 3 a b = true) (hv : valB v = true) : Calls Tryz.prog 237 #[.agg #[.int .i64 3, .int .i64 a, .int .i64 b], .int .i64 v] w (AnsB w (appR 3 a b v)) := by
 rw [appR_yes hg hv];have HG := hid hg;have HV := hid hv;clear hg hv
 generalize hr : appSt 3 a b v = r
 have HR := hid hr;clear hr;go_enter Tryz.func237, Tryz.ntmps237;go_wp2_with fail;refine (goodKind3_true a b _ HG.out).mono ?_;rintro e w1 ⟨rfl, hb1⟩;have hB1 := Below.allocS ((below1 w (.cells #[.int .i64 3, .int .i64 a, .int .i64 b] 24)).trans (hb1.mono (by simp))) (.cells #[.func (.func 149) #[] #[], .func (.func 150) #[] #[], .func (.func 151) #[] #[]] 147);have XS := hid (((Bx.new (w := w) (p := w.heap.size) [.int .i64 3, .int .i64 a, .int .i64 b] 24 rfl).later hb1).alloc (.cells #[.func (.func 149) #[] #[], .func (.func 150) #[] #[], .func (.func 151) #[] #[]] 147));have XK := hid (Bx.new (w := w1) (p := w1.heap.size) [.func (.func 149) #[] #[], .func (.func 150) #[] #[], .func (.func 151) #[] #[]] 147 rfl);clear hb1;go_wp2_with fail;refine (isValue_is v _ _ HV.out).mono ?_;rintro e w2 ⟨rfl, hw2⟩;rw [hw2]; clear hw2 w2
 have s0 := XS.out.c 0 rfl;have s1 := XS.out.c 1 rfl;have s2 := XS.out.c 2 rfl;have k0 := XK.out.c 0 rfl;have k1 := XK.out.c 1 rfl;have k2 := XK.out.c 2 rfl;go_wp2_with fail;clear s0 s1 s2 k0 k1 k2;refine (expandOne_is a b v _ HG.out HV.out).mono ?_;rintro e w2 ⟨⟨o, c, rfl, h0, hF⟩, hb2⟩;rw [HR.out] at hF ⊢;have hB2 := hB1.trans (hb2.mono hB1.size);have HF := hid (hF.wide (lo' := w.heap.size) hB1.size (Nat.le_refl _));have H0 := hid h0;clear hF hb2 h0 XS XK hB1;go_wp2;exact bodyPost_ret (v := .tuple #[.slice o r.1.length c, .bool r.2, .bool true]) (by simp [results, Tryz.results237, go_sem]) rfl ⟨⟨_, _, rfl, H0.out, HF.out⟩, hB2⟩
set_option maxHeartbeats 4000000 in
theorem implApp4n (a b v : Int) (w : World) (hg : goodSt 4 a b = true) (hv : valB v = false) : Calls Tryz.prog 237 #[.agg #[.int .i64 4, .int .i64 a, .int .i64 b], .int .i64 v] w (AnsB w (appR 4 a b v)) := by
 rw [appR_no2 hv];have HG := hid hg;have HV := hid hv;clear hg hv;go_enter Tryz.func237, Tryz.ntmps237;go_wp2_with fail;refine (goodKind4_true a b _ HG.out).mono ?_;rintro e w1 ⟨rfl, hb1⟩;have hB1 := Below.allocS ((below1 w (.cells #[.int .i64 4, .int .i64 a, .int .i64 b] 24)).trans (hb1.mono (by simp))) (.cells #[.func (.func 147) #[] #[], .func (.func 152) #[] #[], .func (.func 146) #[] #[]] 147);have XS := hid (((Bx.new (w := w) (p := w.heap.size) [.int .i64 4, .int .i64 a, .int .i64 b] 24 rfl).later hb1).alloc (.cells #[.func (.func 147) #[] #[], .func (.func 152) #[] #[], .func (.func 146) #[] #[]] 147));have XK := hid (Bx.new (w := w1) (p := w1.heap.size) [.func (.func 147) #[] #[], .func (.func 152) #[] #[], .func (.func 146) #[] #[]] 147 rfl);clear hb1;go_wp2_with fail;refine (isValue_is v _ _ HV.out).mono ?_;rintro e w2 ⟨rfl, hw2⟩;rw [hw2]; clear hw2 w2
 go_wp2;exact bodyPost_ret (v := .tuple #[.slice none 0 0, .bool false, .bool false]) (by simp [results, Tryz.results237, go_sem]) rfl (ansB_nil hB1)
set_option maxHeartbeats 4000000 in
theorem implApp4y (a b v : Int) (w : World) (hg : goodSt 4 a b = true) (hv : valB v = true) : Calls Tryz.prog 237 #[.agg #[.int .i64 4, .int .i64 a, .int .i64 b], .int .i64 v] w (AnsB w (appR 4 a b v)) := by
 rw [appR_yes hg hv];have HG := hid hg;have HV := hid hv;clear hg hv
 generalize hr : appSt 4 a b v = r
 have HR := hid hr;clear hr;go_enter Tryz.func237, Tryz.ntmps237;go_wp2_with fail;refine (goodKind4_true a b _ HG.out).mono ?_;rintro e w1 ⟨rfl, hb1⟩;have hB1 := Below.allocS ((below1 w (.cells #[.int .i64 4, .int .i64 a, .int .i64 b] 24)).trans (hb1.mono (by simp))) (.cells #[.func (.func 147) #[] #[], .func (.func 152) #[] #[], .func (.func 146) #[] #[]] 147);have XS := hid (((Bx.new (w := w) (p := w.heap.size) [.int .i64 4, .int .i64 a, .int .i64 b] 24 rfl).later hb1).alloc (.cells #[.func (.func 147) #[] #[], .func (.func 152) #[] #[], .func (.func 146) #[] #[]] 147));have XK := hid (Bx.new (w := w1) (p := w1.heap.size) [.func (.func 147) #[] #[], .func (.func 152) #[] #[], .func (.func 146) #[] #[]] 147 rfl);clear hb1;go_wp2_with fail;refine (isValue_is v _ _ HV.out).mono ?_;rintro e w2 ⟨rfl, hw2⟩;rw [hw2]; clear hw2 w2
 have s0 := XS.out.c 0 rfl;have s1 := XS.out.c 1 rfl;have s2 := XS.out.c 2 rfl;have k0 := XK.out.c 0 rfl;have k1 := XK.out.c 1 rfl;have k2 := XK.out.c 2 rfl;go_wp2_with fail;clear s0 s1 s2 k0 k1 k2;refine (poisonOne_is a b v _ HG.out).mono ?_;rintro e w2 ⟨⟨o, c, rfl, h0, hF⟩, hb2⟩;rw [HR.out] at hF ⊢;have hB2 := hB1.trans (hb2.mono hB1.size);have HF := hid (hF.wide (lo' := w.heap.size) hB1.size (Nat.le_refl _));have H0 := hid h0;clear hF hb2 h0 XS XK hB1;go_wp2;exact bodyPost_ret (v := .tuple #[.slice o r.1.length c, .bool r.2, .bool true]) (by simp [results, Tryz.results237, go_sem]) rfl ⟨⟨_, _, rfl, H0.out, HF.out⟩, hB2⟩
theorem implApp_any (k a b v : Int) (w : World) : Calls Tryz.prog 237 #[.agg #[.int .i64 k, .int .i64 a, .int .i64 b], .int .i64 v] w (AnsB w (appR k a b v)) := by
 rcases hg : goodSt k a b with _ | _
 ·exact implApp0 k a b v w hg
 ·rcases hv : valB v with _ | _
  ·rcases good_kind hg with rfl | rfl | rfl | rfl
   ·exact implApp1n a b v w hg hv
   ·exact implApp2n a b v w hg hv
   ·exact implApp3n a b v w hg hv
   ·exact implApp4n a b v w hg hv
  ·rcases good_kind hg with rfl | rfl | rfl | rfl
   ·exact implApp1y a b v w hg hv
   ·exact implApp2y a b v w hg hv
   ·exact implApp3y a b v w hg hv
   ·exact implApp4y a b v w hg hv
end
section
open Go.RowKit
end
end Go.Proofs.YtdacedbfnlkghaaGreatDoor
