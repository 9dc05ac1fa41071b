
/- The law's callees with their answers as variables. No conditions but those written. -/
import Derived.Test.YtgbnbnjfaffaiaaXm
import Derived.Test.YtgbnbnjfaffaiaaOQf
import Derived.Test.YtgbnbnjfaffaiaaOMg
import Derived.Test.YtgbnbnjfaffaiaaOWi
import Derived.Test.YtgbnbnjfaffaiaaOWk
namespace Go.Proofs.Ytgbnbnjfaffaiaa
open Go.RowKit

set_option maxHeartbeats 2000000 in
theorem has_is (n₀ : Nat) (ao : Option Addr) (cap : Nat) (zs : List Int) (n : Int) (w : World) (b : Bool) (hl : zs.length ≤ 1048576) (hz : kI.In n₀ w ao zs) (hb : hasB zs n = b) :
    Calls Try.prog 8 #[.slice ao zs.length cap, .int .i64 n] w fun e w' => e = .returned (.bool b) ∧ w' = w := by
  have HB : Hid (hasB zs n = b) := hb
  clear hb
  go_enter Try.func8, Try.ntmps8
  go_wp2
  go_loop [9] (fun i => ∃ k : Nat, k ≤ zs.length ∧ i = .int .i64 k ∧ Hid (∀ j, j < k → el zs j ≠ n)) (fun i => zs.length - (intOf i).toNat)
  case atStart => exact ⟨0, Nat.zero_le _, rfl, fun j hj => by omega⟩
  case round =>
    obtain ⟨k, hk, rfl, hno⟩ := hrel
    by_cases hlt : k < zs.length
    · obtain ⟨b, off, rfl, hb, hc⟩ := ints_at hz hlt
      have hck := hc k hlt
      clear hc hz
      obtain ⟨x, hx⟩ : ∃ x, x = el zs k := ⟨_, rfl⟩
      rw [← hx] at hck
      have HX : Hid (x = el zs k) := hx
      clear hx
      by_cases he : x = n
      · have he' : (x == n) = true := by simpa using he
        have HY : Hid (hasB zs n = true) := hasB_yes hlt (by rw [← HX.out]; exact he)
        clear he
        go_wp2
        go_ret
        exact ⟨ret_bool (by rw [← HB.out, HY.out]), rfl⟩
      · have he' : (x == n) = false := by simpa using he
        go_wp2
        go_round
        case rel => exact ⟨k + 1, by omega, by go_num, fun j hj => by
          rcases Nat.lt_succ_iff_lt_or_eq.1 hj with h | rfl
          · exact hno.out j h
          · rw [← HX.out]; exact he⟩
        case measure => simp [intOf]; omega
    · obtain rfl : k = zs.length := by omega
      have HN : Hid (hasB zs n = false) := hasB_no hno.out
      go_wp2
      go_ret
      exact ⟨ret_bool (by rw [← HB.out, HN.out]), rfl⟩
theorem in_T {lo hi : Nat} {W : World} {to : Option Addr} {tc : Nat} {ts : List (Int × Int)} (h : Old.FreshT lo hi W to tc ts) : kT.In W.heap.size W to ts := by
  rcases Nat.eq_zero_or_pos ts.length with e | e
  · exact .inl (List.length_eq_zero_iff.1 e)
  · exact (old_T h e).in
theorem in_I {lo hi : Nat} {W : World} {to : Option Addr} {tc : Nat} {q : List Int} (h : Old.FreshI lo hi W to tc q) : kI.In W.heap.size W to q := by
  rcases Nat.eq_zero_or_pos q.length with e | e
  · exact .inl (List.length_eq_zero_iff.1 e)
  · exact (old_I h e).in
theorem implPick_as (to : Option Addr) (tc : Nat) (ts : List (Int × Int)) (qo : Option Addr) (qc : Nat) (q : List Int) (iv : Int) (T : List (Int × Int)) (Q : List Int) (id cd : Int) (w : World) (ht : ts.length ≤ 1048576) (hq : q.length ≤ 1048576) (h1 : kT.In w.heap.size w to ts) (h2 : kI.In w.heap.size w qo q) (h : Old.pickR iv ts q = (T, Q, id, cd)) :
    Calls Try.prog 5 #[.agg #[.slice to ts.length tc, .slice qo q.length qc], .int .i64 iv] w fun e w' => (∃ o c o2 c2, e = .returned (.tuple #[.agg #[.slice o T.length c, .slice o2 Q.length c2], .int .i64 id, .int .i64 cd]) ∧ kT.In w'.heap.size w' o T ∧ kI.In w'.heap.size w' o2 Q) ∧ Below w.heap.size w w' :=
  (Old.implPick_any to tc ts qo qc q iv w ht hq (tasks_old h1) (ints_old h2)).mono fun e w' hh => by
    rw [h] at hh
    obtain ⟨⟨o, c, o2, c2, e, f1, f2⟩, hb⟩ := hh
    exact ⟨⟨o, c, o2, c2, e, in_T f1, in_I f2⟩, hb⟩
theorem specPick_as (to : Option Addr) (tc : Nat) (ts : List (Int × Int)) (qo : Option Addr) (qc : Nat) (q : List Int) (iv : Int) (T : List (Int × Int)) (Q : List Int) (id cd : Int) (w : World) (ht : ts.length ≤ 1048576) (hq : q.length ≤ 1048576) (h1 : kT.In w.heap.size w to ts) (h2 : kI.In w.heap.size w qo q) (hwf : (to = none → tc = 0) ∧ (qo = none → qc = 0)) (h : Old.pickR iv ts q = (T, Q, id, cd)) :
    Calls Try.prog 6 #[.agg #[.slice to ts.length tc, .slice qo q.length qc], .int .i64 iv] w fun e w' => (∃ o c o2 c2, e = .returned (.tuple #[.agg #[.slice o T.length c, .slice o2 Q.length c2], .int .i64 id, .int .i64 cd]) ∧ kT.In w'.heap.size w' o T ∧ kI.In w'.heap.size w' o2 Q) ∧ Below w.heap.size w w' :=
  (Old.specPick_any to tc ts qo qc q iv w hwf ht hq (tasks_old h1) (ints_old h2)).mono fun e w' hh => by
    rw [h] at hh
    obtain ⟨⟨o, c, o2, c2, e, f1, f2, _⟩, hb⟩ := hh
    exact ⟨⟨o, c, o2, c2, e, in_T f1, in_I f2⟩, hb⟩
theorem implYield_as (to : Option Addr) (tc : Nat) (ts : List (Int × Int)) (qo : Option Addr) (qc : Nat) (q : List Int) (T : List (Int × Int)) (Q : List Int) (cd : Int) (w : World) (ht : ts.length ≤ 1048576) (hq : q.length ≤ 1048576) (h1 : kT.In w.heap.size w to ts) (h2 : kI.In w.heap.size w qo q) (h : Old.leaveR 1 ts q = (T, Q, cd)) :
    Calls Try.prog 9 #[.agg #[.slice to ts.length tc, .slice qo q.length qc]] w fun e w' => (∃ o c o2 c2, e = .returned (.tuple #[.agg #[.slice o T.length c, .slice o2 Q.length c2], .int .i64 cd]) ∧ kT.In w'.heap.size w' o T ∧ kI.In w'.heap.size w' o2 Q) ∧ Below w.heap.size w w' :=
  (Old.implYield_any to tc ts qo qc q w ht hq (tasks_old h1) (ints_old h2)).mono fun e w' hh => by
    rw [h] at hh
    obtain ⟨⟨o, c, o2, c2, e, f1, f2⟩, hb⟩ := hh
    exact ⟨⟨o, c, o2, c2, e, in_T f1, in_I f2⟩, hb⟩
theorem implGoodB_is (to : Option Addr) (tc : Nat) (ts : List (Int × Int)) (qo : Option Addr) (qc : Nat) (q : List Int) (w : World) (x : Bool) (ht : ts.length ≤ 1048576) (h1 : kT.In w.heap.size w to ts) (h2 : kI.In w.heap.size w qo q) (h : Old.specGoodB ts q = x) :
    Calls Try.prog 7 #[.agg #[.slice to ts.length tc, .slice qo q.length qc]] w fun e w' => e = .returned (.bool x) ∧ Below w.heap.size w w' :=
  (Old.implGood_any to tc ts qo qc q w ht (tasks_old h1) (ints_old h2)).mono fun e w' hh => by rw [h] at hh; exact hh
theorem implMost_is (to : Option Addr) (tc : Nat) (ts : List (Int × Int)) (qo : Option Addr) (qc : Nat) (q : List Int) (w : World) (m : Int) (ht : ts.length ≤ 1048576) (h1 : kT.In w.heap.size w to ts) (h2 : kI.In w.heap.size w qo q) (h : Old.specGoodB ts q = true) (hm : Old.mostP ts = m) :
    Calls Try.prog 10 #[.agg #[.slice to ts.length tc, .slice qo q.length qc]] w fun e w' => e = .returned (.tuple #[.int .i64 m, .bool true]) ∧ Below w.heap.size w w' :=
  (Old.implMost_any to tc ts qo qc q w ht (tasks_old h1) (ints_old h2)).mono fun e w' hh => by rw [Old.mostV, if_pos h, hm] at hh; exact hh
/-- All that the law asks of what is picked. -/
theorem picked_all {iv : Int} {ts : List (Int × Int)} {q : List Int} {T : List (Int × Int)} {Q : List Int} {id : Int} (h : Old.pickR iv ts q = (T, Q, id, 0)) :
    ∃ (n : Nat) (T2 : List (Int × Int)), id = (n : Int) ∧ n < T.length ∧ T.length ≤ 30 ∧ Old.specGoodB T Q = true ∧ hasB Q (n : Int) = false ∧ Q.length + 1 = q.length ∧ (el T n).1 = 2 ∧ Old.leaveR 1 T Q = (T2, Q ++ [(n : Int)], 0) ∧ Old.specGoodB T2 (Q ++ [(n : Int)]) = true ∧ T2.length = T.length := by
  obtain ⟨hg, hn, hl, i0, i1, ht, hf⟩ := Old.pick_good (iv := iv) (ts := ts) (q := q) (by rw [h])
  rw [h] at hg hn hl i0 i1 ht hf
  dsimp only at hg hn hl i0 i1 ht hf
  obtain ⟨y1, y2⟩ := Old.yield_good hg hf
  obtain ⟨n, rfl⟩ : ∃ n : Nat, id = n := ⟨id.toNat, by omega⟩
  rw [Int.toNat_natCast] at ht y1 y2
  refine ⟨n, _, rfl, by omega, (Old.good_at hg).1, hg, by simpa [hasB] using hn, hl, ?_, y1, y2, by simp⟩
  show (Old.tk T n).1 = 2
  rw [ht]
end Go.Proofs.Ytgbnbnjfaffaiaa
