
/- Rows copied by the program. No conditions but those written. -/
import Derived.Test.YtimkadnnhfllnaaTm
namespace Go.Proofs.Ytimkadnnhfllnaa
open Go.RowKit

set_option maxHeartbeats 1000000 in
theorem copyListI_any (ao : Option Addr) (cap : Nat) (ts : List (Int)) (w : World) (hl : ts.length ≤ 1048576) (hz : kI.In w.heap.size w ao ts) :
    Calls Try.prog 33 #[.slice ao ts.length cap] w fun e w' => (∃ to, e = .returned (.slice to ts.length ts.length) ∧ kI.Fresh w.heap.size w'.heap.size w' to ts.length ts) ∧ Below w.heap.size w w' := by
  by_cases h0 : ts.length = 0
  · obtain rfl : ts = [] := List.length_eq_zero_iff.1 h0
    go_enter Try.func33, Try.ntmps33
    go_wp2
    go_ret
    exact ⟨⟨none, rfl, .inl rfl⟩, Below.refl _ _⟩
  · have h0' : ((ts.length : Int) == 0) = false := (len1 h0).1
    obtain ⟨i0, z0, hi, hz0, hz1, hz2, hz3⟩ := kI_ok.info
    have HZ : Hid (kI.In w.heap.size w ao ts) := hz
    have hby : i0.bytes * ts.length ≤ 281474976710656 := by have : i0.bytes * ts.length ≤ 4096 * 1048576 := Nat.mul_le_mul hz3 hl; omega
    clear hz
    go_enter Try.func33, Try.ntmps33
    go_wp2_with (at_make; refine wpList_make_full _ rfl _ _ kI.st rfl w.heap.size kI.ty i0 z0 kI.sz kI_ok.und hi hz0 hz1 .i64 .i64 _ _ ts.length rfl rfl rfl rfl hby (by unfold maxLen; omega) (Nat.le_refl _) ?_; intro w1 hown hgrow; obtain ⟨cur, hcur, hcl, _⟩ := owns_open hown; have hB1 : Below w.heap.size w w1 := (Below.refl _ _).grown hgrow (Nat.le_refl _) (fun k e => by cases e); obtain ⟨w2, hrun, hh, hO⟩ := Kind.run_copy (n := ts.length) (cap := cap) (ty := 3) kI_ok hcur hcl (Nat.le_refl _) HZ.out hB1; have hB2 : Below w.heap.size w w2 := hB1.trans (hO.below (Nat.le_refl _)); have HH := show Hid (_ ∧ _) from And.intro hcl hh; unfold kI at hrun; dsimp only at hrun; clear hown hgrow hcur hh hO hcl)
    go_ret
    have e : cur.drop (ts.length * kI.sz) = [] := List.drop_eq_nil_of_le (by rw [HH.out.1]; exact Nat.le_refl _)
    have hh := HH.out.2
    rw [e, List.append_nil] at hh
    exact ⟨⟨_, rfl, .inr ⟨w.heap.size, rfl, (Array.getElem?_eq_some_iff.1 hh).1, Kind.own_of_heap hh rfl (Nat.le_refl _) (by omega)⟩⟩, hB2⟩
set_option maxHeartbeats 1000000 in
theorem copyListS_any (ao : Option Addr) (cap : Nat) (ts : List (LSub)) (w : World) (hl : ts.length ≤ 1048576) (hz : hSub.In w.heap.size w ao ts) :
    Calls Try.prog 32 #[.slice ao ts.length cap] w fun e w' => (∃ to, e = .returned (.slice to ts.length ts.length) ∧ hSub.Fresh w.heap.size w'.heap.size w' to ts.length ts) ∧ Below w.heap.size w w' := by
  by_cases h0 : ts.length = 0
  · obtain rfl : ts = [] := List.length_eq_zero_iff.1 h0
    go_enter Try.func32, Try.ntmps32
    go_wp2
    go_ret
    exact ⟨⟨none, rfl, .inl rfl⟩, Below.refl _ _⟩
  · have h0' : ((ts.length : Int) == 0) = false := (len1 h0).1
    obtain ⟨i0, z0, hi, hz0, hz1, hz2, hz3⟩ := hSub_ok.info
    have HZ : Hid (hSub.In w.heap.size w ao ts) := hz
    have hby : i0.bytes * ts.length ≤ 281474976710656 := by have : i0.bytes * ts.length ≤ 4096 * 1048576 := Nat.mul_le_mul hz3 hl; omega
    clear hz
    go_enter Try.func32, Try.ntmps32
    go_wp2_with (at_make; refine wpList_make_full _ rfl _ _ hSub.st rfl w.heap.size hSub.ty i0 z0 hSub.sz hSub_ok.und hi hz0 hz1 .i64 .i64 _ _ ts.length rfl rfl rfl rfl hby (by unfold maxLen; omega) (Nat.le_refl _) ?_; intro w1 hown hgrow; obtain ⟨cur, hcur, hcl, _⟩ := owns_open hown; have hB1 : Below w.heap.size w w1 := (Below.refl _ _).grown hgrow (Nat.le_refl _) (fun k e => by cases e); obtain ⟨w2, hrun, hh, hO⟩ := Kind.run_copy (n := ts.length) (cap := cap) (ty := 3) hSub_ok hcur hcl (Nat.le_refl _) HZ.out hB1; have hB2 : Below w.heap.size w w2 := hB1.trans (hO.below (Nat.le_refl _)); have HH := show Hid (_ ∧ _) from And.intro hcl hh; unfold hSub at hrun; dsimp only at hrun; clear hown hgrow hcur hh hO hcl)
    go_ret
    have e : cur.drop (ts.length * hSub.sz) = [] := List.drop_eq_nil_of_le (by rw [HH.out.1]; exact Nat.le_refl _)
    have hh := HH.out.2
    rw [e, List.append_nil] at hh
    exact ⟨⟨_, rfl, .inr ⟨w.heap.size, rfl, (Array.getElem?_eq_some_iff.1 hh).1, Kind.own_of_heap hh rfl (Nat.le_refl _) (by omega)⟩⟩, hB2⟩
end Go.Proofs.Ytimkadnnhfllnaa
