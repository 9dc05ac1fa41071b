
/- Ints of which none is twice there; rows of ints copied. No conditions but those written. -/
import Derived.Test.YteamcpcjooglaaaDoorIa
namespace Go.Proofs.YteamcpcjooglaaaDoor
open Go.RowKit

/-- None twice. -/
def onceB (q : List Int) : Bool := decide q.Nodup
theorem nodup_take {q : List Int} {k : Nat} (hk : k < q.length) (h : q.Nodup) : el q k ∉ q.take k := by
  have h2 := h
  rw [← List.take_append_drop k q, List.nodup_append] at h2
  intro hm
  refine h2.2.2 _ hm _ ?_ rfl
  rw [el_at hk, List.drop_eq_getElem_cons hk]; exact List.mem_cons_self
theorem nodup_succ {q : List Int} {k : Nat} (hk : k < q.length) (h : (q.take k).Nodup) (hn : el q k ∉ q.take k) : (q.take (k + 1)).Nodup := by
  rw [take_succ_el hk, List.nodup_append]
  exact ⟨h, by simp, fun a ha b hb e => hn (by simp at hb; rw [← hb, ← e]; exact ha)⟩
theorem onceB_no {q : List Int} (k : Nat) (hk : k < q.length) (h : hasB (q.take k) (el q k) = true) : onceB q = false := by
  simp only [onceB, decide_eq_false_iff_not]; intro hn
  exact nodup_take hk hn (by simpa [hasB] using h)
theorem onceB_yes {q : List Int} (h : (q.take q.length).Nodup) : onceB q = true := by
  rw [List.take_length] at h; simpa [onceB] using h
theorem contains_of (n₀ : Nat) (ao : Option Addr) (len cap : Nat) (zs : List Int) (n : Int) (w : World) (b : Bool) (hlen : zs.length = len) (hl : zs.length ≤ 1048576) (hz : kI.In n₀ w ao zs) (hb : hasB zs n = b) :
    Calls Tryd.prog 42 #[.slice ao len cap, .int .i64 n] w fun e w' => e = .returned (.bool b) ∧ w' = w := by
  subst hlen; exact contains_is n₀ ao cap zs n w b hl hz hb
set_option maxHeartbeats 2000000 in
theorem noneTwice_is (n₀ : Nat) (ao : Option Addr) (cap : Nat) (q : List Int) (w : World) (x : Bool) (hl : q.length ≤ 1048576) (hc : q.length ≤ cap) (hz : kI.In n₀ w ao q) (hx : onceB q = x) :
    Calls Tryd.prog 63 #[.slice ao q.length cap] w fun e w' => e = .returned (.bool x) ∧ w' = w := by
  have HX : Hid (onceB q = x) := hx
  clear hx
  go_enter Tryd.func63, Tryd.ntmps63
  go_wp2
  go_loop [7] (fun i => ∃ k : Nat, k ≤ q.length ∧ i = .int .i64 k ∧ Hid ((q.take k).Nodup)) (fun i => q.length - (intOf i).toNat)
  case atStart => exact ⟨0, Nat.zero_le _, rfl, by simp [Hid]⟩
  case round =>
    obtain ⟨k, hk, rfl, hno⟩ := hrel
    by_cases hlt : k < q.length
    · have HZ : Hid (kI.In n₀ w ao q) := hz
      obtain ⟨b, off, rfl, hb, hcs⟩ := ints_at hz hlt
      have hck := hcs k hlt
      clear hcs hz
      obtain ⟨y, ey⟩ : ∃ x, x = el q k := ⟨_, rfl⟩
      rw [← ey] at hck
      have HY : Hid (y = el q k) := ey
      clear ey
      cases hm : hasB (q.take k) y
      · have HM : Hid (hasB (q.take k) y = false) := hm
        clear hm
        go_wp2_with fail
        refine (contains_of n₀ _ k cap (q.take k) y _ false (by simp; omega) (by simp; omega) (HZ.out.take k) HM.out).mono ?_
        rintro e w1 ⟨rfl, rfl⟩
        go_wp2
        go_round
        case rel => exact ⟨k + 1, by omega, by go_num, nodup_succ hlt hno.out (by rw [← HY.out]; simpa [hasB] using HM.out)⟩
        case measure => simp [intOf]; omega
      · have HM : Hid (hasB (q.take k) y = true) := hm
        have HF : Hid (x = false) := by rw [Hid, ← HX.out]; exact onceB_no k hlt (by rw [← HY.out]; exact hm)
        clear hm
        go_wp2_with fail
        refine (contains_of n₀ _ k cap (q.take k) y _ true (by simp; omega) (by simp; omega) (HZ.out.take k) HM.out).mono ?_
        rintro e w1 ⟨rfl, rfl⟩
        go_wp2
        go_ret
        exact ⟨ret_bool HF.out.symm, rfl⟩
    · obtain rfl : k = q.length := by omega
      have HF : Hid (x = true) := by rw [Hid, ← HX.out]; exact onceB_yes hno.out
      go_wp2
      go_ret
      exact ⟨ret_bool HF.out.symm, rfl⟩
theorem l1Has_of (n₀ : Nat) (ao : Option Addr) (len cap : Nat) (zs : List Int) (n : Int) (w : World) (b : Bool) (hlen : zs.length = len) (hl : zs.length ≤ 1048576) (hz : kI.In n₀ w ao zs) (hb : hasB zs n = b) :
    Calls Tryd.prog 20 #[.slice ao len cap, .int .i64 n] w fun e w' => e = .returned (.bool b) ∧ w' = w := by
  subst hlen; exact l1Has_is n₀ ao cap zs n w b hl hz hb
set_option maxHeartbeats 1000000 in
theorem copyListI_any (ao : Option Addr) (cap : Nat) (ts : List (Int)) (w : World) (hl : ts.length ≤ 1048576) (hz : kI.In w.heap.size w ao ts) :
    Calls Tryd.prog 64 #[.slice ao ts.length cap] w fun e w' => (∃ to, e = .returned (.slice to ts.length ts.length) ∧ kI.Fresh w.heap.size w'.heap.size w' to ts.length ts) ∧ Below w.heap.size w w' := by
  by_cases h0 : ts.length = 0
  · obtain rfl : ts = [] := List.length_eq_zero_iff.1 h0
    go_enter Tryd.func64, Tryd.ntmps64
    go_wp2
    go_ret
    exact ⟨⟨none, rfl, .inl rfl⟩, Below.refl _ _⟩
  · have h0' : ((ts.length : Int) == 0) = false := (len1 h0).1
    obtain ⟨i0, z0, hi, hz0, hz1, hz2, hz3⟩ := kI_ok.info
    have HZ : Hid (kI.In w.heap.size w ao ts) := hz
    have hby : i0.bytes * ts.length ≤ 281474976710656 := by have : i0.bytes * ts.length ≤ 4096 * 1048576 := Nat.mul_le_mul hz3 hl; omega
    clear hz
    go_enter Tryd.func64, Tryd.ntmps64
    go_wp2_with (at_make; refine wpList_make_full _ rfl _ _ kI.st rfl w.heap.size kI.ty i0 z0 kI.sz kI_ok.und hi hz0 hz1 .i64 .i64 _ _ ts.length rfl rfl rfl rfl hby (by unfold maxLen; omega) (Nat.le_refl _) ?_; intro w1 hown hgrow; obtain ⟨cur, hcur, hcl, _⟩ := owns_open hown; have hB1 : Below w.heap.size w w1 := (Below.refl _ _).grown hgrow (Nat.le_refl _) (fun k e => by cases e); obtain ⟨w2, hrun, hh, hO⟩ := Kind.run_copy (n := ts.length) (cap := cap) (ty := 3) kI_ok hcur hcl (Nat.le_refl _) HZ.out hB1; have hB2 : Below w.heap.size w w2 := hB1.trans (hO.below (Nat.le_refl _)); have HH := show Hid (_ ∧ _) from And.intro hcl hh; unfold kI at hrun; dsimp only at hrun; clear hown hgrow hcur hh hO hcl)
    go_ret
    have e : cur.drop (ts.length * kI.sz) = [] := List.drop_eq_nil_of_le (by rw [HH.out.1]; exact Nat.le_refl _)
    have hh := HH.out.2
    rw [e, List.append_nil] at hh
    exact ⟨⟨_, rfl, .inr ⟨w.heap.size, rfl, (Array.getElem?_eq_some_iff.1 hh).1, Kind.own_of_heap hh rfl (Nat.le_refl _) (by omega)⟩⟩, hB2⟩
set_option maxHeartbeats 1000000 in
theorem queueOfI_any (ao : Option Addr) (cap : Nat) (ts : List (Int)) (w : World) (hl : ts.length ≤ 1048576) (hz : kI.In w.heap.size w ao ts) :
    Calls Tryd.prog 56 #[.slice ao ts.length cap] w fun e w' => (∃ to, e = .returned (.agg #[.slice to ts.length ts.length]) ∧ kI.Fresh w.heap.size w'.heap.size w' to ts.length ts) ∧ Below w.heap.size w w' := by
  go_enter Tryd.func56, Tryd.ntmps56
  go_wp2_with fail
  refine (copyListI_any ao cap ts _ hl (hz.later (below1 _ _))).mono ?_
  rintro e w1 ⟨⟨go, rfl, hO⟩, hb1⟩
  have hB1 := (below1 w (.cells #[.slice none 0 0] 82)).trans (hb1.mono (by simp))
  have c1 : w1.cell? ⟨w.heap.size, 0, none⟩ = some (.slice none 0 0) := (hb1.cell (p := ⟨w.heap.size, 0, none⟩) (by simp)).trans (by simp [go_sem])
  have f1 : w1.frozen? ⟨w.heap.size, 0, none⟩ = false := (hb1.frozen (p := ⟨w.heap.size, 0, none⟩) (by simp)).trans (by simp [go_sem])
  have HO : Hid (kI.Fresh (w.heap.size + 1) w1.heap.size w1 go ts.length ts) := by rw [World.size_alloc] at hO; exact hO
  clear hO hb1
  go_wp2
  refine bodyPost_ret (v := .agg #[.slice go ts.length ts.length]) (by simp [results, Tryd.results56, go_sem, c1]) rfl ⟨⟨go, rfl, ?_⟩, ?_⟩
  · exact (HO.out.setBelow (by simp) _).wide (by omega) (by simp)
  · exact hB1.setCell (p := ⟨w.heap.size, 0, none⟩) (Nat.le_refl _) _
theorem run_field82 (a : Option Addr) (n c : Nat) (w : World) : (Instr.field 82 (.agg #[.slice a n c]) 0).run Tryd.prog w = .ok (.slice a n c) w := by
  simp [Instr.field, go_sem, run_underlying Tryd.underlying82, asAgg]
end Go.Proofs.YteamcpcjooglaaaDoor
