
/- The ring: put, take and list. No conditions but those written. -/
import Derived.Test.YtdfmmidokfcjfaaOHa
import Derived.Laws.BitsLemmas
namespace Go.Proofs.Ytdfmmidokfcjfaa.Old
open Go.RowKit

theorem addr_ne2 {p i j : Nat} (h : i ≠ j) : (⟨p, i, none⟩ : Addr) ≠ ⟨p, j, none⟩ := fun e => h (by cases e; rfl)
theorem OnlyAt.drew {ao : Option Addr} {w w' : World} (h : OnlyAt ao w w') : OnlyAt ao w w'.drew := ⟨h.os, h.tape, h.output, h.size, h.block⟩
theorem RingB.drew {W : World} {p : Nat} {g : List Int} {f m : Int} (h : RingB W p g f m) : RingB W.drew p g f m := h

set_option maxRecDepth 10000 in
set_option maxHeartbeats 4000000 in
theorem put_any (p : Nat) (g : List Int) (f m k : Nat) (v : Int) (w : World) (hR : RingB w p g f m) (hk : k < 10) (hfm : (f + m) % 10 = k) (hm : m ≤ 10) (hf : f ≤ 10) :
    Calls Try.prog 17 #[.pointer (some ⟨p, 0, none⟩), .int .i64 v] w fun e w' => (∃ u, e = .returned u) ∧ RingB w' p (g.set k v) f ((m : Int) + 1) ∧ OnlyAt (some ⟨p, 0, none⟩) w w' := by
  have c10 := hR.first
  have c11 := hR.many
  have ck := hR.cell hk
  have fk := hR.soft k
  have hw : IntKind.i64.wrap ((f : Int) + (m : Int)) = (f : Int) + (m : Int) := wrapS _ (by omega) (by omega)
  have he : ((f : Int) + (m : Int)) % 10 = (k : Int) := by omega
  have ht : ((f : Int) + (m : Int)).tmod 10 = (k : Int) := by rw [Int.tmod_eq_emod_of_nonneg (by omega)]; exact he
  have hk0 : (0 : Int) ≤ (k : Int) := by omega
  have hk1 : (k : Int) < 10 := by omega
  have hne10 : k ≠ 10 := by omega
  have hne11 : k ≠ 11 := by omega
  have f11 := hR.soft 11
  have R2 := (hR.put hk v).setM ((m : Int) + 1)
  have O1 : OnlyAt (some ⟨p, 0, none⟩) w ((w.setCell ⟨p, k, none⟩ (.int .i64 v)).setCell ⟨p, 11, none⟩ (.int .i64 ((m : Int) + 1))) := (OnlyAt.set p k _ _).trans (OnlyAt.set p 11 _ _)
  have HE : Hid (RingB ((w.setCell ⟨p, k, none⟩ (.int .i64 v)).setCell ⟨p, 11, none⟩ (.int .i64 ((m : Int) + 1))) p (g.set k v) f ((m : Int) + 1) ∧ OnlyAt (some ⟨p, 0, none⟩) w ((w.setCell ⟨p, k, none⟩ (.int .i64 v)).setCell ⟨p, 11, none⟩ (.int .i64 ((m : Int) + 1)))) := ⟨R2, O1⟩
  have hmb : (m : Int) ≤ 10 := by omega
  have hm0 : (0 : Int) ≤ (m : Int) := by omega
  clear R2 O1 hR
  go_enter Try.func17, Try.ntmps17
  go_wp2
  go_region_held3 (fun Y => Y.cell? ⟨p, 10, none⟩ = some (.int .i64 (f : Int)) ∧ Y.cell? ⟨p, 11, none⟩ = some (.int .i64 (m : Int)))
    (first | ((refine ⟨?_, ?_⟩ <;> (first | rw [World.cell?_drew, World.cell?_setCell_other _ _ _ _ (addr_ne2 (by omega))] | rw [World.cell?_setCell_other _ _ _ _ (addr_ne2 (by omega))])); exact c10; exact c11) | exact ⟨c10, c11⟩)
    (fail)
  all_goals
    go_wp2
    go_end0
    exact ⟨⟨_, rfl⟩, HE.out.1.drew, HE.out.2.drew⟩

set_option maxRecDepth 10000 in
set_option maxHeartbeats 4000000 in
theorem take_any (p : Nat) (g : List Int) (m : Nat) (w : World) (hR : RingB w p g 0 m) (hm1 : 1 ≤ m) (hm : m ≤ 10) :
    Calls Try.prog 44 #[.pointer (some ⟨p, 0, none⟩)] w fun e w' => e = .returned (.int .i64 (g[0]?.getD 0)) ∧ RingB w' p g 1 ((m : Int) - 1) ∧ OnlyAt (some ⟨p, 0, none⟩) w w' := by
  have c10 := hR.first
  have c11 := hR.many
  have c0 := hR.cell (i := 0) (by omega)
  have f10 := hR.soft 10
  have f11 := hR.soft 11
  have R2 := (hR.setF 1).setM ((m : Int) - 1)
  have O1 : OnlyAt (some ⟨p, 0, none⟩) w ((w.setCell ⟨p, 10, none⟩ (.int .i64 1)).setCell ⟨p, 11, none⟩ (.int .i64 ((m : Int) - 1))) := (OnlyAt.set p 10 _ _).trans (OnlyAt.set p 11 _ _)
  have HE : Hid (RingB ((w.setCell ⟨p, 10, none⟩ (.int .i64 1)).setCell ⟨p, 11, none⟩ (.int .i64 ((m : Int) - 1))) p g 1 ((m : Int) - 1) ∧ OnlyAt (some ⟨p, 0, none⟩) w ((w.setCell ⟨p, 10, none⟩ (.int .i64 1)).setCell ⟨p, 11, none⟩ (.int .i64 ((m : Int) - 1)))) := ⟨R2, O1⟩
  have hmb : (m : Int) ≤ 10 := by omega
  have hm0 : (1 : Int) ≤ (m : Int) := by omega
  clear R2 O1 hR
  generalize (g[0]?.getD 0) = z at *
  go_enter Try.func44, Try.ntmps44
  go_wp2
  go_region_held3 (fun Y => Y.cell? ⟨p, 10, none⟩ = some (.int .i64 0) ∧ Y.cell? ⟨p, 0, none⟩ = some (.int .i64 z))
    (exact ⟨c10, c0⟩)
    (fail)
  all_goals
    go_wp2
    go_ret
    exact ⟨rfl, HE.out.1.drew, HE.out.2.drew⟩
end Go.Proofs.Ytdfmmidokfcjfaa.Old
