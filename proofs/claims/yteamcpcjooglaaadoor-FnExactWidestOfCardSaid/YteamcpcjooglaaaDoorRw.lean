
/- The five tests over a graph; the numbers of its nodes. No conditions but those written. -/
import Derived.Test.YteamcpcjooglaaaDoorRu
namespace Go.Proofs.YteamcpcjooglaaaDoor
open Go.RowKit

/-- A graph that lies in memory: its nodes, and a box that holds it. -/
structure GrIn (W : World) (p : Nat) (ao : Option Addr) (cap : Nat) (ts : List LNode) : Prop where
  box : Bx W p [.slice ao ts.length cap]
  rows : DIn dNode W.heap.size W ao ts
theorem GrIn.later {W W' : World} {p : Nat} {ao : Option Addr} {cap : Nat} {ts : List LNode} (h : GrIn W p ao cap ts) (hb : Below W.heap.size W W') : GrIn W' p ao cap ts := ⟨h.box.later hb, h.rows.later dNode_ok hb⟩
/-- Rows whose room holds them. -/
def CapN (ts : List LNode) : Prop := ∀ a ∈ ts, a.2.2.2.2.2.2.2.length ≤ a.2.2.2.2.2.2.1
theorem el_val {ts : List LNode} {k : Nat} (hk : k < ts.length) : el (ts.map valNode) k = valNode (el ts k) := by simp [el, hk]
set_option maxRecDepth 10000 in
set_option maxHeartbeats 4000000 in
theorem rule1_is (p : Nat) (ao : Option Addr) (cap : Nat) (ts : List LNode) (k : Nat) (w : World) (hk : k < ts.length) (_hl : ts.length ≤ 1048576) (hF : FitN ts) (hG : GrIn w p ao cap ts) :
    Calls Tryd.prog 44 #[.int .i64 (k : Int), .pointer (some ⟨p, 0, none⟩)] w fun e w' => e = .returned (.bool (!nameB (el (ts.map valNode) k).1)) ∧ Below w.heap.size w w' := by
  have HG := hid hG
  have hki : (k : Int) < (ts.length : Int) := by omega
  clear hG
  obtain ⟨b, off, rfl, hb, hc⟩ := hNode_at HG.out.rows.1 hk
  have d1 := (hc k hk).1
  have d2 := (hc k hk).2.1
  have d3 := (hc k hk).2.2.1
  have d4 := (hc k hk).2.2.2.1
  have d5 := (hc k hk).2.2.2.2.1
  have d6 := (hc k hk).2.2.2.2.2
  have hfk := hF _ (el_mem hk)
  have hev := el_val hk
  have hin := HG.out.rows.2 k hk
  obtain ⟨⟨nm, kd, sa, sb, cp, ⟨nxo, nxc, nx⟩⟩, ex⟩ : ∃ v, v = el ts k := ⟨_, rfl⟩
  rw [← ex] at d1 d2 d3 d4 d5 d6 hfk hev hin
  have HE : Hid (el (ts.map valNode) k = (nm, kd, sa, sb, cp, nx)) := hev
  have c0 := HG.out.box.c 0 rfl
  clear hc hev
  dsimp only at d1 d2 d3 d4 d5 d6 hfk
  have E1 : Hid ((!nameB (el (ts.map valNode) k).1) = !nameB nm) := by rw [Hid, HE.out]
  go_enter Tryd.func44, Tryd.ntmps44
  go_wp2_with fail
  refine (isName_is nm w (by omega)).mono ?_
  rintro e w1 ⟨rfl, hb1⟩
  go_wp2
  go_ret
  exact ⟨ret_bool E1.out.symm, hb1⟩
set_option maxRecDepth 10000 in
set_option maxHeartbeats 4000000 in
theorem rule3_is (p : Nat) (ao : Option Addr) (cap : Nat) (ts : List LNode) (k : Nat) (w : World) (hk : k < ts.length) (_hl : ts.length ≤ 1048576) (hF : FitN ts) (hG : GrIn w p ao cap ts) :
    Calls Tryd.prog 48 #[.int .i64 (k : Int), .pointer (some ⟨p, 0, none⟩)] w fun e w' => e = .returned (.bool (!goodSt (el (ts.map valNode) k).2.1 (el (ts.map valNode) k).2.2.1 (el (ts.map valNode) k).2.2.2.1)) ∧ Below w.heap.size w w' := by
  have HG := hid hG
  have hki : (k : Int) < (ts.length : Int) := by omega
  clear hG
  obtain ⟨b, off, rfl, hb, hc⟩ := hNode_at HG.out.rows.1 hk
  have d1 := (hc k hk).1
  have d2 := (hc k hk).2.1
  have d3 := (hc k hk).2.2.1
  have d4 := (hc k hk).2.2.2.1
  have d5 := (hc k hk).2.2.2.2.1
  have d6 := (hc k hk).2.2.2.2.2
  have hfk := hF _ (el_mem hk)
  have hev := el_val hk
  have hin := HG.out.rows.2 k hk
  obtain ⟨⟨nm, kd, sa, sb, cp, ⟨nxo, nxc, nx⟩⟩, ex⟩ : ∃ v, v = el ts k := ⟨_, rfl⟩
  rw [← ex] at d1 d2 d3 d4 d5 d6 hfk hev hin
  have HE : Hid (el (ts.map valNode) k = (nm, kd, sa, sb, cp, nx)) := hev
  have c0 := HG.out.box.c 0 rfl
  clear hc hev
  dsimp only at d1 d2 d3 d4 d5 d6 hfk
  have E1 : Hid ((!goodSt (el (ts.map valNode) k).2.1 (el (ts.map valNode) k).2.2.1 (el (ts.map valNode) k).2.2.2.1) = !goodSt kd sa sb) := by rw [Hid, HE.out]
  go_enter Tryd.func48, Tryd.ntmps48
  go_wp2_with fail
  refine (implGood_is kd sa sb w (goodSt kd sa sb) rfl).mono ?_
  rintro e w1 ⟨rfl, hb1⟩
  go_wp2
  go_ret
  exact ⟨ret_bool E1.out.symm, hb1⟩
set_option maxRecDepth 10000 in
set_option maxHeartbeats 4000000 in
theorem rule4_is (p : Nat) (ao : Option Addr) (cap : Nat) (ts : List LNode) (k : Nat) (w : World) (hk : k < ts.length) (_hl : ts.length ≤ 1048576) (hF : FitN ts) (hG : GrIn w p ao cap ts) :
    Calls Tryd.prog 50 #[.int .i64 (k : Int), .pointer (some ⟨p, 0, none⟩)] w fun e w' => e = .returned (.bool (decide ((el (ts.map valNode) k).2.2.2.2.1 < 3) || decide (8 < (el (ts.map valNode) k).2.2.2.2.1))) ∧ Below w.heap.size w w' := by
  have HG := hid hG
  have hki : (k : Int) < (ts.length : Int) := by omega
  clear hG
  obtain ⟨b, off, rfl, hb, hc⟩ := hNode_at HG.out.rows.1 hk
  have d1 := (hc k hk).1
  have d2 := (hc k hk).2.1
  have d3 := (hc k hk).2.2.1
  have d4 := (hc k hk).2.2.2.1
  have d5 := (hc k hk).2.2.2.2.1
  have d6 := (hc k hk).2.2.2.2.2
  have hfk := hF _ (el_mem hk)
  have hev := el_val hk
  have hin := HG.out.rows.2 k hk
  obtain ⟨⟨nm, kd, sa, sb, cp, ⟨nxo, nxc, nx⟩⟩, ex⟩ : ∃ v, v = el ts k := ⟨_, rfl⟩
  rw [← ex] at d1 d2 d3 d4 d5 d6 hfk hev hin
  have HE : Hid (el (ts.map valNode) k = (nm, kd, sa, sb, cp, nx)) := hev
  have c0 := HG.out.box.c 0 rfl
  clear hc hev
  dsimp only at d1 d2 d3 d4 d5 d6 hfk
  have E1 : Hid ((decide ((el (ts.map valNode) k).2.2.2.2.1 < 3) || decide (8 < (el (ts.map valNode) k).2.2.2.2.1)) = (decide (cp < 3) || decide (8 < cp))) := by rw [Hid, HE.out]
  by_cases h : cp < 3
  · go_enter Tryd.func50, Tryd.ntmps50
    go_wp2
    go_ret
    exact ⟨ret_bool (by rw [E1.out]; simp [h]), Below.refl _ _⟩
  · go_enter Tryd.func50, Tryd.ntmps50
    go_wp2
    go_ret
    exact ⟨ret_bool (by rw [E1.out, decide_eq_false (p := cp < 3) (by omega), Bool.false_or]), Below.refl _ _⟩
set_option maxRecDepth 10000 in
set_option maxHeartbeats 4000000 in
theorem rule2_is (p : Nat) (ao : Option Addr) (cap : Nat) (ts : List LNode) (k : Nat) (w : World) (hk : k < ts.length) (_hl : ts.length ≤ 1048576) (hF : FitN ts) (hG : GrIn w p ao cap ts) (hcap : ts.length ≤ cap) :
    Calls Tryd.prog 46 #[.int .i64 (k : Int), .pointer (some ⟨p, 0, none⟩)] w fun e w' => e = .returned (.bool (((ts.map valNode).take k).any fun y => sameT y.1 (el (ts.map valNode) k).1)) ∧ Below w.heap.size w w' := by
  have HG := hid hG
  have hki : (k : Int) < (ts.length : Int) := by omega
  clear hG
  obtain ⟨b, off, rfl, hb, hc⟩ := hNode_at HG.out.rows.1 hk
  have d1 := (hc k hk).1
  have d2 := (hc k hk).2.1
  have d3 := (hc k hk).2.2.1
  have d4 := (hc k hk).2.2.2.1
  have d5 := (hc k hk).2.2.2.2.1
  have d6 := (hc k hk).2.2.2.2.2
  have hfk := hF _ (el_mem hk)
  have hev := el_val hk
  have hin := HG.out.rows.2 k hk
  obtain ⟨⟨nm, kd, sa, sb, cp, ⟨nxo, nxc, nx⟩⟩, ex⟩ : ∃ v, v = el ts k := ⟨_, rfl⟩
  rw [← ex] at d1 d2 d3 d4 d5 d6 hfk hev hin
  have HE : Hid (el (ts.map valNode) k = (nm, kd, sa, sb, cp, nx)) := hev
  have c0 := HG.out.box.c 0 rfl
  clear hc hev
  dsimp only at d1 d2 d3 d4 d5 d6 hfk
  have E1 : Hid (((ts.map valNode).take k).any (fun y => sameT y.1 (el (ts.map valNode) k).1) = (ts.take k).any (fun y => sameT y.1 nm)) := by
    rw [Hid, HE.out, ← List.map_take, List.any_map]; rfl
  have hkc : (k : Int) ≤ (cap : Int) := by omega
  have HN := hid (HG.out.rows.1.take k)
  have hlk : (ts.take k).length = k := by simp; omega
  have hcon := hasName_is (some ⟨b, off, none⟩) cap (ts.take k) nm
  rw [hlk] at hcon
  have mixed : Tryd.prog.follows .mixedOrders = true := by kernel_rfl
  have hNE := later_some w
  have q1 := Later.cell d1 hb; have q0 := Later.cell c0 HG.out.box.size
  clear d1 c0
  go_enter Tryd.func46, Tryd.ntmps46
  go_wp2_with fail
  refine wp_region_later w (by kernel_rfl) (by kernel_rfl) (Below.refl _ _) ?_
  repeat (go_big_quiet_step (first | (go_at_call 47; exact Calls.later (hcon _ (by omega) (by exact (HN.out.later (Later.h _)))))))
  refine wpQuiet_nil ?_
  rintro w4 ⟨⟨w5, hb4⟩, hw5⟩
  obtain rfl : w4 = w5 := hw5
  clear q1 q0 hNE
  go_wp2
  go_ret
  exact ⟨ret_bool E1.out.symm, hb4⟩
set_option maxRecDepth 10000 in
set_option maxHeartbeats 4000000 in
theorem rule5_is (p : Nat) (ao : Option Addr) (cap : Nat) (ts : List LNode) (k : Nat) (w : World) (hk : k < ts.length) (_hl : ts.length ≤ 1048576) (hF : FitN ts) (hG : GrIn w p ao cap ts) (hC : CapN ts) :
    Calls Tryd.prog 51 #[.int .i64 (k : Int), .pointer (some ⟨p, 0, none⟩)] w fun e w' => e = .returned (.bool (!goodNx (el (ts.map valNode) k).2.2.2.2.2 (ts.map valNode).length)) ∧ Below w.heap.size w w' := by
  have HG := hid hG
  have hki : (k : Int) < (ts.length : Int) := by omega
  clear hG
  obtain ⟨b, off, rfl, hb, hc⟩ := hNode_at HG.out.rows.1 hk
  have d1 := (hc k hk).1
  have d2 := (hc k hk).2.1
  have d3 := (hc k hk).2.2.1
  have d4 := (hc k hk).2.2.2.1
  have d5 := (hc k hk).2.2.2.2.1
  have d6 := (hc k hk).2.2.2.2.2
  have hfk := hF _ (el_mem hk)
  have hev := el_val hk
  have hin := HG.out.rows.2 k hk
  obtain ⟨⟨nm, kd, sa, sb, cp, ⟨nxo, nxc, nx⟩⟩, ex⟩ : ∃ v, v = el ts k := ⟨_, rfl⟩
  rw [← ex] at d1 d2 d3 d4 d5 d6 hfk hev hin
  have HE : Hid (el (ts.map valNode) k = (nm, kd, sa, sb, cp, nx)) := hev
  have c0 := HG.out.box.c 0 rfl
  clear hc hev
  dsimp only at d1 d2 d3 d4 d5 d6 hfk
  have E1 : Hid ((!goodNx (el (ts.map valNode) k).2.2.2.2.2 (ts.map valNode).length) = !goodNx nx ts.length) := by rw [Hid, HE.out, List.length_map]
  have HI : Hid (kI.In w.heap.size w nxo nx) := hin
  have hcx := hC _ (el_mem hk)
  rw [← ex] at hcx
  dsimp only at hcx
  have hNE := later_some w
  have q6 := Later.cell d6 hb; have q0 := Later.cell c0 HG.out.box.size
  clear d6 c0 d1 d2 d3 d4 d5
  go_enter Tryd.func51, Tryd.ntmps51
  go_wp2_with fail
  refine wp_region_later w (by kernel_rfl) (by kernel_rfl) (Below.refl _ _) ?_
  repeat (go_big_quiet_step (first | (go_at_call 52; exact Calls.later (goodNext_is nxo nxc nx (ts.length : Int) _ hfk.2 hcx (by exact (HI.out.later (Later.h _)))))))
  refine wpQuiet_nil ?_
  rintro w4 ⟨⟨w5, hb4⟩, hw5⟩
  obtain rfl : w4 = w5 := hw5
  clear q6 q0 hNE
  go_wp2
  go_ret
  exact ⟨ret_bool E1.out.symm, hb4⟩
end Go.Proofs.YteamcpcjooglaaaDoor
