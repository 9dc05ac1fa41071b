
/- RoomOf, the program's and the specification's. No conditions but those written. -/
import Derived.Test.YtmdgnlhnmnajkaaDoorCk
namespace Go.Proofs.YtmdgnlhnmnajkaaDoor
open Go.RowKit

theorem codeG_zero {gs : List PNode} (h : codeG gs = 0) : ¬ (gs.length < 1 ∨ 10 < gs.length) ∧ (∀ j, j < 5 → brk gs j = false) ∧ ¬ (orderP gs).length < gs.length := by
  have hm : ¬ (gs.length < 1 ∨ 10 < gs.length) := fun e => by rw [codeG_many e] at h; cases h
  have hall : ∀ i, i ≤ 5 → ∀ j, j < i → brk gs j = false := fun i => by
    induction i with
    | zero => intro _ j hj; omega
    | succ i ih =>
      intro hi j hj
      have hprev := ih (by omega)
      rcases Nat.lt_succ_iff_lt_or_eq.1 hj with h1 | rfl
      · exact hprev j h1
      · cases hb : brk gs j with
        | false => rfl
        | true => rw [codeG_rule hm (by omega) hb hprev] at h; omega
  refine ⟨hm, hall 5 (Nat.le_refl _), fun ho => ?_⟩
  rw [codeG_rest hm (hall 5 (Nat.le_refl _)), if_pos ho] at h
  cases h
/-- All rooms together, up to a node. -/
def capSum (gs : List PNode) (k : Nat) : Int := ((gs.take k).map fun a => a.2.2.2.2.1).sum
theorem capSum_succ {gs : List PNode} {k : Nat} (hk : k < gs.length) : capSum gs (k + 1) = capSum gs k + (el gs k).2.2.2.2.1 := by
  rw [capSum, take_succ_el hk]; simp [capSum]
/-- What RoomOf answers. -/
def roomR (gs : List PNode) : Int × Bool := if codeG gs = 0 then (capSum gs gs.length, true) else (0, false)
set_option maxRecDepth 10000 in
set_option maxHeartbeats 4000000 in
theorem implRoom_is (ao : Option Addr) (cap : Nat) (ts : List LNode) (ea : Nat → Addr) (w : World) (hC : Roomy ts cap) (hE : Errs w ea) (hz : DIn dNode w.heap.size w ao ts) :
    Calls Tryd.prog 22 #[.slice ao ts.length cap] w fun e w' => e = .returned (.tuple #[.int .i64 (roomR (ts.map valNode)).1, .bool (roomR (ts.map valNode)).2]) ∧ Below w.heap.size w w' := by
  have hcon := goodGraph_is ao cap ts ea w hC hE hz
  have HZ := hid hz
  clear hz hE hC
  by_cases h0 : codeG (ts.map valNode) = 0
  · have HV : Hid (roomR (ts.map valNode) = (capSum (ts.map valNode) ts.length, true)) := by rw [Hid, roomR, if_pos h0, val_len]
    obtain ⟨hm, hbk, _⟩ := codeG_zero h0
    have hcp : ∀ k, k < ts.length → 3 ≤ (el (ts.map valNode) k).2.2.2.2.1 ∧ (el (ts.map valNode) k).2.2.2.2.1 ≤ 8 := fun k hk => by
      have h := brk_at (hbk 3 (by omega)) (show k < (ts.map valNode).length by rw [val_len]; exact hk)
      simp only [prule, Int.toNat_natCast] at h
      simp at h
      omega
    have h10 : ts.length ≤ 10 := by rw [val_len] at hm; omega
    have HCP := hid hcp
    clear hm hbk hcp
    go_enter Tryd.func22, Tryd.ntmps22
    go_wp2_with fail
    refine hcon.mono ?_
    rw [decide_eq_true h0]
    rintro e w1 ⟨rfl, hb1⟩
    have hB1 : Below w.heap.size w w1 := hb1
    clear hb1
    go_wp2
    go_loopw [4, 12] (fun s i wr => ∃ (k : Nat) (z : Int), i = .int .i64 (k : Int) ∧ s = .int .i64 z ∧ k ≤ ts.length ∧ z = capSum (ts.map valNode) k ∧ 0 ≤ z ∧ z ≤ 8 * (k : Int) ∧ Below w.heap.size w wr) (fun _ i _ => ts.length - (intOf i).toNat)
    case atStart => exact ⟨0, 0, rfl, rfl, Nat.zero_le _, rfl, by omega, by omega, hB1⟩
    case round =>
      clear hB1
      obtain ⟨k, z, rfl, rfl, hk, hzk, hz0, hz8, hB⟩ := hrel
      have HZK := hid hzk
      clear hzk
      by_cases hlt : k < ts.length
      · obtain ⟨b, off, rfl, hb, hc⟩ := hNode_at HZ.out.1 hlt
        have d1 := (hB.cell (p := ⟨b, off + k * 6, none⟩) hb).trans (hc k hlt).1
        have d2 := (hB.cell (p := ⟨b, off + k * 6 + 1, none⟩) hb).trans (hc k hlt).2.1
        have d3 := (hB.cell (p := ⟨b, off + k * 6 + 2, none⟩) hb).trans (hc k hlt).2.2.1
        have d4 := (hB.cell (p := ⟨b, off + k * 6 + 3, none⟩) hb).trans (hc k hlt).2.2.2.1
        have d5 := (hB.cell (p := ⟨b, off + k * 6 + 4, none⟩) hb).trans (hc k hlt).2.2.2.2.1
        have d6 := (hB.cell (p := ⟨b, off + k * 6 + 5, none⟩) hb).trans (hc k hlt).2.2.2.2.2
        have hev := el_val hlt
        have hcpk := HCP.out k hlt
        obtain ⟨⟨nm, kd, sa, sb, cp, ⟨nxo, nxc, nx⟩⟩, ex⟩ : ∃ v, v = el ts k := ⟨_, rfl⟩
        rw [← ex] at d1 d2 d3 d4 d5 d6 hev
        have HE : Hid (el (ts.map valNode) k = (nm, kd, sa, sb, cp, nx)) := hev
        rw [HE.out] at hcpk
        clear ex hev hc
        dsimp only at d1 d2 d3 d4 d5 d6 hcpk
        have hki : (k : Int) < (ts.length : Int) := by omega
        have HS := hid (capSum_succ (gs := ts.map valNode) (k := k) (by rw [val_len]; exact hlt))
        have hB2 : Below w.heap.size w (wr.alloc (.cells #[.string nm, .int .i64 kd, .int .i64 sa, .int .i64 sb, .int .i64 cp, .slice nxo nx.length nxc] 45)) := Below.allocS hB _
        go_wp2
        go_roundw
        case rel => exact ⟨k + 1, z + cp, by go_num, rfl, by omega, by rw [HS.out, HE.out, HZK.out], by omega, by omega, hB2⟩
        case measure => simp [intOf]; omega
      · obtain rfl : k = ts.length := by omega
        go_wp2
        refine bodyPost_ret (v := .tuple #[.int .i64 z, .bool true]) (by simp [results, Tryd.results22, go_sem]) rfl ?_
        exact ⟨by rw [HV.out, HZK.out], hB⟩
  · have HV : Hid (roomR (ts.map valNode) = (0, false)) := by rw [Hid, roomR, if_neg h0]
    go_enter Tryd.func22, Tryd.ntmps22
    go_wp2_with fail
    refine hcon.mono ?_
    rw [decide_eq_false h0]
    rintro e w1 ⟨rfl, hb1⟩
    have hB1 : Below w.heap.size w w1 := hb1
    clear hb1
    go_wp2
    refine bodyPost_ret (v := .tuple #[.int .i64 0, .bool false]) (by simp [results, Tryd.results22, go_sem]) rfl ?_
    exact ⟨by rw [HV.out], hB1⟩
set_option maxRecDepth 10000 in
set_option maxHeartbeats 4000000 in
theorem specRoom_is (ao : Option Addr) (cap : Nat) (ts : List LNode) (w : World) (hC : Roomy ts cap) (hz : DIn dNode w.heap.size w ao ts) :
    Calls Tryd.prog 21 #[.slice ao ts.length cap] w fun e w' => e = .returned (.tuple #[.int .i64 (roomR (ts.map valNode)).1, .bool (roomR (ts.map valNode)).2]) ∧ Below w.heap.size w w' := by
  have hcon := specCheck_is ao cap ts w hC hz
  have HZ := hid hz
  clear hz hC
  by_cases h0 : codeG (ts.map valNode) = 0
  · have HV : Hid (roomR (ts.map valNode) = (capSum (ts.map valNode) ts.length, true)) := by rw [Hid, roomR, if_pos h0, val_len]
    obtain ⟨hm, hbk, _⟩ := codeG_zero h0
    have hcp : ∀ k, k < ts.length → 3 ≤ (el (ts.map valNode) k).2.2.2.2.1 ∧ (el (ts.map valNode) k).2.2.2.2.1 ≤ 8 := fun k hk => by
      have h := brk_at (hbk 3 (by omega)) (show k < (ts.map valNode).length by rw [val_len]; exact hk)
      simp only [prule, Int.toNat_natCast] at h
      simp at h
      omega
    have h10 : ts.length ≤ 10 := by rw [val_len] at hm; omega
    have HCP := hid hcp
    clear hm hbk hcp
    go_enter Tryd.func21, Tryd.ntmps21
    go_wp2_with fail
    refine hcon.mono ?_
    rw [h0]
    rintro e w1 ⟨rfl, hb1⟩
    have hB1 : Below w.heap.size w w1 := hb1
    clear hb1
    go_wp2
    go_loopw [4, 12] (fun s i wr => ∃ (k : Nat) (z : Int), i = .int .i64 (k : Int) ∧ s = .int .i64 z ∧ k ≤ ts.length ∧ z = capSum (ts.map valNode) k ∧ 0 ≤ z ∧ z ≤ 8 * (k : Int) ∧ Below w.heap.size w wr) (fun _ i _ => ts.length - (intOf i).toNat)
    case atStart => exact ⟨0, 0, rfl, rfl, Nat.zero_le _, rfl, by omega, by omega, hB1⟩
    case round =>
      clear hB1
      obtain ⟨k, z, rfl, rfl, hk, hzk, hz0, hz8, hB⟩ := hrel
      have HZK := hid hzk
      clear hzk
      by_cases hlt : k < ts.length
      · obtain ⟨b, off, rfl, hb, hc⟩ := hNode_at HZ.out.1 hlt
        have d1 := (hB.cell (p := ⟨b, off + k * 6, none⟩) hb).trans (hc k hlt).1
        have d2 := (hB.cell (p := ⟨b, off + k * 6 + 1, none⟩) hb).trans (hc k hlt).2.1
        have d3 := (hB.cell (p := ⟨b, off + k * 6 + 2, none⟩) hb).trans (hc k hlt).2.2.1
        have d4 := (hB.cell (p := ⟨b, off + k * 6 + 3, none⟩) hb).trans (hc k hlt).2.2.2.1
        have d5 := (hB.cell (p := ⟨b, off + k * 6 + 4, none⟩) hb).trans (hc k hlt).2.2.2.2.1
        have d6 := (hB.cell (p := ⟨b, off + k * 6 + 5, none⟩) hb).trans (hc k hlt).2.2.2.2.2
        have hev := el_val hlt
        have hcpk := HCP.out k hlt
        obtain ⟨⟨nm, kd, sa, sb, cp, ⟨nxo, nxc, nx⟩⟩, ex⟩ : ∃ v, v = el ts k := ⟨_, rfl⟩
        rw [← ex] at d1 d2 d3 d4 d5 d6 hev
        have HE : Hid (el (ts.map valNode) k = (nm, kd, sa, sb, cp, nx)) := hev
        rw [HE.out] at hcpk
        clear ex hev hc
        dsimp only at d1 d2 d3 d4 d5 d6 hcpk
        have hki : (k : Int) < (ts.length : Int) := by omega
        have HS := hid (capSum_succ (gs := ts.map valNode) (k := k) (by rw [val_len]; exact hlt))
        have hB2 : Below w.heap.size w (wr.alloc (.cells #[.string nm, .int .i64 kd, .int .i64 sa, .int .i64 sb, .int .i64 cp, .slice nxo nx.length nxc] 45)) := Below.allocS hB _
        go_wp2
        go_roundw
        case rel => exact ⟨k + 1, z + cp, by go_num, rfl, by omega, by rw [HS.out, HE.out, HZK.out], by omega, by omega, hB2⟩
        case measure => simp [intOf]; omega
      · obtain rfl : k = ts.length := by omega
        go_wp2
        refine bodyPost_ret (v := .tuple #[.int .i64 z, .bool true]) (by simp [results, Tryd.results21, go_sem]) rfl ?_
        exact ⟨by rw [HV.out, HZK.out], hB⟩
  · have HV : Hid (roomR (ts.map valNode) = (0, false)) := by rw [Hid, roomR, if_neg h0]
    go_enter Tryd.func21, Tryd.ntmps21
    go_wp2_with fail
    refine hcon.mono ?_
    have hne : (((codeG (ts.map valNode) : Nat) : Int) != 0) = true := by simp; omega
    generalize codeG (ts.map valNode) = cg at hne ⊢
    rintro e w1 ⟨rfl, hb1⟩
    have hB1 : Below w.heap.size w w1 := hb1
    clear hb1
    go_wp2
    refine bodyPost_ret (v := .tuple #[.int .i64 0, .bool false]) (by simp [results, Tryd.results21, go_sem]) rfl ?_
    exact ⟨by rw [HV.out], hB1⟩
end Go.Proofs.YtmdgnlhnmnajkaaDoor
