
/- What is wrong with a graph: the specification. No conditions but those written. -/
import Derived.Test.YteamcpcjooglaaaDoorCy
import Derived.Test.YteamcpcjooglaaaDoorRc
namespace Go.Proofs.YteamcpcjooglaaaDoor
open Go.RowKit

theorem brk_of {gs : List PNode} {i k : Nat} (hk : k < gs.length) (h : prule gs i (k : Int) = true) : brk gs i = true := by
  rw [brk, List.any_eq_true]; exact ⟨_, numsI_has hk, h⟩
theorem brk_no {gs : List PNode} {i : Nat} (h : ∀ k : Nat, k < gs.length → prule gs i (k : Int) = false) : brk gs i = false := by
  rw [brk, List.any_eq_false]
  intro x hx
  obtain ⟨k, hk, rfl⟩ := numsI_mem hx
  simp [h k hk]
theorem brk_at {gs : List PNode} {i k : Nat} (h : brk gs i = false) (hk : k < gs.length) : prule gs i (k : Int) = false := by
  rw [brk, List.any_eq_false] at h
  simpa using h _ (numsI_has hk)
theorem goodNx_iff {nx : List Int} {n : Nat} : goodNx nx (n : Int) = true ↔ (∀ x ∈ nx, 0 ≤ x ∧ x < (n : Int)) ∧ nx.Nodup := by
  have ha : (nx.any (noneI (n : Int)) = false) ↔ ∀ x ∈ nx, 0 ≤ x ∧ x < (n : Int) := by
    rw [List.any_eq_false]
    constructor
    · intro h x hx
      have := h x hx
      simp [noneI] at this
      omega
    · intro h x hx
      have := h x hx
      simp [noneI]
      omega
  rw [goodNx, Bool.and_eq_true, Bool.and_eq_true, Bool.not_eq_true', ha, onceB, decide_eq_true_eq, decide_eq_true_eq]
  constructor
  · exact fun h => h.2
  · intro h
    have := pigeon n nx h.2 h.1
    exact ⟨by omega, h⟩
theorem edges_of {gs : List PNode} (hn : gs.length ≤ 10) (h : brk gs 4 = false) : EdgesIn gs := by
  have hg : ∀ a, a < gs.length → goodNx (nxP gs a) (gs.length : Int) = true := fun a ha => by
    have := brk_at h ha
    simp only [prule, Int.toNat_natCast] at this
    simpa [nxP] using this
  refine ⟨fun a ha x hx => ?_, fun a ha => ?_, hn⟩
  · have := (goodNx_iff.1 (hg a ha)).1 x hx
    exact ⟨x.toNat, by omega, by omega⟩
  · have h2 := goodNx_iff.1 (hg a ha)
    have := pigeon gs.length _ h2.2 h2.1
    omega
theorem mem_take_el {α : Type} [Inhabited α] {l : List α} {j k : Nat} (hj : j < l.length) (hk : j < k) : el l j ∈ l.take k := by
  rw [← el_take hk]; exact el_mem (by simp; omega)
theorem take_el_mem {α : Type} [Inhabited α] {l : List α} {k : Nat} {x : α} (h : x ∈ l.take k) : ∃ j, j < k ∧ x = el l j := by
  obtain ⟨j, hj, rfl⟩ := mem_el h
  have hj' : j < k := by simp at hj; omega
  exact ⟨j, hj', el_take hj'⟩
theorem val_len (ts : List LNode) : (ts.map valNode).length = ts.length := List.length_map _
set_option maxRecDepth 100000 in
set_option maxHeartbeats 32000000 in
theorem specCheck_is (ao : Option Addr) (cap : Nat) (ts : List LNode) (w : World) (hC : Roomy ts cap) (hz : DIn dNode w.heap.size w ao ts) :
    Calls Tryd.prog 10 #[.slice ao ts.length cap] w fun e w' => e = .returned (.int .i64 (codeG (ts.map valNode) : Nat)) ∧ Below w.heap.size w w' := by
  have hl1 := hC.len
  have hcap := hC.row
  by_cases hmany : ts.length < 1 ∨ 10 < ts.length
  · have HV := hid (codeG_many (gs := ts.map valNode) (by rw [val_len]; exact hmany))
    go_enter Tryd.func10, Tryd.ntmps10
    go_wp2_with fail
    refine (l1In_is ts.length 1 10 _ false (Bool.and_eq_false_iff.2 (hmany.elim (fun h => .inl (decide_eq_false (by omega))) (fun h => .inr (decide_eq_false (by omega)))))).mono ?_
    rintro e w1 ⟨rfl, rfl⟩
    go_wp2
    go_ret
    exact ⟨by rw [HV.out]; rfl, Below.refl _ _⟩
  have HM : Hid (¬ ((ts.map valNode).length < 1 ∨ 10 < (ts.map valNode).length)) := by rw [Hid, val_len]; exact hmany
  have h10 : ts.length ≤ 10 := by omega
  have h1n : 1 ≤ ts.length := by omega
  have HZ := hid hz
  have HC := hid hC
  obtain ⟨b, off, rfl, hb, hc⟩ := hNode_at hz.1 (show 0 < ts.length by omega)
  have HCL := hid hc
  clear hz hc hmany hC
  go_enter Tryd.func10, Tryd.ntmps10
  go_wp2_with fail
  refine (l1In_is ts.length 1 10 _ true (by simp; omega)).mono ?_
  rintro e w1 ⟨rfl, rfl⟩
  go_wp2
  go_loopw [24] (fun i wr => ∃ k : Nat, i = .int .i64 (k : Int) ∧ k ≤ ts.length ∧ Hid (∀ j : Nat, j < k → prule (ts.map valNode) 0 (j : Int) = false) ∧ Below w1.heap.size w1 wr) (fun i _ => ts.length - (intOf i).toNat)
  case atStart => exact ⟨0, rfl, Nat.zero_le _, fun j hj => by omega, Below.refl _ _⟩
  case round =>
    obtain ⟨k, rfl, hk, hN, hB⟩ := hrel
    by_cases hlt : k < ts.length
    · have d1 := (hB.cell (p := ⟨b, off + k * 6, none⟩) hb).trans (HCL.out k hlt).1
      have d2 := (hB.cell (p := ⟨b, off + k * 6 + 1, none⟩) hb).trans (HCL.out k hlt).2.1
      have d3 := (hB.cell (p := ⟨b, off + k * 6 + 2, none⟩) hb).trans (HCL.out k hlt).2.2.1
      have d4 := (hB.cell (p := ⟨b, off + k * 6 + 3, none⟩) hb).trans (HCL.out k hlt).2.2.2.1
      have d5 := (hB.cell (p := ⟨b, off + k * 6 + 4, none⟩) hb).trans (HCL.out k hlt).2.2.2.2.1
      have d6 := (hB.cell (p := ⟨b, off + k * 6 + 5, none⟩) hb).trans (HCL.out k hlt).2.2.2.2.2
      have hfk := HC.out.fit _ (el_mem hlt)
      have hcn := HC.out.next _ (el_mem hlt)
      have hev := el_val hlt
      have hin := HZ.out.2 k hlt
      obtain ⟨⟨nm, kd, sa, sb, cp, ⟨nxo, nxc, nx⟩⟩, ex⟩ : ∃ v, v = el ts k := ⟨_, rfl⟩
      rw [← ex] at d1 d2 d3 d4 d5 d6 hfk hev hin hcn
      have HE : Hid (el (ts.map valNode) k = (nm, kd, sa, sb, cp, nx)) := hev
      have HI : Hid (kI.In w1.heap.size w1 nxo nx) := hin
      have hki : (k : Int) < (ts.length : Int) := by omega
      clear ex hev hin
      dsimp only at d1 d2 d3 d4 d5 d6 hfk hcn
      have hB2 : Below w1.heap.size w1 (wr.alloc (.cells #[.string nm, .int .i64 kd, .int .i64 sa, .int .i64 sb, .int .i64 cp, .slice nxo nx.length nxc] 39)) := Below.allocS hB _
      cases hnm : nameB nm
      · have HNM := hid hnm
        clear hnm
        have HBK := hid (brk_of (gs := ts.map valNode) (i := 0) (k := k) (by rw [val_len]; exact hlt) (by simp only [prule, Int.toNat_natCast]; rw [HE.out]; simp [HNM.out]))
        have HCD := hid (codeG_rule HM.out (show 0 < 5 by decide) HBK.out (fun j hj => by
            omega))
        go_wp2_with fail
        refine (l1Name_is nm _ (by omega)).mono ?_
        rw [HNM.out]
        rintro e w2 ⟨rfl, rfl⟩
        go_wp2
        go_ret
        exact ⟨by rw [HCD.out]; rfl, hB2⟩
      · have HNM := hid hnm
        clear hnm
        go_wp2_with fail
        refine (l1Name_is nm _ (by omega)).mono ?_
        rw [HNM.out]
        rintro e w2 ⟨rfl, rfl⟩
        go_wp2
        go_roundw
        case rel =>
          refine ⟨k + 1, by go_num, by omega, fun j hj => ?_, hB2⟩
          rcases Nat.lt_succ_iff_lt_or_eq.1 hj with h | rfl
          · exact hN.out j h
          · simp only [prule, Int.toNat_natCast]; rw [HE.out]; simp [HNM.out]
        case measure => simp [intOf]; omega
    · obtain rfl : k = ts.length := by omega
      have HN0 := hid (brk_no (gs := ts.map valNode) (i := 0) (fun k hk => hN.out k (by rw [val_len] at hk; exact hk)))
      clear hN hlt hk
      go_wp2
      go_loopw [35] (fun i wr => ∃ k : Nat, i = .int .i64 (k : Int) ∧ k ≤ ts.length ∧ Hid (∀ j : Nat, j < k → prule (ts.map valNode) 1 (j : Int) = false) ∧ Below w1.heap.size w1 wr) (fun i _ => ts.length - (intOf i).toNat)
      case atStart => exact ⟨0, rfl, Nat.zero_le _, fun j hj => by omega, hB⟩
      case round =>
        clear hB; obtain ⟨k, rfl, hk, hN, hB⟩ := hrel
        by_cases hlt : k < ts.length
        · have d1 := (hB.cell (p := ⟨b, off + k * 6, none⟩) hb).trans (HCL.out k hlt).1
          have d2 := (hB.cell (p := ⟨b, off + k * 6 + 1, none⟩) hb).trans (HCL.out k hlt).2.1
          have d3 := (hB.cell (p := ⟨b, off + k * 6 + 2, none⟩) hb).trans (HCL.out k hlt).2.2.1
          have d4 := (hB.cell (p := ⟨b, off + k * 6 + 3, none⟩) hb).trans (HCL.out k hlt).2.2.2.1
          have d5 := (hB.cell (p := ⟨b, off + k * 6 + 4, none⟩) hb).trans (HCL.out k hlt).2.2.2.2.1
          have d6 := (hB.cell (p := ⟨b, off + k * 6 + 5, none⟩) hb).trans (HCL.out k hlt).2.2.2.2.2
          have hfk := HC.out.fit _ (el_mem hlt)
          have hcn := HC.out.next _ (el_mem hlt)
          have hev := el_val hlt
          have hin := HZ.out.2 k hlt
          obtain ⟨⟨nm, kd, sa, sb, cp, ⟨nxo, nxc, nx⟩⟩, ex⟩ : ∃ v, v = el ts k := ⟨_, rfl⟩
          rw [← ex] at d1 d2 d3 d4 d5 d6 hfk hev hin hcn
          have HE : Hid (el (ts.map valNode) k = (nm, kd, sa, sb, cp, nx)) := hev
          have HI : Hid (kI.In w1.heap.size w1 nxo nx) := hin
          have hki : (k : Int) < (ts.length : Int) := by omega
          clear ex hev hin
          dsimp only at d1 d2 d3 d4 d5 d6 hfk hcn
          have hkc : (k : Int) ≤ (cap : Int) := by omega
          obtain ⟨V, hV⟩ : ∃ V, V = wr.alloc (.cells #[.string nm, .int .i64 kd, .int .i64 sa, .int .i64 sb, .int .i64 cp, .slice nxo nx.length nxc] 39) := ⟨_, rfl⟩
          have hbV : Below wr.heap.size wr V := by rw [hV]; exact below1 _ _
          have XV : Hid (Bx V wr.heap.size [.string nm, .int .i64 kd, .int .i64 sa, .int .i64 sb, .int .i64 cp, .slice nxo nx.length nxc]) := by rw [hV]; exact Bx.new [.string nm, .int .i64 kd, .int .i64 sa, .int .i64 sb, .int .i64 cp, .slice nxo nx.length nxc] _ rfl
          have hBV : Below w1.heap.size w1 V := hB.trans (hbV.mono hB.size)
          have HV := hid hV
          clear hV hbV
          go_wp2
          rw [← HV.out]
          obtain ⟨pb, hpb⟩ : ∃ pb, pb = wr.heap.size := ⟨_, rfl⟩
          rw [← hpb] at XV ⊢
          clear hpb HV d1 d2 d3 d4 d5 d6
          go_loopw [44] (fun i wr => ∃ m : Nat, i = .int .i64 (m : Int) ∧ m ≤ k ∧ Hid (∀ j : Nat, j < m → sameT (el (ts.map valNode) j).1 nm = false) ∧ Hid (Bx wr pb [.string nm, .int .i64 kd, .int .i64 sa, .int .i64 sb, .int .i64 cp, .slice nxo nx.length nxc]) ∧ Below w1.heap.size w1 wr) (fun i _ => k - (intOf i).toNat)
          case atStart => exact ⟨0, rfl, Nat.zero_le _, fun j hj => by omega, XV, hBV⟩
          case round =>
            clear hBV XV hB
            obtain ⟨m, rfl, hm, hA, hX, hB⟩ := hrel
            have x0 := hX.out.c 0 rfl
            have xs := hX.out.size
            by_cases hmk : m < k
            · have hmt : m < ts.length := by omega
              have e1 := (hB.cell (p := ⟨b, off + m * 6, none⟩) hb).trans (HCL.out m hmt).1
              have e2 := (hB.cell (p := ⟨b, off + m * 6 + 1, none⟩) hb).trans (HCL.out m hmt).2.1
              have e3 := (hB.cell (p := ⟨b, off + m * 6 + 2, none⟩) hb).trans (HCL.out m hmt).2.2.1
              have e4 := (hB.cell (p := ⟨b, off + m * 6 + 3, none⟩) hb).trans (HCL.out m hmt).2.2.2.1
              have e5 := (hB.cell (p := ⟨b, off + m * 6 + 4, none⟩) hb).trans (HCL.out m hmt).2.2.2.2.1
              have e6 := (hB.cell (p := ⟨b, off + m * 6 + 5, none⟩) hb).trans (HCL.out m hmt).2.2.2.2.2
              have hev := el_val hmt
              obtain ⟨⟨nm', kd', sa', sb', cp', ⟨nxo', nxc', nx'⟩⟩, ex⟩ : ∃ v, v = el ts m := ⟨_, rfl⟩
              rw [← ex] at e1 e2 e3 e4 e5 e6 hev
              have HE' : Hid ((el (ts.map valNode) m).1 = nm') := by rw [Hid, hev]; rfl
              clear ex hev
              dsimp only at e1 e2 e3 e4 e5 e6
              have hB2 : Below w1.heap.size w1 (wr.alloc (.cells #[.string nm', .int .i64 kd', .int .i64 sa', .int .i64 sb', .int .i64 cp', .slice nxo' nx'.length nxc'] 39)) := Below.allocS hB _
              have hX2 := hid (hX.out.alloc (.cells #[.string nm', .int .i64 kd', .int .i64 sa', .int .i64 sb', .int .i64 cp', .slice nxo' nx'.length nxc'] 39))
              cases hs : sameT nm' nm
              · have HS := hid hs
                unfold sameT at hs
                go_wp2
                go_roundw
                case rel =>
                  refine ⟨m + 1, by go_num, by omega, fun j hj => ?_, hX2, hB2⟩
                  rcases Nat.lt_succ_iff_lt_or_eq.1 hj with h | rfl
                  · exact hA.out j h
                  · rw [HE'.out]; exact HS.out
                case measure => simp [intOf]; omega
              · have HS := hid hs
                unfold sameT at hs
                have HBK := hid (brk_of (gs := ts.map valNode) (i := 1) (k := k) (by rw [val_len]; exact hlt) (by simp only [prule, Int.toNat_natCast]; rw [HE.out, List.any_eq_true]; exact ⟨el (ts.map valNode) m, mem_take_el (by rw [val_len]; exact hmt) hmk, by rw [HE'.out]; exact HS.out⟩))
                have HCD := hid (codeG_rule HM.out (show 1 < 5 by decide) HBK.out (fun j hj => by
                    rcases (show j = 0 from by omega) with rfl
                    · exact HN0.out))
                go_wp2
                go_ret
                exact ⟨by rw [HCD.out]; rfl, hB2⟩
            · obtain rfl : m = k := by omega
              clear hmk
              go_wp2
              go_roundw
              case rel =>
                refine ⟨m + 1, by go_num, by omega, fun j hj => ?_, hB⟩
                rcases Nat.lt_succ_iff_lt_or_eq.1 hj with h | rfl
                · exact hN.out j h
                · simp only [prule, Int.toNat_natCast]; rw [HE.out, List.any_eq_false]; intro y hy; obtain ⟨j, hj, rfl⟩ := take_el_mem hy; simp [hA.out j hj]
              case measure => simp [intOf]; omega
        · obtain rfl : k = ts.length := by omega
          have HN1 := hid (brk_no (gs := ts.map valNode) (i := 1) (fun k hk => hN.out k (by rw [val_len] at hk; exact hk)))
          clear hN hlt hk
          go_wp2
          go_loopw [57] (fun i wr => ∃ k : Nat, i = .int .i64 (k : Int) ∧ k ≤ ts.length ∧ Hid (∀ j : Nat, j < k → prule (ts.map valNode) 2 (j : Int) = false) ∧ Below w1.heap.size w1 wr) (fun i _ => ts.length - (intOf i).toNat)
          case atStart => exact ⟨0, rfl, Nat.zero_le _, fun j hj => by omega, hB⟩
          case round =>
            clear hB; obtain ⟨k, rfl, hk, hN, hB⟩ := hrel
            by_cases hlt : k < ts.length
            · have d1 := (hB.cell (p := ⟨b, off + k * 6, none⟩) hb).trans (HCL.out k hlt).1
              have d2 := (hB.cell (p := ⟨b, off + k * 6 + 1, none⟩) hb).trans (HCL.out k hlt).2.1
              have d3 := (hB.cell (p := ⟨b, off + k * 6 + 2, none⟩) hb).trans (HCL.out k hlt).2.2.1
              have d4 := (hB.cell (p := ⟨b, off + k * 6 + 3, none⟩) hb).trans (HCL.out k hlt).2.2.2.1
              have d5 := (hB.cell (p := ⟨b, off + k * 6 + 4, none⟩) hb).trans (HCL.out k hlt).2.2.2.2.1
              have d6 := (hB.cell (p := ⟨b, off + k * 6 + 5, none⟩) hb).trans (HCL.out k hlt).2.2.2.2.2
              have hfk := HC.out.fit _ (el_mem hlt)
              have hcn := HC.out.next _ (el_mem hlt)
              have hev := el_val hlt
              have hin := HZ.out.2 k hlt
              obtain ⟨⟨nm, kd, sa, sb, cp, ⟨nxo, nxc, nx⟩⟩, ex⟩ : ∃ v, v = el ts k := ⟨_, rfl⟩
              rw [← ex] at d1 d2 d3 d4 d5 d6 hfk hev hin hcn
              have HE : Hid (el (ts.map valNode) k = (nm, kd, sa, sb, cp, nx)) := hev
              have HI : Hid (kI.In w1.heap.size w1 nxo nx) := hin
              have hki : (k : Int) < (ts.length : Int) := by omega
              clear ex hev hin
              dsimp only at d1 d2 d3 d4 d5 d6 hfk hcn
              have hB2 : Below w1.heap.size w1 (wr.alloc (.cells #[.string nm, .int .i64 kd, .int .i64 sa, .int .i64 sb, .int .i64 cp, .slice nxo nx.length nxc] 39)) := Below.allocS hB _
              cases hnm : goodSt kd sa sb
              · have HNM := hid hnm
                clear hnm
                have HBK := hid (brk_of (gs := ts.map valNode) (i := 2) (k := k) (by rw [val_len]; exact hlt) (by simp only [prule, Int.toNat_natCast]; rw [HE.out]; simp [HNM.out]))
                have HCD := hid (codeG_rule HM.out (show 2 < 5 by decide) HBK.out (fun j hj => by
                    rcases (show j = 0 ∨ j = 1 from by omega) with rfl | rfl
                    · exact HN0.out
                    · exact HN1.out))
                go_wp2_with fail
                refine (specGood_is kd sa sb _ false HNM.out).mono ?_
                rintro e w2 ⟨rfl, rfl⟩
                go_wp2
                go_ret
                exact ⟨by rw [HCD.out]; rfl, Below.allocS hB2 _⟩
              · have HNM := hid hnm
                clear hnm
                go_wp2_with fail
                refine (specGood_is kd sa sb _ true HNM.out).mono ?_
                rintro e w2 ⟨rfl, rfl⟩
                go_wp2
                go_roundw
                case rel =>
                  refine ⟨k + 1, by go_num, by omega, fun j hj => ?_, Below.allocS hB2 _⟩
                  rcases Nat.lt_succ_iff_lt_or_eq.1 hj with h | rfl
                  · exact hN.out j h
                  · simp only [prule, Int.toNat_natCast]; rw [HE.out]; simp [HNM.out]
                case measure => simp [intOf]; omega
            · obtain rfl : k = ts.length := by omega
              have HN2 := hid (brk_no (gs := ts.map valNode) (i := 2) (fun k hk => hN.out k (by rw [val_len] at hk; exact hk)))
              clear hN hlt hk
              go_wp2
              go_loopw [68] (fun i wr => ∃ k : Nat, i = .int .i64 (k : Int) ∧ k ≤ ts.length ∧ Hid (∀ j : Nat, j < k → prule (ts.map valNode) 3 (j : Int) = false) ∧ Below w1.heap.size w1 wr) (fun i _ => ts.length - (intOf i).toNat)
              case atStart => exact ⟨0, rfl, Nat.zero_le _, fun j hj => by omega, hB⟩
              case round =>
                clear hB; obtain ⟨k, rfl, hk, hN, hB⟩ := hrel
                by_cases hlt : k < ts.length
                · have d1 := (hB.cell (p := ⟨b, off + k * 6, none⟩) hb).trans (HCL.out k hlt).1
                  have d2 := (hB.cell (p := ⟨b, off + k * 6 + 1, none⟩) hb).trans (HCL.out k hlt).2.1
                  have d3 := (hB.cell (p := ⟨b, off + k * 6 + 2, none⟩) hb).trans (HCL.out k hlt).2.2.1
                  have d4 := (hB.cell (p := ⟨b, off + k * 6 + 3, none⟩) hb).trans (HCL.out k hlt).2.2.2.1
                  have d5 := (hB.cell (p := ⟨b, off + k * 6 + 4, none⟩) hb).trans (HCL.out k hlt).2.2.2.2.1
                  have d6 := (hB.cell (p := ⟨b, off + k * 6 + 5, none⟩) hb).trans (HCL.out k hlt).2.2.2.2.2
                  have hfk := HC.out.fit _ (el_mem hlt)
                  have hcn := HC.out.next _ (el_mem hlt)
                  have hev := el_val hlt
                  have hin := HZ.out.2 k hlt
                  obtain ⟨⟨nm, kd, sa, sb, cp, ⟨nxo, nxc, nx⟩⟩, ex⟩ : ∃ v, v = el ts k := ⟨_, rfl⟩
                  rw [← ex] at d1 d2 d3 d4 d5 d6 hfk hev hin hcn
                  have HE : Hid (el (ts.map valNode) k = (nm, kd, sa, sb, cp, nx)) := hev
                  have HI : Hid (kI.In w1.heap.size w1 nxo nx) := hin
                  have hki : (k : Int) < (ts.length : Int) := by omega
                  clear ex hev hin
                  dsimp only at d1 d2 d3 d4 d5 d6 hfk hcn
                  have hB2 : Below w1.heap.size w1 (wr.alloc (.cells #[.string nm, .int .i64 kd, .int .i64 sa, .int .i64 sb, .int .i64 cp, .slice nxo nx.length nxc] 39)) := Below.allocS hB _
                  cases hnm : (decide (3 ≤ cp) && decide (cp ≤ 8))
                  · have HNM := hid hnm
                    clear hnm
                    have HBK := hid (brk_of (gs := ts.map valNode) (i := 3) (k := k) (by rw [val_len]; exact hlt) (by simp only [prule, Int.toNat_natCast, HE.out]; have h := HNM.out; simp at h ⊢; omega))
                    have HCD := hid (codeG_rule HM.out (show 3 < 5 by decide) HBK.out (fun j hj => by
                        rcases (show j = 0 ∨ j = 1 ∨ j = 2 from by omega) with rfl | rfl | rfl
                        · exact HN0.out
                        · exact HN1.out
                        · exact HN2.out))
                    go_wp2_with fail
                    refine (l1In_is cp 3 8 _ false HNM.out).mono ?_
                    rintro e w2 ⟨rfl, rfl⟩
                    go_wp2
                    go_ret
                    exact ⟨by rw [HCD.out]; rfl, hB2⟩
                  · have HNM := hid hnm
                    clear hnm
                    go_wp2_with fail
                    refine (l1In_is cp 3 8 _ true HNM.out).mono ?_
                    rintro e w2 ⟨rfl, rfl⟩
                    go_wp2
                    go_roundw
                    case rel =>
                      refine ⟨k + 1, by go_num, by omega, fun j hj => ?_, hB2⟩
                      rcases Nat.lt_succ_iff_lt_or_eq.1 hj with h | rfl
                      · exact hN.out j h
                      · simp only [prule, Int.toNat_natCast, HE.out]; have h := HNM.out; simp at h ⊢; omega
                    case measure => simp [intOf]; omega
                · obtain rfl : k = ts.length := by omega
                  have HN3 := hid (brk_no (gs := ts.map valNode) (i := 3) (fun k hk => hN.out k (by rw [val_len] at hk; exact hk)))
                  clear hN hlt hk
                  go_wp2
                  go_loopw [79] (fun i wr => ∃ k : Nat, i = .int .i64 (k : Int) ∧ k ≤ ts.length ∧ Hid (∀ j : Nat, j < k → prule (ts.map valNode) 4 (j : Int) = false) ∧ Below w1.heap.size w1 wr) (fun i _ => ts.length - (intOf i).toNat)
                  case atStart => exact ⟨0, rfl, Nat.zero_le _, fun j hj => by omega, hB⟩
                  case round =>
                    clear hB; obtain ⟨k, rfl, hk, hN, hB⟩ := hrel
                    by_cases hlt : k < ts.length
                    · have d1 := (hB.cell (p := ⟨b, off + k * 6, none⟩) hb).trans (HCL.out k hlt).1
                      have d2 := (hB.cell (p := ⟨b, off + k * 6 + 1, none⟩) hb).trans (HCL.out k hlt).2.1
                      have d3 := (hB.cell (p := ⟨b, off + k * 6 + 2, none⟩) hb).trans (HCL.out k hlt).2.2.1
                      have d4 := (hB.cell (p := ⟨b, off + k * 6 + 3, none⟩) hb).trans (HCL.out k hlt).2.2.2.1
                      have d5 := (hB.cell (p := ⟨b, off + k * 6 + 4, none⟩) hb).trans (HCL.out k hlt).2.2.2.2.1
                      have d6 := (hB.cell (p := ⟨b, off + k * 6 + 5, none⟩) hb).trans (HCL.out k hlt).2.2.2.2.2
                      have hfk := HC.out.fit _ (el_mem hlt)
                      have hcn := HC.out.next _ (el_mem hlt)
                      have hev := el_val hlt
                      have hin := HZ.out.2 k hlt
                      obtain ⟨⟨nm, kd, sa, sb, cp, ⟨nxo, nxc, nx⟩⟩, ex⟩ : ∃ v, v = el ts k := ⟨_, rfl⟩
                      rw [← ex] at d1 d2 d3 d4 d5 d6 hfk hev hin hcn
                      have HE : Hid (el (ts.map valNode) k = (nm, kd, sa, sb, cp, nx)) := hev
                      have HI : Hid (kI.In w1.heap.size w1 nxo nx) := hin
                      have hki : (k : Int) < (ts.length : Int) := by omega
                      clear ex hev hin
                      dsimp only at d1 d2 d3 d4 d5 d6 hfk hcn
                      obtain ⟨V, hV⟩ : ∃ V, V = wr.alloc (.cells #[.string nm, .int .i64 kd, .int .i64 sa, .int .i64 sb, .int .i64 cp, .slice nxo nx.length nxc] 39) := ⟨_, rfl⟩
                      have hbV : Below wr.heap.size wr V := by rw [hV]; exact below1 _ _
                      have XV : Hid (Bx V wr.heap.size [.string nm, .int .i64 kd, .int .i64 sa, .int .i64 sb, .int .i64 cp, .slice nxo nx.length nxc]) := by rw [hV]; exact Bx.new [.string nm, .int .i64 kd, .int .i64 sa, .int .i64 sb, .int .i64 cp, .slice nxo nx.length nxc] _ rfl
                      have hBV : Below w1.heap.size w1 V := hB.trans (hbV.mono hB.size)
                      have HV := hid hV
                      clear hV hbV
                      go_wp2
                      rw [← HV.out]
                      obtain ⟨pb, hpb⟩ : ∃ pb, pb = wr.heap.size := ⟨_, rfl⟩
                      rw [← hpb] at XV ⊢
                      clear hpb HV d1 d2 d3 d4 d5 d6
                      go_loopw [86] (fun i wr => ∃ m : Nat, i = .int .i64 (m : Int) ∧ m ≤ nx.length ∧ Hid ((nx.take m).Nodup ∧ ∀ j : Nat, j < m → 0 ≤ el nx j ∧ el nx j < (ts.length : Int)) ∧ Hid (Bx wr pb [.string nm, .int .i64 kd, .int .i64 sa, .int .i64 sb, .int .i64 cp, .slice nxo nx.length nxc]) ∧ Below w1.heap.size w1 wr) (fun i _ => nx.length - (intOf i).toNat)
                      case atStart => exact ⟨0, rfl, Nat.zero_le _, ⟨by simp, fun j hj => by omega⟩, XV, hBV⟩
                      case round =>
                        clear hBV XV hB
                        obtain ⟨m, rfl, hm, hA, hX, hB⟩ := hrel
                        have x5 := hX.out.c 5 rfl
                        by_cases hmk : m < nx.length
                        · obtain ⟨nb, noff, rfl, hnb, hnc⟩ := ints_at HI.out hmk
                          have cm := (hB.cell (p := ⟨nb, noff + m, none⟩) hnb).trans (hnc m hmk)
                          obtain ⟨x, hx⟩ : ∃ x, x = el nx m := ⟨_, rfl⟩
                          rw [← hx] at cm
                          have HX := hid hx
                          have hmi : (m : Int) < (nx.length : Int) := by omega
                          have hmc : (m : Int) ≤ (nxc : Int) := by omega
                          clear hx hnc
                          cases hr : (decide (0 ≤ x) && decide (x ≤ (ts.length : Int) - 1))
                          · have HR := hid hr
                            clear hr
                            have HBK := hid (brk_of (gs := ts.map valNode) (i := 4) (k := k) (by rw [val_len]; exact hlt) (by simp only [prule, Int.toNat_natCast]; rw [HE.out, val_len]; simp only [Bool.not_eq_true']; refine Bool.eq_false_iff.2 fun h => ?_; have h2 := (goodNx_iff.1 h).1 _ (el_mem hmk); have h3 := HR.out; rw [HX.out] at h3; simp at h3; omega))
                            have HCD := hid (codeG_rule HM.out (show 4 < 5 by decide) HBK.out (fun j hj => by
                                rcases (show j = 0 ∨ j = 1 ∨ j = 2 ∨ j = 3 from by omega) with rfl | rfl | rfl | rfl
                                · exact HN0.out
                                · exact HN1.out
                                · exact HN2.out
                                · exact HN3.out))
                            go_wp2_with fail
                            refine (l1In_is x 0 ((ts.length : Int) - 1) _ false HR.out).mono ?_
                            rintro e w2 ⟨rfl, rfl⟩
                            go_wp2
                            go_ret
                            exact ⟨by rw [HCD.out]; rfl, hB⟩
                          · have HR := hid hr
                            clear hr
                            cases hh : hasB (nx.take m) x
                            · have HH := hid hh
                              clear hh
                              go_wp2_with fail
                              refine (l1In_is x 0 ((ts.length : Int) - 1) _ true HR.out).mono ?_
                              rintro e w2 ⟨rfl, rfl⟩
                              go_wp2_with fail
                              refine (l1Has_of w2.heap.size (some ⟨nb, noff, none⟩) m nxc (nx.take m) x w2 false (by simp; omega) (by simp; omega) ((HI.out.later hB).take m) HH.out).mono ?_
                              rintro e w3 ⟨rfl, rfl⟩
                              go_wp2
                              go_roundw
                              case rel =>
                                refine ⟨m + 1, by go_num, by omega, ⟨nodup_succ hmk hA.out.1 (by rw [← HX.out]; simpa [hasB] using HH.out), fun j hj => ?_⟩, hX, hB⟩
                                rcases Nat.lt_succ_iff_lt_or_eq.1 hj with h | rfl
                                · exact hA.out.2 j h
                                · rw [← HX.out]; have h3 := HR.out; simp at h3; omega
                              case measure => simp [intOf]; omega
                            · have HH := hid hh
                              clear hh
                              have HBK := hid (brk_of (gs := ts.map valNode) (i := 4) (k := k) (by rw [val_len]; exact hlt) (by simp only [prule, Int.toNat_natCast]; rw [HE.out, val_len]; simp only [Bool.not_eq_true']; refine Bool.eq_false_iff.2 fun h => ?_; exact nodup_take hmk (goodNx_iff.1 h).2 (by rw [← HX.out]; simpa [hasB] using HH.out)))
                              have HCD := hid (codeG_rule HM.out (show 4 < 5 by decide) HBK.out (fun j hj => by
                                  rcases (show j = 0 ∨ j = 1 ∨ j = 2 ∨ j = 3 from by omega) with rfl | rfl | rfl | rfl
                                  · exact HN0.out
                                  · exact HN1.out
                                  · exact HN2.out
                                  · exact HN3.out))
                              go_wp2_with fail
                              refine (l1In_is x 0 ((ts.length : Int) - 1) _ true HR.out).mono ?_
                              rintro e w2 ⟨rfl, rfl⟩
                              go_wp2_with fail
                              refine (l1Has_of w2.heap.size (some ⟨nb, noff, none⟩) m nxc (nx.take m) x w2 true (by simp; omega) (by simp; omega) ((HI.out.later hB).take m) HH.out).mono ?_
                              rintro e w3 ⟨rfl, rfl⟩
                              go_wp2
                              go_ret
                              exact ⟨by rw [HCD.out]; rfl, hB⟩
                        · obtain rfl : m = nx.length := by omega
                          clear hmk
                          have HGN : Hid (goodNx nx (ts.length : Int) = true) := goodNx_iff.2 ⟨fun x hx => by obtain ⟨j, hj, rfl⟩ := mem_el hx; exact hA.out.2 j hj, by have := hA.out.1; rwa [List.take_length] at this⟩
                          go_wp2
                          go_roundw
                          case rel =>
                            refine ⟨k + 1, by go_num, by omega, fun j hj => ?_, hB⟩
                            rcases Nat.lt_succ_iff_lt_or_eq.1 hj with h | rfl
                            · exact hN.out j h
                            · simp only [prule, Int.toNat_natCast]; rw [HE.out, val_len]; simp [HGN.out]
                          case measure => simp [intOf]; omega
                    · obtain rfl : k = ts.length := by omega
                      have HN4 := hid (brk_no (gs := ts.map valNode) (i := 4) (fun k hk => hN.out k (by rw [val_len] at hk; exact hk)))
                      clear hN hlt hk
                      go_wp2
                      have HED := hid (edges_of (gs := ts.map valNode) (by rw [val_len]; exact h10) HN4.out)
                      have HRS : Hid (codeG (ts.map valNode) = if (orderP (ts.map valNode)).length < (ts.map valNode).length then 7 else 0) := codeG_rest HM.out (fun j hj => by
                        rcases (show j = 0 ∨ j = 1 ∨ j = 2 ∨ j = 3 ∨ j = 4 from by omega) with rfl | rfl | rfl | rfl | rfl
                        · exact HN0.out
                        · exact HN1.out
                        · exact HN2.out
                        · exact HN3.out
                        · exact HN4.out)
                      go_loopw [109] (fun i wr => ∃ k : Nat, i = .int .i64 (k : Int) ∧ k ≤ ts.length ∧ Hid (∀ j : Nat, j < k → ¬ Rch (ts.map valNode) j j) ∧ Below w1.heap.size w1 wr) (fun i _ => ts.length - (intOf i).toNat)
                      case atStart => exact ⟨0, rfl, Nat.zero_le _, fun j hj => by omega, hB⟩
                      case round =>
                        clear hB
                        obtain ⟨k, rfl, hk, hN, hB⟩ := hrel
                        by_cases hlt : k < ts.length
                        · go_wp2_with fail
                          refine (l11Reach_is (some ⟨b, off, none⟩) cap ts k k wr HC.out.fit HED.out hlt (HZ.out.later dNode_ok hB)).mono ?_
                          rintro e w2 ⟨⟨r, rfl, hr⟩, hb2⟩
                          have hB2 := hB.trans (hb2.mono hB.size)
                          have HR := hid hr
                          clear hb2 hr
                          cases r
                          · go_wp2
                            go_roundw
                            case rel =>
                              refine ⟨k + 1, by go_num, by omega, fun j hj => ?_, hB2⟩
                              rcases Nat.lt_succ_iff_lt_or_eq.1 hj with h | rfl
                              · exact hN.out j h
                              · intro h; have := HR.out.2 h; cases this
                            case measure => simp [intOf]; omega
                          · have HCD : Hid (codeG (ts.map valNode) = 7) := by
                              rw [Hid, HRS.out, if_pos ((order_short HED.out).2 ⟨k, by rw [val_len]; exact hlt, HR.out.1 rfl⟩)]
                            go_wp2
                            go_ret
                            exact ⟨by rw [HCD.out]; rfl, hB2⟩
                        · obtain rfl : k = ts.length := by omega
                          have HCD : Hid (codeG (ts.map valNode) = 0) := by
                            rw [Hid, HRS.out, if_neg (fun h => by obtain ⟨i, hi, hr⟩ := (order_short HED.out).1 h; exact hN.out i (by rw [val_len] at hi; exact hi) hr)]
                          go_wp2
                          go_ret
                          exact ⟨by rw [HCD.out]; rfl, hB⟩
end Go.Proofs.YteamcpcjooglaaaDoor
