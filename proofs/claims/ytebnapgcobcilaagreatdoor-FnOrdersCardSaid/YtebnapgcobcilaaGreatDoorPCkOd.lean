/- What is wrong with a graph: the specification. No conditions but those written. RoomOf, the program's and the specification's. No conditions but those written. How many nodes lead to each; the sources: the specification. No conditions but those written. SourcesOf, the program's and the specification's. No conditions but those written. The order of a graph: the specification. No conditions but those written. -/
import Derived.Test.YtebnapgcobcilaaGreatDoorPId11Rc
namespace Go.Proofs.YtebnapgcobcilaaGreatDoor
section
open Go.RowKit

theorem brk_of {gs : List PNode} {i k : Nat} (hk : k < gs.length) (h : prule gs i (k : Int) = true) : brk gs i = true := by
  rw [brk, List.any_eq_true]; exact ⟨_, numsI_has hk, h⟩
theorem brk_no {gs : List PNode} {i : Nat} (h : ∀ k : Nat, k < gs.length → prule gs i (k : Int) = false) : brk gs i = false := by
  rw [brk, List.any_eq_false]
  intro x hx
  obtain ⟨k, hk, rfl⟩ := numsI_mem hx
  simp [h k hk]
theorem brk_at {gs : List PNode} {i k : Nat} (h : brk gs i = false) (hk : k < gs.length) : prule gs i (k : Int) = false := by
  rw [brk, List.any_eq_false] at h
  simpa using h _ (numsI_has hk)
theorem goodNx_iff {nx : List Int} {n : Nat} : goodNx nx (n : Int) = true ↔ (∀ x ∈ nx, 0 ≤ x ∧ x < (n : Int)) ∧ nx.Nodup := by
  have ha : (nx.any (noneI (n : Int)) = false) ↔ ∀ x ∈ nx, 0 ≤ x ∧ x < (n : Int) := by
    rw [List.any_eq_false]
    constructor
    · intro h x hx
      have := h x hx
      simp [noneI] at this
      omega
    · intro h x hx
      have := h x hx
      simp [noneI]
      omega
  rw [goodNx, Bool.and_eq_true, Bool.and_eq_true, Bool.not_eq_true', ha, onceB, decide_eq_true_eq, decide_eq_true_eq]
  constructor
  · exact fun h => h.2
  · intro h
    have := pigeon n nx h.2 h.1
    exact ⟨by omega, h⟩
theorem edges_of {gs : List PNode} (hn : gs.length ≤ 10) (h : brk gs 4 = false) : EdgesIn gs := by
  have hg : ∀ a, a < gs.length → goodNx (nxP gs a) (gs.length : Int) = true := fun a ha => by
    have := brk_at h ha
    simp only [prule, Int.toNat_natCast] at this
    simpa [nxP] using this
  refine ⟨fun a ha x hx => ?_, fun a ha => ?_, hn⟩
  · have := (goodNx_iff.1 (hg a ha)).1 x hx
    exact ⟨x.toNat, by omega, by omega⟩
  · have h2 := goodNx_iff.1 (hg a ha)
    have := pigeon gs.length _ h2.2 h2.1
    omega
theorem mem_take_el {α : Type} [Inhabited α] {l : List α} {j k : Nat} (hj : j < l.length) (hk : j < k) : el l j ∈ l.take k := by
  rw [← el_take hk]; exact el_mem (by simp; omega)
theorem take_el_mem {α : Type} [Inhabited α] {l : List α} {k : Nat} {x : α} (h : x ∈ l.take k) : ∃ j, j < k ∧ x = el l j := by
  obtain ⟨j, hj, rfl⟩ := mem_el h
  have hj' : j < k := by simp at hj; omega
  exact ⟨j, hj', el_take hj'⟩
theorem val_len (ts : List LNode) : (ts.map valNode).length = ts.length := List.length_map _
set_option maxRecDepth 100000 in
set_option maxHeartbeats 32000000 in
theorem specCheck_is (ao : Option Addr) (cap : Nat) (ts : List LNode) (w : World) (hC : Roomy ts cap) (hz : DIn dNode w.heap.size w ao ts) :
    Calls Tryz.prog 18 #[.slice ao ts.length cap] w fun e w' => e = .returned (.int .i64 (codeG (ts.map valNode) : Nat)) ∧ Below w.heap.size w w' := by
  have hl1 := hC.len
  have hcap := hC.row
  by_cases hmany : ts.length < 1 ∨ 10 < ts.length
  · have HV := hid (codeG_many (gs := ts.map valNode) (by rw [val_len]; exact hmany))
    go_enter Tryz.func18, Tryz.ntmps18
    go_wp2_with fail
    refine (l1In_is ts.length 1 10 _ false (Bool.and_eq_false_iff.2 (hmany.elim (fun h => .inl (decide_eq_false (by omega))) (fun h => .inr (decide_eq_false (by omega)))))).mono ?_
    rintro e w1 ⟨rfl, rfl⟩
    go_wp2
    go_ret
    exact ⟨by rw [HV.out]; rfl, Below.refl _ _⟩
  have HM : Hid (¬ ((ts.map valNode).length < 1 ∨ 10 < (ts.map valNode).length)) := by rw [Hid, val_len]; exact hmany
  have h10 : ts.length ≤ 10 := by omega
  have h1n : 1 ≤ ts.length := by omega
  have HZ := hid hz
  have HC := hid hC
  obtain ⟨b, off, rfl, hb, hc⟩ := hNode_at hz.1 (show 0 < ts.length by omega)
  have HCL := hid hc
  clear hz hc hmany hC
  go_enter Tryz.func18, Tryz.ntmps18
  go_wp2_with fail
  refine (l1In_is ts.length 1 10 _ true (by simp; omega)).mono ?_
  rintro e w1 ⟨rfl, rfl⟩
  go_wp2
  go_loopw [24] (fun i wr => ∃ k : Nat, i = .int .i64 (k : Int) ∧ k ≤ ts.length ∧ Hid (∀ j : Nat, j < k → prule (ts.map valNode) 0 (j : Int) = false) ∧ Below w1.heap.size w1 wr) (fun i _ => ts.length - (intOf i).toNat)
  case atStart => exact ⟨0, rfl, Nat.zero_le _, fun j hj => by omega, Below.refl _ _⟩
  case round =>
    obtain ⟨k, rfl, hk, hN, hB⟩ := hrel
    by_cases hlt : k < ts.length
    · have d1 := (hB.cell (p := ⟨b, off + k * 6, none⟩) hb).trans (HCL.out k hlt).1
      have d2 := (hB.cell (p := ⟨b, off + k * 6 + 1, none⟩) hb).trans (HCL.out k hlt).2.1
      have d3 := (hB.cell (p := ⟨b, off + k * 6 + 2, none⟩) hb).trans (HCL.out k hlt).2.2.1
      have d4 := (hB.cell (p := ⟨b, off + k * 6 + 3, none⟩) hb).trans (HCL.out k hlt).2.2.2.1
      have d5 := (hB.cell (p := ⟨b, off + k * 6 + 4, none⟩) hb).trans (HCL.out k hlt).2.2.2.2.1
      have d6 := (hB.cell (p := ⟨b, off + k * 6 + 5, none⟩) hb).trans (HCL.out k hlt).2.2.2.2.2
      have hfk := HC.out.fit _ (el_mem hlt)
      have hcn := HC.out.next _ (el_mem hlt)
      have hev := el_val hlt
      have hin := HZ.out.2 k hlt
      obtain ⟨⟨nm, kd, sa, sb, cp, ⟨nxo, nxc, nx⟩⟩, ex⟩ : ∃ v, v = el ts k := ⟨_, rfl⟩
      rw [← ex] at d1 d2 d3 d4 d5 d6 hfk hev hin hcn
      have HE : Hid (el (ts.map valNode) k = (nm, kd, sa, sb, cp, nx)) := hev
      have HI : Hid (kI.In w1.heap.size w1 nxo nx) := hin
      have hki : (k : Int) < (ts.length : Int) := by omega
      clear ex hev hin
      dsimp only at d1 d2 d3 d4 d5 d6 hfk hcn
      have hB2 : Below w1.heap.size w1 (wr.alloc (.cells #[.string nm, .int .i64 kd, .int .i64 sa, .int .i64 sb, .int .i64 cp, .slice nxo nx.length nxc] 34)) := Below.allocS hB _
      cases hnm : nameB nm
      · have HNM := hid hnm
        clear hnm
        have HBK := hid (brk_of (gs := ts.map valNode) (i := 0) (k := k) (by rw [val_len]; exact hlt) (by simp only [prule, Int.toNat_natCast]; rw [HE.out]; simp [HNM.out]))
        have HCD := hid (codeG_rule HM.out (show 0 < 5 by decide) HBK.out (fun j hj => by
            omega))
        go_wp2_with fail
        refine (l1Name_is nm _ (by omega)).mono ?_
        rw [HNM.out]
        rintro e w2 ⟨rfl, rfl⟩
        go_wp2
        go_ret
        exact ⟨by rw [HCD.out]; rfl, hB2⟩
      · have HNM := hid hnm
        clear hnm
        go_wp2_with fail
        refine (l1Name_is nm _ (by omega)).mono ?_
        rw [HNM.out]
        rintro e w2 ⟨rfl, rfl⟩
        go_wp2
        go_roundw
        case rel =>
          refine ⟨k + 1, by go_num, by omega, fun j hj => ?_, hB2⟩
          rcases Nat.lt_succ_iff_lt_or_eq.1 hj with h | rfl
          · exact hN.out j h
          · simp only [prule, Int.toNat_natCast]; rw [HE.out]; simp [HNM.out]
        case measure => simp [intOf]; omega
    · obtain rfl : k = ts.length := by omega
      have HN0 := hid (brk_no (gs := ts.map valNode) (i := 0) (fun k hk => hN.out k (by rw [val_len] at hk; exact hk)))
      clear hN hlt hk
      go_wp2
      go_loopw [35] (fun i wr => ∃ k : Nat, i = .int .i64 (k : Int) ∧ k ≤ ts.length ∧ Hid (∀ j : Nat, j < k → prule (ts.map valNode) 1 (j : Int) = false) ∧ Below w1.heap.size w1 wr) (fun i _ => ts.length - (intOf i).toNat)
      case atStart => exact ⟨0, rfl, Nat.zero_le _, fun j hj => by omega, hB⟩
      case round =>
        clear hB; obtain ⟨k, rfl, hk, hN, hB⟩ := hrel
        by_cases hlt : k < ts.length
        · have d1 := (hB.cell (p := ⟨b, off + k * 6, none⟩) hb).trans (HCL.out k hlt).1
          have d2 := (hB.cell (p := ⟨b, off + k * 6 + 1, none⟩) hb).trans (HCL.out k hlt).2.1
          have d3 := (hB.cell (p := ⟨b, off + k * 6 + 2, none⟩) hb).trans (HCL.out k hlt).2.2.1
          have d4 := (hB.cell (p := ⟨b, off + k * 6 + 3, none⟩) hb).trans (HCL.out k hlt).2.2.2.1
          have d5 := (hB.cell (p := ⟨b, off + k * 6 + 4, none⟩) hb).trans (HCL.out k hlt).2.2.2.2.1
          have d6 := (hB.cell (p := ⟨b, off + k * 6 + 5, none⟩) hb).trans (HCL.out k hlt).2.2.2.2.2
          have hfk := HC.out.fit _ (el_mem hlt)
          have hcn := HC.out.next _ (el_mem hlt)
          have hev := el_val hlt
          have hin := HZ.out.2 k hlt
          obtain ⟨⟨nm, kd, sa, sb, cp, ⟨nxo, nxc, nx⟩⟩, ex⟩ : ∃ v, v = el ts k := ⟨_, rfl⟩
          rw [← ex] at d1 d2 d3 d4 d5 d6 hfk hev hin hcn
          have HE : Hid (el (ts.map valNode) k = (nm, kd, sa, sb, cp, nx)) := hev
          have HI : Hid (kI.In w1.heap.size w1 nxo nx) := hin
          have hki : (k : Int) < (ts.length : Int) := by omega
          clear ex hev hin
          dsimp only at d1 d2 d3 d4 d5 d6 hfk hcn
          have hkc : (k : Int) ≤ (cap : Int) := by omega
          obtain ⟨V, hV⟩ : ∃ V, V = wr.alloc (.cells #[.string nm, .int .i64 kd, .int .i64 sa, .int .i64 sb, .int .i64 cp, .slice nxo nx.length nxc] 34) := ⟨_, rfl⟩
          have hbV : Below wr.heap.size wr V := by rw [hV]; exact below1 _ _
          have XV : Hid (Bx V wr.heap.size [.string nm, .int .i64 kd, .int .i64 sa, .int .i64 sb, .int .i64 cp, .slice nxo nx.length nxc]) := by rw [hV]; exact Bx.new [.string nm, .int .i64 kd, .int .i64 sa, .int .i64 sb, .int .i64 cp, .slice nxo nx.length nxc] _ rfl
          have hBV : Below w1.heap.size w1 V := hB.trans (hbV.mono hB.size)
          have HV := hid hV
          clear hV hbV
          go_wp2
          rw [← HV.out]
          obtain ⟨pb, hpb⟩ : ∃ pb, pb = wr.heap.size := ⟨_, rfl⟩
          rw [← hpb] at XV ⊢
          clear hpb HV d1 d2 d3 d4 d5 d6
          go_loopw [44] (fun i wr => ∃ m : Nat, i = .int .i64 (m : Int) ∧ m ≤ k ∧ Hid (∀ j : Nat, j < m → sameT (el (ts.map valNode) j).1 nm = false) ∧ Hid (Bx wr pb [.string nm, .int .i64 kd, .int .i64 sa, .int .i64 sb, .int .i64 cp, .slice nxo nx.length nxc]) ∧ Below w1.heap.size w1 wr) (fun i _ => k - (intOf i).toNat)
          case atStart => exact ⟨0, rfl, Nat.zero_le _, fun j hj => by omega, XV, hBV⟩
          case round =>
            clear hBV XV hB
            obtain ⟨m, rfl, hm, hA, hX, hB⟩ := hrel
            have x0 := hX.out.c 0 rfl
            have xs := hX.out.size
            by_cases hmk : m < k
            · have hmt : m < ts.length := by omega
              have e1 := (hB.cell (p := ⟨b, off + m * 6, none⟩) hb).trans (HCL.out m hmt).1
              have e2 := (hB.cell (p := ⟨b, off + m * 6 + 1, none⟩) hb).trans (HCL.out m hmt).2.1
              have e3 := (hB.cell (p := ⟨b, off + m * 6 + 2, none⟩) hb).trans (HCL.out m hmt).2.2.1
              have e4 := (hB.cell (p := ⟨b, off + m * 6 + 3, none⟩) hb).trans (HCL.out m hmt).2.2.2.1
              have e5 := (hB.cell (p := ⟨b, off + m * 6 + 4, none⟩) hb).trans (HCL.out m hmt).2.2.2.2.1
              have e6 := (hB.cell (p := ⟨b, off + m * 6 + 5, none⟩) hb).trans (HCL.out m hmt).2.2.2.2.2
              have hev := el_val hmt
              obtain ⟨⟨nm', kd', sa', sb', cp', ⟨nxo', nxc', nx'⟩⟩, ex⟩ : ∃ v, v = el ts m := ⟨_, rfl⟩
              rw [← ex] at e1 e2 e3 e4 e5 e6 hev
              have HE' : Hid ((el (ts.map valNode) m).1 = nm') := by rw [Hid, hev]; rfl
              clear ex hev
              dsimp only at e1 e2 e3 e4 e5 e6
              have hB2 : Below w1.heap.size w1 (wr.alloc (.cells #[.string nm', .int .i64 kd', .int .i64 sa', .int .i64 sb', .int .i64 cp', .slice nxo' nx'.length nxc'] 34)) := Below.allocS hB _
              have hX2 := hid (hX.out.alloc (.cells #[.string nm', .int .i64 kd', .int .i64 sa', .int .i64 sb', .int .i64 cp', .slice nxo' nx'.length nxc'] 34))
              cases hs : sameT nm' nm
              · have HS := hid hs
                unfold sameT at hs
                go_wp2
                go_roundw
                case rel =>
                  refine ⟨m + 1, by go_num, by omega, fun j hj => ?_, hX2, hB2⟩
                  rcases Nat.lt_succ_iff_lt_or_eq.1 hj with h | rfl
                  · exact hA.out j h
                  · rw [HE'.out]; exact HS.out
                case measure => simp [intOf]; omega
              · have HS := hid hs
                unfold sameT at hs
                have HBK := hid (brk_of (gs := ts.map valNode) (i := 1) (k := k) (by rw [val_len]; exact hlt) (by simp only [prule, Int.toNat_natCast]; rw [HE.out, List.any_eq_true]; exact ⟨el (ts.map valNode) m, mem_take_el (by rw [val_len]; exact hmt) hmk, by rw [HE'.out]; exact HS.out⟩))
                have HCD := hid (codeG_rule HM.out (show 1 < 5 by decide) HBK.out (fun j hj => by
                    rcases (show j = 0 from by omega) with rfl
                    · exact HN0.out))
                go_wp2
                go_ret
                exact ⟨by rw [HCD.out]; rfl, hB2⟩
            · obtain rfl : m = k := by omega
              clear hmk
              go_wp2
              go_roundw
              case rel =>
                refine ⟨m + 1, by go_num, by omega, fun j hj => ?_, hB⟩
                rcases Nat.lt_succ_iff_lt_or_eq.1 hj with h | rfl
                · exact hN.out j h
                · simp only [prule, Int.toNat_natCast]; rw [HE.out, List.any_eq_false]; intro y hy; obtain ⟨j, hj, rfl⟩ := take_el_mem hy; simp [hA.out j hj]
              case measure => simp [intOf]; omega
        · obtain rfl : k = ts.length := by omega
          have HN1 := hid (brk_no (gs := ts.map valNode) (i := 1) (fun k hk => hN.out k (by rw [val_len] at hk; exact hk)))
          clear hN hlt hk
          go_wp2
          go_loopw [57] (fun i wr => ∃ k : Nat, i = .int .i64 (k : Int) ∧ k ≤ ts.length ∧ Hid (∀ j : Nat, j < k → prule (ts.map valNode) 2 (j : Int) = false) ∧ Below w1.heap.size w1 wr) (fun i _ => ts.length - (intOf i).toNat)
          case atStart => exact ⟨0, rfl, Nat.zero_le _, fun j hj => by omega, hB⟩
          case round =>
            clear hB; obtain ⟨k, rfl, hk, hN, hB⟩ := hrel
            by_cases hlt : k < ts.length
            · have d1 := (hB.cell (p := ⟨b, off + k * 6, none⟩) hb).trans (HCL.out k hlt).1
              have d2 := (hB.cell (p := ⟨b, off + k * 6 + 1, none⟩) hb).trans (HCL.out k hlt).2.1
              have d3 := (hB.cell (p := ⟨b, off + k * 6 + 2, none⟩) hb).trans (HCL.out k hlt).2.2.1
              have d4 := (hB.cell (p := ⟨b, off + k * 6 + 3, none⟩) hb).trans (HCL.out k hlt).2.2.2.1
              have d5 := (hB.cell (p := ⟨b, off + k * 6 + 4, none⟩) hb).trans (HCL.out k hlt).2.2.2.2.1
              have d6 := (hB.cell (p := ⟨b, off + k * 6 + 5, none⟩) hb).trans (HCL.out k hlt).2.2.2.2.2
              have hfk := HC.out.fit _ (el_mem hlt)
              have hcn := HC.out.next _ (el_mem hlt)
              have hev := el_val hlt
              have hin := HZ.out.2 k hlt
              obtain ⟨⟨nm, kd, sa, sb, cp, ⟨nxo, nxc, nx⟩⟩, ex⟩ : ∃ v, v = el ts k := ⟨_, rfl⟩
              rw [← ex] at d1 d2 d3 d4 d5 d6 hfk hev hin hcn
              have HE : Hid (el (ts.map valNode) k = (nm, kd, sa, sb, cp, nx)) := hev
              have HI : Hid (kI.In w1.heap.size w1 nxo nx) := hin
              have hki : (k : Int) < (ts.length : Int) := by omega
              clear ex hev hin
              dsimp only at d1 d2 d3 d4 d5 d6 hfk hcn
              have hB2 : Below w1.heap.size w1 (wr.alloc (.cells #[.string nm, .int .i64 kd, .int .i64 sa, .int .i64 sb, .int .i64 cp, .slice nxo nx.length nxc] 34)) := Below.allocS hB _
              cases hnm : goodSt kd sa sb
              · have HNM := hid hnm
                clear hnm
                have HBK := hid (brk_of (gs := ts.map valNode) (i := 2) (k := k) (by rw [val_len]; exact hlt) (by simp only [prule, Int.toNat_natCast]; rw [HE.out]; simp [HNM.out]))
                have HCD := hid (codeG_rule HM.out (show 2 < 5 by decide) HBK.out (fun j hj => by
                    rcases (show j = 0 ∨ j = 1 from by omega) with rfl | rfl
                    · exact HN0.out
                    · exact HN1.out))
                go_wp2_with fail
                refine (specGood_is kd sa sb _ false HNM.out).mono ?_
                rintro e w2 ⟨rfl, rfl⟩
                go_wp2
                go_ret
                exact ⟨by rw [HCD.out]; rfl, Below.allocS hB2 _⟩
              · have HNM := hid hnm
                clear hnm
                go_wp2_with fail
                refine (specGood_is kd sa sb _ true HNM.out).mono ?_
                rintro e w2 ⟨rfl, rfl⟩
                go_wp2
                go_roundw
                case rel =>
                  refine ⟨k + 1, by go_num, by omega, fun j hj => ?_, Below.allocS hB2 _⟩
                  rcases Nat.lt_succ_iff_lt_or_eq.1 hj with h | rfl
                  · exact hN.out j h
                  · simp only [prule, Int.toNat_natCast]; rw [HE.out]; simp [HNM.out]
                case measure => simp [intOf]; omega
            · obtain rfl : k = ts.length := by omega
              have HN2 := hid (brk_no (gs := ts.map valNode) (i := 2) (fun k hk => hN.out k (by rw [val_len] at hk; exact hk)))
              clear hN hlt hk
              go_wp2
              go_loopw [68] (fun i wr => ∃ k : Nat, i = .int .i64 (k : Int) ∧ k ≤ ts.length ∧ Hid (∀ j : Nat, j < k → prule (ts.map valNode) 3 (j : Int) = false) ∧ Below w1.heap.size w1 wr) (fun i _ => ts.length - (intOf i).toNat)
              case atStart => exact ⟨0, rfl, Nat.zero_le _, fun j hj => by omega, hB⟩
              case round =>
                clear hB; obtain ⟨k, rfl, hk, hN, hB⟩ := hrel
                by_cases hlt : k < ts.length
                · have d1 := (hB.cell (p := ⟨b, off + k * 6, none⟩) hb).trans (HCL.out k hlt).1
                  have d2 := (hB.cell (p := ⟨b, off + k * 6 + 1, none⟩) hb).trans (HCL.out k hlt).2.1
                  have d3 := (hB.cell (p := ⟨b, off + k * 6 + 2, none⟩) hb).trans (HCL.out k hlt).2.2.1
                  have d4 := (hB.cell (p := ⟨b, off + k * 6 + 3, none⟩) hb).trans (HCL.out k hlt).2.2.2.1
                  have d5 := (hB.cell (p := ⟨b, off + k * 6 + 4, none⟩) hb).trans (HCL.out k hlt).2.2.2.2.1
                  have d6 := (hB.cell (p := ⟨b, off + k * 6 + 5, none⟩) hb).trans (HCL.out k hlt).2.2.2.2.2
                  have hfk := HC.out.fit _ (el_mem hlt)
                  have hcn := HC.out.next _ (el_mem hlt)
                  have hev := el_val hlt
                  have hin := HZ.out.2 k hlt
                  obtain ⟨⟨nm, kd, sa, sb, cp, ⟨nxo, nxc, nx⟩⟩, ex⟩ : ∃ v, v = el ts k := ⟨_, rfl⟩
                  rw [← ex] at d1 d2 d3 d4 d5 d6 hfk hev hin hcn
                  have HE : Hid (el (ts.map valNode) k = (nm, kd, sa, sb, cp, nx)) := hev
                  have HI : Hid (kI.In w1.heap.size w1 nxo nx) := hin
                  have hki : (k : Int) < (ts.length : Int) := by omega
                  clear ex hev hin
                  dsimp only at d1 d2 d3 d4 d5 d6 hfk hcn
                  have hB2 : Below w1.heap.size w1 (wr.alloc (.cells #[.string nm, .int .i64 kd, .int .i64 sa, .int .i64 sb, .int .i64 cp, .slice nxo nx.length nxc] 34)) := Below.allocS hB _
                  cases hnm : (decide (3 ≤ cp) && decide (cp ≤ 8))
                  · have HNM := hid hnm
                    clear hnm
                    have HBK := hid (brk_of (gs := ts.map valNode) (i := 3) (k := k) (by rw [val_len]; exact hlt) (by simp only [prule, Int.toNat_natCast, HE.out]; have h := HNM.out; simp at h ⊢; omega))
                    have HCD := hid (codeG_rule HM.out (show 3 < 5 by decide) HBK.out (fun j hj => by
                        rcases (show j = 0 ∨ j = 1 ∨ j = 2 from by omega) with rfl | rfl | rfl
                        · exact HN0.out
                        · exact HN1.out
                        · exact HN2.out))
                    go_wp2_with fail
                    refine (l1In_is cp 3 8 _ false HNM.out).mono ?_
                    rintro e w2 ⟨rfl, rfl⟩
                    go_wp2
                    go_ret
                    exact ⟨by rw [HCD.out]; rfl, hB2⟩
                  · have HNM := hid hnm
                    clear hnm
                    go_wp2_with fail
                    refine (l1In_is cp 3 8 _ true HNM.out).mono ?_
                    rintro e w2 ⟨rfl, rfl⟩
                    go_wp2
                    go_roundw
                    case rel =>
                      refine ⟨k + 1, by go_num, by omega, fun j hj => ?_, hB2⟩
                      rcases Nat.lt_succ_iff_lt_or_eq.1 hj with h | rfl
                      · exact hN.out j h
                      · simp only [prule, Int.toNat_natCast, HE.out]; have h := HNM.out; simp at h ⊢; omega
                    case measure => simp [intOf]; omega
                · obtain rfl : k = ts.length := by omega
                  have HN3 := hid (brk_no (gs := ts.map valNode) (i := 3) (fun k hk => hN.out k (by rw [val_len] at hk; exact hk)))
                  clear hN hlt hk
                  go_wp2
                  go_loopw [79] (fun i wr => ∃ k : Nat, i = .int .i64 (k : Int) ∧ k ≤ ts.length ∧ Hid (∀ j : Nat, j < k → prule (ts.map valNode) 4 (j : Int) = false) ∧ Below w1.heap.size w1 wr) (fun i _ => ts.length - (intOf i).toNat)
                  case atStart => exact ⟨0, rfl, Nat.zero_le _, fun j hj => by omega, hB⟩
                  case round =>
                    clear hB; obtain ⟨k, rfl, hk, hN, hB⟩ := hrel
                    by_cases hlt : k < ts.length
                    · have d1 := (hB.cell (p := ⟨b, off + k * 6, none⟩) hb).trans (HCL.out k hlt).1
                      have d2 := (hB.cell (p := ⟨b, off + k * 6 + 1, none⟩) hb).trans (HCL.out k hlt).2.1
                      have d3 := (hB.cell (p := ⟨b, off + k * 6 + 2, none⟩) hb).trans (HCL.out k hlt).2.2.1
                      have d4 := (hB.cell (p := ⟨b, off + k * 6 + 3, none⟩) hb).trans (HCL.out k hlt).2.2.2.1
                      have d5 := (hB.cell (p := ⟨b, off + k * 6 + 4, none⟩) hb).trans (HCL.out k hlt).2.2.2.2.1
                      have d6 := (hB.cell (p := ⟨b, off + k * 6 + 5, none⟩) hb).trans (HCL.out k hlt).2.2.2.2.2
                      have hfk := HC.out.fit _ (el_mem hlt)
                      have hcn := HC.out.next _ (el_mem hlt)
                      have hev := el_val hlt
                      have hin := HZ.out.2 k hlt
                      obtain ⟨⟨nm, kd, sa, sb, cp, ⟨nxo, nxc, nx⟩⟩, ex⟩ : ∃ v, v = el ts k := ⟨_, rfl⟩
                      rw [← ex] at d1 d2 d3 d4 d5 d6 hfk hev hin hcn
                      have HE : Hid (el (ts.map valNode) k = (nm, kd, sa, sb, cp, nx)) := hev
                      have HI : Hid (kI.In w1.heap.size w1 nxo nx) := hin
                      have hki : (k : Int) < (ts.length : Int) := by omega
                      clear ex hev hin
                      dsimp only at d1 d2 d3 d4 d5 d6 hfk hcn
                      obtain ⟨V, hV⟩ : ∃ V, V = wr.alloc (.cells #[.string nm, .int .i64 kd, .int .i64 sa, .int .i64 sb, .int .i64 cp, .slice nxo nx.length nxc] 34) := ⟨_, rfl⟩
                      have hbV : Below wr.heap.size wr V := by rw [hV]; exact below1 _ _
                      have XV : Hid (Bx V wr.heap.size [.string nm, .int .i64 kd, .int .i64 sa, .int .i64 sb, .int .i64 cp, .slice nxo nx.length nxc]) := by rw [hV]; exact Bx.new [.string nm, .int .i64 kd, .int .i64 sa, .int .i64 sb, .int .i64 cp, .slice nxo nx.length nxc] _ rfl
                      have hBV : Below w1.heap.size w1 V := hB.trans (hbV.mono hB.size)
                      have HV := hid hV
                      clear hV hbV
                      go_wp2
                      rw [← HV.out]
                      obtain ⟨pb, hpb⟩ : ∃ pb, pb = wr.heap.size := ⟨_, rfl⟩
                      rw [← hpb] at XV ⊢
                      clear hpb HV d1 d2 d3 d4 d5 d6
                      go_loopw [86] (fun i wr => ∃ m : Nat, i = .int .i64 (m : Int) ∧ m ≤ nx.length ∧ Hid ((nx.take m).Nodup ∧ ∀ j : Nat, j < m → 0 ≤ el nx j ∧ el nx j < (ts.length : Int)) ∧ Hid (Bx wr pb [.string nm, .int .i64 kd, .int .i64 sa, .int .i64 sb, .int .i64 cp, .slice nxo nx.length nxc]) ∧ Below w1.heap.size w1 wr) (fun i _ => nx.length - (intOf i).toNat)
                      case atStart => exact ⟨0, rfl, Nat.zero_le _, ⟨by simp, fun j hj => by omega⟩, XV, hBV⟩
                      case round =>
                        clear hBV XV hB
                        obtain ⟨m, rfl, hm, hA, hX, hB⟩ := hrel
                        have x5 := hX.out.c 5 rfl
                        by_cases hmk : m < nx.length
                        · obtain ⟨nb, noff, rfl, hnb, hnc⟩ := ints_at HI.out hmk
                          have cm := (hB.cell (p := ⟨nb, noff + m, none⟩) hnb).trans (hnc m hmk)
                          obtain ⟨x, hx⟩ : ∃ x, x = el nx m := ⟨_, rfl⟩
                          rw [← hx] at cm
                          have HX := hid hx
                          have hmi : (m : Int) < (nx.length : Int) := by omega
                          have hmc : (m : Int) ≤ (nxc : Int) := by omega
                          clear hx hnc
                          cases hr : (decide (0 ≤ x) && decide (x ≤ (ts.length : Int) - 1))
                          · have HR := hid hr
                            clear hr
                            have HBK := hid (brk_of (gs := ts.map valNode) (i := 4) (k := k) (by rw [val_len]; exact hlt) (by simp only [prule, Int.toNat_natCast]; rw [HE.out, val_len]; simp only [Bool.not_eq_true']; refine Bool.eq_false_iff.2 fun h => ?_; have h2 := (goodNx_iff.1 h).1 _ (el_mem hmk); have h3 := HR.out; rw [HX.out] at h3; simp at h3; omega))
                            have HCD := hid (codeG_rule HM.out (show 4 < 5 by decide) HBK.out (fun j hj => by
                                rcases (show j = 0 ∨ j = 1 ∨ j = 2 ∨ j = 3 from by omega) with rfl | rfl | rfl | rfl
                                · exact HN0.out
                                · exact HN1.out
                                · exact HN2.out
                                · exact HN3.out))
                            go_wp2_with fail
                            refine (l1In_is x 0 ((ts.length : Int) - 1) _ false HR.out).mono ?_
                            rintro e w2 ⟨rfl, rfl⟩
                            go_wp2
                            go_ret
                            exact ⟨by rw [HCD.out]; rfl, hB⟩
                          · have HR := hid hr
                            clear hr
                            cases hh : hasB (nx.take m) x
                            · have HH := hid hh
                              clear hh
                              go_wp2_with fail
                              refine (l1In_is x 0 ((ts.length : Int) - 1) _ true HR.out).mono ?_
                              rintro e w2 ⟨rfl, rfl⟩
                              go_wp2_with fail
                              refine (l1Has_of w2.heap.size (some ⟨nb, noff, none⟩) m nxc (nx.take m) x w2 false (by simp; omega) (by simp; omega) ((HI.out.later hB).take m) HH.out).mono ?_
                              rintro e w3 ⟨rfl, rfl⟩
                              go_wp2
                              go_roundw
                              case rel =>
                                refine ⟨m + 1, by go_num, by omega, ⟨nodup_succ hmk hA.out.1 (by rw [← HX.out]; simpa [hasB] using HH.out), fun j hj => ?_⟩, hX, hB⟩
                                rcases Nat.lt_succ_iff_lt_or_eq.1 hj with h | rfl
                                · exact hA.out.2 j h
                                · rw [← HX.out]; have h3 := HR.out; simp at h3; omega
                              case measure => simp [intOf]; omega
                            · have HH := hid hh
                              clear hh
                              have HBK := hid (brk_of (gs := ts.map valNode) (i := 4) (k := k) (by rw [val_len]; exact hlt) (by simp only [prule, Int.toNat_natCast]; rw [HE.out, val_len]; simp only [Bool.not_eq_true']; refine Bool.eq_false_iff.2 fun h => ?_; exact nodup_take hmk (goodNx_iff.1 h).2 (by rw [← HX.out]; simpa [hasB] using HH.out)))
                              have HCD := hid (codeG_rule HM.out (show 4 < 5 by decide) HBK.out (fun j hj => by
                                  rcases (show j = 0 ∨ j = 1 ∨ j = 2 ∨ j = 3 from by omega) with rfl | rfl | rfl | rfl
                                  · exact HN0.out
                                  · exact HN1.out
                                  · exact HN2.out
                                  · exact HN3.out))
                              go_wp2_with fail
                              refine (l1In_is x 0 ((ts.length : Int) - 1) _ true HR.out).mono ?_
                              rintro e w2 ⟨rfl, rfl⟩
                              go_wp2_with fail
                              refine (l1Has_of w2.heap.size (some ⟨nb, noff, none⟩) m nxc (nx.take m) x w2 true (by simp; omega) (by simp; omega) ((HI.out.later hB).take m) HH.out).mono ?_
                              rintro e w3 ⟨rfl, rfl⟩
                              go_wp2
                              go_ret
                              exact ⟨by rw [HCD.out]; rfl, hB⟩
                        · obtain rfl : m = nx.length := by omega
                          clear hmk
                          have HGN : Hid (goodNx nx (ts.length : Int) = true) := goodNx_iff.2 ⟨fun x hx => by obtain ⟨j, hj, rfl⟩ := mem_el hx; exact hA.out.2 j hj, by have := hA.out.1; rwa [List.take_length] at this⟩
                          go_wp2
                          go_roundw
                          case rel =>
                            refine ⟨k + 1, by go_num, by omega, fun j hj => ?_, hB⟩
                            rcases Nat.lt_succ_iff_lt_or_eq.1 hj with h | rfl
                            · exact hN.out j h
                            · simp only [prule, Int.toNat_natCast]; rw [HE.out, val_len]; simp [HGN.out]
                          case measure => simp [intOf]; omega
                    · obtain rfl : k = ts.length := by omega
                      have HN4 := hid (brk_no (gs := ts.map valNode) (i := 4) (fun k hk => hN.out k (by rw [val_len] at hk; exact hk)))
                      clear hN hlt hk
                      go_wp2
                      have HED := hid (edges_of (gs := ts.map valNode) (by rw [val_len]; exact h10) HN4.out)
                      have HRS : Hid (codeG (ts.map valNode) = if (orderP (ts.map valNode)).length < (ts.map valNode).length then 7 else 0) := codeG_rest HM.out (fun j hj => by
                        rcases (show j = 0 ∨ j = 1 ∨ j = 2 ∨ j = 3 ∨ j = 4 from by omega) with rfl | rfl | rfl | rfl | rfl
                        · exact HN0.out
                        · exact HN1.out
                        · exact HN2.out
                        · exact HN3.out
                        · exact HN4.out)
                      go_loopw [109] (fun i wr => ∃ k : Nat, i = .int .i64 (k : Int) ∧ k ≤ ts.length ∧ Hid (∀ j : Nat, j < k → ¬ Rch (ts.map valNode) j j) ∧ Below w1.heap.size w1 wr) (fun i _ => ts.length - (intOf i).toNat)
                      case atStart => exact ⟨0, rfl, Nat.zero_le _, fun j hj => by omega, hB⟩
                      case round =>
                        clear hB
                        obtain ⟨k, rfl, hk, hN, hB⟩ := hrel
                        by_cases hlt : k < ts.length
                        · go_wp2_with fail
                          refine (l11Reach_is (some ⟨b, off, none⟩) cap ts k k wr HC.out.fit HED.out hlt (HZ.out.later dNode_ok hB)).mono ?_
                          rintro e w2 ⟨⟨r, rfl, hr⟩, hb2⟩
                          have hB2 := hB.trans (hb2.mono hB.size)
                          have HR := hid hr
                          clear hb2 hr
                          cases r
                          · go_wp2
                            go_roundw
                            case rel =>
                              refine ⟨k + 1, by go_num, by omega, fun j hj => ?_, hB2⟩
                              rcases Nat.lt_succ_iff_lt_or_eq.1 hj with h | rfl
                              · exact hN.out j h
                              · intro h; have := HR.out.2 h; cases this
                            case measure => simp [intOf]; omega
                          · have HCD : Hid (codeG (ts.map valNode) = 7) := by
                              rw [Hid, HRS.out, if_pos ((order_short HED.out).2 ⟨k, by rw [val_len]; exact hlt, HR.out.1 rfl⟩)]
                            go_wp2
                            go_ret
                            exact ⟨by rw [HCD.out]; rfl, hB2⟩
                        · obtain rfl : k = ts.length := by omega
                          have HCD : Hid (codeG (ts.map valNode) = 0) := by
                            rw [Hid, HRS.out, if_neg (fun h => by obtain ⟨i, hi, hr⟩ := (order_short HED.out).1 h; exact hN.out i (by rw [val_len] at hi; exact hi) hr)]
                          go_wp2
                          go_ret
                          exact ⟨by rw [HCD.out]; rfl, hB⟩
end
section
open Go.RowKit

theorem codeG_zero {gs : List PNode} (h : codeG gs = 0) : ¬ (gs.length < 1 ∨ 10 < gs.length) ∧ (∀ j, j < 5 → brk gs j = false) ∧ ¬ (orderP gs).length < gs.length := by
  have hm : ¬ (gs.length < 1 ∨ 10 < gs.length) := fun e => by rw [codeG_many e] at h; cases h
  have hall : ∀ i, i ≤ 5 → ∀ j, j < i → brk gs j = false := fun i => by
    induction i with
    | zero => intro _ j hj; omega
    | succ i ih =>
      intro hi j hj
      have hprev := ih (by omega)
      rcases Nat.lt_succ_iff_lt_or_eq.1 hj with h1 | rfl
      · exact hprev j h1
      · cases hb : brk gs j with
        | false => rfl
        | true => rw [codeG_rule hm (by omega) hb hprev] at h; omega
  refine ⟨hm, hall 5 (Nat.le_refl _), fun ho => ?_⟩
  rw [codeG_rest hm (hall 5 (Nat.le_refl _)), if_pos ho] at h
  cases h
/-- All rooms together, up to a node. -/
def capSum (gs : List PNode) (k : Nat) : Int := ((gs.take k).map fun a => a.2.2.2.2.1).sum
theorem capSum_succ {gs : List PNode} {k : Nat} (hk : k < gs.length) : capSum gs (k + 1) = capSum gs k + (el gs k).2.2.2.2.1 := by
  rw [capSum, take_succ_el hk]; simp [capSum]
/-- What RoomOf answers. -/
def roomR (gs : List PNode) : Int × Bool := if codeG gs = 0 then (capSum gs gs.length, true) else (0, false)
end
section
open Go.RowKit

/-- How many of the first nodes lead to it. -/
def ledC (gs : List PNode) (k : Nat) (x : Nat) : Nat := ((gs.take k).map fun a => a.2.2.2.2.2.count (x : Int)).sum
theorem ledC_succ {gs : List PNode} {k : Nat} (hk : k < gs.length) (x : Nat) : ledC gs (k + 1) x = ledC gs k x + (nxP gs k).count (x : Int) := by
  rw [ledC, take_succ_el hk]; simp [ledC, nxP]
theorem ledC_le {gs : List PNode} (hE : EdgesIn gs) (x : Nat) : ∀ k, k ≤ gs.length → ledC gs k x ≤ 10 * k
  | 0, _ => by simp [ledC]
  | k + 1, hk => by
    have h1 := ledC_le hE x k (by omega)
    have h2 := hE.few k (by omega)
    have h3 : (nxP gs k).count (x : Int) ≤ (nxP gs k).length := List.count_le_length
    rw [ledC_succ (by omega)]; omega
/-- The counts, some of one node's being counted. -/
def ledL (gs : List PNode) (k : Nat) (nx : List Int) : List Int := (List.range gs.length).map fun x : Nat => ((ledC gs k x + nx.count (x : Int) : Nat) : Int)
theorem ledL_len (gs : List PNode) (k : Nat) (nx : List Int) : (ledL gs k nx).length = gs.length := by simp [ledL]
theorem ledL_el {gs : List PNode} {x : Nat} (hx : x < gs.length) (k : Nat) (nx : List Int) : el (ledL gs k nx) x = ((ledC gs k x + nx.count (x : Int) : Nat) : Int) := by simp [ledL, el, hx]
theorem ledL_step {gs : List PNode} {j : Nat} (_hj : j < gs.length) (k : Nat) (nx : List Int) : (ledL gs k nx).set j (((ledC gs k j + nx.count (j : Int) : Nat) : Int) + 1) = ledL gs k (nx ++ [(j : Int)]) := by
  refine List.ext_getElem (by simp [ledL]) fun i h1 h2 => ?_
  have hi : i < gs.length := by simpa [ledL] using h2
  rw [List.getElem_set]
  by_cases e : j = i
  · subst e; simp [ledL, List.count_append]; omega
  · rw [if_neg e]
    have hne : ((j : Nat) : Int) ≠ ((i : Nat) : Int) := by omega
    simp [ledL, List.count_append, List.count_singleton, hne]
theorem ledL_next {gs : List PNode} {k : Nat} (hk : k < gs.length) : ledL gs k (nxP gs k) = ledL gs (k + 1) [] := by
  simp only [ledL, ledC_succ hk]; simp
theorem ledL_zero (gs : List PNode) : ledL gs 0 [] = List.replicate gs.length 0 := by
  refine List.ext_getElem (by simp [ledL]) fun i h1 h2 => ?_
  simp [ledL, ledC]
theorem map_setI (l : List Int) (k : Nat) (x : Int) : (l.set k x).map (Value.int .i64) = (l.map (Value.int .i64)).set k (.int .i64 x) := by rw [List.map_set]
theorem map_elI {l : List Int} {k : Nat} (hk : k < l.length) : (l.map (Value.int .i64))[k]? = some (.int .i64 (el l k)) := by rw [List.getElem?_map, List.getElem?_eq_getElem hk, el_at hk]; rfl
theorem rep_mapI (n : Nat) : (List.replicate n (0 : Int)).map (Value.int .i64) = List.replicate n (Value.int .i64 0) := by simp
/-- The cells of a row of ints. -/
theorem bx_in {W : World} {g : Nat} {l : List Int} (h : Bx W g (l.map (Value.int .i64))) : kI.In W.heap.size W (some ⟨g, 0, none⟩) l :=
  ints_mk h.size fun j hj => by rw [Nat.zero_add]; exact h.c j (map_elI hj)
set_option maxRecDepth 10000 in
set_option maxHeartbeats 8000000 in
theorem l11Led_is (ao : Option Addr) (cap : Nat) (ts : List LNode) (w : World) (hE : EdgesIn (ts.map valNode)) (hz : DIn dNode w.heap.size w ao ts) :
    Calls Tryz.prog 45 #[.slice ao ts.length cap] w fun e w' => e = .returned (.slice (some ⟨w.heap.size, 0, none⟩) ts.length ts.length) ∧ Bx w' w.heap.size ((ledL (ts.map valNode) ts.length []).map (Value.int .i64)) ∧ Below w.heap.size w w' := by
  obtain ⟨i0, hi, hz0, hz1, hz2⟩ := info_parts Tryz.info3
  have h10 : ts.length ≤ 10 := by have := hE.many; simpa using this
  have HE := hid hE
  have HZ := hid hz
  clear hz hE
  go_enter Tryz.func45, Tryz.ntmps45
  go_wp2_with (at_make; refine wpList_make_full _ rfl _ _ 26 rfl w.heap.size 3 i0 (.int .i64 0) 1 Tryz.underlying26 hi hz0 hz1 .i64 .i64 _ _ ts.length rfl rfl rfl rfl (by rw [hz2]; omega) (by unfold maxLen; omega) (Nat.le_refl _) ?_; intro w1 hown hgrow; have hB1 : Below w.heap.size w w1 := (Below.refl _ _).grown hgrow (Nat.le_refl _) (fun k e => by cases e); have HO := hid (made_box hown); clear hown hgrow)
  have HO1 : Hid (Bx w1 w.heap.size ((ledL (ts.map valNode) 0 []).map (Value.int .i64))) := by
    have h : Bx w1 w.heap.size (madeCells #[Value.int .i64 0] (ts.length * 1)).toList := HO.out
    rw [toList_madeCells_one, Nat.mul_one] at h
    rw [Hid, ledL_zero, rep_mapI, val_len]; exact h
  clear HO
  go_loopw [13] (fun i wr => ∃ k : Nat, i = .int .i64 (k : Int) ∧ k ≤ ts.length ∧ Hid (Bx wr w.heap.size ((ledL (ts.map valNode) k []).map (Value.int .i64))) ∧ Below w.heap.size w wr) (fun i _ => ts.length - (intOf i).toNat)
  case atStart => exact ⟨0, rfl, Nat.zero_le _, HO1, hB1⟩
  case round =>
    clear hB1 HO1
    obtain ⟨k, rfl, hk, hO, hB⟩ := hrel
    by_cases hlt : k < ts.length
    · obtain ⟨b, off, rfl, hb, hc⟩ := hNode_at HZ.out.1 hlt
      have d1 := (hB.cell (p := ⟨b, off + k * 6, none⟩) hb).trans (hc k hlt).1
      have d2 := (hB.cell (p := ⟨b, off + k * 6 + 1, none⟩) hb).trans (hc k hlt).2.1
      have d3 := (hB.cell (p := ⟨b, off + k * 6 + 2, none⟩) hb).trans (hc k hlt).2.2.1
      have d4 := (hB.cell (p := ⟨b, off + k * 6 + 3, none⟩) hb).trans (hc k hlt).2.2.2.1
      have d5 := (hB.cell (p := ⟨b, off + k * 6 + 4, none⟩) hb).trans (hc k hlt).2.2.2.2.1
      have d6 := (hB.cell (p := ⟨b, off + k * 6 + 5, none⟩) hb).trans (hc k hlt).2.2.2.2.2
      have hev := el_val hlt
      have hin := HZ.out.2 k hlt
      obtain ⟨⟨nm, kd, sa, sb, cp, ⟨nxo, nxc, nx⟩⟩, ex⟩ : ∃ v, v = el ts k := ⟨_, rfl⟩
      rw [← ex] at d1 d2 d3 d4 d5 d6 hev hin
      have HX : Hid (nxP (ts.map valNode) k = nx) := by rw [Hid, nxP, hev]; rfl
      have HI : Hid (kI.In w.heap.size w nxo nx) := hin
      have hnl : nx.length ≤ 10 := by rw [← HX.out]; exact HE.out.few k (by rw [val_len]; exact hlt)
      have hki : (k : Int) < (ts.length : Int) := by omega
      clear ex hev hin hc
      dsimp only at d1 d2 d3 d4 d5 d6
      obtain ⟨V, hV⟩ : ∃ V, V = wr.alloc (.cells #[.string nm, .int .i64 kd, .int .i64 sa, .int .i64 sb, .int .i64 cp, .slice nxo nx.length nxc] 34) := ⟨_, rfl⟩
      have hbV : Below wr.heap.size wr V := by rw [hV]; exact below1 _ _
      have XV := hid (hO.out.later hbV)
      have hBV : Below w.heap.size w V := hB.trans (hbV.mono hB.size)
      have HV := hid hV
      clear hV hbV
      go_wp2
      rw [← HV.out]
      obtain ⟨pb, hpb⟩ : ∃ pb, pb = wr.heap.size := ⟨_, rfl⟩
      rw [← hpb]
      clear hpb HV d1 d2 d3 d4 d5 d6 hO
      go_loopw [20] (fun i wr => ∃ m : Nat, i = .int .i64 (m : Int) ∧ m ≤ nx.length ∧ Hid (Bx wr w.heap.size ((ledL (ts.map valNode) k (nx.take m)).map (Value.int .i64))) ∧ Below w.heap.size w wr) (fun i _ => nx.length - (intOf i).toNat)
      case atStart => exact ⟨0, rfl, Nat.zero_le _, by rw [List.take_zero]; exact XV, hBV⟩
      case round =>
        clear hBV XV hB
        obtain ⟨m, rfl, hm, hX, hB⟩ := hrel
        by_cases hmk : m < nx.length
        · obtain ⟨nb, noff, rfl, hnb, hnc⟩ := ints_at HI.out hmk
          have cm := (hB.cell (p := ⟨nb, noff + m, none⟩) hnb).trans (hnc m hmk)
          obtain ⟨j, hj, hx⟩ := HE.out.rng k (by rw [val_len]; exact hlt) (el nx m) (by rw [HX.out]; exact el_mem hmk)
          rw [val_len] at hj
          rw [hx] at cm
          have HXJ := hid hx
          clear hx hnc
          have hmi : (m : Int) < (nx.length : Int) := by omega
          have hji : (j : Int) < (ts.length : Int) := by omega
          have hjv : j < (ts.map valNode).length := by rw [val_len]; exact hj
          have cj := hX.out.c j (map_elI (by rw [ledL_len]; exact hjv))
          have fj := hX.out.f j (map_elI (by rw [ledL_len]; exact hjv))
          rw [ledL_el hjv] at cj
          have hq1 := ledC_le HE.out j k (by rw [val_len]; omega)
          have hq2 : (nx.take m).count (j : Int) ≤ m := Nat.le_trans List.count_le_length (by simp; omega)
          have HST := hid (ledL_step hjv k (nx.take m))
          rw [← HXJ.out, ← take_succ_el hmk] at HST
          obtain ⟨q, hq⟩ : ∃ q, q = ledC (ts.map valNode) k j + (nx.take m).count (j : Int) := ⟨_, rfl⟩
          rw [HXJ.out, ← hq] at HST
          rw [← hq] at cj
          have hq3 : q ≤ 1000 := by omega
          clear hq hq1 hq2
          have HS := hid (hX.out.set j (.int .i64 ((q : Int) + 1)))
          rw [← map_setI, HST.out] at HS
          have hB2 := hB.setCell (p := ⟨w.heap.size, j, none⟩) (Nat.le_refl _) (.int .i64 ((q : Int) + 1))
          go_wp2
          go_roundw
          case rel => exact ⟨m + 1, by go_num, by omega, HS, hB2⟩
          case measure => simp [intOf]; omega
        · obtain rfl : m = nx.length := by omega
          have HS : Hid (Bx wr w.heap.size ((ledL (ts.map valNode) (k + 1) []).map (Value.int .i64))) := by
            have h := hX.out
            rw [List.take_length, ← HX.out, ledL_next (by rw [val_len]; exact hlt)] at h
            exact h
          go_wp2
          go_roundw
          case rel => exact ⟨k + 1, by go_num, by omega, HS, hB⟩
          case measure => simp [intOf]; omega
    · obtain rfl : k = ts.length := by omega
      go_wp2
      go_ret
      exact ⟨rfl, hO.out, hB⟩
/-- The nodes to which none leads, of the first ones. -/
def srcP (gs : List PNode) (k : Nat) : List Int := (numsI k).filter fun x => decide (ledC gs gs.length x.toNat = 0)
theorem srcP_succ (gs : List PNode) (k : Nat) : srcP gs (k + 1) = if ledC gs gs.length k = 0 then srcP gs k ++ [(k : Int)] else srcP gs k := by
  rw [srcP, numsI_succ, List.filter_append]
  by_cases h : ledC gs gs.length k = 0
  · rw [if_pos h]; simp [srcP, h]
  · rw [if_neg h]; simp [srcP, h]
theorem srcP_len (gs : List PNode) (k : Nat) : (srcP gs k).length ≤ k := Nat.le_trans (List.length_filter_le _ _) (by rw [numsI_len]; exact Nat.le_refl _)
end
section
open Go.RowKit

theorem filter_succ {zs : List Int} {k : Nat} (hk : k < zs.length) (p : Int → Bool) : (zs.take (k + 1)).filter p = if p (el zs k) = true then (zs.take k).filter p ++ [el zs k] else (zs.take k).filter p := by
  rw [take_succ_el hk, List.filter_append]
  by_cases h : p (el zs k) = true
  · rw [if_pos h]; simp [h]
  · rw [if_neg h]; simp [h]
theorem filter_len (zs : List Int) (k : Nat) (p : Int → Bool) : ((zs.take k).filter p).length ≤ k := Nat.le_trans (List.length_filter_le _ _) (by simp; omega)
/-- A node that leads to it. -/
def leadsTo (b : Int) (x : LNode) : Bool := hasB x.2.2.2.2.2.2.2 b
theorem ledC_zero (ts : List LNode) (j : Nat) : decide (ledC (ts.map valNode) (ts.map valNode).length j = 0) = !ts.any (leadsTo (j : Int)) := by
  rw [ledC, List.take_length]
  induction ts with
  | nil => simp
  | cons a r ih =>
    have e : ((r.map valNode).map fun a => a.2.2.2.2.2.count (j : Int)).sum = 0 ↔ r.any (leadsTo (j : Int)) = false := by
      have h := ih
      constructor
      · intro h0; rw [decide_eq_true h0] at h; simpa using h.symm
      · intro h0; rw [h0] at h; simpa using h
    simp only [List.map_cons, List.sum_cons, List.any_cons]
    by_cases h1 : (j : Int) ∈ (valNode a).2.2.2.2.2
    · have h2 : leadsTo (j : Int) a = true := by simp only [leadsTo, hasB, decide_eq_true_eq]; exact h1
      have h3 : 0 < (valNode a).2.2.2.2.2.count (j : Int) := List.count_pos_iff.2 h1
      rw [h2, decide_eq_false (by omega)]; rfl
    · have h2 : leadsTo (j : Int) a = false := by simp only [leadsTo, hasB, decide_eq_false_iff_not]; exact h1
      rw [h2, List.count_eq_zero_of_not_mem h1, Nat.zero_add, Bool.false_or]
      cases h4 : r.any (leadsTo (j : Int)) with
      | false => rw [decide_eq_true (e.2 h4)]; rfl
      | true => rw [decide_eq_false (fun h => by rw [e.1 h] at h4; cases h4)]; rfl
theorem src_eq (ts : List LNode) : (numsI ts.length).filter (fun b => !ts.any (leadsTo b)) = srcP (ts.map valNode) ts.length := by
  rw [srcP]
  refine List.filter_congr fun x hx => ?_
  obtain ⟨k, _, rfl⟩ := numsI_mem hx
  rw [Int.toNat_natCast, ledC_zero]
/-- What SourcesOf answers. -/
def srcR (gs : List PNode) : List Int × Bool := if codeG gs = 0 then (srcP gs gs.length, true) else ([], false)
theorem srcR_len (gs : List PNode) : (srcR gs).1.length ≤ 10 := by
  rw [srcR]
  split
  · next h => have := (codeG_zero h).1; have := srcP_len gs gs.length; show (srcP gs gs.length).length ≤ 10; omega
  · simp
/-- A row of ints in its own memory and a bool, as an ending. -/
def AnsIB (w : World) (q : List Int) (y : Bool) (e : Ending) (w' : World) : Prop := (∃ go qc, e = .returned (.tuple #[.slice go q.length qc, .bool y]) ∧ kI.Fresh w.heap.size w'.heap.size w' go qc q) ∧ Below w.heap.size w w'
theorem Roomy.fitN {ts : List LNode} {cap : Nat} (h : Roomy ts cap) : FitN ts := fun a ha => h.fit a ha
end
section
open Go.RowKit

/-- How many of these lead to it. -/
def ledS (gs : List PNode) (l : List Int) (x : Nat) : Nat := (l.map fun a => (nxP gs a.toNat).count (x : Int)).sum
theorem ledS_nums {gs : List PNode} (x : Nat) : ∀ k, k ≤ gs.length → ledS gs (numsI k) x = ledC gs k x
  | 0, _ => by simp [ledS, ledC, numsI]
  | k + 1, hk => by
    rw [ledC_succ (by omega), ← ledS_nums x k (by omega), ledS, numsI_succ]
    simp [ledS]
theorem split_at {l : List Int} {p : Nat} (hp : p < l.length) : l = l.take p ++ el l p :: l.drop (p + 1) := by
  rw [el_at hp, ← List.drop_eq_getElem_cons hp, List.take_append_drop]
theorem ledS_cut (gs : List PNode) {l : List Int} {p : Nat} (hp : p < l.length) (x : Nat) : ledS gs l x = ledS gs (l.take p ++ l.drop (p + 1)) x + (nxP gs (el l p).toNat).count (x : Int) := by
  rw [ledS, split_at hp]
  simp only [ledS, List.map_append, List.sum_append, List.map_cons, List.sum_cons]
  rw [← split_at hp]
  omega
theorem ledS_zero (gs : List PNode) (x : Nat) : ∀ l : List Int, ledS gs l x = 0 ↔ ledP gs l (x : Int) = false
  | [] => by simp [ledS, ledP]
  | a :: r => by
    have ih := ledS_zero gs x r
    have e : ledS gs (a :: r) x = (nxP gs a.toNat).count (x : Int) + ledS gs r x := by simp [ledS]
    have e2 : ledP gs (a :: r) (x : Int) = (leadsP gs a (x : Int) || ledP gs r (x : Int)) := by simp [ledP]
    rw [e, e2, Bool.or_eq_false_iff, ← ih]
    have e3 : leadsP gs a (x : Int) = false ↔ (nxP gs a.toNat).count (x : Int) = 0 := by
      rw [List.count_eq_zero]
      show hasB (nxP gs a.toNat) (x : Int) = false ↔ _
      simp [hasB]
    rw [e3]; omega
theorem ledS_le {gs : List PNode} (hE : EdgesIn gs) (x : Nat) : ∀ l : List Int, (∀ a ∈ l, ∃ j : Nat, j < gs.length ∧ a = (j : Int)) → ledS gs l x ≤ 10 * l.length
  | [], _ => by simp [ledS]
  | a :: r, h => by
    have ih := ledS_le hE x r fun b hb => h b (by simp [hb])
    obtain ⟨j, hj, rfl⟩ := h a (by simp)
    have e : ledS gs ((j : Int) :: r) x = (nxP gs j).count (x : Int) + ledS gs r x := by simp [ledS]
    have h2 := hE.few j hj
    have h3 : (nxP gs j).count (x : Int) ≤ (nxP gs j).length := List.count_le_length
    rw [e]; simp only [List.length_cons]; omega
/-- The counts, some being taken away. -/
def decL (L nx : List Int) : List Int := (List.range L.length).map fun x : Nat => el L x - (nx.count (x : Int) : Nat)
theorem decL_len (L nx : List Int) : (decL L nx).length = L.length := by simp [decL]
theorem decL_el {L : List Int} {x : Nat} (hx : x < L.length) (nx : List Int) : el (decL L nx) x = el L x - (nx.count (x : Int) : Nat) := by simp [decL, el, hx]
theorem decL_nil (L : List Int) : decL L [] = L := by
  refine List.ext_getElem (by simp [decL]) fun i h1 h2 => ?_
  simp [decL, el, h2]
theorem decL_step {L : List Int} {j : Nat} (nx : List Int) : (decL L nx).set j (el L j - (nx.count (j : Int) : Nat) - 1) = decL L (nx ++ [(j : Int)]) := by
  refine List.ext_getElem (by simp [decL]) fun i h1 h2 => ?_
  have hi : i < L.length := by simpa [decL] using h2
  rw [List.getElem_set]
  by_cases e : j = i
  · subst e; simp [decL, List.count_append]; omega
  · rw [if_neg e]
    have hne : ((j : Nat) : Int) ≠ ((i : Nat) : Int) := by omega
    simp [decL, List.count_append, List.count_singleton, hne]
/-- The counts tell of those that are left. -/
structure Led (gs : List PNode) (l L : List Int) : Prop where
  len : L.length = gs.length
  inn : ∀ x : Nat, x < gs.length → (x : Int) ∈ l → el L x = ((ledS gs l x : Nat) : Int)
  out : ∀ x : Nat, x < gs.length → (x : Int) ∉ l → el L x < 0
  low : ∀ x : Nat, x < gs.length → -(1 + 10 * ((gs.length : Int) - (l.length : Int))) ≤ el L x
  top : ∀ x : Nat, x < gs.length → el L x ≤ 100
  rng : ∀ a ∈ l, ∃ j : Nat, j < gs.length ∧ a = (j : Int)
  inc : l.Pairwise (· < ·)
theorem numsI_inc (n : Nat) : (numsI n).Pairwise (· < ·) := by
  rw [numsI]
  refine List.Pairwise.map _ (fun a b h => ?_) List.pairwise_lt_range
  omega
theorem Led.start {gs : List PNode} (hE : EdgesIn gs) : Led gs (numsI gs.length) (ledL gs gs.length []) where
  len := ledL_len _ _ _
  inn x hx _ := by rw [ledL_el hx, ledS_nums x _ (Nat.le_refl _)]; simp
  out x hx h := absurd (by simp only [numsI, List.mem_map, List.mem_range]; exact ⟨x, hx, rfl⟩) h
  low x hx := by rw [ledL_el hx, numsI_len]; omega
  top x hx := by have := ledC_le hE x gs.length (Nat.le_refl _); have := hE.many; rw [ledL_el hx]; simp; omega
  rng a ha := numsI_mem ha
  inc := numsI_inc _
theorem cut_eq (l : List Int) (p : Nat) : l.take p ++ l.drop (p + 1) = l.eraseIdx p := (List.eraseIdx_eq_take_drop_succ _ _).symm
theorem inc_nodup {l : List Int} (h : l.Pairwise (· < ·)) : l.Nodup := h.imp fun hab => by omega
theorem mem_cutI {l : List Int} (h : l.Nodup) {p : Nat} (hp : p < l.length) (x : Int) : x ∈ l.take p ++ l.drop (p + 1) ↔ x ∈ l ∧ x ≠ el l p := by
  have h2 := h
  rw [split_at hp] at h2
  rw [List.nodup_append] at h2
  obtain ⟨h3, h4, h5⟩ := h2
  rw [List.nodup_cons] at h4
  have hs := split_at hp
  constructor
  · intro hx
    rw [List.mem_append] at hx
    constructor
    · rw [hs, List.mem_append, List.mem_cons]
      rcases hx with hx | hx
      · exact .inl hx
      · exact .inr (.inr hx)
    · rintro rfl
      rcases hx with hx | hx
      · exact h5 _ hx _ List.mem_cons_self rfl
      · exact h4.1 hx
  · rintro ⟨hx, hne⟩
    rw [hs, List.mem_append, List.mem_cons] at hx
    rw [List.mem_append]
    rcases hx with hx | rfl | hx
    · exact .inl hx
    · exact absurd rfl hne
    · exact .inr hx
theorem el_setI {L : List Int} {k x : Nat} {v : Int} (hk : k < L.length) : el (L.set k v) x = if x = k then v else el L x := by
  by_cases e : x = k
  · subst e; simp [el, hk]
  · rw [if_neg e]; simp [el, Ne.symm e]
theorem Led.step {gs : List PNode} (hE : EdgesIn gs) {l L : List Int} (h : Led gs l L) {p k : Nat} (hp : p < l.length) (hk : el l p = (k : Int)) : Led gs (l.take p ++ l.drop (p + 1)) (decL (L.set k (-1)) (nxP gs k)) := by
  have hkn : k < gs.length := by obtain ⟨j, hj, e⟩ := h.rng _ (el_mem hp); rw [hk] at e; omega
  have hkL : k < L.length := by rw [h.len]; exact hkn
  have hnd := inc_nodup h.inc
  have hlen : (l.take p ++ l.drop (p + 1)).length = l.length - 1 := by simp; omega
  have hel : ∀ x, x < gs.length → el (decL (L.set k (-1)) (nxP gs k)) x = (if x = k then -1 else el L x) - ((nxP gs k).count (x : Int) : Nat) := fun x hx => by
    rw [decL_el (by rw [List.length_set, h.len]; exact hx), el_setI hkL]
  have hc : ∀ x : Nat, (nxP gs k).count (x : Int) ≤ 10 := fun x => Nat.le_trans List.count_le_length (hE.few k hkn)
  refine ⟨by rw [decL_len, List.length_set, h.len], fun x hx hm => ?_, fun x hx hm => ?_, fun x hx => ?_, fun x hx => ?_, fun a ha => h.rng a ((mem_cutI hnd hp a).1 ha).1, by rw [cut_eq]; exact h.inc.sublist (List.eraseIdx_sublist _ _)⟩
  · obtain ⟨h1, h2⟩ := (mem_cutI hnd hp _).1 hm
    have hne : x ≠ k := fun e => h2 (by rw [hk, e])
    have h3 := ledS_cut gs hp x
    rw [hk, Int.toNat_natCast] at h3
    rw [hel x hx, if_neg hne, h.inn x hx h1]; omega
  · rw [hel x hx]
    by_cases e : x = k
    · rw [if_pos e]; omega
    · rw [if_neg e]
      have := h.out x hx fun hm2 => hm ((mem_cutI hnd hp _).2 ⟨hm2, fun e2 => e (by rw [hk] at e2; omega)⟩)
      omega
  · rw [hel x hx, hlen]
    have h1 := h.low x hx
    have h2 := hc x
    have h3 : l.length ≤ gs.length := by
      have : l.length ≤ (numsI gs.length).length := (inc_nodup h.inc).length_le_of_subset fun a ha => by
        obtain ⟨j, hj, rfl⟩ := h.rng a ha
        simp only [numsI, List.mem_map, List.mem_range]; exact ⟨j, hj, rfl⟩
      rw [numsI_len] at this; exact this
    split <;> omega
  · rw [hel x hx]
    have := h.top x hx
    split <;> omega
/-- Where the search for the next one stops, and that it goes on before. -/
theorem Led.find {gs : List PNode} {l L : List Int} (h : Led gs l L) {p k : Nat} (hp : l.findIdx? (fun b => !ledP gs l b) = some p) (hk : el l p = (k : Int)) : p < l.length ∧ k < gs.length ∧ el L k = 0 ∧ ∀ j, j < k → el L j ≠ 0 := by
  rw [List.findIdx?_eq_some_iff_getElem] at hp
  obtain ⟨hpl, hpt, hpn⟩ := hp
  rw [← el_at hpl, hk] at hpt
  obtain ⟨j, hj, e⟩ := h.rng _ (el_mem hpl)
  rw [hk] at e
  obtain rfl : k = j := by omega
  have hm : (k : Int) ∈ l := by rw [← hk]; exact el_mem hpl
  have h0 : ledS gs l k = 0 := (ledS_zero gs k l).2 (by simpa using hpt)
  refine ⟨hpl, hj, by rw [h.inn k hj hm, h0]; rfl, fun x hx hz => ?_⟩
  by_cases hxm : (x : Int) ∈ l
  · rw [h.inn x (by omega) hxm] at hz
    have hz2 : ledP gs l (x : Int) = false := (ledS_zero gs x l).1 (by omega)
    obtain ⟨i, hi, ei⟩ := mem_el hxm
    have hip : i < p := by
      rcases Nat.lt_trichotomy i p with h1 | h1 | h1
      · exact h1
      · subst h1; rw [hk] at ei; omega
      · have := List.pairwise_iff_getElem.1 h.inc p i hpl hi h1
        rw [← el_at hpl, ← el_at hi, hk, ei] at this; omega
    have h3 := hpn i hip
    rw [← el_at hi, ei, hz2] at h3
    simp at h3
  · have := h.out x (by omega) hxm
    omega
set_option maxRecDepth 10000 in
set_option maxHeartbeats 16000000 in
theorem l11Order_is (ao : Option Addr) (cap : Nat) (ts : List LNode) (w : World) (hE : EdgesIn (ts.map valNode)) (hR : ¬ (orderP (ts.map valNode)).length < (ts.map valNode).length) (hz : DIn dNode w.heap.size w ao ts) :
    Calls Tryz.prog 19 #[.slice ao ts.length cap] w fun e w' => AnsI w (orderP (ts.map valNode)) e w' := by
  have h10 : ts.length ≤ 10 := by have := hE.many; simpa using this
  have hcon := l11Led_is ao cap ts w hE hz
  have HE := hid hE
  have hnode : Hid (∀ k, k < ts.length → ∃ b off nxo nxc, ao = some ⟨b, off, none⟩ ∧ b < w.heap.size ∧ w.cell? ⟨b, off + k * 6 + 5, none⟩ = some (.slice nxo (nxP (ts.map valNode) k).length nxc) ∧ kI.In w.heap.size w nxo (nxP (ts.map valNode) k)) := fun k hk => by
    obtain ⟨b, off, e, hb, hc⟩ := hNode_at hz.1 hk
    have d6 := (hc k hk).2.2.2.2.2
    have hin := hz.2 k hk
    have hev : nxP (ts.map valNode) k = (el ts k).2.2.2.2.2.2.2 := by rw [nxP, el_val hk]; rfl
    rw [hev]
    exact ⟨b, off, _, _, e, hb, d6, hin⟩
  obtain ⟨R, hRR⟩ : ∃ R, orderP (ts.map valNode) = R := ⟨_, rfl⟩
  have HR0 : Hid ((behindP (ts.map valNode) (numsI ts.length).length [] (numsI ts.length)).1 = R) := by rw [Hid, numsI_len, ← hRR, orderP, val_len]
  rw [hRR] at hR ⊢
  rw [val_len] at hR
  have HRL := hid hR
  clear hz hE hR hRR
  go_enter Tryz.func19, Tryz.ntmps19
  go_wp2_with (go_at_call 45; refine hcon.mono ?_; rintro e w1 ⟨rfl, hX1, hB1⟩; have X1 := hid hX1; clear hX1)
  have HS1 := hid X1.out.size
  have HL0 := hid (Led.start HE.out)
  rw [val_len] at HL0
  go_loopw [4] (fun u wr => ∃ (v : Value) (o l L : List Int), v = u ∧ o.length + l.length = ts.length ∧ Hid (kI.Own w1.heap.size wr v o) ∧ Hid (Bx wr w.heap.size (L.map (Value.int .i64))) ∧ Hid (Led (ts.map valNode) l L) ∧ Hid ((behindP (ts.map valNode) l.length o l).1 = R) ∧ Below w.heap.size w wr ∧ w1.heap.size ≤ wr.heap.size) (fun u _ => ts.length - lenOf u)
  case atStart => exact ⟨.slice none 0 0, [], numsI ts.length, _, rfl, by simp [numsI_len], Kind.Own.nil _ _ _, X1, HL0, HR0, hB1, Nat.le_refl _⟩
  case round =>
    clear HR0 HL0 X1 hB1
    obtain ⟨v, o, l, L, rfl, hol, hO, hX, hL, hR', hB, hsz⟩ := hrel
    obtain ⟨go, gc, rfl⟩ := own_slice hO.out
    by_cases hlt : o.length < ts.length
    · have hoi : (o.length : Int) < (ts.length : Int) := by omega
      cases hp : l.findIdx? (fun b => !ledP (ts.map valNode) l b) with
      | none =>
        exfalso
        have h1 := hR'.out
        have h2 := HRL.out
        cases l with
        | nil => simp at hol; omega
        | cons a r =>
          rw [List.length_cons, behindP, hp] at h1
          simp only at h1
          rw [← h1] at h2; exact h2 hlt
      | some p =>
        have hpl : p < l.length := by rw [List.findIdx?_eq_some_iff_getElem] at hp; exact hp.1
        obtain ⟨k, hk, hek⟩ := hL.out.rng _ (el_mem hpl)
        rw [val_len] at hk
        obtain ⟨_, _, hk0, hkn⟩ := hL.out.find hp hek
        have HK0 := hid hk0
        have HKN := hid hkn
        have HR2 : Hid ((behindP (ts.map valNode) (l.take p ++ l.drop (p + 1)).length (o ++ [(k : Int)]) (l.take p ++ l.drop (p + 1))).1 = R) := by
          rw [Hid, ← hR'.out]
          have e1 : (l.take p ++ l.drop (p + 1)).length = l.length - 1 := by simp; omega
          obtain ⟨m, hm⟩ : ∃ m, l.length = m + 1 := ⟨l.length - 1, by omega⟩
          rw [e1, hm, Nat.add_sub_cancel, behindP, hp, ← hek]
        have HL2 := hid (hL.out.step HE.out hpl hek)
        have hLl : L.length = ts.length := by have := hL.out.len; rw [val_len] at this; exact this
        have HLB := hid (fun (x : Nat) (hx : x < ts.length) => And.intro (hL.out.low x (by rw [val_len]; exact hx)) (hL.out.top x (by rw [val_len]; exact hx)))
        clear hp hk0 hkn hL hek
        go_wp2
        go_loopw [5] (fun i wr2 => ∃ j : Nat, i = .int .i64 (j : Int) ∧ j ≤ k ∧ wr2 = wr) (fun i _ => k - (intOf i).toNat)
        case atStart => exact ⟨0, rfl, Nat.zero_le _, rfl⟩
        case round =>
          rename_i wr3
          obtain ⟨j, rfl, hj, rfl⟩ := hrel
          have hji : (j : Int) < (ts.length : Int) := by omega
          have cj := hX.out.c j (map_elI (by omega))
          have fj := hX.out.f j (map_elI (by omega))
          by_cases hjk : j < k
          · have hne : (el L j != 0) = true := by simpa using HKN.out j hjk
            generalize el L j = z at cj hne fj
            go_wp2
            go_roundw
            case rel => exact ⟨j + 1, by go_num, by omega, trivial⟩
            case measure => simp [intOf]; omega
          · obtain rfl : j = k := by omega
            rw [HK0.out] at cj
            obtain ⟨b, off, nxo, nxc, rfl, hb, c6, hI⟩ := hnode.out j hk
            obtain ⟨nx, hnx⟩ : ∃ nx, nx = nxP (ts.map valNode) j := ⟨_, rfl⟩
            rw [← hnx] at c6 hI
            have HI := hid hI
            have HNX := hid hnx
            have hnl : nx.length ≤ 10 := by rw [hnx]; exact HE.out.few j (by rw [val_len]; exact hk)
            have HRG : Hid (∀ x ∈ nx, ∃ i : Nat, i < ts.length ∧ x = (i : Int)) := fun x hx => by
              rw [hnx] at hx
              obtain ⟨i, hi, e⟩ := HE.out.rng j (by rw [val_len]; exact hk) x hx
              rw [val_len] at hi
              exact ⟨i, hi, e⟩
            rw [← hnx] at HL2
            have hBV : Below w.heap.size w (wr.setCell ⟨w.heap.size, j, none⟩ (.int .i64 (-1))) := hB.setCell (p := ⟨w.heap.size, j, none⟩) (Nat.le_refl _) _
            have XV : Hid (Bx (wr.setCell ⟨w.heap.size, j, none⟩ (.int .i64 (-1))) w.heap.size ((L.set j (-1)).map (Value.int .i64))) := by rw [Hid, map_setI]; exact hX.out.set j _
            have OV : Hid (kI.Own w1.heap.size (wr.setCell ⟨w.heap.size, j, none⟩ (.int .i64 (-1))) (.slice go o.length gc) o) := hO.out.setBelow (a := ⟨w.heap.size, j, none⟩) (by simpa using HS1.out) _
            have HA : Hid (kI.Own w1.heap.size ((wr.setCell ⟨w.heap.size, j, none⟩ (.int .i64 (-1))).alloc (.cells #[.int .i64 (j : Int)] 3)) (.slice go o.length gc) o) := OV.out.below (below1 _ _)
            have HXA := hid (XV.out.alloc (.cells #[.int .i64 (j : Int)] 3))
            have HN : Hid (kI.In (wr.heap.size + 1) ((wr.setCell ⟨w.heap.size, j, none⟩ (.int .i64 (-1))).alloc (.cells #[.int .i64 (j : Int)] 3)) (some ⟨wr.heap.size, 0, none⟩) [(j : Int)]) := int_one (by omega) ((Bx.new (w := wr.setCell ⟨w.heap.size, j, none⟩ (.int .i64 (-1))) [.int .i64 (j : Int)] 3 (by simp [World.setCell])).c 0 rfl)
            have hBa : Below w.heap.size w ((wr.setCell ⟨w.heap.size, j, none⟩ (.int .i64 (-1))).alloc (.cells #[.int .i64 (j : Int)] 3)) := Below.allocS hBV _
            have HSW : Hid (w.heap.size ≤ w1.heap.size) := by have := HS1.out; rw [Hid]; omega
            obtain ⟨o2, ho2⟩ : ∃ o2, o2 = o ++ [(j : Int)] := ⟨_, rfl⟩
            have hleno : o2.length = o.length + 1 := by rw [ho2]; simp
            have HLN := hid hleno
            have hll : o.length + 1 ≤ 4194304 := by omega
            rw [← ho2] at HR2
            have HO2 := hid ho2
            clear hnx hI hBV OV XV ho2 hO hX hleno
            go_wp2_with (at_builtin; refine Kind.app kI_ok ((wr.setCell ⟨w.heap.size, j, none⟩ (.int .i64 (-1))).alloc (.cells #[.int .i64 (j : Int)] 3)) rfl (.tmp 25) (.tmp 27) rfl w1.heap.size (.slice go o.length gc) o rfl HA.out (by simp [World.setCell]; omega) (some ⟨wr.heap.size, 0, none⟩) [(j : Int)] 1 1 rfl rfl (by simp) _ HN.out hll ?_; intro v' w' hO' hB' hG' hn'; rw [← HO2.out] at hO'; obtain ⟨g2, c2, rfl⟩ := own_slice hO'; have hB2 : Below w.heap.size w w' := hBa.trans (hB'.mono HSW.out); have O2 := hid hO'; have X2 := hid (HXA.out.below hB' (by exact HS1.out)); have d6 := (hB2.cell (p := ⟨b, off + j * 6 + 5, none⟩) hb).trans c6; have hs2 : w1.heap.size ≤ w'.heap.size := (by have := hB'.size; simp [World.setCell] at this; omega); clear hO' hB' hG' hn')
            go_loopw [35] (fun i wr => ∃ m : Nat, i = .int .i64 (m : Int) ∧ m ≤ nx.length ∧ Hid (Bx wr w.heap.size ((decL (L.set j (-1)) (nx.take m)).map (Value.int .i64))) ∧ Hid (kI.Own w1.heap.size wr (.slice g2 o2.length c2) o2) ∧ Below w.heap.size w wr ∧ w1.heap.size ≤ wr.heap.size) (fun i _ => nx.length - (intOf i).toNat)
            case atStart => exact ⟨0, rfl, Nat.zero_le _, by rw [List.take_zero, decL_nil]; exact X2, O2, hB2, hs2⟩
            case round =>
              clear hB2 X2 O2 hs2 d6 hB hBa HA HXA HN
              obtain ⟨m, rfl, hm, hX, hO, hB, hs⟩ := hrel
              by_cases hmk : m < nx.length
              · obtain ⟨nb, noff, rfl, hnb, hnc⟩ := ints_at HI.out hmk
                have cm := (hB.cell (p := ⟨nb, noff + m, none⟩) hnb).trans (hnc m hmk)
                obtain ⟨i, hi, hx⟩ := HRG.out (el nx m) (el_mem hmk)
                rw [hx] at cm
                have HXJ := hid hx
                clear hx hnc
                have hmi : (m : Int) < (nx.length : Int) := by omega
                have hii : (i : Int) < (ts.length : Int) := by omega
                have hil : i < (L.set j (-1)).length := by rw [List.length_set]; omega
                have ci := hX.out.c i (map_elI (by rw [decL_len]; exact hil))
                have fi := hX.out.f i (map_elI (by rw [decL_len]; exact hil))
                rw [decL_el hil] at ci
                have hq2 : (nx.take m).count (i : Int) ≤ 10 := Nat.le_trans List.count_le_length (by simp; omega)
                obtain ⟨hq1, hq3⟩ := HLB.out i hi
                rw [val_len] at hq1
                have hq4 : -1000 ≤ el (L.set j (-1)) i ∧ el (L.set j (-1)) i ≤ 1000 := by
                  rw [el_setI (by omega)]
                  split <;> omega
                have HST := hid (decL_step (L := L.set j (-1)) (j := i) (nx.take m))
                rw [← HXJ.out, ← take_succ_el hmk] at HST
                rw [HXJ.out] at HST
                obtain ⟨z, hz⟩ : ∃ z : Int, z = el (L.set j (-1)) i - ((nx.take m).count (i : Int) : Nat) := ⟨_, rfl⟩
                rw [← hz] at HST ci
                have hz1 : -2000 ≤ z ∧ z ≤ 2000 := by omega
                clear hz hq1 hq2 hq3 hq4 hil
                have HS := hid (hX.out.set i (.int .i64 (z - 1)))
                rw [← map_setI, HST.out] at HS
                have hB3 := hB.setCell (p := ⟨w.heap.size, i, none⟩) (Nat.le_refl _) (.int .i64 (z - 1))
                have O3 := hid (hO.out.setBelow (a := ⟨w.heap.size, i, none⟩) (by simpa using HS1.out) (.int .i64 (z - 1)))
                go_wp2
                go_roundw
                case rel => exact ⟨m + 1, by go_num, by omega, HS, O3, hB3, by simpa [World.setCell] using hs⟩
                case measure => simp [intOf]; omega
              · obtain rfl : m = nx.length := by omega
                rw [List.take_length] at hX
                go_wp2
                go_roundw
                case rel => exact ⟨_, o2, l.take p ++ l.drop (p + 1), _, rfl, by rw [HLN.out]; simp; omega, hO, hX, HL2, HR2, hB, hs⟩
                case measure => have := HLN.out; simp [lenOf]; omega
    · have hl0 : l = [] := List.length_eq_zero_iff.1 (by omega)
      have HRO : Hid (o = R) := by rw [Hid, ← hR'.out, hl0]; rfl
      obtain ⟨go', gc', e1, _, hFF⟩ := hO.out.fresh
      obtain ⟨rfl, rfl⟩ : go = go' ∧ gc = gc' := by simp at e1; exact e1
      have HF := hid (hFF.wide (lo' := w.heap.size) (hi' := wr.heap.size) (by have := HS1.out; omega) (Nat.le_refl _))
      have hoe : o.length = ts.length := by omega
      clear hFF e1 hl0
      go_wp2
      go_ret
      rw [← HRO.out]
      exact ⟨⟨_, _, rfl, HF.out⟩, hB⟩
/-- What OrderOf answers. -/
def orderR (gs : List PNode) : List Int × Bool := if codeG gs = 0 then (orderP gs, true) else ([], false)
theorem orderR_len (gs : List PNode) : (orderR gs).1.length ≤ 10 := by
  rw [orderR]
  split
  · next h =>
    have h1 := (codeG_zero h).1
    have h2 := behindP_len gs gs.length [] (numsI gs.length)
    show (orderP gs).length ≤ 10
    rw [orderP]; simp at h2; omega
  · simp
set_option maxRecDepth 10000 in
set_option maxHeartbeats 4000000 in
theorem implOrder_is (ao : Option Addr) (cap : Nat) (ts : List LNode) (ea : Nat → Addr) (w : World) (hC : Roomy ts cap) (hE : Errs w ea) (hz : DIn dNode w.heap.size w ao ts) :
    Calls Tryz.prog 5 #[.slice ao ts.length cap] w fun e w' => AnsIB w (orderR (ts.map valNode)).1 (orderR (ts.map valNode)).2 e w' := by
  have hcon := goodGraph_is ao cap ts ea w hC hE hz
  have HZ := hid hz
  have HFi := hid hC.fitN
  clear hz hE
  by_cases h0 : codeG (ts.map valNode) = 0
  · have h10 : ts.length ≤ 10 := by have := (codeG_zero h0).1; rw [val_len] at this; omega
    have HVV : Hid (orderR (ts.map valNode) = (orderP (ts.map valNode), true)) := by rw [Hid, orderR, if_pos h0]
    rw [decide_eq_true h0] at hcon
    clear h0 hC
    go_enter Tryz.func5, Tryz.ntmps5
    go_wp2_with fail
    refine hcon.mono ?_
    rintro e w1 ⟨rfl, hb1⟩
    have hB1 : Below w.heap.size w w1 := hb1
    clear hb1 hcon
    go_wp2_with fail
    refine (orderIn_any ao cap ts w1 (by omega) HFi.out (HZ.out.later dNode_ok hB1)).mono ?_
    rintro e w3 ⟨⟨g3, c3, rfl, hF3⟩, hb3⟩
    have hB3 := hB1.trans (hb3.mono hB1.size)
    have F3 := hid (hF3.wide (lo' := w.heap.size) (hi' := w3.heap.size) hB1.size (Nat.le_refl _))
    clear hb3 hF3
    go_wp2
    rw [HVV.out]
    refine bodyPost_ret (v := .tuple #[.slice g3 (orderP (ts.map valNode)).length c3, .bool true]) (by simp [results, Tryz.results5, go_sem]) rfl ?_
    exact ⟨⟨_, _, rfl, F3.out⟩, hB3⟩
  · have HVV : Hid (orderR (ts.map valNode) = ([], false)) := by rw [Hid, orderR, if_neg h0]
    rw [decide_eq_false h0] at hcon
    clear h0 hC
    go_enter Tryz.func5, Tryz.ntmps5
    go_wp2_with fail
    refine hcon.mono ?_
    rintro e w1 ⟨rfl, hb1⟩
    have hB1 : Below w.heap.size w w1 := hb1
    clear hb1 hcon
    go_wp2
    rw [HVV.out]
    refine bodyPost_ret (v := .tuple #[.slice none 0 0, .bool false]) (by simp [results, Tryz.results5, go_sem]) rfl ?_
    exact ⟨⟨_, _, rfl, .inl rfl⟩, hB1⟩
set_option maxRecDepth 10000 in
set_option maxHeartbeats 4000000 in
theorem specOrder_is (ao : Option Addr) (cap : Nat) (ts : List LNode) (w : World) (hC : Roomy ts cap) (hz : DIn dNode w.heap.size w ao ts) :
    Calls Tryz.prog 6 #[.slice ao ts.length cap] w fun e w' => AnsIB w (orderR (ts.map valNode)).1 (orderR (ts.map valNode)).2 e w' := by
  have hcon := specCheck_is ao cap ts w hC hz
  have HZ := hid hz
  clear hz hC
  by_cases h0 : codeG (ts.map valNode) = 0
  · have HVV : Hid (orderR (ts.map valNode) = (orderP (ts.map valNode), true)) := by rw [Hid, orderR, if_pos h0]
    obtain ⟨hm, hbk, hor⟩ := codeG_zero h0
    have HED := hid (edges_of (by omega) (hbk 4 (by omega)))
    have HOR := hid hor
    rw [h0] at hcon
    clear h0 hm hbk hor
    go_enter Tryz.func6, Tryz.ntmps6
    go_wp2_with fail
    refine hcon.mono ?_
    rintro e w1 ⟨rfl, hb1⟩
    have hB1 : Below w.heap.size w w1 := hb1
    clear hb1 hcon
    go_wp2_with fail
    refine (l11Order_is ao cap ts w1 HED.out HOR.out (HZ.out.later dNode_ok hB1)).mono ?_
    rintro e w3 ⟨⟨g3, c3, rfl, hF3⟩, hb3⟩
    have hB3 := hB1.trans (hb3.mono hB1.size)
    have F3 := hid (hF3.wide (lo' := w.heap.size) (hi' := w3.heap.size) hB1.size (Nat.le_refl _))
    clear hb3 hF3
    go_wp2
    rw [HVV.out]
    refine bodyPost_ret (v := .tuple #[.slice g3 (orderP (ts.map valNode)).length c3, .bool true]) (by simp [results, Tryz.results6, go_sem]) rfl ?_
    exact ⟨⟨_, _, rfl, F3.out⟩, hB3⟩
  · have HVV : Hid (orderR (ts.map valNode) = ([], false)) := by rw [Hid, orderR, if_neg h0]
    have hne : (((codeG (ts.map valNode) : Nat) : Int) != 0) = true := by simp; omega
    clear h0
    go_enter Tryz.func6, Tryz.ntmps6
    go_wp2_with fail
    refine hcon.mono ?_
    generalize codeG (ts.map valNode) = cg at hne ⊢
    rintro e w1 ⟨rfl, hb1⟩
    have hB1 : Below w.heap.size w w1 := hb1
    clear hb1
    go_wp2
    rw [HVV.out]
    refine bodyPost_ret (v := .tuple #[.slice none 0 0, .bool false]) (by simp [results, Tryz.results6, go_sem]) rfl ?_
    exact ⟨⟨_, _, rfl, .inl rfl⟩, hB1⟩
end
end Go.Proofs.YtebnapgcobcilaaGreatDoor
