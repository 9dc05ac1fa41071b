
/- What is wrong with a graph: the specification. No conditions but those written. RoomOf, the program's and the specification's. No conditions but those written. How many nodes lead to each; the sources: the specification. No conditions but those written. -/
import Derived.Test.YtdacedbfnlkghaaGreatDoorPFpRc
namespace Go.Proofs.YtdacedbfnlkghaaGreatDoor
section
open Go.RowKit

theorem brk_of {gs : List PNode} {i k : Nat} (hk : k < gs.length) (h : prule gs i (k : Int) = true) : brk gs i = true := by
 rw [brk, List.any_eq_true]; exact ⟨_, numsI_has hk, h⟩
theorem brk_no {gs : List PNode} {i : Nat} (h : ∀ k : Nat, k < gs.length → prule gs i (k : Int) = false) : brk gs i = false := by
 rw [brk, List.any_eq_false];intro x hx;obtain ⟨k, hk, rfl⟩ := numsI_mem hx
 simp [h k hk]
theorem brk_at {gs : List PNode} {i k : Nat} (h : brk gs i = false) (hk : k < gs.length) : prule gs i (k : Int) = false := by
 rw [brk, List.any_eq_false] at h
 simpa using h _ (numsI_has hk)
theorem goodNx_iff {nx : List Int} {n : Nat} : goodNx nx (n : Int) = true ↔ (∀ x ∈ nx, 0 ≤ x ∧ x < (n : Int)) ∧ nx.Nodup := by
 have ha : (nx.any (noneI (n : Int)) = false) ↔ ∀ x ∈ nx, 0 ≤ x ∧ x < (n : Int) := by
  rw [List.any_eq_false]
  constructor
  ·intro h x hx;have := h x hx
   simp [noneI] at this
   omega
  ·intro h x hx;have := h x hx
   simp [noneI]
   omega
 rw [goodNx, Bool.and_eq_true, Bool.and_eq_true, Bool.not_eq_true', ha, onceB, decide_eq_true_eq, decide_eq_true_eq]
 constructor
 ·exact fun h => h.2
 ·intro h;have := pigeon n nx h.2 h.1;exact ⟨by omega, h⟩
theorem edges_of {gs : List PNode} (hn : gs.length ≤ 10) (h : brk gs 4 = false) : EdgesIn gs := by
 have hg : ∀ a, a < gs.length → goodNx (nxP gs a) (gs.length : Int) = true := fun a ha => by
  have := brk_at h ha;simp only [prule, Int.toNat_natCast] at this
  simpa [nxP] using this
 refine ⟨fun a ha x hx => ?_, fun a ha => ?_, hn⟩
 ·have := (goodNx_iff.1 (hg a ha)).1 x hx;exact ⟨x.toNat, by omega, by omega⟩
 ·have h2 := goodNx_iff.1 (hg a ha);have := pigeon gs.length _ h2.2 h2.1
  omega
theorem mem_take_el {α : Type} [Inhabited α] {l : List α} {j k : Nat} (hj : j < l.length) (hk : j < k) : el l j ∈ l.take k := by
 rw [← el_take hk]; exact el_mem (by simp; omega)
theorem take_el_mem {α : Type} [Inhabited α] {l : List α} {k : Nat} {x : α} (h : x ∈ l.take k) : ∃ j, j < k ∧ x = el l j := by
 obtain ⟨j, hj, rfl⟩ := mem_el h;have hj' : j < k := by simp at hj; omega
 exact ⟨j, hj', el_take hj'⟩
theorem val_len (ts : List LNode) : (ts.map valNode).length = ts.length := List.length_map _
set_option maxRecDepth 100000 in
set_option maxHeartbeats 32000000 in
theorem specCheck_is (ao : Option Addr) (cap : Nat) (ts : List LNode) (w : World) (hC : Roomy ts cap) (hz : DIn dNode w.heap.size w ao ts) :
  Calls Tryz.prog 137 #[.slice ao ts.length cap] w fun e w' => e = .returned (.int .i64 (codeG (ts.map valNode) : Nat)) ∧ Below w.heap.size w w' := by
 have hl1 := hC.len;have hcap := hC.row
 by_cases hmany : ts.length < 1 ∨ 10 < ts.length
 ·have HV := hid (codeG_many (gs := ts.map valNode) (by rw [val_len]; exact hmany));go_enter Tryz.func137, Tryz.ntmps137;go_wp2_with fail;refine (l1In_is ts.length 1 10 _ false (Bool.and_eq_false_iff.2 (hmany.elim (fun h => .inl (decide_eq_false (by omega))) (fun h => .inr (decide_eq_false (by omega)))))).mono ?_;rintro e w1 ⟨rfl, rfl⟩;go_wp2;go_ret;exact ⟨by rw [HV.out]; rfl, Below.refl _ _⟩
 have HM : Hid (¬ ((ts.map valNode).length < 1 ∨ 10 < (ts.map valNode).length)) := by rw [Hid, val_len]; exact hmany
 have h10 : ts.length ≤ 10 := by omega
 have h1n : 1 ≤ ts.length := by omega
 have HZ := hid hz;have HC := hid hC;obtain ⟨b, off, rfl, hb, hc⟩ := hNode_at hz.1 (show 0 < ts.length by omega);have HCL := hid hc;clear hz hc hmany hC;go_enter Tryz.func137, Tryz.ntmps137;go_wp2_with fail;refine (l1In_is ts.length 1 10 _ true (by simp; omega)).mono ?_;rintro e w1 ⟨rfl, rfl⟩;go_wp2
 go_loopw [24] (fun i wr => ∃ k : Nat, i = .int .i64 (k : Int) ∧ k ≤ ts.length ∧ Hid (∀ j : Nat, j < k → prule (ts.map valNode) 0 (j : Int) = false) ∧ Below w1.heap.size w1 wr) (fun i _ => ts.length - (intOf i).toNat)
 case atStart => exact ⟨0, rfl, Nat.zero_le _, fun j hj => by omega, Below.refl _ _⟩
 case round =>
  obtain ⟨k, rfl, hk, hN, hB⟩ := hrel
  by_cases hlt : k < ts.length
  ·have d1 := (hB.cell (p := ⟨b, off + k * 6, none⟩) hb).trans (HCL.out k hlt).1;have d2 := (hB.cell (p := ⟨b, off + k * 6 + 1, none⟩) hb).trans (HCL.out k hlt).2.1;have d3 := (hB.cell (p := ⟨b, off + k * 6 + 2, none⟩) hb).trans (HCL.out k hlt).2.2.1;have d4 := (hB.cell (p := ⟨b, off + k * 6 + 3, none⟩) hb).trans (HCL.out k hlt).2.2.2.1;have d5 := (hB.cell (p := ⟨b, off + k * 6 + 4, none⟩) hb).trans (HCL.out k hlt).2.2.2.2.1;have d6 := (hB.cell (p := ⟨b, off + k * 6 + 5, none⟩) hb).trans (HCL.out k hlt).2.2.2.2.2;have hfk := HC.out.fit _ (el_mem hlt);have hcn := HC.out.next _ (el_mem hlt);have hev := el_val hlt;have hin := HZ.out.2 k hlt;obtain ⟨⟨nm, kd, sa, sb, cp, ⟨nxo, nxc, nx⟩⟩, ex⟩ : ∃ v, v = el ts k := ⟨_, rfl⟩;rw [← ex] at d1 d2 d3 d4 d5 d6 hfk hev hin hcn;have HE : Hid (el (ts.map valNode) k = (nm, kd, sa, sb, cp, nx)) := hev;have HI : Hid (kI.In w1.heap.size w1 nxo nx) := hin;have hki : (k : Int) < (ts.length : Int) := by omega
   clear ex hev hin;dsimp only at d1 d2 d3 d4 d5 d6 hfk hcn;have hB2 : Below w1.heap.size w1 (wr.alloc (.cells #[.string nm, .int .i64 kd, .int .i64 sa, .int .i64 sb, .int .i64 cp, .slice nxo nx.length nxc] 27)) := Below.allocS hB _
   cases hnm : nameB nm
   ·have HNM := hid hnm;clear hnm;have HBK := hid (brk_of (gs := ts.map valNode) (i := 0) (k := k) (by rw [val_len]; exact hlt) (by simp only [prule, Int.toNat_natCast]; rw [HE.out]; simp [HNM.out]));have HCD := hid (codeG_rule HM.out (show 0 < 5 by decide) HBK.out (fun j hj => by
      omega))
    go_wp2_with fail;refine (l1Name_is nm _ (by omega)).mono ?_;rw [HNM.out];rintro e w2 ⟨rfl, rfl⟩;go_wp2;go_ret;exact ⟨by rw [HCD.out]; rfl, hB2⟩
   ·have HNM := hid hnm;clear hnm;go_wp2_with fail;refine (l1Name_is nm _ (by omega)).mono ?_;rw [HNM.out];rintro e w2 ⟨rfl, rfl⟩;go_wp2;go_roundw
    case rel =>
     refine ⟨k + 1, by go_num, by omega, fun j hj => ?_, hB2⟩
     rcases Nat.lt_succ_iff_lt_or_eq.1 hj with h | rfl
     ·exact hN.out j h
     ·simp only [prule, Int.toNat_natCast]; rw [HE.out]; simp [HNM.out]
    case measure => simp [intOf]; omega
  ·obtain rfl : k = ts.length := by omega
   have HN0 := hid (brk_no (gs := ts.map valNode) (i := 0) (fun k hk => hN.out k (by rw [val_len] at hk; exact hk)));clear hN hlt hk;go_wp2
   go_loopw [35] (fun i wr => ∃ k : Nat, i = .int .i64 (k : Int) ∧ k ≤ ts.length ∧ Hid (∀ j : Nat, j < k → prule (ts.map valNode) 1 (j : Int) = false) ∧ Below w1.heap.size w1 wr) (fun i _ => ts.length - (intOf i).toNat)
   case atStart => exact ⟨0, rfl, Nat.zero_le _, fun j hj => by omega, hB⟩
   case round =>
    clear hB; obtain ⟨k, rfl, hk, hN, hB⟩ := hrel
    by_cases hlt : k < ts.length
    ·have d1 := (hB.cell (p := ⟨b, off + k * 6, none⟩) hb).trans (HCL.out k hlt).1;have d2 := (hB.cell (p := ⟨b, off + k * 6 + 1, none⟩) hb).trans (HCL.out k hlt).2.1;have d3 := (hB.cell (p := ⟨b, off + k * 6 + 2, none⟩) hb).trans (HCL.out k hlt).2.2.1;have d4 := (hB.cell (p := ⟨b, off + k * 6 + 3, none⟩) hb).trans (HCL.out k hlt).2.2.2.1;have d5 := (hB.cell (p := ⟨b, off + k * 6 + 4, none⟩) hb).trans (HCL.out k hlt).2.2.2.2.1;have d6 := (hB.cell (p := ⟨b, off + k * 6 + 5, none⟩) hb).trans (HCL.out k hlt).2.2.2.2.2;have hfk := HC.out.fit _ (el_mem hlt);have hcn := HC.out.next _ (el_mem hlt);have hev := el_val hlt;have hin := HZ.out.2 k hlt;obtain ⟨⟨nm, kd, sa, sb, cp, ⟨nxo, nxc, nx⟩⟩, ex⟩ : ∃ v, v = el ts k := ⟨_, rfl⟩;rw [← ex] at d1 d2 d3 d4 d5 d6 hfk hev hin hcn;have HE : Hid (el (ts.map valNode) k = (nm, kd, sa, sb, cp, nx)) := hev;have HI : Hid (kI.In w1.heap.size w1 nxo nx) := hin;have hki : (k : Int) < (ts.length : Int) := by omega
     clear ex hev hin;dsimp only at d1 d2 d3 d4 d5 d6 hfk hcn;have hkc : (k : Int) ≤ (cap : Int) := by omega
     obtain ⟨V, hV⟩ : ∃ V, V = wr.alloc (.cells #[.string nm, .int .i64 kd, .int .i64 sa, .int .i64 sb, .int .i64 cp, .slice nxo nx.length nxc] 27) := ⟨_, rfl⟩;have hbV : Below wr.heap.size wr V := by rw [hV]; exact below1 _ _
     have XV : Hid (Bx V wr.heap.size [.string nm, .int .i64 kd, .int .i64 sa, .int .i64 sb, .int .i64 cp, .slice nxo nx.length nxc]) := by rw [hV]; exact Bx.new [.string nm, .int .i64 kd, .int .i64 sa, .int .i64 sb, .int .i64 cp, .slice nxo nx.length nxc] _ rfl
     have hBV : Below w1.heap.size w1 V := hB.trans (hbV.mono hB.size);have HV := hid hV;clear hV hbV;go_wp2;rw [← HV.out];obtain ⟨pb, hpb⟩ : ∃ pb, pb = wr.heap.size := ⟨_, rfl⟩;rw [← hpb] at XV ⊢;clear hpb HV d1 d2 d3 d4 d5 d6
     go_loopw [44] (fun i wr => ∃ m : Nat, i = .int .i64 (m : Int) ∧ m ≤ k ∧ Hid (∀ j : Nat, j < m → sameT (el (ts.map valNode) j).1 nm = false) ∧ Hid (Bx wr pb [.string nm, .int .i64 kd, .int .i64 sa, .int .i64 sb, .int .i64 cp, .slice nxo nx.length nxc]) ∧ Below w1.heap.size w1 wr) (fun i _ => k - (intOf i).toNat)
     case atStart => exact ⟨0, rfl, Nat.zero_le _, fun j hj => by omega, XV, hBV⟩
     case round =>
      clear hBV XV hB;obtain ⟨m, rfl, hm, hA, hX, hB⟩ := hrel;have x0 := hX.out.c 0 rfl;have xs := hX.out.size
      by_cases hmk : m < k
      ·have hmt : m < ts.length := by omega
       have e1 := (hB.cell (p := ⟨b, off + m * 6, none⟩) hb).trans (HCL.out m hmt).1;have e2 := (hB.cell (p := ⟨b, off + m * 6 + 1, none⟩) hb).trans (HCL.out m hmt).2.1;have e3 := (hB.cell (p := ⟨b, off + m * 6 + 2, none⟩) hb).trans (HCL.out m hmt).2.2.1;have e4 := (hB.cell (p := ⟨b, off + m * 6 + 3, none⟩) hb).trans (HCL.out m hmt).2.2.2.1;have e5 := (hB.cell (p := ⟨b, off + m * 6 + 4, none⟩) hb).trans (HCL.out m hmt).2.2.2.2.1;have e6 := (hB.cell (p := ⟨b, off + m * 6 + 5, none⟩) hb).trans (HCL.out m hmt).2.2.2.2.2;have hev := el_val hmt;obtain ⟨⟨nm', kd', sa', sb', cp', ⟨nxo', nxc', nx'⟩⟩, ex⟩ : ∃ v, v = el ts m := ⟨_, rfl⟩;rw [← ex] at e1 e2 e3 e4 e5 e6 hev;have HE' : Hid ((el (ts.map valNode) m).1 = nm') := by rw [Hid, hev]; rfl
       clear ex hev;dsimp only at e1 e2 e3 e4 e5 e6;have hB2 : Below w1.heap.size w1 (wr.alloc (.cells #[.string nm', .int .i64 kd', .int .i64 sa', .int .i64 sb', .int .i64 cp', .slice nxo' nx'.length nxc'] 27)) := Below.allocS hB _;have hX2 := hid (hX.out.alloc (.cells #[.string nm', .int .i64 kd', .int .i64 sa', .int .i64 sb', .int .i64 cp', .slice nxo' nx'.length nxc'] 27))
       cases hs : sameT nm' nm
       ·have HS := hid hs
        unfold sameT at hs
        go_wp2;go_roundw
        case rel =>
         refine ⟨m + 1, by go_num, by omega, fun j hj => ?_, hX2, hB2⟩
         rcases Nat.lt_succ_iff_lt_or_eq.1 hj with h | rfl
         ·exact hA.out j h
         ·rw [HE'.out]; exact HS.out
        case measure => simp [intOf]; omega
       ·have HS := hid hs
        unfold sameT at hs
        have HBK := hid (brk_of (gs := ts.map valNode) (i := 1) (k := k) (by rw [val_len]; exact hlt) (by simp only [prule, Int.toNat_natCast]; rw [HE.out, List.any_eq_true]; exact ⟨el (ts.map valNode) m, mem_take_el (by rw [val_len]; exact hmt) hmk, by rw [HE'.out]; exact HS.out⟩));have HCD := hid (codeG_rule HM.out (show 1 < 5 by decide) HBK.out (fun j hj => by
          rcases (show j = 0 from by omega) with rfl
          ·exact HN0.out))
        go_wp2;go_ret;exact ⟨by rw [HCD.out]; rfl, hB2⟩
      ·obtain rfl : m = k := by omega
       clear hmk;go_wp2;go_roundw
       case rel =>
        refine ⟨m + 1, by go_num, by omega, fun j hj => ?_, hB⟩
        rcases Nat.lt_succ_iff_lt_or_eq.1 hj with h | rfl
        ·exact hN.out j h
        ·simp only [prule, Int.toNat_natCast]; rw [HE.out, List.any_eq_false]; intro y hy; obtain ⟨j, hj, rfl⟩ := take_el_mem hy; simp [hA.out j hj]
       case measure => simp [intOf]; omega
    ·obtain rfl : k = ts.length := by omega
     have HN1 := hid (brk_no (gs := ts.map valNode) (i := 1) (fun k hk => hN.out k (by rw [val_len] at hk; exact hk)));clear hN hlt hk;go_wp2
     go_loopw [57] (fun i wr => ∃ k : Nat, i = .int .i64 (k : Int) ∧ k ≤ ts.length ∧ Hid (∀ j : Nat, j < k → prule (ts.map valNode) 2 (j : Int) = false) ∧ Below w1.heap.size w1 wr) (fun i _ => ts.length - (intOf i).toNat)
     case atStart => exact ⟨0, rfl, Nat.zero_le _, fun j hj => by omega, hB⟩
     case round =>
      clear hB; obtain ⟨k, rfl, hk, hN, hB⟩ := hrel
      by_cases hlt : k < ts.length
      ·have d1 := (hB.cell (p := ⟨b, off + k * 6, none⟩) hb).trans (HCL.out k hlt).1;have d2 := (hB.cell (p := ⟨b, off + k * 6 + 1, none⟩) hb).trans (HCL.out k hlt).2.1;have d3 := (hB.cell (p := ⟨b, off + k * 6 + 2, none⟩) hb).trans (HCL.out k hlt).2.2.1;have d4 := (hB.cell (p := ⟨b, off + k * 6 + 3, none⟩) hb).trans (HCL.out k hlt).2.2.2.1;have d5 := (hB.cell (p := ⟨b, off + k * 6 + 4, none⟩) hb).trans (HCL.out k hlt).2.2.2.2.1;have d6 := (hB.cell (p := ⟨b, off + k * 6 + 5, none⟩) hb).trans (HCL.out k hlt).2.2.2.2.2;have hfk := HC.out.fit _ (el_mem hlt);have hcn := HC.out.next _ (el_mem hlt);have hev := el_val hlt;have hin := HZ.out.2 k hlt;obtain ⟨⟨nm, kd, sa, sb, cp, ⟨nxo, nxc, nx⟩⟩, ex⟩ : ∃ v, v = el ts k := ⟨_, rfl⟩;rw [← ex] at d1 d2 d3 d4 d5 d6 hfk hev hin hcn;have HE : Hid (el (ts.map valNode) k = (nm, kd, sa, sb, cp, nx)) := hev;have HI : Hid (kI.In w1.heap.size w1 nxo nx) := hin;have hki : (k : Int) < (ts.length : Int) := by omega
       clear ex hev hin;dsimp only at d1 d2 d3 d4 d5 d6 hfk hcn;have hB2 : Below w1.heap.size w1 (wr.alloc (.cells #[.string nm, .int .i64 kd, .int .i64 sa, .int .i64 sb, .int .i64 cp, .slice nxo nx.length nxc] 27)) := Below.allocS hB _
       cases hnm : goodSt kd sa sb
       ·have HNM := hid hnm;clear hnm;have HBK := hid (brk_of (gs := ts.map valNode) (i := 2) (k := k) (by rw [val_len]; exact hlt) (by simp only [prule, Int.toNat_natCast]; rw [HE.out]; simp [HNM.out]));have HCD := hid (codeG_rule HM.out (show 2 < 5 by decide) HBK.out (fun j hj => by
          rcases (show j = 0 ∨ j = 1 from by omega) with rfl | rfl
          ·exact HN0.out
          ·exact HN1.out))
        go_wp2_with fail;refine (specGood_is kd sa sb _ false HNM.out).mono ?_;rintro e w2 ⟨rfl, rfl⟩;go_wp2;go_ret;exact ⟨by rw [HCD.out]; rfl, Below.allocS hB2 _⟩
       ·have HNM := hid hnm;clear hnm;go_wp2_with fail;refine (specGood_is kd sa sb _ true HNM.out).mono ?_;rintro e w2 ⟨rfl, rfl⟩;go_wp2;go_roundw
        case rel =>
         refine ⟨k + 1, by go_num, by omega, fun j hj => ?_, Below.allocS hB2 _⟩
         rcases Nat.lt_succ_iff_lt_or_eq.1 hj with h | rfl
         ·exact hN.out j h
         ·simp only [prule, Int.toNat_natCast]; rw [HE.out]; simp [HNM.out]
        case measure => simp [intOf]; omega
      ·obtain rfl : k = ts.length := by omega
       have HN2 := hid (brk_no (gs := ts.map valNode) (i := 2) (fun k hk => hN.out k (by rw [val_len] at hk; exact hk)));clear hN hlt hk;go_wp2
       go_loopw [68] (fun i wr => ∃ k : Nat, i = .int .i64 (k : Int) ∧ k ≤ ts.length ∧ Hid (∀ j : Nat, j < k → prule (ts.map valNode) 3 (j : Int) = false) ∧ Below w1.heap.size w1 wr) (fun i _ => ts.length - (intOf i).toNat)
       case atStart => exact ⟨0, rfl, Nat.zero_le _, fun j hj => by omega, hB⟩
       case round =>
        clear hB; obtain ⟨k, rfl, hk, hN, hB⟩ := hrel
        by_cases hlt : k < ts.length
        ·have d1 := (hB.cell (p := ⟨b, off + k * 6, none⟩) hb).trans (HCL.out k hlt).1;have d2 := (hB.cell (p := ⟨b, off + k * 6 + 1, none⟩) hb).trans (HCL.out k hlt).2.1;have d3 := (hB.cell (p := ⟨b, off + k * 6 + 2, none⟩) hb).trans (HCL.out k hlt).2.2.1;have d4 := (hB.cell (p := ⟨b, off + k * 6 + 3, none⟩) hb).trans (HCL.out k hlt).2.2.2.1;have d5 := (hB.cell (p := ⟨b, off + k * 6 + 4, none⟩) hb).trans (HCL.out k hlt).2.2.2.2.1;have d6 := (hB.cell (p := ⟨b, off + k * 6 + 5, none⟩) hb).trans (HCL.out k hlt).2.2.2.2.2;have hfk := HC.out.fit _ (el_mem hlt);have hcn := HC.out.next _ (el_mem hlt);have hev := el_val hlt;have hin := HZ.out.2 k hlt;obtain ⟨⟨nm, kd, sa, sb, cp, ⟨nxo, nxc, nx⟩⟩, ex⟩ : ∃ v, v = el ts k := ⟨_, rfl⟩;rw [← ex] at d1 d2 d3 d4 d5 d6 hfk hev hin hcn;have HE : Hid (el (ts.map valNode) k = (nm, kd, sa, sb, cp, nx)) := hev;have HI : Hid (kI.In w1.heap.size w1 nxo nx) := hin;have hki : (k : Int) < (ts.length : Int) := by omega
         clear ex hev hin;dsimp only at d1 d2 d3 d4 d5 d6 hfk hcn;have hB2 : Below w1.heap.size w1 (wr.alloc (.cells #[.string nm, .int .i64 kd, .int .i64 sa, .int .i64 sb, .int .i64 cp, .slice nxo nx.length nxc] 27)) := Below.allocS hB _
         cases hnm : (decide (3 ≤ cp) && decide (cp ≤ 8))
         ·have HNM := hid hnm;clear hnm;have HBK := hid (brk_of (gs := ts.map valNode) (i := 3) (k := k) (by rw [val_len]; exact hlt) (by simp only [prule, Int.toNat_natCast, HE.out]; have h := HNM.out; simp at h ⊢; omega));have HCD := hid (codeG_rule HM.out (show 3 < 5 by decide) HBK.out (fun j hj => by
            rcases (show j = 0 ∨ j = 1 ∨ j = 2 from by omega) with rfl | rfl | rfl
            ·exact HN0.out
            ·exact HN1.out
            ·exact HN2.out))
          go_wp2_with fail;refine (l1In_is cp 3 8 _ false HNM.out).mono ?_;rintro e w2 ⟨rfl, rfl⟩;go_wp2;go_ret;exact ⟨by rw [HCD.out]; rfl, hB2⟩
         ·have HNM := hid hnm;clear hnm;go_wp2_with fail;refine (l1In_is cp 3 8 _ true HNM.out).mono ?_;rintro e w2 ⟨rfl, rfl⟩;go_wp2;go_roundw
          case rel =>
           refine ⟨k + 1, by go_num, by omega, fun j hj => ?_, hB2⟩
           rcases Nat.lt_succ_iff_lt_or_eq.1 hj with h | rfl
           ·exact hN.out j h
           ·simp only [prule, Int.toNat_natCast, HE.out]; have h := HNM.out; simp at h ⊢; omega
          case measure => simp [intOf]; omega
        ·obtain rfl : k = ts.length := by omega
         have HN3 := hid (brk_no (gs := ts.map valNode) (i := 3) (fun k hk => hN.out k (by rw [val_len] at hk; exact hk)));clear hN hlt hk;go_wp2
         go_loopw [79] (fun i wr => ∃ k : Nat, i = .int .i64 (k : Int) ∧ k ≤ ts.length ∧ Hid (∀ j : Nat, j < k → prule (ts.map valNode) 4 (j : Int) = false) ∧ Below w1.heap.size w1 wr) (fun i _ => ts.length - (intOf i).toNat)
         case atStart => exact ⟨0, rfl, Nat.zero_le _, fun j hj => by omega, hB⟩
         case round =>
          clear hB; obtain ⟨k, rfl, hk, hN, hB⟩ := hrel
          by_cases hlt : k < ts.length
          ·have d1 := (hB.cell (p := ⟨b, off + k * 6, none⟩) hb).trans (HCL.out k hlt).1;have d2 := (hB.cell (p := ⟨b, off + k * 6 + 1, none⟩) hb).trans (HCL.out k hlt).2.1;have d3 := (hB.cell (p := ⟨b, off + k * 6 + 2, none⟩) hb).trans (HCL.out k hlt).2.2.1;have d4 := (hB.cell (p := ⟨b, off + k * 6 + 3, none⟩) hb).trans (HCL.out k hlt).2.2.2.1;have d5 := (hB.cell (p := ⟨b, off + k * 6 + 4, none⟩) hb).trans (HCL.out k hlt).2.2.2.2.1;have d6 := (hB.cell (p := ⟨b, off + k * 6 + 5, none⟩) hb).trans (HCL.out k hlt).2.2.2.2.2;have hfk := HC.out.fit _ (el_mem hlt);have hcn := HC.out.next _ (el_mem hlt);have hev := el_val hlt;have hin := HZ.out.2 k hlt;obtain ⟨⟨nm, kd, sa, sb, cp, ⟨nxo, nxc, nx⟩⟩, ex⟩ : ∃ v, v = el ts k := ⟨_, rfl⟩;rw [← ex] at d1 d2 d3 d4 d5 d6 hfk hev hin hcn;have HE : Hid (el (ts.map valNode) k = (nm, kd, sa, sb, cp, nx)) := hev;have HI : Hid (kI.In w1.heap.size w1 nxo nx) := hin;have hki : (k : Int) < (ts.length : Int) := by omega
           clear ex hev hin;dsimp only at d1 d2 d3 d4 d5 d6 hfk hcn;obtain ⟨V, hV⟩ : ∃ V, V = wr.alloc (.cells #[.string nm, .int .i64 kd, .int .i64 sa, .int .i64 sb, .int .i64 cp, .slice nxo nx.length nxc] 27) := ⟨_, rfl⟩;have hbV : Below wr.heap.size wr V := by rw [hV]; exact below1 _ _
           have XV : Hid (Bx V wr.heap.size [.string nm, .int .i64 kd, .int .i64 sa, .int .i64 sb, .int .i64 cp, .slice nxo nx.length nxc]) := by rw [hV]; exact Bx.new [.string nm, .int .i64 kd, .int .i64 sa, .int .i64 sb, .int .i64 cp, .slice nxo nx.length nxc] _ rfl
           have hBV : Below w1.heap.size w1 V := hB.trans (hbV.mono hB.size);have HV := hid hV;clear hV hbV;go_wp2;rw [← HV.out];obtain ⟨pb, hpb⟩ : ∃ pb, pb = wr.heap.size := ⟨_, rfl⟩;rw [← hpb] at XV ⊢;clear hpb HV d1 d2 d3 d4 d5 d6
           go_loopw [86] (fun i wr => ∃ m : Nat, i = .int .i64 (m : Int) ∧ m ≤ nx.length ∧ Hid ((nx.take m).Nodup ∧ ∀ j : Nat, j < m → 0 ≤ el nx j ∧ el nx j < (ts.length : Int)) ∧ Hid (Bx wr pb [.string nm, .int .i64 kd, .int .i64 sa, .int .i64 sb, .int .i64 cp, .slice nxo nx.length nxc]) ∧ Below w1.heap.size w1 wr) (fun i _ => nx.length - (intOf i).toNat)
           case atStart => exact ⟨0, rfl, Nat.zero_le _, ⟨by simp, fun j hj => by omega⟩, XV, hBV⟩
           case round =>
            clear hBV XV hB;obtain ⟨m, rfl, hm, hA, hX, hB⟩ := hrel;have x5 := hX.out.c 5 rfl
            by_cases hmk : m < nx.length
            ·obtain ⟨nb, noff, rfl, hnb, hnc⟩ := ints_at HI.out hmk;have cm := (hB.cell (p := ⟨nb, noff + m, none⟩) hnb).trans (hnc m hmk);obtain ⟨x, hx⟩ : ∃ x, x = el nx m := ⟨_, rfl⟩;rw [← hx] at cm;have HX := hid hx;have hmi : (m : Int) < (nx.length : Int) := by omega
             have hmc : (m : Int) ≤ (nxc : Int) := by omega
             clear hx hnc
             cases hr : (decide (0 ≤ x) && decide (x ≤ (ts.length : Int) - 1))
             ·have HR := hid hr;clear hr;have HBK := hid (brk_of (gs := ts.map valNode) (i := 4) (k := k) (by rw [val_len]; exact hlt) (by simp only [prule, Int.toNat_natCast]; rw [HE.out, val_len]; simp only [Bool.not_eq_true']; refine Bool.eq_false_iff.2 fun h => ?_; have h2 := (goodNx_iff.1 h).1 _ (el_mem hmk); have h3 := HR.out; rw [HX.out] at h3; simp at h3; omega));have HCD := hid (codeG_rule HM.out (show 4 < 5 by decide) HBK.out (fun j hj => by
                rcases (show j = 0 ∨ j = 1 ∨ j = 2 ∨ j = 3 from by omega) with rfl | rfl | rfl | rfl
                ·exact HN0.out
                ·exact HN1.out
                ·exact HN2.out
                ·exact HN3.out))
              go_wp2_with fail;refine (l1In_is x 0 ((ts.length : Int) - 1) _ false HR.out).mono ?_;rintro e w2 ⟨rfl, rfl⟩;go_wp2;go_ret;exact ⟨by rw [HCD.out]; rfl, hB⟩
             ·have HR := hid hr;clear hr
              cases hh : hasB (nx.take m) x
              ·have HH := hid hh;clear hh;go_wp2_with fail;refine (l1In_is x 0 ((ts.length : Int) - 1) _ true HR.out).mono ?_;rintro e w2 ⟨rfl, rfl⟩;go_wp2_with fail;refine (l1Has_of w2.heap.size (some ⟨nb, noff, none⟩) m nxc (nx.take m) x w2 false (by simp; omega) (by simp; omega) ((HI.out.later hB).take m) HH.out).mono ?_;rintro e w3 ⟨rfl, rfl⟩;go_wp2;go_roundw
               case rel =>
                refine ⟨m + 1, by go_num, by omega, ⟨nodup_succ hmk hA.out.1 (by rw [← HX.out]; simpa [hasB] using HH.out), fun j hj => ?_⟩, hX, hB⟩
                rcases Nat.lt_succ_iff_lt_or_eq.1 hj with h | rfl
                ·exact hA.out.2 j h
                ·rw [← HX.out]; have h3 := HR.out; simp at h3; omega
               case measure => simp [intOf]; omega
              ·have HH := hid hh;clear hh;have HBK := hid (brk_of (gs := ts.map valNode) (i := 4) (k := k) (by rw [val_len]; exact hlt) (by simp only [prule, Int.toNat_natCast]; rw [HE.out, val_len]; simp only [Bool.not_eq_true']; refine Bool.eq_false_iff.2 fun h => ?_; exact nodup_take hmk (goodNx_iff.1 h).2 (by rw [← HX.out]; simpa [hasB] using HH.out)));have HCD := hid (codeG_rule HM.out (show 4 < 5 by decide) HBK.out (fun j hj => by
                 rcases (show j = 0 ∨ j = 1 ∨ j = 2 ∨ j = 3 from by omega) with rfl | rfl | rfl | rfl
                 ·exact HN0.out
                 ·exact HN1.out
                 ·exact HN2.out
                 ·exact HN3.out))
               go_wp2_with fail;refine (l1In_is x 0 ((ts.length : Int) - 1) _ true HR.out).mono ?_;rintro e w2 ⟨rfl, rfl⟩;go_wp2_with fail;refine (l1Has_of w2.heap.size (some ⟨nb, noff, none⟩) m nxc (nx.take m) x w2 true (by simp; omega) (by simp; omega) ((HI.out.later hB).take m) HH.out).mono ?_;rintro e w3 ⟨rfl, rfl⟩;go_wp2;go_ret;exact ⟨by rw [HCD.out]; rfl, hB⟩
            ·obtain rfl : m = nx.length := by omega
             clear hmk;have HGN : Hid (goodNx nx (ts.length : Int) = true) := goodNx_iff.2 ⟨fun x hx => by obtain ⟨j, hj, rfl⟩ := mem_el hx; exact hA.out.2 j hj, by have := hA.out.1; rwa [List.take_length] at this⟩;go_wp2;go_roundw
             case rel =>
              refine ⟨k + 1, by go_num, by omega, fun j hj => ?_, hB⟩
              rcases Nat.lt_succ_iff_lt_or_eq.1 hj with h | rfl
              ·exact hN.out j h
              ·simp only [prule, Int.toNat_natCast]; rw [HE.out, val_len]; simp [HGN.out]
             case measure => simp [intOf]; omega
          ·obtain rfl : k = ts.length := by omega
           have HN4 := hid (brk_no (gs := ts.map valNode) (i := 4) (fun k hk => hN.out k (by rw [val_len] at hk; exact hk)));clear hN hlt hk;go_wp2;have HED := hid (edges_of (gs := ts.map valNode) (by rw [val_len]; exact h10) HN4.out);have HRS : Hid (codeG (ts.map valNode) = if (orderP (ts.map valNode)).length < (ts.map valNode).length then 7 else 0) := codeG_rest HM.out (fun j hj => by
            rcases (show j = 0 ∨ j = 1 ∨ j = 2 ∨ j = 3 ∨ j = 4 from by omega) with rfl | rfl | rfl | rfl | rfl
            ·exact HN0.out
            ·exact HN1.out
            ·exact HN2.out
            ·exact HN3.out
            ·exact HN4.out)
           go_loopw [109] (fun i wr => ∃ k : Nat, i = .int .i64 (k : Int) ∧ k ≤ ts.length ∧ Hid (∀ j : Nat, j < k → ¬ Rch (ts.map valNode) j j) ∧ Below w1.heap.size w1 wr) (fun i _ => ts.length - (intOf i).toNat)
           case atStart => exact ⟨0, rfl, Nat.zero_le _, fun j hj => by omega, hB⟩
           case round =>
            clear hB;obtain ⟨k, rfl, hk, hN, hB⟩ := hrel
            by_cases hlt : k < ts.length
            ·go_wp2_with fail;refine (l11Reach_is (some ⟨b, off, none⟩) cap ts k k wr HC.out.fit HED.out hlt (HZ.out.later dNode_ok hB)).mono ?_;rintro e w2 ⟨⟨r, rfl, hr⟩, hb2⟩;have hB2 := hB.trans (hb2.mono hB.size);have HR := hid hr;clear hb2 hr
             cases r
             ·go_wp2;go_roundw
              case rel =>
               refine ⟨k + 1, by go_num, by omega, fun j hj => ?_, hB2⟩
               rcases Nat.lt_succ_iff_lt_or_eq.1 hj with h | rfl
               ·exact hN.out j h
               ·intro h; have := HR.out.2 h; cases this
              case measure => simp [intOf]; omega
             ·have HCD : Hid (codeG (ts.map valNode) = 7) := by
               rw [Hid, HRS.out, if_pos ((order_short HED.out).2 ⟨k, by rw [val_len]; exact hlt, HR.out.1 rfl⟩)]
              go_wp2;go_ret;exact ⟨by rw [HCD.out]; rfl, hB2⟩
            ·obtain rfl : k = ts.length := by omega
             have HCD : Hid (codeG (ts.map valNode) = 0) := by
              rw [Hid, HRS.out, if_neg (fun h => by obtain ⟨i, hi, hr⟩ := (order_short HED.out).1 h; exact hN.out i (by rw [val_len] at hi; exact hi) hr)]
             go_wp2;go_ret;exact ⟨by rw [HCD.out]; rfl, hB⟩
end
section
open Go.RowKit

theorem codeG_zero {gs : List PNode} (h : codeG gs = 0) : ¬ (gs.length < 1 ∨ 10 < gs.length) ∧ (∀ j, j < 5 → brk gs j = false) ∧ ¬ (orderP gs).length < gs.length := by
 have hm : ¬ (gs.length < 1 ∨ 10 < gs.length) := fun e => by rw [codeG_many e] at h; cases h
 have hall : ∀ i, i ≤ 5 → ∀ j, j < i → brk gs j = false := fun i => by
  induction i with
  | zero => intro _ j hj; omega
  | succ i ih =>
   intro hi j hj;have hprev := ih (by omega)
   rcases Nat.lt_succ_iff_lt_or_eq.1 hj with h1 | rfl
   ·exact hprev j h1
   ·cases hb : brk gs j with
    | false => rfl
    | true => rw [codeG_rule hm (by omega) hb hprev] at h; omega
 refine ⟨hm, hall 5 (Nat.le_refl _), fun ho => ?_⟩;rw [codeG_rest hm (hall 5 (Nat.le_refl _)), if_pos ho] at h
 cases h
end
section
open Go.RowKit

/-- How many of the first nodes lead to it. -/
def ledC (gs : List PNode) (k : Nat) (x : Nat) : Nat := ((gs.take k).map fun a => a.2.2.2.2.2.count (x : Int)).sum
theorem ledC_succ {gs : List PNode} {k : Nat} (hk : k < gs.length) (x : Nat) : ledC gs (k + 1) x = ledC gs k x + (nxP gs k).count (x : Int) := by
 rw [ledC, take_succ_el hk]; simp [ledC, nxP]
theorem ledC_le {gs : List PNode} (hE : EdgesIn gs) (x : Nat) : ∀ k, k ≤ gs.length → ledC gs k x ≤ 10 * k
 | 0, _ => by simp [ledC]
 | k + 1, hk => by
  have h1 := ledC_le hE x k (by omega);have h2 := hE.few k (by omega);have h3 : (nxP gs k).count (x : Int) ≤ (nxP gs k).length := List.count_le_length;rw [ledC_succ (by omega)]; omega
/-- The counts, some of one node's being counted. -/
def ledL (gs : List PNode) (k : Nat) (nx : List Int) : List Int := (List.range gs.length).map fun x : Nat => ((ledC gs k x + nx.count (x : Int) : Nat) : Int)
theorem ledL_len (gs : List PNode) (k : Nat) (nx : List Int) : (ledL gs k nx).length = gs.length := by simp [ledL]
theorem ledL_el {gs : List PNode} {x : Nat} (hx : x < gs.length) (k : Nat) (nx : List Int) : el (ledL gs k nx) x = ((ledC gs k x + nx.count (x : Int) : Nat) : Int) := by simp [ledL, el, hx]
theorem ledL_step {gs : List PNode} {j : Nat} (_hj : j < gs.length) (k : Nat) (nx : List Int) : (ledL gs k nx).set j (((ledC gs k j + nx.count (j : Int) : Nat) : Int) + 1) = ledL gs k (nx ++ [(j : Int)]) := by
 refine List.ext_getElem (by simp [ledL]) fun i h1 h2 => ?_
 have hi : i < gs.length := by simpa [ledL] using h2
 rw [List.getElem_set]
 by_cases e : j = i
 ·subst e; simp [ledL, List.count_append]; omega
 ·rw [if_neg e];have hne : ((j : Nat) : Int) ≠ ((i : Nat) : Int) := by omega
  simp [ledL, List.count_append, List.count_singleton, hne]
theorem ledL_next {gs : List PNode} {k : Nat} (hk : k < gs.length) : ledL gs k (nxP gs k) = ledL gs (k + 1) [] := by
 simp only [ledL, ledC_succ hk]; simp
theorem ledL_zero (gs : List PNode) : ledL gs 0 [] = List.replicate gs.length 0 := by
 refine List.ext_getElem (by simp [ledL]) fun i h1 h2 => ?_
 simp [ledL, ledC]
theorem map_setI (l : List Int) (k : Nat) (x : Int) : (l.set k x).map (Value.int .i64) = (l.map (Value.int .i64)).set k (.int .i64 x) := by rw [List.map_set]
theorem map_elI {l : List Int} {k : Nat} (hk : k < l.length) : (l.map (Value.int .i64))[k]? = some (.int .i64 (el l k)) := by rw [List.getElem?_map, List.getElem?_eq_getElem hk, el_at hk]; rfl
theorem rep_mapI (n : Nat) : (List.replicate n (0 : Int)).map (Value.int .i64) = List.replicate n (Value.int .i64 0) := by simp
/-- The cells of a row of ints. -/
theorem bx_in {W : World} {g : Nat} {l : List Int} (h : Bx W g (l.map (Value.int .i64))) : kI.In W.heap.size W (some ⟨g, 0, none⟩) l :=
 ints_mk h.size fun j hj => by rw [Nat.zero_add]; exact h.c j (map_elI hj)
set_option maxRecDepth 10000 in
set_option maxHeartbeats 8000000 in
theorem l11Led_is (ao : Option Addr) (cap : Nat) (ts : List LNode) (w : World) (hE : EdgesIn (ts.map valNode)) (hz : DIn dNode w.heap.size w ao ts) :
  Calls Tryz.prog 217 #[.slice ao ts.length cap] w fun e w' => e = .returned (.slice (some ⟨w.heap.size, 0, none⟩) ts.length ts.length) ∧ Bx w' w.heap.size ((ledL (ts.map valNode) ts.length []).map (Value.int .i64)) ∧ Below w.heap.size w w' := by
 obtain ⟨i0, hi, hz0, hz1, hz2⟩ := info_parts Tryz.info3;have h10 : ts.length ≤ 10 := by have := hE.many; simpa using this
 have HE := hid hE;have HZ := hid hz;clear hz hE;go_enter Tryz.func217, Tryz.ntmps217;go_wp2_with (at_make; refine wpList_make_full _ rfl _ _ 25 rfl w.heap.size 3 i0 (.int .i64 0) 1 Tryz.underlying25 hi hz0 hz1 .i64 .i64 _ _ ts.length rfl rfl rfl rfl (by rw [hz2]; omega) (by unfold maxLen; omega) (Nat.le_refl _) ?_; intro w1 hown hgrow; have hB1 : Below w.heap.size w w1 := (Below.refl _ _).grown hgrow (Nat.le_refl _) (fun k e => by cases e); have HO := hid (made_box hown); clear hown hgrow);have HO1 : Hid (Bx w1 w.heap.size ((ledL (ts.map valNode) 0 []).map (Value.int .i64))) := by
  have h : Bx w1 w.heap.size (madeCells #[Value.int .i64 0] (ts.length * 1)).toList := HO.out;rw [toList_madeCells_one, Nat.mul_one] at h;rw [Hid, ledL_zero, rep_mapI, val_len]; exact h
 clear HO
 go_loopw [13] (fun i wr => ∃ k : Nat, i = .int .i64 (k : Int) ∧ k ≤ ts.length ∧ Hid (Bx wr w.heap.size ((ledL (ts.map valNode) k []).map (Value.int .i64))) ∧ Below w.heap.size w wr) (fun i _ => ts.length - (intOf i).toNat)
 case atStart => exact ⟨0, rfl, Nat.zero_le _, HO1, hB1⟩
 case round =>
  clear hB1 HO1;obtain ⟨k, rfl, hk, hO, hB⟩ := hrel
  by_cases hlt : k < ts.length
  ·obtain ⟨b, off, rfl, hb, hc⟩ := hNode_at HZ.out.1 hlt;have d1 := (hB.cell (p := ⟨b, off + k * 6, none⟩) hb).trans (hc k hlt).1;have d2 := (hB.cell (p := ⟨b, off + k * 6 + 1, none⟩) hb).trans (hc k hlt).2.1;have d3 := (hB.cell (p := ⟨b, off + k * 6 + 2, none⟩) hb).trans (hc k hlt).2.2.1;have d4 := (hB.cell (p := ⟨b, off + k * 6 + 3, none⟩) hb).trans (hc k hlt).2.2.2.1;have d5 := (hB.cell (p := ⟨b, off + k * 6 + 4, none⟩) hb).trans (hc k hlt).2.2.2.2.1;have d6 := (hB.cell (p := ⟨b, off + k * 6 + 5, none⟩) hb).trans (hc k hlt).2.2.2.2.2;have hev := el_val hlt;have hin := HZ.out.2 k hlt;obtain ⟨⟨nm, kd, sa, sb, cp, ⟨nxo, nxc, nx⟩⟩, ex⟩ : ∃ v, v = el ts k := ⟨_, rfl⟩;rw [← ex] at d1 d2 d3 d4 d5 d6 hev hin;have HX : Hid (nxP (ts.map valNode) k = nx) := by rw [Hid, nxP, hev]; rfl
   have HI : Hid (kI.In w.heap.size w nxo nx) := hin;have hnl : nx.length ≤ 10 := by rw [← HX.out]; exact HE.out.few k (by rw [val_len]; exact hlt)
   have hki : (k : Int) < (ts.length : Int) := by omega
   clear ex hev hin hc;dsimp only at d1 d2 d3 d4 d5 d6;obtain ⟨V, hV⟩ : ∃ V, V = wr.alloc (.cells #[.string nm, .int .i64 kd, .int .i64 sa, .int .i64 sb, .int .i64 cp, .slice nxo nx.length nxc] 27) := ⟨_, rfl⟩;have hbV : Below wr.heap.size wr V := by rw [hV]; exact below1 _ _
   have XV := hid (hO.out.later hbV);have hBV : Below w.heap.size w V := hB.trans (hbV.mono hB.size);have HV := hid hV;clear hV hbV;go_wp2;rw [← HV.out];obtain ⟨pb, hpb⟩ : ∃ pb, pb = wr.heap.size := ⟨_, rfl⟩;rw [← hpb];clear hpb HV d1 d2 d3 d4 d5 d6 hO
   go_loopw [20] (fun i wr => ∃ m : Nat, i = .int .i64 (m : Int) ∧ m ≤ nx.length ∧ Hid (Bx wr w.heap.size ((ledL (ts.map valNode) k (nx.take m)).map (Value.int .i64))) ∧ Below w.heap.size w wr) (fun i _ => nx.length - (intOf i).toNat)
   case atStart => exact ⟨0, rfl, Nat.zero_le _, by rw [List.take_zero]; exact XV, hBV⟩
   case round =>
    clear hBV XV hB;obtain ⟨m, rfl, hm, hX, hB⟩ := hrel
    by_cases hmk : m < nx.length
    ·obtain ⟨nb, noff, rfl, hnb, hnc⟩ := ints_at HI.out hmk;have cm := (hB.cell (p := ⟨nb, noff + m, none⟩) hnb).trans (hnc m hmk);obtain ⟨j, hj, hx⟩ := HE.out.rng k (by rw [val_len]; exact hlt) (el nx m) (by rw [HX.out]; exact el_mem hmk);rw [val_len] at hj;rw [hx] at cm;have HXJ := hid hx;clear hx hnc;have hmi : (m : Int) < (nx.length : Int) := by omega
     have hji : (j : Int) < (ts.length : Int) := by omega
     have hjv : j < (ts.map valNode).length := by rw [val_len]; exact hj
     have cj := hX.out.c j (map_elI (by rw [ledL_len]; exact hjv));have fj := hX.out.f j (map_elI (by rw [ledL_len]; exact hjv));rw [ledL_el hjv] at cj;have hq1 := ledC_le HE.out j k (by rw [val_len]; omega);have hq2 : (nx.take m).count (j : Int) ≤ m := Nat.le_trans List.count_le_length (by simp; omega);have HST := hid (ledL_step hjv k (nx.take m));rw [← HXJ.out, ← take_succ_el hmk] at HST;obtain ⟨q, hq⟩ : ∃ q, q = ledC (ts.map valNode) k j + (nx.take m).count (j : Int) := ⟨_, rfl⟩;rw [HXJ.out, ← hq] at HST;rw [← hq] at cj;have hq3 : q ≤ 1000 := by omega
     clear hq hq1 hq2;have HS := hid (hX.out.set j (.int .i64 ((q : Int) + 1)));rw [← map_setI, HST.out] at HS;have hB2 := hB.setCell (p := ⟨w.heap.size, j, none⟩) (Nat.le_refl _) (.int .i64 ((q : Int) + 1));go_wp2;go_roundw
     case rel => exact ⟨m + 1, by go_num, by omega, HS, hB2⟩
     case measure => simp [intOf]; omega
    ·obtain rfl : m = nx.length := by omega
     have HS : Hid (Bx wr w.heap.size ((ledL (ts.map valNode) (k + 1) []).map (Value.int .i64))) := by
      have h := hX.out;rw [List.take_length, ← HX.out, ledL_next (by rw [val_len]; exact hlt)] at h;exact h
     go_wp2;go_roundw
     case rel => exact ⟨k + 1, by go_num, by omega, HS, hB⟩
     case measure => simp [intOf]; omega
  ·obtain rfl : k = ts.length := by omega
   go_wp2;go_ret;exact ⟨rfl, hO.out, hB⟩
/-- The nodes to which none leads, of the first ones. -/
def srcP (gs : List PNode) (k : Nat) : List Int := (numsI k).filter fun x => decide (ledC gs gs.length x.toNat = 0)
theorem srcP_succ (gs : List PNode) (k : Nat) : srcP gs (k + 1) = if ledC gs gs.length k = 0 then srcP gs k ++ [(k : Int)] else srcP gs k := by
 rw [srcP, numsI_succ, List.filter_append]
 by_cases h : ledC gs gs.length k = 0
 ·rw [if_pos h]; simp [srcP, h]
 ·rw [if_neg h]; simp [srcP, h]
theorem srcP_len (gs : List PNode) (k : Nat) : (srcP gs k).length ≤ k := Nat.le_trans (List.length_filter_le _ _) (by rw [numsI_len]; exact Nat.le_refl _)
set_option maxRecDepth 10000 in
set_option maxHeartbeats 8000000 in
theorem l11Sources_is (ao : Option Addr) (cap : Nat) (ts : List LNode) (w : World) (hE : EdgesIn (ts.map valNode)) (hz : DIn dNode w.heap.size w ao ts) :
  Calls Tryz.prog 213 #[.slice ao ts.length cap] w fun e w' => AnsI w (srcP (ts.map valNode) ts.length) e w' := by
 have h10 : ts.length ≤ 10 := by have := hE.many; simpa using this
 have hcon := l11Led_is ao cap ts w hE hz;have HE := hid hE;clear hz hE;go_enter Tryz.func213, Tryz.ntmps213;go_wp2_with (go_at_call 217; refine hcon.mono ?_; rintro e w1 ⟨rfl, hX1, hB1⟩; have X1 := hid hX1; clear hX1);have HS1 := hid X1.out.size
 go_loopw [3, 9] (fun u i wr => ∃ (k : Nat) (v : Value), v = u ∧ k ≤ ts.length ∧ i = .int .i64 k ∧ Hid (kI.Own w1.heap.size wr v (srcP (ts.map valNode) k)) ∧ Below w1.heap.size w1 wr) (fun _ i _ => ts.length - (intOf i).toNat)
 case atStart => exact ⟨0, _, rfl, Nat.zero_le _, rfl, Kind.Own.nil _ _ _, Below.refl _ _⟩
 case round =>
  obtain ⟨k, v, rfl, hk, rfl, hO, hB⟩ := hrel;have hBw : Below w.heap.size w wr := hB1.trans (hB.mono hB1.size)
  by_cases hlt : k < ts.length
  ·have hkv : k < (ts.map valNode).length := by rw [val_len]; exact hlt
   have hs := hB.size;have cj := (X1.out.later hB).c k (map_elI (by rw [ledL_len]; exact hkv));rw [ledL_el hkv] at cj;simp only [List.count_nil, Nat.add_zero] at cj;have hki : (k : Int) < (ts.length : Int) := by omega
   have hll : (srcP (ts.map valNode) k).length + 1 ≤ 4194304 := by have := srcP_len (ts.map valNode) k; omega
   have HSS := hid (srcP_succ (ts.map valNode) k);rw [val_len] at HSS
   by_cases h0 : ledC (ts.map valNode) ts.length k = 0
   ·rw [if_pos h0] at HSS;rw [h0] at cj;clear h0;have HA : Hid (kI.Own w1.heap.size (wr.alloc (.cells #[.int .i64 (k : Int)] 3)) v (srcP (ts.map valNode) k)) := hO.out.below (below1 _ _);have HN : Hid (kI.In (wr.heap.size + 1) (wr.alloc (.cells #[.int .i64 (k : Int)] 3)) (some ⟨wr.heap.size, 0, none⟩) [(k : Int)]) := int_one (by omega) (by simp);have hBa : Below w1.heap.size w1 (wr.alloc (.cells #[.int .i64 (k : Int)] 3)) := Below.allocS hB _;go_wp2_with (at_builtin; refine Kind.app kI_ok (wr.alloc (.cells #[.int .i64 (k : Int)] 3)) rfl (.tmp 16) (.tmp 18) rfl w1.heap.size v (srcP (ts.map valNode) k) rfl HA.out (by simp; omega) (some ⟨wr.heap.size, 0, none⟩) [(k : Int)] 1 1 rfl rfl (by simp) _ HN.out hll ?_; intro v' w' hO' hB' hG' hn'; have hB2 : Below w1.heap.size w1 w' := hBa.trans (hB'.mono (by omega)); have HO' : Hid (kI.Own w1.heap.size w' v' (srcP (ts.map valNode) (k + 1))) := (by rw [Hid, HSS.out]; exact hO'); clear hO' hB' hG' hn');go_roundw
    case rel => exact ⟨k + 1, v', rfl, by omega, by go_num, HO', hB2⟩
    case measure => simp [intOf]; omega
   ·rw [if_neg h0] at HSS;have hne : (((ledC (ts.map valNode) ts.length k : Nat) : Int) == 0) = false := by simp; omega
    rw [← HSS.out] at hO;go_wp2;go_roundw
    case rel => exact ⟨k + 1, _, rfl, by omega, by go_num, hO, hB⟩
    case measure => simp [intOf]; omega
  ·obtain rfl : k = ts.length := by omega
   obtain ⟨qo, qc, rfl, _, hF⟩ := hO.out.fresh;have HF := hid (hF.wide (lo' := w.heap.size) (hi' := wr.heap.size) hB1.size (Nat.le_refl _));clear hF hO;go_wp2;go_ret;exact ⟨⟨_, _, rfl, HF.out⟩, hBw⟩
end
end Go.Proofs.YtdacedbfnlkghaaGreatDoor
