
/- What is wrong with a graph: the program's telling. No conditions but those written. -/
import Derived.Test.YteamcpcjooglaaaDoorFo
namespace Go.Proofs.YteamcpcjooglaaaDoor
open Go.RowKit

/-- A node breaks a rule. -/
def brk (gs : List PNode) (i : Nat) : Bool := (numsI gs.length).any (prule gs i)
/-- What a graph is answered by. -/
def codeG (gs : List PNode) : Nat :=
  if gs.length < 1 ∨ 10 < gs.length then 1
  else if brk gs 0 = true then 2 else if brk gs 1 = true then 3 else if brk gs 2 = true then 4 else if brk gs 3 = true then 5 else if brk gs 4 = true then 6
  else if (orderP gs).length < gs.length then 7 else 0
theorem codeG_many {gs : List PNode} (h : gs.length < 1 ∨ 10 < gs.length) : codeG gs = 1 := by rw [codeG, if_pos h]
theorem codeG_rule {gs : List PNode} {i : Nat} (h : ¬ (gs.length < 1 ∨ 10 < gs.length)) (hi : i < 5) (hb : brk gs i = true) (hn : ∀ j, j < i → brk gs j = false) : codeG gs = i + 2 := by
  rw [codeG, if_neg h]
  rcases (show i = 0 ∨ i = 1 ∨ i = 2 ∨ i = 3 ∨ i = 4 from by omega) with rfl | rfl | rfl | rfl | rfl
  · rw [if_pos hb]
  · simp [hb, hn 0 (by omega)]
  · simp [hb, hn 0 (by omega), hn 1 (by omega)]
  · simp [hb, hn 0 (by omega), hn 1 (by omega), hn 2 (by omega)]
  · simp [hb, hn 0 (by omega), hn 1 (by omega), hn 2 (by omega), hn 3 (by omega)]
theorem codeG_rest {gs : List PNode} (h : ¬ (gs.length < 1 ∨ 10 < gs.length)) (hn : ∀ j, j < 5 → brk gs j = false) : codeG gs = if (orderP gs).length < gs.length then 7 else 0 := by
  rw [codeG, if_neg h]
  simp [hn 0 (by omega), hn 1 (by omega), hn 2 (by omega), hn 3 (by omega), hn 4 (by omega)]
/-- The fault of a graph. -/
def faultV (ea : Nat → Addr) (gs : List PNode) : Value :=
  if codeG gs = 0 then .nilIface else if codeG gs = 1 then errV (ea 0) else if codeG gs = 7 then errV (ea 6)
  else .iface 71 (.agg #[.int .i64 (fidx (prule gs (codeG gs - 2)) (numsI gs.length)), errV (ea (codeG gs - 1))])
theorem rulesV_at (ea : Nat → Addr) (p k : Nat) (hk : k < 5) : (rulesV ea p)[k * 2]? = some (errV (ea (k + 1))) ∧ (rulesV ea p)[k * 2 + 1]? = some (.func (.func (fno k)) #[] #[.pointer (some ⟨p, 0, none⟩)]) := by
  rcases (show k = 0 ∨ k = 1 ∨ k = 2 ∨ k = 3 ∨ k = 4 from by omega) with rfl | rfl | rfl | rfl | rfl <;> exact ⟨rfl, rfl⟩
set_option maxRecDepth 10000 in
set_option maxHeartbeats 8000000 in
theorem faultOf_any (ao : Option Addr) (cap : Nat) (ts : List LNode) (ea : Nat → Addr) (w : World) (hC : Roomy ts cap) (hE : Errs w ea) (hz : DIn dNode w.heap.size w ao ts) :
    Calls Tryd.prog 26 #[.slice ao ts.length cap] w fun e w' => e = .returned (faultV ea (ts.map valNode)) ∧ Below w.heap.size w w' := by
  have e0 := hE.c0
  simp only [errV] at e0
  by_cases h1 : ts.length < 1
  · have HV : Hid (faultV ea (ts.map valNode) = errV (ea 0)) := by rw [Hid, faultV, codeG_many (.inl (by simpa using h1))]; rfl
    go_enter Tryd.func26, Tryd.ntmps26
    go_wp2
    go_ret
    exact ⟨congrArg Ending.returned HV.out.symm, Below.refl _ _⟩
  by_cases h2 : 10 < ts.length
  · have HV : Hid (faultV ea (ts.map valNode) = errV (ea 0)) := by rw [Hid, faultV, codeG_many (.inr (by simpa using h2))]; rfl
    go_enter Tryd.func26, Tryd.ntmps26
    go_wp2
    go_ret
    exact ⟨congrArg Ending.returned HV.out.symm, Below.refl _ _⟩
  have h12 : ¬ ((ts.map valNode).length < 1 ∨ 10 < (ts.map valNode).length) := by rw [List.length_map]; omega
  have HE := hid hE
  have HZ := hid hz
  have HN := hid h12
  have hl1 := hC.len
  clear hE hz e0 h12
  go_enter Tryd.func26, Tryd.ntmps26
  go_wp2_with fail
  refine (rulesOf_any ao cap ts ea w HE.out HZ.out).mono ?_
  rintro e w1 ⟨rb, p, rfl, hR1, hG1, hb1⟩
  have R1 := hid hR1
  have G1 := hid hG1
  clear hR1 hG1
  go_wp2
  go_loopw [18] (fun i wr => ∃ k : Nat, i = .int .i64 (k : Int) ∧ k ≤ 5 ∧ Hid (∀ j, j < k → brk (ts.map valNode) j = false) ∧ Below w1.heap.size w1 wr) (fun i _ => 5 - (intOf i).toNat)
  case atStart => exact ⟨0, rfl, by omega, fun j hj => by omega, Below.refl _ _⟩
  case round =>
    obtain ⟨k, rfl, hk, hN, hB⟩ := hrel
    by_cases hlt : k < 5
    · obtain ⟨r0, r1⟩ := rulesV_at ea p k hlt
      have c0 := (R1.out.later hB).c (k * 2) r0
      have c1 := (R1.out.later hB).c (k * 2 + 1) r1
      have hk5 : (k : Int) < 5 := by omega
      simp only [errV] at c0
      obtain ⟨V, hV⟩ : ∃ V, V = wr.alloc (.cells #[.iface 92 (.pointer (some (ea (k + 1)))), .func (.func (fno k)) #[] #[.pointer (some ⟨p, 0, none⟩)]] 68) := ⟨_, rfl⟩
      have hbV : Below wr.heap.size wr V := by rw [hV]; exact below1 _ _
      have XV : Hid (Bx V wr.heap.size [.iface 92 (.pointer (some (ea (k + 1)))), .func (.func (fno k)) #[] #[.pointer (some ⟨p, 0, none⟩)]]) := by rw [hV]; exact Bx.new [.iface 92 (.pointer (some (ea (k + 1)))), .func (.func (fno k)) #[] #[.pointer (some ⟨p, 0, none⟩)]] _ rfl
      have GV := hid ((G1.out.later hB).later hbV)
      have hBV : Below w1.heap.size w1 V := hB.trans (hbV.mono hB.size)
      have HV := hid hV
      have x0 := XV.out.c 0 rfl
      have x1 := XV.out.c 1 rfl
      clear hV hbV r0 r1
      obtain ⟨nd, hnd⟩ : ∃ nd, nd = fidx (prule (ts.map valNode) k) (numsI ts.length) := ⟨_, rfl⟩
      have hany : decide (0 ≤ nd) = brk (ts.map valNode) k := by rw [hnd, fidx_any, brk, List.length_map]
      have HND := hid hnd
      cases hbk : brk (ts.map valNode) k
      · have hneg : ¬ (0 ≤ nd) := by rw [hbk] at hany; simpa using hany
        have HBK := hid hbk
        clear hany hnd hbk
        go_wp2_with fail
        rw [← HV.out]
        go_region_with (first
          | (go_at_call 38; refine (numbersOf_any ao cap ts.length _ hl1).mono ?_; rintro e w2 ⟨⟨go, qc, rfl, hF2⟩, hb2⟩; rw [numsI_len]; have hbo : Below V.heap.size V w2 := (Below.refl V.heap.size V).drew.trans hb2; have y1 := (XV.out.later hbo).c 1 rfl; have F2 := hid hF2.in; have G2 := hid (GV.out.later hbo); clear hb2 hF2)
          | (go_at_call 37; refine (ruleIdx_any k p ao cap ts go qc _ hC G2.out F2.out).mono ?_; rw [← HND.out]; rintro e w3 ⟨rfl, hb3⟩; have hB3 : Below w1.heap.size w1 w3 := hBV.trans ((hbo.trans (hb3.mono hbo.size)).mono hBV.size); clear hb3))
        all_goals
          go_wp2
          go_roundw
          case rel =>
            refine ⟨k + 1, by go_num, by omega, fun j hj => ?_, hB3⟩
            rcases Nat.lt_succ_iff_lt_or_eq.1 hj with h | rfl
            · exact hN.out j h
            · exact HBK.out
          case measure => simp [intOf]; omega
      · have hpos : 0 ≤ nd := by rw [hbk] at hany; simpa using hany
        have HF : Hid (faultV ea (ts.map valNode) = .iface 71 (.agg #[.int .i64 nd, errV (ea (k + 1))])) := by
          have hc := codeG_rule HN.out hlt hbk hN.out
          rw [Hid, faultV, hc, if_neg (by omega), if_neg (by omega), if_neg (by omega), Nat.add_sub_cancel, List.length_map, ← hnd]; rfl
        clear hany hnd hbk
        go_wp2_with fail
        rw [← HV.out]
        go_region_with (first
          | (go_at_call 38; refine (numbersOf_any ao cap ts.length _ hl1).mono ?_; rintro e w2 ⟨⟨go, qc, rfl, hF2⟩, hb2⟩; rw [numsI_len]; have hbo : Below V.heap.size V w2 := (Below.refl V.heap.size V).drew.trans hb2; have y1 := (XV.out.later hbo).c 1 rfl; have F2 := hid hF2.in; have G2 := hid (GV.out.later hbo); clear hb2 hF2)
          | (go_at_call 37; refine (ruleIdx_any k p ao cap ts go qc _ hC G2.out F2.out).mono ?_; rw [← HND.out]; rintro e w3 ⟨rfl, hb3⟩; have hB3 : Below w1.heap.size w1 w3 := hBV.trans ((hbo.trans (hb3.mono hbo.size)).mono hBV.size); have z0 := ((XV.out.later hbo).later hb3).c 0 rfl; clear hb3))
        all_goals
          go_wp2
          go_ret
          exact ⟨congrArg Ending.returned HF.out.symm, hb1.trans (hB3.mono hb1.size)⟩
    · obtain rfl : k = 5 := by omega
      have hBw : Below w.heap.size w wr := hb1.trans (hB.mono hb1.size)
      have hc := codeG_rest HN.out hN.out
      have HC := hid hc
      clear hc
      go_wp2_with fail
      refine (orderIn_any ao cap ts wr hl1 hC.fit (HZ.out.later dNode_ok hBw)).mono ?_
      rintro e w2 ⟨⟨go, qc, rfl, _⟩, hb2⟩
      have hB2 := hBw.trans (hb2.mono hBw.size)
      have e6 := (HE.out.later hB2).c6
      simp only [errV] at e6
      clear hb2
      by_cases ho : (orderP (ts.map valNode)).length < ts.length
      · have HF : Hid (faultV ea (ts.map valNode) = errV (ea 6)) := by
          have hc : codeG (ts.map valNode) = 7 := HC.out.trans (if_pos (by rw [List.length_map]; exact ho))
          rw [Hid, faultV, hc]; rfl
        have ho' : decide (((orderP (ts.map valNode)).length : Int) < (ts.length : Int)) = true := decide_eq_true (by omega)
        go_wp2
        go_ret
        exact ⟨congrArg Ending.returned HF.out.symm, hB2⟩
      · have HF : Hid (faultV ea (ts.map valNode) = .nilIface) := by
          have hc : codeG (ts.map valNode) = 0 := HC.out.trans (if_neg (by rw [List.length_map]; exact ho))
          rw [Hid, faultV, hc]; rfl
        have ho' : decide (((orderP (ts.map valNode)).length : Int) < (ts.length : Int)) = false := decide_eq_false (by omega)
        go_wp2
        go_ret
        exact ⟨congrArg Ending.returned HF.out.symm, hB2⟩
theorem faultV_nil {ea : Nat → Addr} {gs : List PNode} : (faultV ea gs = .nilIface) ↔ codeG gs = 0 := by
  unfold faultV
  split
  · simp [*]
  · split
    · simp [*]
    · split
      · simp [*]
      · simp [*]
set_option maxHeartbeats 2000000 in
theorem goodGraph_is (ao : Option Addr) (cap : Nat) (ts : List LNode) (ea : Nat → Addr) (w : World) (hC : Roomy ts cap) (hE : Errs w ea) (hz : DIn dNode w.heap.size w ao ts) :
    Calls Tryd.prog 13 #[.slice ao ts.length cap] w fun e w' => e = .returned (.bool (decide (codeG (ts.map valNode) = 0))) ∧ Below w.heap.size w w' := by
  have hcon := faultOf_any ao cap ts ea w hC hE hz
  clear hE hz hC
  by_cases h0 : codeG (ts.map valNode) = 0
  · rw [faultV_nil.2 h0] at hcon
    rw [decide_eq_true h0]
    go_enter Tryd.func13, Tryd.ntmps13
    go_wp2_with (go_at_call 26; refine hcon.mono ?_; rintro e w1 ⟨rfl, hb1⟩)
    go_ret
    exact ⟨rfl, hb1⟩
  · have hn : ∃ t v, faultV ea (ts.map valNode) = .iface t v := by
      unfold faultV
      rw [if_neg h0]
      split
      · exact ⟨_, _, rfl⟩
      · split
        · exact ⟨_, _, rfl⟩
        · exact ⟨_, _, rfl⟩
    obtain ⟨t, v, htv⟩ := hn
    rw [htv] at hcon
    rw [decide_eq_false h0]
    clear htv h0
    go_enter Tryd.func13, Tryd.ntmps13
    go_wp2_with (go_at_call 26; refine hcon.mono ?_; rintro e w1 ⟨rfl, hb1⟩)
    go_ret
    exact ⟨rfl, hb1⟩
end Go.Proofs.YteamcpcjooglaaaDoor
