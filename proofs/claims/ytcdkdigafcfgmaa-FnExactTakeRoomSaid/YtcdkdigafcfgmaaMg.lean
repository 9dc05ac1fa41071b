/- Rooms: a room of its own, who waits, who is let in: the specification. No conditions but those written. -/
import Derived.Test.YtcdkdigafcfgmaaMf
import Derived.BigRegion
import Derived.RegionTactic
import Derived.ChangeAlike
namespace Go.Proofs.Ytcdkdigafcfgmaa
open Go.RowKit

set_option maxHeartbeats 2000000 in
theorem l5Own_any (s1 s2 : Int) (ao : Option Addr) (cap : Nat) (l : List (Int × Int)) (w : World) (hl : l.length ≤ 1048576) (hno : ao = none → cap = 0) (hz : kN.In w.heap.size w ao l) :
    Calls Try.prog 73 #[.agg #[.int .i64 s1, .int .i64 s2, .slice ao l.length cap]] w fun e w' => (∃ g c, e = .returned (.agg #[.int .i64 s1, .int .i64 s2, .slice (some ⟨g, 0, none⟩) l.length c]) ∧ kN.Fresh w.heap.size w'.heap.size w' (some ⟨g, 0, none⟩) c l ∧ kN.Own w.heap.size w' (.slice (some ⟨g, 0, none⟩) l.length c) l) ∧ Below w.heap.size w w' := by
  obtain ⟨W2, hW2⟩ : ∃ W2, W2 = (w.alloc (.cells #[.int .i64 s1, .int .i64 s2, .slice ao l.length cap] 46)).alloc (.cells #[.int .i64 0, .int .i64 0, .slice none 0 0] 46) := ⟨_, rfl⟩
  have hB2 : Below w.heap.size w W2 := by rw [hW2]; exact below2 _ _ _
  have A2 : Bx W2 w.heap.size [.int .i64 s1, .int .i64 s2, .slice ao l.length cap] := by rw [hW2]; exact (Bx.new [.int .i64 s1, .int .i64 s2, .slice ao l.length cap] _ rfl).alloc _
  have R2 : Bx W2 (w.heap.size + 1) [.int .i64 0, .int .i64 0, .slice none 0 0] := by rw [hW2]; exact Bx.new [.int .i64 0, .int .i64 0, .slice none 0 0] _ (by simp)
  have hsW : W2.heap.size = w.heap.size + 1 + 1 := by rw [hW2]; simp
  have HS := hid hsW
  have HE : Hid (kN.Own (w.heap.size + 1 + 1) (W2.alloc (.cells #[] 54)) (.slice (some ⟨w.heap.size + 1 + 1, 0, none⟩) 0 0) []) := by rw [Hid, ← hsW]; exact Kind.Own.new kN _ W2 (Nat.le_refl _)
  have HZ : Hid (kN.In W2.heap.size (W2.alloc (.cells #[] 54)) ao l) := (hz.later hB2).below (below1 _ _)
  have HW := hid hW2
  clear hW2 hsW
  have hA1 : w.heap.size < w.heap.size + 1 + 1 := by omega
  go_enter Try.func73, Try.ntmps73
  go_wp2_with (at_builtin; rw [← HW.out]; refine Kind.app kN_ok (W2.alloc (.cells #[] 54)) rfl (.tmp 3) (.tmp 5) rfl (w.heap.size + 1 + 1) (.slice (some ⟨w.heap.size + 1 + 1, 0, none⟩) 0 0) [] rfl HE.out (by have := HS.out; simp; omega) ao l l.length cap rfl rfl hno _ HZ.out (by simp; omega) ?_; intro v3 w3 hO3 hB3 hG3 hn3; obtain ⟨g, c, rfl, hF3⟩ := hO3.some (hn3 some_ne); rw [List.nil_append] at hF3 hO3; have A3 := (A2.alloc (.cells #[] 54)).below hB3 (by omega); have R3 := (R2.alloc (.cells #[] 54)).below hB3 (by omega); have hB4 : Below w.heap.size w w3 := hB2.trans (((below1 W2 (.cells #[] 54)).mono hB2.size).trans (hB3.mono (by omega))); have HF := hid hF3; have HO := hid hO3; clear hO3 hB3 hG3 hn3 hF3 HE HZ A2 R2 HW; have a0 := A3.c 0 rfl; have a1 := A3.c 1 rfl; have a2 := A3.c 2 rfl; have af2 := A3.f 2 rfl; have r0 := R3.c 0 rfl; have r1 := R3.c 1 rfl; have r2 := R3.c 2 rfl; have rf0 := R3.f 0 rfl; have rf1 := R3.f 1 rfl; have rf2 := R3.f 2 rfl)
  refine bodyPost_ret (v := .agg #[.int .i64 s1, .int .i64 s2, .slice (some ⟨g, 0, none⟩) l.length c]) (by simp [results, Try.results73, go_sem, r0, r1, r2]) rfl ⟨⟨g, c, rfl, ?_, ?_⟩, ?_⟩
  · exact ((((HF.out.setBelow (a := ⟨w.heap.size, 2, none⟩) (by simp; omega) _).setBelow (a := ⟨w.heap.size + 1, 0, none⟩) (by simp) _).setBelow (a := ⟨w.heap.size + 1, 1, none⟩) (by simp) _).setBelow (a := ⟨w.heap.size + 1, 2, none⟩) (by simp) _).wide (by omega) (by simp)
  · have h := (((HO.out.setBelow (a := ⟨w.heap.size, 2, none⟩) (by simp; omega) (.slice (some ⟨g, 0, none⟩) l.length c)).setBelow (a := ⟨w.heap.size + 1, 0, none⟩) (by simp) (.int .i64 s1)).setBelow (a := ⟨w.heap.size + 1, 1, none⟩) (by simp) (.int .i64 s2)).setBelow (a := ⟨w.heap.size + 1, 2, none⟩) (by simp) (.slice (some ⟨g, 0, none⟩) l.length c)
    exact ownsRow_base h (by have := (owns_lt h).1; omega)
  · exact (((hB4.setCell (p := ⟨w.heap.size, 2, none⟩) (by simp) _).setCell (p := ⟨w.heap.size + 1, 0, none⟩) (by simp) _).setCell (p := ⟨w.heap.size + 1, 1, none⟩) (by simp) _).setCell (p := ⟨w.heap.size + 1, 2, none⟩) (by simp) _

theorem tasksOf_at {l : List (Int × Int)} {j : Nat} (h : j < l.length) : el (tasksOf l) j = (el l j).1 := by simp [el, tasksOf, h]
set_option maxHeartbeats 2000000 in
theorem l5Waits_is (s1 s2 : Int) (ao : Option Addr) (cap : Nat) (l : List (Int × Int)) (iv : Int) (w : World) (x : Bool) (hl : l.length ≤ 1048576) (hz : kN.In w.heap.size w ao l) (hx : hasB (tasksOf l) iv = x) :
    Calls Try.prog 74 #[.agg #[.int .i64 s1, .int .i64 s2, .slice ao l.length cap], .int .i64 iv] w fun e w' => e = .returned (.bool x) ∧ Below w.heap.size w w' := by
  have HX := hid hx
  have hB0 := below1 w (.cells #[.int .i64 s1, .int .i64 s2, .slice ao l.length cap] 46)
  clear hx
  go_enter Try.func74, Try.ntmps74
  go_wp2
  go_loopw [10] (fun i wr => ∃ k : Nat, k ≤ l.length ∧ i = .int .i64 k ∧ Hid (∀ j, j < k → (el l j).1 ≠ iv) ∧ Below w.heap.size w wr) (fun i _ => l.length - (intOf i).toNat)
  case atStart => exact ⟨0, Nat.zero_le _, rfl, fun j hj => by omega, hB0⟩
  case round =>
    obtain ⟨k, hk, rfl, hno, hB⟩ := hrel
    by_cases hlt : k < l.length
    · obtain ⟨b, off, rfl, hb, hc⟩ := kN_at hz hlt
      have d1 := (hB.cell (p := ⟨b, off + k * 2, none⟩) hb).trans (hc k hlt).1
      have d2 := (hB.cell (p := ⟨b, off + k * 2 + 1, none⟩) hb).trans (hc k hlt).2
      obtain ⟨⟨y1, y2⟩, ey⟩ : ∃ v, v = el l k := ⟨_, rfl⟩
      rw [← ey] at d1 d2
      have HY : Hid (el l k = (y1, y2)) := ey.symm
      clear ey hc hz
      dsimp only at d1 d2
      by_cases he : y1 = iv
      · have he' : (y1 == iv) = true := by simpa using he
        have HT : Hid (x = true) := by rw [Hid, ← HX.out]; exact hasB_yes (k := k) (by rw [tasksOf_len]; exact hlt) (by rw [tasksOf_at hlt, HY.out]; exact he)
        clear he
        go_wp2
        go_ret
        exact ⟨ret_bool HT.out.symm, Below.allocS hB _⟩
      · have he' : (y1 == iv) = false := by simpa using he
        have HNE := hid he
        clear he
        go_wp2
        go_roundw
        case rel => exact ⟨k + 1, by omega, by go_num, fun j hj => by
          rcases Nat.lt_succ_iff_lt_or_eq.1 hj with h | rfl
          · exact hno.out j h
          · rw [HY.out]; exact HNE.out, Below.allocS hB _⟩
        case measure => simp [intOf]; omega
    · obtain rfl : k = l.length := by omega
      have HT : Hid (x = false) := by rw [Hid, ← HX.out]; exact hasB_no fun j hj => by rw [tasksOf_len] at hj; rw [tasksOf_at hj]; exact hno.out j hj
      go_wp2
      go_ret
      exact ⟨ret_bool HT.out.symm, hB⟩
/-- Room, those that go and 0: in memory of their own. -/
def AnsM (w : World) (s1 : Int) (R : Int × List (Int × Int) × List Int) (e : Ending) (w' : World) : Prop :=
  (∃ o c o' c', e = .returned (.tuple #[.agg #[.int .i64 s1, .int .i64 R.1, .slice o R.2.1.length c], .slice o' R.2.2.length c', .int .i64 0]) ∧ kN.Fresh w.heap.size w'.heap.size w' o c R.2.1 ∧ kI.Fresh w.heap.size w'.heap.size w' o' c' R.2.2) ∧ Below w.heap.size w w'
set_option maxRecDepth 10000 in
set_option maxHeartbeats 8000000 in
theorem l5Let_any (s1 s2 : Int) (ao : Option Addr) (cap : Nat) (l : List (Int × Int)) (w : World) (hl : l.length ≤ 30) (hcap : l.length ≤ cap) (hno : ao = none → cap = 0) (h1 : 1 ≤ s1 ∧ s1 ≤ 1000) (h2 : 0 ≤ s2 ∧ s2 ≤ s1) (hm : ∀ j, j < l.length → manyB s1 (el l j) = true) (hz : kN.In w.heap.size w ao l) :
    Calls Try.prog 81 #[.agg #[.int .i64 s1, .int .i64 s2, .slice ao l.length cap]] w fun e w' => AnsM w s1 (letR s1 s2 l) e w' := by
  have HM := hid hm
  clear hm
  have hB0 := below2 w (.cells #[.int .i64 s1, .int .i64 s2, .slice ao l.length cap] 46) (.cells #[.int .i64 0, .int .i64 0, .slice none 0 0] 46)
  have X0 : Hid (Bx ((w.alloc (.cells #[.int .i64 s1, .int .i64 s2, .slice ao l.length cap] 46)).alloc (.cells #[.int .i64 0, .int .i64 0, .slice none 0 0] 46)) w.heap.size [.int .i64 s1, .int .i64 s2, .slice ao l.length cap]) := (Bx.new [.int .i64 s1, .int .i64 s2, .slice ao l.length cap] _ rfl).alloc _
  have R0 : Hid (Bx ((w.alloc (.cells #[.int .i64 s1, .int .i64 s2, .slice ao l.length cap] 46)).alloc (.cells #[.int .i64 0, .int .i64 0, .slice none 0 0] 46)) (w.heap.size + 1) [.int .i64 0, .int .i64 0, .slice none 0 0]) := Bx.new [.int .i64 0, .int .i64 0, .slice none 0 0] _ (by simp)
  go_enter Try.func81, Try.ntmps81
  go_wp2
  go_loopw [5] (fun z wr => ∃ (j : Nat) (u : Int) (v : Value) (qo : Option Addr) (qc : Nat) (D : List (Int × Int)), v = z ∧ Hid (D = l.drop j) ∧ j ≤ l.length ∧ (0 ≤ u ∧ u ≤ s1) ∧ Hid (LetAt s1 s2 l j u) ∧ Hid (Bx wr w.heap.size [.int .i64 s1, .int .i64 u, .slice qo D.length qc]) ∧ Hid (Bx wr (w.heap.size + 1) [.int .i64 0, .int .i64 0, .slice none 0 0]) ∧ Hid (kN.In w.heap.size w qo D) ∧ D.length ≤ qc ∧ Hid (qo = none → qc = 0) ∧ Hid (kI.Own (w.heap.size + 1 + 1) wr v (tasksOf (l.take j))) ∧ Below w.heap.size w wr ∧ w.heap.size + 1 + 1 ≤ wr.heap.size) (fun _ wr => lenAt wr w.heap.size 2)
  case atStart => exact ⟨0, s2, _, ao, cap, l, rfl, rfl, Nat.zero_le _, h2, LetAt.zero _ _ _, X0, R0, hz, hcap, hno, Kind.Own.nil kI _ _, hB0, by simp⟩
  case round =>
    obtain ⟨j, u, v, qo, qc, D, rfl, HD0, hj, hu, hL, hX, hR, hI, hqc, hqn, hO, hB, hsz⟩ := hrel
    have x0 := hX.out.c 0 rfl
    have x1 := hX.out.c 1 rfl
    have x2 := hX.out.c 2 rfl
    have xf1 := hX.out.f 1 rfl
    have xf2 := hX.out.f 2 rfl
    have HX2 := hid x2
    have hdl : D.length ≤ 1048576 := by rw [HD0.out]; simp; omega
    by_cases hD : D.length = 0
    · -- nobody waits
      have HFB : Hid (firstB s1 u D = false) := by simp [Hid, firstB, hD]
      have HD := hid (hL.out.done (by rw [← HD0.out]; exact HFB.out))
      rw [← HD0.out] at HD
      obtain rfl : D = [] := List.length_eq_zero_iff.1 hD
      clear hD
      go_wp2
      go_quiet (fail)
      go_wp2_with fail
      have hBd : Below w.heap.size w (wr.drewN nq) := below_draws hB _
      refine (l5Own_any s1 u qo qc ([] : List (Int × Int)) _ hdl hqn.out (by exact hI.out.later hBd)).mono ?_
      rintro e w2 ⟨⟨g, c, rfl, hF2, _⟩, hb2⟩
      have hB3 := hBd.trans (hb2.mono hBd.size)
      have R3 : Bx w2 (w.heap.size + 1) [.int .i64 0, .int .i64 0, .slice none 0 0] := Bx.later (W := wr.drewN nq) hR.out hb2
      obtain ⟨no, nc, rfl, _, hN⟩ := hO.out.fresh
      have F3 := hid hF2
      have N3 : Hid (kI.Fresh (w.heap.size + 1 + 1) w2.heap.size w2 no nc (tasksOf (l.take j))) := (Kind.Fresh.later (W := wr.drewN nq) hN hb2).wide (Nat.le_refl _) hb2.size
      have hs2 : wr.heap.size ≤ w2.heap.size := hb2.size
      have F4 : Hid (kN.Fresh (w.heap.size + 1 + 1) w2.heap.size w2 (some ⟨g, 0, none⟩) c ([] : List (Int × Int))) := F3.out.wide hsz (Nat.le_refl _)
      clear hb2 hN hF2 x0 x1 x2 F3
      have r0 := R3.c 0 rfl
      have r1 := R3.c 1 rfl
      have r2 := R3.c 2 rfl
      have rf0 := R3.f 0 rfl
      have rf1 := R3.f 1 rfl
      have rf2 := R3.f 2 rfl
      go_wp2
      refine bodyPost_ret (v := .tuple #[.agg #[.int .i64 s1, .int .i64 u, .slice (some ⟨g, 0, none⟩) ([] : List (Int × Int)).length c], .slice no (tasksOf (l.take j)).length nc, .int .i64 0]) (by simp [results, Try.results81, go_sem, r0, r1, r2]) rfl ?_
      rw [HD.out]
      exact ⟨⟨_, c, no, nc, rfl, (((F4.out.setBelow (a := ⟨w.heap.size + 1, 0, none⟩) (by simp) _).setBelow (a := ⟨w.heap.size + 1, 1, none⟩) (by simp) _).setBelow (a := ⟨w.heap.size + 1, 2, none⟩) (by simp) _).wide (by omega) (by simp), (((N3.out.setBelow (a := ⟨w.heap.size + 1, 0, none⟩) (by simp) _).setBelow (a := ⟨w.heap.size + 1, 1, none⟩) (by simp) _).setBelow (a := ⟨w.heap.size + 1, 2, none⟩) (by simp) _).wide (by omega) (by simp)⟩, ((hB3.setCell (p := ⟨w.heap.size + 1, 0, none⟩) (by simp) _).setCell (p := ⟨w.heap.size + 1, 1, none⟩) (by simp) _).setCell (p := ⟨w.heap.size + 1, 2, none⟩) (by simp) _⟩
    · have hpos : 0 < D.length := by omega
      obtain ⟨z1, z2⟩ := len1 hD
      obtain ⟨b, off, rfl, hb, hc⟩ := kN_at hI.out hpos
      have hjl : j < l.length := by have : D.length = l.length - j := by rw [HD0.out]; simp
                                    omega
      obtain ⟨⟨y1, y2⟩, ey⟩ : ∃ v, v = el D 0 := ⟨_, rfl⟩
      have d1 := (hB.cell (p := ⟨b, off + 0 * 2, none⟩) hb).trans (hc 0 hpos).1
      have d2 := (hB.cell (p := ⟨b, off + 0 * 2 + 1, none⟩) hb).trans (hc 0 hpos).2
      rw [Nat.zero_mul, Nat.add_zero, ← ey] at d1 d2
      have HY : Hid (el l j = (y1, y2)) := by rw [Hid, ey, HD0.out, el_drop, Nat.add_zero]
      have HED := hid ey
      have hbw : b < wr.heap.size := Nat.lt_of_lt_of_le hb hB.size
      clear ey hc hD
      dsimp only at d1 d2
      have hmb := HM.out j hjl
      rw [HY.out] at hmb
      have hy2 : 1 ≤ y2 ∧ y2 ≤ 1000 := by simp [manyB] at hmb; omega
      clear hmb
      by_cases hml : y2 ≤ s1 - u
      · have hml' : decide (y2 ≤ s1 - u) = true := by simpa using hml
        have HST := hid (hL.out.step hjl (by rw [HY.out]; exact hml))
        rw [HY.out] at HST
        go_wp2
        go_quiet (fail)
        obtain ⟨W1, hW1⟩ : ∃ W1, W1 = wr.drewN nq := ⟨_, rfl⟩
        have X1 : Hid (Bx W1 w.heap.size [.int .i64 s1, .int .i64 u, .slice (some ⟨b, off, none⟩) D.length qc]) := by rw [hW1]; exact hX.out
        have R1 : Hid (Bx W1 (w.heap.size + 1) [.int .i64 0, .int .i64 0, .slice none 0 0]) := by rw [hW1]; exact hR.out
        have O1 : Hid (kI.Own (w.heap.size + 1 + 1) W1 v (tasksOf (l.take j))) := by rw [hW1]; exact hO.out
        have hB1 : Below w.heap.size w W1 := by rw [hW1]; exact below_draws hB _
        have e1 : W1.cell? ⟨b, off, none⟩ = some (.int .i64 y1) := by rw [hW1]; exact d1
        have e2 : W1.cell? ⟨b, off + 1, none⟩ = some (.int .i64 y2) := by rw [hW1]; exact d2
        have hs1 : w.heap.size + 1 + 1 ≤ W1.heap.size := by rw [hW1]; exact hsz
        rw [← hW1]
        clear hW1 hX hR hO x0 x1 x2 xf1 xf2 d1 d2 hbw
        have x0 := X1.out.c 0 rfl
        have x1 := X1.out.c 1 rfl
        have x2 := X1.out.c 2 rfl
        have xf1 := X1.out.f 1 rfl
        have xf2 := X1.out.f 2 rfl
        go_wp2
        go_region
        obtain ⟨V, hV⟩ : ∃ V, V = (W1.setCell ⟨w.heap.size, 1, none⟩ (.int .i64 (u + y2))).drew := ⟨_, rfl⟩
        have X2 : Bx V w.heap.size [.int .i64 s1, .int .i64 (u + y2), .slice (some ⟨b, off, none⟩) D.length qc] := by rw [hV]; exact (X1.out.set 1 (.int .i64 (u + y2))).drew
        have R2 : Bx V (w.heap.size + 1) [.int .i64 0, .int .i64 0, .slice none 0 0] := by rw [hV]; exact (R1.out.other (by simp) _).drew
        have O2 : Hid (kI.Own (w.heap.size + 1 + 1) V v (tasksOf (l.take j))) := by rw [hV]; exact O1.out.setBelow (by simp; omega) _
        have hB2 : Below w.heap.size w V := by rw [hV]; exact (hB1.setCell (p := ⟨w.heap.size, 1, none⟩) (by simp) _).drew
        have f1 : V.cell? ⟨b, off, none⟩ = some (.int .i64 y1) := (hB2.cell (p := ⟨b, off, none⟩) hb).trans ((hB1.cell (p := ⟨b, off, none⟩) hb).symm.trans e1)
        have hs2 : w.heap.size + 1 + 1 ≤ V.heap.size := by rw [hV]; simpa using hs1
        rw [← hV]
        clear hV X1 R1 O1 x0 x1 x2 xf1 xf2 e1 e2
        have x0 := X2.c 0 rfl
        have x1 := X2.c 1 rfl
        have x2 := X2.c 2 rfl
        have xf2 := X2.f 2 rfl
        have hbV : b < V.heap.size := Nat.lt_of_lt_of_le hb hB2.size
        have hBV : w.heap.size < V.heap.size := X2.size
        have hn3 := below1 V (.cells #[.int .i64 y1] 3)
        have X3 := hid (X2.later hn3)
        have R3 := hid (R2.later hn3)
        have HA : Hid (kI.Own (w.heap.size + 1 + 1) (V.alloc (.cells #[.int .i64 y1] 3)) v (tasksOf (l.take j))) := O2.out.below hn3
        have HN : Hid (kI.In (V.heap.size + 1) (V.alloc (.cells #[.int .i64 y1] 3)) (some ⟨V.heap.size, 0, none⟩) [y1]) := int_one (by omega) (by simp)
        have hll : (tasksOf (l.take j)).length + 1 ≤ 4194304 := by rw [tasksOf_len]; simp; omega
        have hB3 := Below.allocS hB2 (.cells #[.int .i64 y1] 3)
        have hq1 : 1 ≤ qc := by omega
        have hq1' : (1 : Int) ≤ (qc : Int) := by omega
        have hq2' : (1 : Int) ≤ (D.length : Int) := by omega
        clear hn3 O2
        go_wp2_with (at_builtin; refine Kind.app kI_ok (V.alloc (.cells #[.int .i64 y1] 3)) rfl (.tmp 32) (.tmp 38) rfl (w.heap.size + 1 + 1) v (tasksOf (l.take j)) rfl HA.out (by simp; omega) (some ⟨V.heap.size, 0, none⟩) [y1] 1 1 rfl rfl (by simp) _ HN.out hll ?_; intro v' w' hO' hB' hG' hn'; have hB4 : Below w.heap.size w w' := hB3.trans (hB'.mono (by omega)); have hs4 : w.heap.size + 1 + 1 ≤ w'.heap.size := (by have := hB'.size; simp at this; omega); have X4 := X3.out.below hB' (by omega); have R4 := R3.out.below hB' (by omega); have O4 : Hid (kI.Own (w.heap.size + 1 + 1) w' v' (tasksOf (l.take (j + 1)))) := (by rw [Hid, tasksOf_succ hjl, HY.out]; exact hO'); clear hO' hB' hG' hn' x0 x1 x2 xf2 X3 R3; have x0 := X4.c 0 rfl; have x1 := X4.c 1 rfl; have x2 := X4.c 2 rfl; have xf2 := X4.f 2 rfl)
        have hDl : D.length = l.length - j := by rw [HD0.out]; simp
        have hlen : (l.drop (j + 1)).length = D.length - 1 := by rw [hDl]; simp; omega
        obtain ⟨qo', hqo'⟩ : ∃ q : Option Addr, q = (if qc = 1 then some ⟨b, off, none⟩ else some ⟨b, off + 2, none⟩) := ⟨_, rfl⟩
        have hIn : kN.In w.heap.size w qo' (l.drop (j + 1)) := by
          by_cases hq : qc = 1
          · exact .inl (List.length_eq_zero_iff.1 (by rw [hlen]; omega))
          · rw [hqo', if_neg hq]
            have h := hI.out.drop 1
            rw [HD0.out, List.drop_drop] at h
            exact h
        have hqn' : qo' = none → qc - 1 = 0 := by intro h; rw [hqo'] at h; split at h <;> cases h
        rw [← hqo']
        refine ⟨⟨j + 1, u + y2, v', qo', qc - 1, l.drop (j + 1), rfl, rfl, by omega, ⟨by omega, by omega⟩, HST, ?_, ?_, hIn, by omega, hqn', ?_, ?_, ?_⟩, ?_⟩
        · rw [hlen]; exact hid (X4.set 2 _)
        · exact hid (R4.other (by simp) _)
        · exact hid (O4.out.setBelow (by simp; omega) _)
        · exact hB4.setCell (p := ⟨w.heap.size, 2, none⟩) (by simp) _
        · simpa using hs4
        · rw [lenAt_eq ((X4.set 2 (.slice qo' (D.length - 1) (qc - 1))).c 2 rfl), lenAt_eq HX2.out]
          omega
      · have hml' : decide (y2 ≤ s1 - u) = false := by simpa using hml
        have HFB : Hid (firstB s1 u D = false) := by rw [Hid, firstB, ← HED.out]; simp; omega
        have HD := hid (hL.out.done (by rw [← HD0.out]; exact HFB.out))
        rw [← HD0.out] at HD
        clear hml
        go_wp2
        go_quiet (fail)
        go_wp2_with fail
        have hBd : Below w.heap.size w (wr.drewN nq) := below_draws hB _
        refine (l5Own_any s1 u (some ⟨b, off, none⟩) qc D _ hdl hqn.out (by exact hI.out.later hBd)).mono ?_
        rintro e w2 ⟨⟨g, c, rfl, hF2, _⟩, hb2⟩
        have hB3 := hBd.trans (hb2.mono hBd.size)
        have R3 : Bx w2 (w.heap.size + 1) [.int .i64 0, .int .i64 0, .slice none 0 0] := Bx.later (W := wr.drewN nq) hR.out hb2
        obtain ⟨no, nc, rfl, _, hN⟩ := hO.out.fresh
        have F3 := hid hF2
        have N3 : Hid (kI.Fresh (w.heap.size + 1 + 1) w2.heap.size w2 no nc (tasksOf (l.take j))) := (Kind.Fresh.later (W := wr.drewN nq) hN hb2).wide (Nat.le_refl _) hb2.size
        have hs2 : wr.heap.size ≤ w2.heap.size := hb2.size
        have F4 : Hid (kN.Fresh (w.heap.size + 1 + 1) w2.heap.size w2 (some ⟨g, 0, none⟩) c D) := F3.out.wide hsz (Nat.le_refl _)
        clear hb2 hN hF2 x0 x1 x2 F3
        have r0 := R3.c 0 rfl
        have r1 := R3.c 1 rfl
        have r2 := R3.c 2 rfl
        have rf0 := R3.f 0 rfl
        have rf1 := R3.f 1 rfl
        have rf2 := R3.f 2 rfl
        go_wp2
        refine bodyPost_ret (v := .tuple #[.agg #[.int .i64 s1, .int .i64 u, .slice (some ⟨g, 0, none⟩) D.length c], .slice no (tasksOf (l.take j)).length nc, .int .i64 0]) (by simp [results, Try.results81, go_sem, r0, r1, r2]) rfl ?_
        rw [HD.out]
        exact ⟨⟨_, c, no, nc, rfl, (((F4.out.setBelow (a := ⟨w.heap.size + 1, 0, none⟩) (by simp) _).setBelow (a := ⟨w.heap.size + 1, 1, none⟩) (by simp) _).setBelow (a := ⟨w.heap.size + 1, 2, none⟩) (by simp) _).wide (by omega) (by simp), (((N3.out.setBelow (a := ⟨w.heap.size + 1, 0, none⟩) (by simp) _).setBelow (a := ⟨w.heap.size + 1, 1, none⟩) (by simp) _).setBelow (a := ⟨w.heap.size + 1, 2, none⟩) (by simp) _).wide (by omega) (by simp)⟩, ((hB3.setCell (p := ⟨w.heap.size + 1, 0, none⟩) (by simp) _).setCell (p := ⟨w.heap.size + 1, 1, none⟩) (by simp) _).setCell (p := ⟨w.heap.size + 1, 2, none⟩) (by simp) _⟩
end Go.Proofs.Ytcdkdigafcfgmaa
