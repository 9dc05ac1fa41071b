
/- A value said to a Sub. No conditions but those written. -/
import Derived.Test.YtimkadnnhfllnaaCj
import Derived.Test.YtimkadnnhfllnaaTv
import Derived.Deep.Cut
namespace Go.Proofs.Ytimkadnnhfllnaa
open Go.RowKit

/-- A Sub has no room. -/
def fullB (p : PSub) : Bool := (p.2.2.2.2.length : Int) == p.2.1
/-- What a Sub is when a value was said to it. -/
def sayP (v : Int) (p : PSub) : PSub := if fullB p then (p.1, p.2.1, p.2.2.1, (if 1000000 < p.2.2.2.1 + 1 then 1000000 else p.2.2.2.1 + 1), p.2.2.2.2.tail ++ [v]) else (p.1, p.2.1, p.2.2.1, p.2.2.2.1, p.2.2.2.2 ++ [v])
theorem sayP_len {v : Int} {p : PSub} (h : (p.2.2.2.2.length : Int) ≤ p.2.1) (h1 : 1 ≤ p.2.1) : ((sayP v p).2.2.2.2.length : Int) ≤ p.2.1 := by
  unfold sayP
  split
  · rename_i hf
    simp [fullB] at hf
    simp; omega
  · rename_i hf
    simp [fullB] at hf
    simp; omega
set_option maxRecDepth 10000 in
set_option maxHeartbeats 8000000 in
theorem sayTo_any (nd kap : Int) (dr : Bool) (dp : Int) (qo : Option Addr) (qc : Nat) (q : List Int) (v : Int) (w : World) (h1 : 1 ≤ kap) (h20 : kap ≤ 20) (hq : (q.length : Int) ≤ kap) (hd0 : 0 ≤ dp) (hd1 : dp ≤ 1000000) (hz : kI.In w.heap.size w qo q) :
    Calls Try.prog 16 #[.agg #[.int .i64 nd, .int .i64 kap, .bool dr, .int .i64 dp, .slice qo q.length qc], .int .i64 v] w fun e w' => (∃ go qc', e = .returned (.tuple #[.agg #[.int .i64 (sayP v (nd, kap, dr, dp, q)).1, .int .i64 (sayP v (nd, kap, dr, dp, q)).2.1, .bool (sayP v (nd, kap, dr, dp, q)).2.2.1, .int .i64 (sayP v (nd, kap, dr, dp, q)).2.2.2.1, .slice go (sayP v (nd, kap, dr, dp, q)).2.2.2.2.length qc'], .bool (fullB (nd, kap, dr, dp, q))]) ∧ kI.Fresh w.heap.size w'.heap.size w' go qc' (sayP v (nd, kap, dr, dp, q)).2.2.2.2) ∧ Below w.heap.size w w' := by
  have HI := hid hz
  obtain ⟨V, hV⟩ : ∃ V, V = (w.alloc (.cells #[.int .i64 nd, .int .i64 kap, .bool dr, .int .i64 dp, .slice qo q.length qc] 36)).alloc (.cells #[.int .i64 0, .int .i64 0, .bool false, .int .i64 0, .slice none 0 0] 36) := ⟨_, rfl⟩
  have hB0 : Below w.heap.size w V := by rw [hV]; exact below2 _ _ _
  have X0 : Hid (Bx V w.heap.size [.int .i64 nd, .int .i64 kap, .bool dr, .int .i64 dp, .slice qo q.length qc]) := by rw [Hid, hV]; exact (Bx.new [.int .i64 nd, .int .i64 kap, .bool dr, .int .i64 dp, .slice qo q.length qc] _ rfl).alloc _
  have R0 : Hid (Bx V (w.heap.size + 1) [.int .i64 0, .int .i64 0, .bool false, .int .i64 0, .slice none 0 0]) := by rw [Hid, hV]; exact Bx.new [.int .i64 0, .int .i64 0, .bool false, .int .i64 0, .slice none 0 0] _ (by simp)
  have HS : Hid (V.heap.size = w.heap.size + 1 + 1) := by rw [hV]; simp [Hid]
  have HV := hid hV
  clear hz hV
  by_cases hf : (q.length : Int) = kap
  · rcases q with _ | ⟨x, r⟩
    · simp at hf; omega
    have HFB : Hid (fullB (nd, kap, dr, dp, x :: r) = true) := by rw [Hid, fullB]; simpa using hf
    obtain ⟨dp2, hdp2⟩ : ∃ d, d = (if 1000000 < dp + 1 then 1000000 else dp + 1) := ⟨_, rfl⟩
    have HD2 := hid hdp2
    have HP : Hid (sayP v (nd, kap, dr, dp, x :: r) = (nd, kap, dr, dp2, r ++ [v])) := by rw [Hid, sayP, HFB.out, hdp2]; rfl
    clear hdp2
    have hrk : r.length + 1 = kap.toNat := by simp at hf; omega
    have hlq : (r ++ [v]).length ≤ 1048576 := by simp; omega
    have HF2 := hid hf
    have HRK := hid hrk
    have HLQ := hid hlq
    have HV0 := HV.out
    rw [List.length_cons] at HV0
    have HV := hid HV0
    rw [HFB.out]
    clear hf HV0 hrk hlq
    go_enter Try.func16, Try.ntmps16
    go_wp2_with fail
    rw [← HV.out]
    refine (wireOf_any nd kap dr dp qo qc (x :: r) V (by omega) (by omega) hq (HI.out.later hB0)).mono ?_
    rintro e w1 ⟨rfl, hC1, hb1⟩
    obtain ⟨cc, hcc⟩ : ∃ c, c = V.heap.size + 1 := ⟨_, rfl⟩
    rw [← hcc] at hC1 ⊢
    have C1 := hid hC1
    have X1 := hid (X0.out.later hb1)
    have R1 := hid (R0.out.later hb1)
    have hB1 := hB0.trans (hb1.mono hB0.size)
    have hsv := HS.out
    have hcc2 : w.heap.size + 1 < cc := by omega
    clear hC1 hb1 X0 R0 hcc hsv
    go_wp2_with fail
    refine (sayOn_full cc _ (x :: r) v w1 C1.out (by have := HRK.out; simp; omega)).mono ?_
    rintro e w2 ⟨rfl, hw2⟩
    rw [hw2]; clear hw2 w2
    go_wp2_with fail
    refine (hearOn_some cc _ x r w1 C1.out).mono ?_
    rintro e w2 ⟨rfl, hC2, hO2⟩
    have C2 := hid hC2
    have X2 := hid (X1.out.between hO2.between (by omega))
    have R2 := hid (R1.out.between hO2.between (by omega))
    have hB2 := hB1.trans (hO2.below (by omega))
    clear hC2 hO2 C1 X1 R1 hB1
    go_wp2_with fail
    refine (sayOn_room cc _ r v w2 C2.out (by have := HRK.out; omega)).mono ?_
    rintro e w3 ⟨rfl, hC3, hO3⟩
    have C3 := hid hC3
    have X3 := hid (X2.out.between hO3.between (by omega))
    have R3 := hid (R2.out.between hO3.between (by omega))
    have hB3 := hB2.trans (hO3.below (by omega))
    have x3 := X3.out.c 3 rfl
    have xf3 := X3.out.f 3 rfl
    clear hC3 hO3 C2 X2 R2 hB2
    obtain ⟨wS, hwS⟩ : ∃ V, V = w3.setCell ⟨w.heap.size, 3, none⟩ (.int .i64 dp2) := ⟨_, rfl⟩
    have XS : Hid (Bx wS w.heap.size [.int .i64 nd, .int .i64 kap, .bool dr, .int .i64 dp2, .slice qo (r.length + 1) qc]) := by rw [Hid, hwS]; exact X3.out.set 3 _
    have RS : Hid (Bx wS (w.heap.size + 1) [.int .i64 0, .int .i64 0, .bool false, .int .i64 0, .slice none 0 0]) := by rw [Hid, hwS]; exact R3.out.other (a := ⟨w.heap.size, 3, none⟩) (by dsimp only; omega) _
    have CS : Hid (ChB wS cc kap.toNat (r ++ [v])) := by rw [Hid, hwS]; exact C3.out.keep (Below.heap_setCell _ _ _ _ (by dsimp only; omega))
    have hBS : Below w.heap.size w wS := by rw [hwS]; exact hB3.setCell (p := ⟨w.heap.size, 3, none⟩) (by dsimp only; omega) _
    have hzS : w.heap.size + 1 < wS.heap.size := RS.out.size
    have HWS := hid hwS
    clear hwS C3 X3 R3 hB3
    go_upto_region 7 with fail
    rw [← HD2.out, ← HWS.out]
    clear x3 xf3
    go_wp2_with fail
    refine (hearAll_any cc _ (r ++ [v]) wS HLQ.out CS.out).mono ?_
    rintro e w5 ⟨⟨go, qc5, rfl, hF5⟩, hbt⟩
    have X5 := hid (XS.out.between hbt (by omega))
    have R5 := hid (RS.out.between hbt (by omega))
    have hB5 := hBS.trans ((hbt.below (by have := CS.out.lt; omega)).mono (by omega))
    have F5 := hid hF5
    have hs5 := hbt.size
    have x0 := X5.out.c 0 rfl
    have x1 := X5.out.c 1 rfl
    have x2 := X5.out.c 2 rfl
    have x3 := X5.out.c 3 rfl
    have x4 := X5.out.c 4 rfl
    have xf4 := X5.out.f 4 rfl
    obtain ⟨w6, hw6⟩ : ∃ V, V = w5.setCell ⟨w.heap.size, 4, none⟩ (.slice go (r.length + 1) qc5) := ⟨_, rfl⟩
    have X6 : Hid (Bx w6 w.heap.size [.int .i64 nd, .int .i64 kap, .bool dr, .int .i64 dp2, .slice go (r.length + 1) qc5]) := by rw [Hid, hw6]; exact X5.out.set 4 _
    have R6 : Hid (Bx w6 (w.heap.size + 1) [.int .i64 0, .int .i64 0, .bool false, .int .i64 0, .slice none 0 0]) := by rw [Hid, hw6]; exact R5.out.other (a := ⟨w.heap.size, 4, none⟩) (by dsimp only; omega) _
    have F6 : Hid (kI.Fresh wS.heap.size w5.heap.size w6 go qc5 (r ++ [v])) := by rw [Hid, hw6]; exact F5.out.setBelow (a := ⟨w.heap.size, 4, none⟩) (by dsimp only; omega) _
    have hB6 : Below w.heap.size w w6 := by rw [hw6]; exact hB5.setCell (p := ⟨w.heap.size, 4, none⟩) (by dsimp only; omega) _
    have hz6 : w6.heap.size = w5.heap.size := by rw [hw6]; simp [World.setCell]
    have HZ6 := hid hz6
    have HW6 := hid hw6
    clear hF5 hbt hw6 hz6 X5 R5 F5 hB5
    go_upto_region 8 with fail
    rw [← HW6.out]
    clear x0 x1 x2 x3 x4 xf4
    have x0 := X6.out.c 0 rfl
    have x1 := X6.out.c 1 rfl
    have x2 := X6.out.c 2 rfl
    have x3 := X6.out.c 3 rfl
    have x4 := X6.out.c 4 rfl
    have r0 := R6.out.c 0 rfl
    have rf0 := R6.out.f 0 rfl
    have r1 := R6.out.c 1 rfl
    have rf1 := R6.out.f 1 rfl
    have r2 := R6.out.c 2 rfl
    have rf2 := R6.out.f 2 rfl
    have r3 := R6.out.c 3 rfl
    have rf3 := R6.out.f 3 rfl
    have r4 := R6.out.c 4 rfl
    have rf4 := R6.out.f 4 rfl
    go_wp2
    refine bodyPost_ret (v := .tuple #[.agg #[.int .i64 nd, .int .i64 kap, .bool dr, .int .i64 dp2, .slice go (r.length + 1) qc5], .bool true]) (by simp [results, Try.results16, go_sem, r0, r1, r2, r3, r4]) rfl ?_
    rw [HP.out]
    have hzv := HZ6.out
    refine ⟨⟨go, qc5, by simp, ?_⟩, (((((hB6.setCell (p := ⟨w.heap.size + 1, 0, none⟩) (by dsimp only; omega) _).setCell (p := ⟨w.heap.size + 1, 1, none⟩) (by dsimp only; omega) _).setCell (p := ⟨w.heap.size + 1, 2, none⟩) (by dsimp only; omega) _).setCell (p := ⟨w.heap.size + 1, 3, none⟩) (by dsimp only; omega) _).setCell (p := ⟨w.heap.size + 1, 4, none⟩) (by dsimp only; omega) _)⟩
    exact Kind.Fresh.wide (Kind.Fresh.keep F6.out fun i h1 _ _ => by rw [Below.heap_setCell _ _ _ _ (by dsimp only; omega), Below.heap_setCell _ _ _ _ (by dsimp only; omega), Below.heap_setCell _ _ _ _ (by dsimp only; omega), Below.heap_setCell _ _ _ _ (by dsimp only; omega), Below.heap_setCell _ _ _ _ (by dsimp only; omega)]) (by omega) (by simp [World.setCell]; omega)
  · have HFB : Hid (fullB (nd, kap, dr, dp, q) = false) := by rw [Hid, fullB]; simpa using hf
    have HP : Hid (sayP v (nd, kap, dr, dp, q) = (nd, kap, dr, dp, q ++ [v])) := by rw [Hid, sayP, HFB.out]; rfl
    have hrk : q.length < kap.toNat := by omega
    have hlq : (q ++ [v]).length ≤ 1048576 := by simp; omega
    have HLQ := hid hlq
    rw [HFB.out]
    clear hf
    go_enter Try.func16, Try.ntmps16
    go_wp2_with fail
    rw [← HV.out]
    refine (wireOf_any nd kap dr dp qo qc q V (by omega) (by omega) hq (HI.out.later hB0)).mono ?_
    rintro e w1 ⟨rfl, hC1, hb1⟩
    obtain ⟨cc, hcc⟩ : ∃ c, c = V.heap.size + 1 := ⟨_, rfl⟩
    rw [← hcc] at hC1 ⊢
    have C1 := hid hC1
    have X1 := hid (X0.out.later hb1)
    have R1 := hid (R0.out.later hb1)
    have hB1 := hB0.trans (hb1.mono hB0.size)
    have hsv := HS.out
    have hcc2 : w.heap.size + 1 < cc := by omega
    clear hC1 hb1 X0 R0 hcc hsv
    go_wp2_with fail
    refine (sayOn_room cc _ q v w1 C1.out hrk).mono ?_
    rintro e wS ⟨rfl, hC3, hO3⟩
    have CS := hid hC3
    have XS := hid (X1.out.between hO3.between (by omega))
    have RS := hid (R1.out.between hO3.between (by omega))
    have hBS := hB1.trans (hO3.below (by omega))
    have hzS : w.heap.size + 1 < wS.heap.size := RS.out.size
    clear hC3 hO3 C1 X1 R1 hB1
    go_wp2_with fail
    refine (hearAll_any cc _ (q ++ [v]) wS HLQ.out CS.out).mono ?_
    rintro e w5 ⟨⟨go, qc5, rfl, hF5⟩, hbt⟩
    have X5 := hid (XS.out.between hbt (by omega))
    have R5 := hid (RS.out.between hbt (by omega))
    have hB5 := hBS.trans ((hbt.below (by have := CS.out.lt; omega)).mono (by omega))
    have F5 := hid hF5
    have hs5 := hbt.size
    have x0 := X5.out.c 0 rfl
    have x1 := X5.out.c 1 rfl
    have x2 := X5.out.c 2 rfl
    have x3 := X5.out.c 3 rfl
    have x4 := X5.out.c 4 rfl
    have xf4 := X5.out.f 4 rfl
    obtain ⟨w6, hw6⟩ : ∃ V, V = w5.setCell ⟨w.heap.size, 4, none⟩ (.slice go (q.length + 1) qc5) := ⟨_, rfl⟩
    have X6 : Hid (Bx w6 w.heap.size [.int .i64 nd, .int .i64 kap, .bool dr, .int .i64 dp, .slice go (q.length + 1) qc5]) := by rw [Hid, hw6]; exact X5.out.set 4 _
    have R6 : Hid (Bx w6 (w.heap.size + 1) [.int .i64 0, .int .i64 0, .bool false, .int .i64 0, .slice none 0 0]) := by rw [Hid, hw6]; exact R5.out.other (a := ⟨w.heap.size, 4, none⟩) (by dsimp only; omega) _
    have F6 : Hid (kI.Fresh wS.heap.size w5.heap.size w6 go qc5 (q ++ [v])) := by rw [Hid, hw6]; exact F5.out.setBelow (a := ⟨w.heap.size, 4, none⟩) (by dsimp only; omega) _
    have hB6 : Below w.heap.size w w6 := by rw [hw6]; exact hB5.setCell (p := ⟨w.heap.size, 4, none⟩) (by dsimp only; omega) _
    have hz6 : w6.heap.size = w5.heap.size := by rw [hw6]; simp [World.setCell]
    have HZ6 := hid hz6
    have HW6 := hid hw6
    clear hF5 hbt hw6 hz6 X5 R5 F5 hB5
    go_upto_region 8 with fail
    rw [← HW6.out]
    clear x0 x1 x2 x3 x4 xf4
    have x0 := X6.out.c 0 rfl
    have x1 := X6.out.c 1 rfl
    have x2 := X6.out.c 2 rfl
    have x3 := X6.out.c 3 rfl
    have x4 := X6.out.c 4 rfl
    have r0 := R6.out.c 0 rfl
    have rf0 := R6.out.f 0 rfl
    have r1 := R6.out.c 1 rfl
    have rf1 := R6.out.f 1 rfl
    have r2 := R6.out.c 2 rfl
    have rf2 := R6.out.f 2 rfl
    have r3 := R6.out.c 3 rfl
    have rf3 := R6.out.f 3 rfl
    have r4 := R6.out.c 4 rfl
    have rf4 := R6.out.f 4 rfl
    go_wp2
    refine bodyPost_ret (v := .tuple #[.agg #[.int .i64 nd, .int .i64 kap, .bool dr, .int .i64 dp, .slice go (q.length + 1) qc5], .bool false]) (by simp [results, Try.results16, go_sem, r0, r1, r2, r3, r4]) rfl ?_
    rw [HP.out]
    have hzv := HZ6.out
    refine ⟨⟨go, qc5, by simp, ?_⟩, (((((hB6.setCell (p := ⟨w.heap.size + 1, 0, none⟩) (by dsimp only; omega) _).setCell (p := ⟨w.heap.size + 1, 1, none⟩) (by dsimp only; omega) _).setCell (p := ⟨w.heap.size + 1, 2, none⟩) (by dsimp only; omega) _).setCell (p := ⟨w.heap.size + 1, 3, none⟩) (by dsimp only; omega) _).setCell (p := ⟨w.heap.size + 1, 4, none⟩) (by dsimp only; omega) _)⟩
    exact Kind.Fresh.wide (Kind.Fresh.keep F6.out fun i h1 _ _ => by rw [Below.heap_setCell _ _ _ _ (by dsimp only; omega), Below.heap_setCell _ _ _ _ (by dsimp only; omega), Below.heap_setCell _ _ _ _ (by dsimp only; omega), Below.heap_setCell _ _ _ _ (by dsimp only; omega), Below.heap_setCell _ _ _ _ (by dsimp only; omega)]) (by omega) (by simp [World.setCell]; omega)
end Go.Proofs.Ytimkadnnhfllnaa
