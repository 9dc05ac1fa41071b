
/- The program's leaving of whoever runs. No conditions but those written. -/
import Derived.Test.YtgbnbnjfaffaiaaOMc
import Derived.Test.YtgbnbnjfaffaiaaOWi
namespace Go.Proofs.Ytgbnbnjfaffaiaa.Old
open Go.RowKit

theorem FreshT.setAbove {lo hi : Nat} {W : World} {to : Option Addr} {tc : Nat} {ts : List (Int × Int)} (h : FreshT lo hi W to tc ts) {a : Addr} (ha : hi ≤ a.block) (u : Value) : FreshT lo hi (W.setCell a u) to tc ts := h.keep fun k _ hk _ => Below.heap_setCell W a u k (by omega)
theorem FreshI.setAbove {lo hi : Nat} {W : World} {qo : Option Addr} {qc : Nat} {q : List Int} (h : FreshI lo hi W qo qc q) {a : Addr} (ha : hi ≤ a.block) (u : Value) : FreshI lo hi (W.setCell a u) qo qc q := h.keep fun k _ hk _ => Below.heap_setCell W a u k (by omega)
theorem run_field67 (a : Option Addr) (n c : Nat) (w : World) : (Instr.field 50 (.agg #[.slice a n c]) 0).run Try.prog w = .ok (.slice a n c) w := by
  simp [Instr.field, go_sem, run_underlying Try.underlying50, asAgg]

set_option maxHeartbeats 2000000 in
theorem withReady_any (ao : Option Addr) (cap : Nat) (ts : List (Int × Int)) (qo : Option Addr) (qcap : Nat) (q : List Int) (id : Nat) (w : World) (hl : ts.length ≤ 1048576) (hlq : q.length ≤ 1048576) (hid : id < ts.length) (hz : TasksIn w.heap.size w ao ts) (hq : IntsIn w.heap.size w qo q) :
    Calls Try.prog 46 #[.agg #[.slice ao ts.length cap, .slice qo q.length qcap], .int .i64 id] w fun e w' => (∃ to go, e = .returned (.agg #[.slice to ts.length ts.length, .slice go (q.length + 1) (q.length + 1)]) ∧ FreshT w.heap.size w'.heap.size w' to ts.length (ts.set id (1, 0)) ∧ FreshI w.heap.size w'.heap.size w' go (q.length + 1) (q ++ [(id : Int)])) ∧ Below w.heap.size w w' := by
  go_enter Try.func46, Try.ntmps46
  go_wp2_with fail
  refine (withTask_any ao cap ts qo qcap q id 1 _ hl hlq hid (hz.later (below2 _ _ _)) (hq.later (below2 _ _ _))).mono ?_
  rintro e w1 ⟨⟨to, go, rfl, hT, hI⟩, hb1⟩
  have hB1 := (below2 w (.cells #[.slice ao ts.length cap, .slice qo q.length qcap] 26) (.cells #[.slice none 0 0, .slice none 0 0] 26)).trans (hb1.mono (by simp; omega))
  have hs1 := hb1.size
  simp only [World.size_alloc] at hs1 hT hI
  have r0 : w1.cell? ⟨w.heap.size + 1, 0, none⟩ = some (.slice none 0 0) := (hb1.cell (p := ⟨w.heap.size + 1, 0, none⟩) (by simp)).trans (by simp [go_sem])
  have r1 : w1.cell? ⟨w.heap.size + 1, 1, none⟩ = some (.slice none 0 0) := (hb1.cell (p := ⟨w.heap.size + 1, 1, none⟩) (by simp)).trans (by simp [go_sem])
  have f0 : w1.frozen? ⟨w.heap.size + 1, 0, none⟩ = false := (hb1.frozen (p := ⟨w.heap.size + 1, 0, none⟩) (by simp)).trans (by simp [go_sem])
  have f1 : w1.frozen? ⟨w.heap.size + 1, 1, none⟩ = false := (hb1.frozen (p := ⟨w.heap.size + 1, 1, none⟩) (by simp)).trans (by simp [go_sem])
  have hlt1 : w.heap.size + 1 < w1.heap.size := by omega
  have HT : Hid (FreshT (w.heap.size + 1 + 1) w1.heap.size w1 to ts.length (ts.set id (1, 0))) := hT
  have hI0 := hI.ints
  clear hT hI hb1
  go_wp2_with fail
  refine (queueOfI_any go q.length q _ hlq (hI0.later (below1 _ _))).mono ?_
  rintro e w2 ⟨⟨go2, rfl, hO2⟩, hb2⟩
  have hb12 : Below w1.heap.size w1 w2 := (below1 w1 (.cells #[.slice to ts.length ts.length, .slice go q.length q.length] 26)).trans (hb2.mono (by simp))
  have hs2 : w1.heap.size < w2.heap.size := by have := hb2.size; simp at this; omega
  have p0 : w2.cell? ⟨w1.heap.size, 0, none⟩ = some (.slice to ts.length ts.length) := (hb2.cell (p := ⟨w1.heap.size, 0, none⟩) (by simp)).trans (by simp [go_sem])
  have p1 : w2.cell? ⟨w1.heap.size, 1, none⟩ = some (.slice go q.length q.length) := (hb2.cell (p := ⟨w1.heap.size, 1, none⟩) (by simp)).trans (by simp [go_sem])
  have p2 : w2.frozen? ⟨w1.heap.size, 1, none⟩ = false := (hb2.frozen (p := ⟨w1.heap.size, 1, none⟩) (by simp)).trans (by simp [go_sem])
  have hI2 := hO2.ints
  clear hO2 hb2 hI0
  go_wp2_with fail
  refine (withI_any go2 q.length q id _ hlq hI2).mono ?_
  rintro e w3 ⟨⟨go3, rfl, hF3⟩, hb3⟩
  have hb13 : Below w1.heap.size w1 w3 := hb12.trans (hb3.mono (by omega))
  have HT3 : Hid (FreshT (w.heap.size + 1 + 1) w1.heap.size w3 to ts.length (ts.set id (1, 0))) := HT.out.later hb13
  have HI3 : Hid (FreshI w2.heap.size w3.heap.size w3 go3 (q.length + 1) (q ++ [(id : Int)])) := hF3
  have t0 : w3.cell? ⟨w1.heap.size, 0, none⟩ = some (.slice to ts.length ts.length) := (hb3.cell (p := ⟨w1.heap.size, 0, none⟩) hs2).trans p0
  have t1 : w3.cell? ⟨w1.heap.size, 1, none⟩ = some (.slice go q.length q.length) := (hb3.cell (p := ⟨w1.heap.size, 1, none⟩) hs2).trans p1
  have t2 : w3.frozen? ⟨w1.heap.size, 1, none⟩ = false := (hb3.frozen (p := ⟨w1.heap.size, 1, none⟩) hs2).trans p2
  have s0 : w3.cell? ⟨w.heap.size + 1, 0, none⟩ = some (.slice none 0 0) := (hb13.cell (p := ⟨w.heap.size + 1, 0, none⟩) hlt1).trans r0
  have s1 : w3.cell? ⟨w.heap.size + 1, 1, none⟩ = some (.slice none 0 0) := (hb13.cell (p := ⟨w.heap.size + 1, 1, none⟩) hlt1).trans r1
  have s2 : w3.frozen? ⟨w.heap.size + 1, 0, none⟩ = false := (hb13.frozen (p := ⟨w.heap.size + 1, 0, none⟩) hlt1).trans f0
  have s3 : w3.frozen? ⟨w.heap.size + 1, 1, none⟩ = false := (hb13.frozen (p := ⟨w.heap.size + 1, 1, none⟩) hlt1).trans f1
  have hne : w1.heap.size ≠ w.heap.size + 1 := by omega
  have hs3 := hb3.size
  have hB3 : Below w.heap.size w w3 := hB1.trans (hb13.mono hB1.size)
  clear hF3 hb3 hb12 hI2 r0 r1 f0 f1 p0 p1 p2 HT
  have hfld := run_field67 go3 (q.length + 1) (q.length + 1)
  go_wp2
  refine bodyPost_ret (v := .agg #[.slice to ts.length ts.length, .slice go3 (q.length + 1) (q.length + 1)]) (by simp [results, Try.results46, go_sem, s0, s1]) rfl ⟨⟨to, go3, rfl, ?_, ?_⟩, ?_⟩
  · exact (((HT3.out.setAbove (a := ⟨w1.heap.size, 1, none⟩) (Nat.le_refl _) _).setBelow (a := ⟨w.heap.size + 1, 0, none⟩) (by simp) _).setBelow (a := ⟨w.heap.size + 1, 1, none⟩) (by simp) _).wide (by omega) (by simp; omega)
  · exact (((HI3.out.setBelow (a := ⟨w1.heap.size, 1, none⟩) hs2 _).setBelow (a := ⟨w.heap.size + 1, 0, none⟩) (by simp; omega) _).setBelow (a := ⟨w.heap.size + 1, 1, none⟩) (by simp; omega) _).wide (by omega) (by simp)
  · exact ((hB3.setCell (p := ⟨w1.heap.size, 1, none⟩) (by simp; omega) _).setCell (p := ⟨w.heap.size + 1, 0, none⟩) (by simp) _).setCell (p := ⟨w.heap.size + 1, 1, none⟩) (by simp) _

/-- What Yield, Park and End answer. -/
def leaveR (st : Int) (ts : List (Int × Int)) (q : List Int) : List (Int × Int) × List Int × Int :=
  if specGoodB ts q = true then (match firstRun ts with | none => (ts, q, 2) | some id => (ts.set id (st, 0), if st = 1 then q ++ [(id : Int)] else q, 0)) else ([], [], 1)
/-- A board of its own memory, and a code. -/
def Ans2 (w : World) (r : List (Int × Int) × List Int × Int) (e : Ending) (w' : World) : Prop :=
  (∃ to tc go qc, e = .returned (.tuple #[.agg #[.slice to r.1.length tc, .slice go r.2.1.length qc], .int .i64 r.2.2]) ∧ FreshT w.heap.size w'.heap.size w' to tc r.1 ∧ FreshI w.heap.size w'.heap.size w' go qc r.2.1) ∧ Below w.heap.size w w'

theorem ans2_of {w W : World} {ts' : List (Int × Int)} {q' : List Int} {c : Int} {to go : Option Addr} {tc qc : Nat} (hB : Below w.heap.size w W) (hT : FreshT (w.heap.size + 1 + 1) W.heap.size W to tc ts') (hI : FreshI (w.heap.size + 1 + 1) W.heap.size W go qc q') (u0 u1 : Value) :
    Ans2 w (ts', q', c) (.returned (.tuple #[.agg #[.slice to ts'.length tc, .slice go q'.length qc], .int .i64 c])) ((W.setCell ⟨w.heap.size + 1, 0, none⟩ u0).setCell ⟨w.heap.size + 1, 1, none⟩ u1) :=
  ⟨⟨to, tc, go, qc, rfl, ((hT.setBelow (a := ⟨w.heap.size + 1, 0, none⟩) (by simp) _).setBelow (a := ⟨w.heap.size + 1, 1, none⟩) (by simp) _).wide (by omega) (by simp), ((hI.setBelow (a := ⟨w.heap.size + 1, 0, none⟩) (by simp) _).setBelow (a := ⟨w.heap.size + 1, 1, none⟩) (by simp) _).wide (by omega) (by simp)⟩,
    (hB.setCell (p := ⟨w.heap.size + 1, 0, none⟩) (by simp) _).setCell (p := ⟨w.heap.size + 1, 1, none⟩) (by simp) _⟩

set_option maxHeartbeats 4000000 in
theorem implLeave_any (ao : Option Addr) (cap : Nat) (ts : List (Int × Int)) (qo : Option Addr) (qcap : Nat) (q : List Int) (st : Int) (w : World) (hl : ts.length ≤ 1048576) (hlq : q.length ≤ 1048576) (hz : TasksIn w.heap.size w ao ts) (hq : IntsIn w.heap.size w qo q) :
    Calls Try.prog 30 #[.agg #[.slice ao ts.length cap, .slice qo q.length qcap], .int .i64 st] w fun e w' => Ans2 w (leaveR st ts q) e w' := by
  generalize hR : leaveR st ts q = R
  have HR : Hid (leaveR st ts q = R) := hR
  clear hR
  go_enter Try.func30, Try.ntmps30
  go_wp2_with fail
  refine (implGood_any ao cap ts qo qcap q _ hl (hz.later (below2 _ _ _)) (hq.later (below2 _ _ _))).mono ?_
  rintro e w1 ⟨rfl, hb1⟩
  have hB1 := (below2 w (.cells #[.slice ao ts.length cap, .slice qo q.length qcap] 26) (.cells #[.slice none 0 0, .slice none 0 0] 26)).trans (hb1.mono (by simp; omega))
  have hs1 : w.heap.size + 1 < w1.heap.size := by have := hb1.size; simp at this; omega
  have b0 : w1.cell? ⟨w.heap.size, 0, none⟩ = some (.slice ao ts.length cap) := (hb1.cell (p := ⟨w.heap.size, 0, none⟩) (by simp; omega)).trans (by simp [go_sem])
  have b1 : w1.cell? ⟨w.heap.size, 1, none⟩ = some (.slice qo q.length qcap) := (hb1.cell (p := ⟨w.heap.size, 1, none⟩) (by simp; omega)).trans (by simp [go_sem])
  have r0 : w1.cell? ⟨w.heap.size + 1, 0, none⟩ = some (.slice none 0 0) := (hb1.cell (p := ⟨w.heap.size + 1, 0, none⟩) (by simp)).trans (by simp [go_sem])
  have r1 : w1.cell? ⟨w.heap.size + 1, 1, none⟩ = some (.slice none 0 0) := (hb1.cell (p := ⟨w.heap.size + 1, 1, none⟩) (by simp)).trans (by simp [go_sem])
  have f0 : w1.frozen? ⟨w.heap.size + 1, 0, none⟩ = false := (hb1.frozen (p := ⟨w.heap.size + 1, 0, none⟩) (by simp)).trans (by simp [go_sem])
  have f1 : w1.frozen? ⟨w.heap.size + 1, 1, none⟩ = false := (hb1.frozen (p := ⟨w.heap.size + 1, 1, none⟩) (by simp)).trans (by simp [go_sem])
  clear hb1
  cases hg : specGoodB ts q
  · have HR2 : Hid (R = ([], [], 1)) := by rw [Hid, ← HR.out, leaveR, hg]; rfl
    clear hg HR
    go_wp2
    refine bodyPost_ret (v := .tuple #[.agg #[.slice none 0 0, .slice none 0 0], .int .i64 1]) (by simp [results, Try.results30, go_sem, r0, r1]) rfl ?_
    rw [HR2.out]
    exact ans2_of hB1 (.inl rfl) (.inl rfl) _ _
  · have HG : Hid (specGoodB ts q = true) := hg
    clear hg
    go_wp2_with fail
    refine (runningTask_any ao cap ts qo q.length qcap _ hl (hz.later hB1)).mono ?_
    rintro e w2 ⟨rfl, hb2⟩
    have hB2 := hB1.trans (hb2.mono hB1.size)
    have hs2 : w.heap.size + 1 < w2.heap.size := Nat.lt_of_lt_of_le hs1 hb2.size
    have c0 : w2.cell? ⟨w.heap.size, 0, none⟩ = some (.slice ao ts.length cap) := (hb2.cell (p := ⟨w.heap.size, 0, none⟩) (by simp; omega)).trans b0
    have c1 : w2.cell? ⟨w.heap.size, 1, none⟩ = some (.slice qo q.length qcap) := (hb2.cell (p := ⟨w.heap.size, 1, none⟩) (by simp; omega)).trans b1
    have d0 : w2.cell? ⟨w.heap.size + 1, 0, none⟩ = some (.slice none 0 0) := (hb2.cell (p := ⟨w.heap.size + 1, 0, none⟩) hs1).trans r0
    have d1 : w2.cell? ⟨w.heap.size + 1, 1, none⟩ = some (.slice none 0 0) := (hb2.cell (p := ⟨w.heap.size + 1, 1, none⟩) hs1).trans r1
    have d2 : w2.frozen? ⟨w.heap.size + 1, 0, none⟩ = false := (hb2.frozen (p := ⟨w.heap.size + 1, 0, none⟩) hs1).trans f0
    have d3 : w2.frozen? ⟨w.heap.size + 1, 1, none⟩ = false := (hb2.frozen (p := ⟨w.heap.size + 1, 1, none⟩) hs1).trans f1
    clear hb2 b0 b1 r0 r1 f0 f1
    cases hf : firstRun ts with
    | none =>
      have HR2 : Hid (R = (ts, q, 2)) := by rw [Hid, ← HR.out, leaveR, HG.out, hf]; rfl
      rw [show runV ts = .tuple #[.int .i64 0, .bool false] from by rw [runV, hf]]
      clear hf HR
      go_wp2_with fail
      refine (copyBoard_any ao cap ts qo qcap q _ hl hlq (hz.later hB2) (hq.later hB2)).mono ?_
      rintro e w3 ⟨⟨to, go, rfl, hT, hI⟩, hb3⟩
      have hB3 := hB2.trans (hb3.mono hB2.size)
      have g0 : w3.cell? ⟨w.heap.size + 1, 0, none⟩ = some (.slice none 0 0) := (hb3.cell (p := ⟨w.heap.size + 1, 0, none⟩) hs2).trans d0
      have g1 : w3.cell? ⟨w.heap.size + 1, 1, none⟩ = some (.slice none 0 0) := (hb3.cell (p := ⟨w.heap.size + 1, 1, none⟩) hs2).trans d1
      have g2 : w3.frozen? ⟨w.heap.size + 1, 0, none⟩ = false := (hb3.frozen (p := ⟨w.heap.size + 1, 0, none⟩) hs2).trans d2
      have g3 : w3.frozen? ⟨w.heap.size + 1, 1, none⟩ = false := (hb3.frozen (p := ⟨w.heap.size + 1, 1, none⟩) hs2).trans d3
      have HF : Hid (FreshT w2.heap.size w3.heap.size w3 to ts.length ts ∧ FreshI w2.heap.size w3.heap.size w3 go q.length q) := ⟨hT, hI⟩
      clear hT hI hb3
      go_wp2
      refine bodyPost_ret (v := .tuple #[.agg #[.slice to ts.length ts.length, .slice go q.length q.length], .int .i64 2]) (by simp [results, Try.results30, go_sem, g0, g1]) rfl ?_
      rw [HR2.out]
      exact ans2_of hB3 (HF.out.1.wide (by omega) (Nat.le_refl _)) (HF.out.2.wide (by omega) (Nat.le_refl _)) _ _
    | some id =>
      obtain ⟨hid, _⟩ := firstRun_lt hf
      rw [show runV ts = .tuple #[.int .i64 (id : Int), .bool true] from by rw [runV, hf]]
      by_cases hst : st = 1
      · have HR2 : Hid (R = (ts.set id (1, 0), q ++ [(id : Int)], 0)) := by rw [Hid, ← HR.out, leaveR, HG.out, hf]; simp [hst]
        subst hst
        clear hf HR
        go_wp2_with fail
        refine (withReady_any ao cap ts qo qcap q id _ hl hlq hid (hz.later hB2) (hq.later hB2)).mono ?_
        rintro e w3 ⟨⟨to, go, rfl, hT, hI⟩, hb3⟩
        have hB3 := hB2.trans (hb3.mono hB2.size)
        have g0 : w3.cell? ⟨w.heap.size + 1, 0, none⟩ = some (.slice none 0 0) := (hb3.cell (p := ⟨w.heap.size + 1, 0, none⟩) hs2).trans d0
        have g1 : w3.cell? ⟨w.heap.size + 1, 1, none⟩ = some (.slice none 0 0) := (hb3.cell (p := ⟨w.heap.size + 1, 1, none⟩) hs2).trans d1
        have g2 : w3.frozen? ⟨w.heap.size + 1, 0, none⟩ = false := (hb3.frozen (p := ⟨w.heap.size + 1, 0, none⟩) hs2).trans d2
        have g3 : w3.frozen? ⟨w.heap.size + 1, 1, none⟩ = false := (hb3.frozen (p := ⟨w.heap.size + 1, 1, none⟩) hs2).trans d3
        have HF : Hid (FreshT w2.heap.size w3.heap.size w3 to ts.length (ts.set id (1, 0)) ∧ FreshI w2.heap.size w3.heap.size w3 go (q.length + 1) (q ++ [(id : Int)])) := ⟨hT, hI⟩
        clear hT hI hb3
        go_wp2
        refine bodyPost_ret (v := .tuple #[.agg #[.slice to ts.length ts.length, .slice go (q.length + 1) (q.length + 1)], .int .i64 0]) (by simp [results, Try.results30, go_sem, g0, g1]) rfl ?_
        rw [HR2.out]
        have h := ans2_of (c := 0) hB3 (HF.out.1.wide (by omega) (Nat.le_refl _)) (HF.out.2.wide (by omega) (Nat.le_refl _)) (.slice to ts.length ts.length) (.slice go (q.length + 1) (q.length + 1))
        simpa using h
      · have HR2 : Hid (R = (ts.set id (st, 0), q, 0)) := by rw [Hid, ← HR.out, leaveR, HG.out, hf]; simp [hst]
        have hst' : (st == 1) = false := by simpa using hst
        clear hf HR hst
        go_wp2_with fail
        refine (withTask_any ao cap ts qo qcap q id st _ hl hlq hid (hz.later hB2) (hq.later hB2)).mono ?_
        rintro e w3 ⟨⟨to, go, rfl, hT, hI⟩, hb3⟩
        have hB3 := hB2.trans (hb3.mono hB2.size)
        have g0 : w3.cell? ⟨w.heap.size + 1, 0, none⟩ = some (.slice none 0 0) := (hb3.cell (p := ⟨w.heap.size + 1, 0, none⟩) hs2).trans d0
        have g1 : w3.cell? ⟨w.heap.size + 1, 1, none⟩ = some (.slice none 0 0) := (hb3.cell (p := ⟨w.heap.size + 1, 1, none⟩) hs2).trans d1
        have g2 : w3.frozen? ⟨w.heap.size + 1, 0, none⟩ = false := (hb3.frozen (p := ⟨w.heap.size + 1, 0, none⟩) hs2).trans d2
        have g3 : w3.frozen? ⟨w.heap.size + 1, 1, none⟩ = false := (hb3.frozen (p := ⟨w.heap.size + 1, 1, none⟩) hs2).trans d3
        have HF : Hid (FreshT w2.heap.size w3.heap.size w3 to ts.length (ts.set id (st, 0)) ∧ FreshI w2.heap.size w3.heap.size w3 go q.length q) := ⟨hT, hI⟩
        clear hT hI hb3
        go_wp2
        refine bodyPost_ret (v := .tuple #[.agg #[.slice to ts.length ts.length, .slice go q.length q.length], .int .i64 0]) (by simp [results, Try.results30, go_sem, g0, g1]) rfl ?_
        rw [HR2.out]
        have h := ans2_of (c := 0) hB3 (HF.out.1.wide (by omega) (Nat.le_refl _)) (HF.out.2.wide (by omega) (Nat.le_refl _)) (.slice to ts.length ts.length) (.slice go q.length q.length)
        simpa using h
end Go.Proofs.Ytgbnbnjfaffaiaa.Old
