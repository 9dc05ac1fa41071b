
/- A node read: the program's. No conditions but those written. -/
import Derived.Test.YtekadjjofcicaaaDoorTpg
import Derived.Shelf.Strconv.Clone
import Derived.Test.YtekadjjofcicaaaDoorRy
namespace Go.Proofs.YtekadjjofcicaaaDoor
open Go.RowKit

shelf_lay LaysM.n316 Nm 316 at Tryd as Tryd.laysClone
theorem clone_is (s : ByteArray) (w : World) (hs : s.size ≤ 1048576) :
    Calls Tryd.prog 33 #[.string s] w fun e w' => e = .returned (.string s) ∧ Below w.heap.size w w' := by
  have HC := hid (Any.stringslite_Clone Tryd.laysClone s w (by omega))
  go_enter Tryd.func33, Tryd.ntmps33
  go_wp2_with fail
  refine HC.out.mono ?_
  rintro e w1 ⟨rfl, hb1⟩
  go_wp2
  go_ret
  exact ⟨rfl, hb1⟩
/-- What a node's text says; zeros and false where it is none. -/
abbrev RNode := (ByteArray × Int × Int × Int × Int × List Int) × Bool
def zeroN : RNode := ((⟨#[]⟩, 0, 0, 0, 0, []), false)
def readR (s : ByteArray) : RNode :=
  if (splitB s 32).length = 5 ∧ el (splitB s 32) 0 = ⟨#[110, 111, 100, 101]⟩ then
    (if (stageQ (splitB (el (splitB s 32) 2) 58)).2 = true ∧ (numR (el (splitB s 32) 3)).2 = true ∧ (nextR (el (splitB s 32) 4)).2 = true ∧
        hasT (el (splitB s 32) 1) (stageQ (splitB (el (splitB s 32) 2) 58)).1.1 (stageQ (splitB (el (splitB s 32) 2) 58)).1.2.1 (stageQ (splitB (el (splitB s 32) 2) 58)).1.2.2 (numR (el (splitB s 32) 3)).1 (nextR (el (splitB s 32) 4)).1 = true then
      ((el (splitB s 32) 1, (stageQ (splitB (el (splitB s 32) 2) 58)).1.1, (stageQ (splitB (el (splitB s 32) 2) 58)).1.2.1, (stageQ (splitB (el (splitB s 32) 2) 58)).1.2.2, (numR (el (splitB s 32) 3)).1, (nextR (el (splitB s 32) 4)).1), true)
    else zeroN)
  else zeroN
/-- A node with memory of its own and a bool are answered. -/
def AnsRN (w : World) (R : RNode) (e : Ending) (w' : World) : Prop :=
  (∃ go qc, e = .returned (.tuple #[.agg #[.string R.1.1, .int .i64 R.1.2.1, .int .i64 R.1.2.2.1, .int .i64 R.1.2.2.2.1, .int .i64 R.1.2.2.2.2.1, .slice go R.1.2.2.2.2.2.length qc], .bool R.2]) ∧ (go = none → qc = 0) ∧ kI.Fresh w.heap.size w'.heap.size w' go qc R.1.2.2.2.2.2) ∧ Below w.heap.size w w'
/-- A text cell by cell. -/
theorem texts_c {n : Nat} {W : World} {g : Nat} {ws : List ByteArray} (h : kS.In n W (some ⟨g, 0, none⟩) ws) (i : Nat) (hi : i < ws.length) : W.cell? ⟨g, i, none⟩ = some (.string (el ws i)) := by
  obtain ⟨b, off, e, _, hc⟩ := texts_at h hi
  cases e
  have := hc i hi
  rwa [Nat.zero_add] at this
theorem nextR_len (s : ByteArray) : (nextR s).1.length ≤ s.size + 1 := by
  unfold nextR
  split
  · simp
  · exact Nat.le_trans (numsQ_len _) (splitB_len _ _)
set_option maxRecDepth 10000 in
set_option maxHeartbeats 8000000 in
theorem implReadNode_is (s : ByteArray) (w : World) (hs : s.size ≤ 1048576) (hT : PowTab w) (hE : NErr w) (hW : Wds w) :
    Calls Tryd.prog 11 #[.string s] w fun e w' => AnsRN w (readR s) e w' := by
  have hB0 := below1 w (.cells #[.string ⟨#[]⟩, .int .i64 0, .int .i64 0, .int .i64 0, .int .i64 0, .slice none 0 0] 32)
  have X0 := hid (Bx.new (w := w) [.string ⟨#[]⟩, .int .i64 0, .int .i64 0, .int .i64 0, .int .i64 0, .slice none 0 0] 32 rfl)
  have HP := hid (partsOf_is s 32 (w.alloc (.cells #[.string ⟨#[]⟩, .int .i64 0, .int .i64 0, .int .i64 0, .int .i64 0, .slice none 0 0] 32)) hs (by omega))
  have HSh := hid (splitB_short 32 hs)
  have HT := hid (hT.later hB0)
  have HE := hid (hE.later hB0)
  have HW := hid (hW.later hB0)
  obtain ⟨R, hR⟩ : ∃ R, R = readR s := ⟨_, rfl⟩
  rw [← hR]
  unfold readR at hR
  have hL := splitB_len s 32
  generalize splitB s 32 = ws at HP HSh hR hL
  have HR := hid hR
  clear hT hE hW hR
  go_enter Tryd.func11, Tryd.ntmps11
  go_wp2_with fail
  refine HP.out.mono ?_
  rintro e w1 ⟨⟨go, qc, rfl, hno, hF⟩, hb1⟩
  have X1 := hid (X0.out.later hb1)
  have hB1 := hB0.trans (hb1.mono hB0.size)
  have hs1 := X1.out.size
  by_cases h5 : ws.length = 5
  case neg =>
    have h5' : ((ws.length : Int) != 5) = true := by simp; omega
    have HZ : Hid (R = zeroN) := by rw [Hid, HR.out, if_neg (fun h => h5 h.1)]
    clear hF hb1
    have x0 := X1.out.c 0 rfl
    have x1 := X1.out.c 1 rfl
    have x2 := X1.out.c 2 rfl
    have x3 := X1.out.c 3 rfl
    have x4 := X1.out.c 4 rfl
    have x5 := X1.out.c 5 rfl
    have y0 := X1.out.f 0 rfl
    have y1 := X1.out.f 1 rfl
    have y2 := X1.out.f 2 rfl
    have y3 := X1.out.f 3 rfl
    have y4 := X1.out.f 4 rfl
    have y5 := X1.out.f 5 rfl
    go_wp2
    refine bodyPost_ret (v := .tuple #[.agg #[.string ⟨#[]⟩, .int .i64 0, .int .i64 0, .int .i64 0, .int .i64 0, .slice none 0 0], .bool false]) (by simp [results, Tryd.results11, go_sem, x0, x1, x2, x3, x4, x5]) rfl ?_
    rw [HZ.out]
    exact ⟨⟨none, 0, rfl, fun _ => rfl, .inl rfl⟩, ((((((hB1.setCell (p := ⟨w.heap.size, 0, none⟩) (by dsimp only; omega) _).setCell (p := ⟨w.heap.size, 1, none⟩) (by dsimp only; omega) _).setCell (p := ⟨w.heap.size, 2, none⟩) (by dsimp only; omega) _).setCell (p := ⟨w.heap.size, 3, none⟩) (by dsimp only; omega) _).setCell (p := ⟨w.heap.size, 4, none⟩) (by dsimp only; omega) _).setCell (p := ⟨w.heap.size, 5, none⟩) (by dsimp only; omega) _)⟩
  obtain ⟨g, rfl, hg1, hg2, hg3, _⟩ := hF.at (by omega)
  have hcap := hF.cap
  have hI := hF.in
  have h5' : ((ws.length : Int) != 5) = false := by simp; omega
  have c0 := texts_c hI 0 (by omega)
  have c1 := texts_c hI 1 (by omega)
  have c2 := texts_c hI 2 (by omega)
  have c3 := texts_c hI 3 (by omega)
  have c4 := texts_c hI 4 (by omega)
  have HQ := hid (show (el ws 0).size ≤ 1048576 ∧ (el ws 1).size ≤ 1048576 ∧ (el ws 2).size ≤ 1048576 ∧ (el ws 3).size ≤ 1048576 ∧ (el ws 4).size ≤ 1048576 from ⟨HSh.out _ (el_mem (by omega)), HSh.out _ (el_mem (by omega)), HSh.out _ (el_mem (by omega)), HSh.out _ (el_mem (by omega)), HSh.out _ (el_mem (by omega))⟩)
  generalize el ws 0 = s0 at c0 HQ HR
  generalize el ws 1 = s1 at c1 HQ HR
  generalize el ws 2 = s2 at c2 HQ HR
  generalize el ws 3 = s3 at c3 HQ HR
  generalize el ws 4 = s4 at c4 HQ HR
  have HT1 := hid (HT.out.later hb1)
  have HE1 := hid (HE.out.later hb1)
  have HW1 := hid (HW.out.later hb1)
  have h5n : (5 : Int) = (ws.length : Int) := by omega
  have HWL := hid h5
  obtain ⟨n5, hn5⟩ : ∃ n, n = ws.length := ⟨_, rfl⟩
  clear hF hI hb1 HP X0 HT HE HW hB0 HSh hn5 n5 h5n
  by_cases hn : s0 = ⟨#[110, 111, 100, 101]⟩
  case neg =>
    have HZ : Hid (R = zeroN) := by rw [Hid, HR.out, if_neg (fun h => hn h.2)]
    have hm1 : s0.toList ≠ [110, 111, 100, 101] := fun e => hn (ba_toList_inj (by rw [e, Lib.toList_data]))
    have hm2 : (s0.toList != [110, 111, 100, 101]) = true := by simpa using hm1
    have hm3 : (s0.toList == [110, 111, 100, 101]) = false := by simpa using hm1
    clear hn
    have x0 := X1.out.c 0 rfl
    have x1 := X1.out.c 1 rfl
    have x2 := X1.out.c 2 rfl
    have x3 := X1.out.c 3 rfl
    have x4 := X1.out.c 4 rfl
    have x5 := X1.out.c 5 rfl
    have y0 := X1.out.f 0 rfl
    have y1 := X1.out.f 1 rfl
    have y2 := X1.out.f 2 rfl
    have y3 := X1.out.f 3 rfl
    have y4 := X1.out.f 4 rfl
    have y5 := X1.out.f 5 rfl
    go_wp2
    refine bodyPost_ret (v := .tuple #[.agg #[.string ⟨#[]⟩, .int .i64 0, .int .i64 0, .int .i64 0, .int .i64 0, .slice none 0 0], .bool false]) (by simp [results, Tryd.results11, go_sem, x0, x1, x2, x3, x4, x5]) rfl ?_
    rw [HZ.out]
    exact ⟨⟨none, 0, rfl, fun _ => rfl, .inl rfl⟩, ((((((hB1.setCell (p := ⟨w.heap.size, 0, none⟩) (by dsimp only; omega) _).setCell (p := ⟨w.heap.size, 1, none⟩) (by dsimp only; omega) _).setCell (p := ⟨w.heap.size, 2, none⟩) (by dsimp only; omega) _).setCell (p := ⟨w.heap.size, 3, none⟩) (by dsimp only; omega) _).setCell (p := ⟨w.heap.size, 4, none⟩) (by dsimp only; omega) _).setCell (p := ⟨w.heap.size, 5, none⟩) (by dsimp only; omega) _)⟩
  subst hn
  have HST := hid (readStage_is s2 w1 HQ.out.2.2.1 HT1.out HE1.out HW1.out)
  have HR2 : Hid (R = if (stageQ (splitB s2 58)).2 = true ∧ (numR s3).2 = true ∧ (nextR s4).2 = true ∧ hasT s1 (stageQ (splitB s2 58)).1.1 (stageQ (splitB s2 58)).1.2.1 (stageQ (splitB s2 58)).1.2.2 (numR s3).1 (nextR s4).1 = true then ((s1, (stageQ (splitB s2 58)).1.1, (stageQ (splitB s2 58)).1.2.1, (stageQ (splitB s2 58)).1.2.2, (numR s3).1, (nextR s4).1), true) else zeroN) := by
    rw [Hid, HR.out, if_pos ⟨h5, rfl⟩]
  generalize stageQ (splitB s2 58) = ST at HST HR2
  obtain ⟨⟨kd, sa, sb⟩, y1⟩ := ST
  have HNM := fun W hT hE => readNumber_is s3 W HQ.out.2.2.2.1 hT hE
  generalize numR s3 = NM at HNM HR2
  obtain ⟨cp, y2⟩ := NM
  have HNX := fun W hT hE => readNext_is s4 W HQ.out.2.2.2.2 hT hE
  have hnl := nextR_len s4
  generalize nextR s4 = NX at HNX HR2 hnl
  obtain ⟨nx, y3⟩ := NX
  dsimp only at HR2 HST HNM HNX hnl
  have HN1 := hid HNM
  have HN2 := hid HNX
  have hnx : nx.length ≤ 1048577 := by have := HQ.out.2.2.2.2; omega
  have h5l : 5 ≤ ws.length := by omega
  clear HNM HNX h5 HR hnl
  go_wp2_with fail
  refine HST.out.mono ?_
  rintro e w2 ⟨rfl, hb2⟩
  have hB2 := hB1.trans (hb2.mono hB1.size)
  have X2 := X1.out.later hb2
  have hs2 : w1.heap.size ≤ w2.heap.size := hb2.size
  obtain ⟨q, hq⟩ : ∃ q, q = w2.heap.size := ⟨_, rfl⟩
  have hb2v := below1 w2 (.cells #[.int .i64 kd, .int .i64 sa, .int .i64 sb] 30)
  have hb2w : Below w1.heap.size w1 (w2.alloc (.cells #[.int .i64 kd, .int .i64 sa, .int .i64 sb] 30)) := Below.allocS hb2 _
  have Q3 := hid (Bx.new (w := w2) [.int .i64 kd, .int .i64 sa, .int .i64 sb] 30 rfl)
  have X3 := hid (X2.later hb2v)
  have k3 := (hb2.cell (p := ⟨g, 3, none⟩) hg3).trans c3
  have hgw2 : g < w2.heap.size := by omega
  have d1 := (hb2w.cell (p := ⟨g, 1, none⟩) hg3).trans c1
  have d3 := (hb2w.cell (p := ⟨g, 3, none⟩) hg3).trans c3
  have d4 := (hb2w.cell (p := ⟨g, 4, none⟩) hg3).trans c4
  have hB3 := hB1.trans (hb2w.mono hB1.size)
  have HC1 := hid (HN1.out _ (HT1.out.later hb2w) (HE1.out.later hb2w))
  have HT3 := hid (HT1.out.later hb2w)
  have HE3 := hid (HE1.out.later hb2w)
  obtain ⟨w3, hw3⟩ : ∃ w3, w3 = w2.alloc (.cells #[.int .i64 kd, .int .i64 sa, .int .i64 sb] 30) := ⟨_, rfl⟩
  rw [← hq] at Q3
  rw [← hw3] at Q3 X3 d1 d3 d4 hB3 HC1 HT3 HE3
  have hgq : g < q := by omega
  have HW3 := hid hw3
  have HQ3 := hid hq
  clear hb2 hB2 X2 hb2v hb2w hw3 hq c1 c2 c3 c4 X1 hB1 HST HT1 HE1 HW1
  go_wp2_with fail
  rw [← HW3.out, ← HQ3.out]
  clear k3
  refine HC1.out.mono ?_
  rintro e w4 ⟨rfl, hb4⟩
  have hg4 : g < w3.heap.size := Nat.lt_trans hgq Q3.out.size
  have e1 := (hb4.cell (p := ⟨g, 1, none⟩) hg4).trans d1
  have e4 := (hb4.cell (p := ⟨g, 4, none⟩) hg4).trans d4
  have Q4 := hid (Q3.out.later hb4)
  have X4 := hid (X3.out.later hb4)
  have hB4 := hB3.trans (hb4.mono hB3.size)
  have HC2 := hid (HN2.out _ (HT3.out.later hb4) (HE3.out.later hb4))
  clear hb4 d1 d3 d4 Q3 X3 HC1 hB3 HT3 HE3 HW3 HQ3
  go_wp2_with fail
  refine HC2.out.mono ?_
  rintro e w5 ⟨⟨no, nc, rfl, hno5, hF5⟩, hb5⟩
  dsimp only at hF5
  have hg5 : g < w4.heap.size := Nat.lt_trans hgq Q4.out.size
  have f1 := (hb5.cell (p := ⟨g, 1, none⟩) hg5).trans e1
  have Q5 := hid (Q4.out.later hb5)
  have X5 := hid (X4.out.later hb5)
  have hB5 := hB4.trans (hb5.mono hB4.size)
  have HF5 := hid (hF5.wide (lo' := w.heap.size + 1) X4.out.size (Nat.le_refl _))
  have HCL := hid (fun W => clone_is s1 W HQ.out.2.1)
  clear hb5 e1 e4 Q4 X4 HC2 hF5 hB4
  dsimp only
  go_wp2
  have h1l : (1 : Int) < (ws.length : Int) := by omega
  refine wp_walks (zl := []) (S := fun Y => Y.cell? ⟨g, 1, none⟩ = some (.string s1) ∧ Y.cell? ⟨q, 0, none⟩ = some (.int .i64 kd) ∧ Y.cell? ⟨q, 1, none⟩ = some (.int .i64 sa) ∧ Y.cell? ⟨q, 2, none⟩ = some (.int .i64 sb)) (by kernel_rfl) ⟨f1, Q5.out.c 0 rfl, Q5.out.c 1 rfl, Q5.out.c 2 rfl⟩ (fun hH => ?_)
  refine Walks.take (i := 0) (v := ?va0) rfl (by kernel_rfl) (by kernel_rfl) (fun _ _ _ h => h) _ _ _ _ (by kernel_rfl) (by kernel_rfl) (Or.inl ⟨by rfl, ?hya0⟩) hH ?resta0
  case hya0 => (intro w' hSw; (try dsimp only at hSw); go_simp <;> with_reducible rfl)
  refine Walks.take (i := 1) (v := ?va1) rfl (by kernel_rfl) (by kernel_rfl) (fun _ _ _ h => h) _ _ _ _ (by kernel_rfl) (by kernel_rfl) (Or.inl ⟨by rfl, ?hya1⟩) hH ?resta1
  case hya1 => (intro w' hSw; (try dsimp only at hSw); go_simp <;> with_reducible rfl)
  refine Walks.take (i := 2) (v := ?va2) rfl (by kernel_rfl) (by kernel_rfl) (fun _ _ _ h => h) _ _ _ _ (by kernel_rfl) (by kernel_rfl) (Or.inl ⟨by rfl, ?hya2⟩) hH ?resta2
  case hya2 => (intro w' hSw; (try dsimp only at hSw); go_simp <;> with_reducible rfl)
  refine Walks.take (i := 4) (v := ?va4) rfl (by kernel_rfl) (by kernel_rfl) (fun _ _ _ h => h) _ _ _ _ (by kernel_rfl) (by kernel_rfl) (Or.inl ⟨by rfl, ?hya4⟩) hH ?resta4
  case hya4 => (intro w' hSw; (try dsimp only at hSw); go_simp <;> with_reducible rfl)
  refine Walks.take (i := 5) (v := ?va5) rfl (by kernel_rfl) (by kernel_rfl) (fun _ _ _ h => h) _ _ _ _ (by kernel_rfl) (by kernel_rfl) (Or.inl ⟨by rfl, ?hya5⟩) hH ?resta5
  case hya5 => (intro w' hSw; (try dsimp only at hSw); go_simp <;> with_reducible rfl)
  refine Walks.take (i := 6) (v := ?va6) rfl (by kernel_rfl) (by kernel_rfl) (fun _ _ _ h => h) _ _ _ _ (by kernel_rfl) (by kernel_rfl) (Or.inl ⟨by rfl, ?hya6⟩) hH ?resta6
  case hya6 => (intro w' hSw; (try dsimp only at hSw); go_simp <;> with_reducible rfl)
  refine Walks.pair (i := 3) (j := 8) (by kernel_rfl) rfl rfl (fun K hK => ?_) (fun K hK => ?_)
  · go_simp
    refine (HCL.out _).mono ?_
    rintro e w6 ⟨rfl, hb60⟩
    have hb6 : Below w5.heap.size w5 w6 := (Below.refl w5.heap.size w5).drew.trans hb60
    clear hb60
    have hs6 := hb6.size
    have f6 := (hb6.cell (p := ⟨g, 1, none⟩) (by have := Q5.out.size; dsimp only; omega)).trans f1
    have Q6 := hid (Q5.out.later hb6)
    have X6 := hid (X5.out.later hb6)
    have F6 := hid (HF5.out.later hb6)
    have hB6 := hB5.trans (hb6.mono hB5.size)
    refine hK.out _ _ (fun _ => ⟨f6, Q6.out.c 0 rfl, Q6.out.c 1 rfl, Q6.out.c 2 rfl⟩) (fun _ => ?_)
    clear hK K hH
    refine Walks.take (i := 7) (v := ?vb7) rfl (by kernel_rfl) (by kernel_rfl) (fun _ _ _ h => h) _ _ _ _ (by kernel_rfl) (by kernel_rfl) (Or.inl ⟨by rfl, ?hyb7⟩) ⟨f6, Q6.out.c 0 rfl, Q6.out.c 1 rfl, Q6.out.c 2 rfl⟩ ?restb7
    case hyb7 => (intro w' hSw; (try dsimp only at hSw); go_simp <;> with_reducible rfl)
    refine Walks.one (i := 8) (o := _) (by kernel_rfl) rfl (fun K hK => ?_)
    go_simp
    have f8 := ((below1 w6 (.cells #[.string ⟨#[]⟩, .int .i64 0, .int .i64 0, .int .i64 0, .int .i64 0, .slice none 0 0] 32)).cell (p := ⟨g, 1, none⟩) (by have := Q6.out.size; dsimp only; omega)).trans f6
    have Q8 := hid (Q6.out.alloc (.cells #[.string ⟨#[]⟩, .int .i64 0, .int .i64 0, .int .i64 0, .int .i64 0, .slice none 0 0] 32))
    have X8 := hid (X6.out.alloc (.cells #[.string ⟨#[]⟩, .int .i64 0, .int .i64 0, .int .i64 0, .int .i64 0, .slice none 0 0] 32))
    have F8 := hid (F6.out.later (below1 w6 (.cells #[.string ⟨#[]⟩, .int .i64 0, .int .i64 0, .int .i64 0, .int .i64 0, .slice none 0 0] 32)))
    have N8 := hid (Bx.new (w := w6) [.string ⟨#[]⟩, .int .i64 0, .int .i64 0, .int .i64 0, .int .i64 0, .slice none 0 0] 32 rfl)
    have hB8 : Below w.heap.size w (w6.alloc (.cells #[.string ⟨#[]⟩, .int .i64 0, .int .i64 0, .int .i64 0, .int .i64 0, .slice none 0 0] 32)) := Below.allocS hB6 _
    obtain ⟨p, hp⟩ : ∃ p, p = w6.heap.size := ⟨_, rfl⟩
    obtain ⟨w8, hw8⟩ : ∃ w8, w8 = w6.alloc (.cells #[.string ⟨#[]⟩, .int .i64 0, .int .i64 0, .int .i64 0, .int .i64 0, .slice none 0 0] 32) := ⟨_, rfl⟩
    have hq5 := Q5.out.size
    have hx5 := X5.out.size
    have hw5s := hB5.size
    rw [← hp] at N8 ⊢
    rw [← hw8] at f8 Q8 X8 F8 N8 hB8 ⊢
    refine hK.out _ _ (fun _ => ⟨f8, Q8.out.c 0 rfl, Q8.out.c 1 rfl, Q8.out.c 2 rfl⟩) (fun _ => ?_)
    have hpw : w5.heap.size ≤ p := by omega
    clear hK K hw8 hp f6 Q6 X6 F6 hB6 hb6 f1 Q5 X5 HF5 hB5 HCL
    refine Walks.one (i := 9) (o := _) (by kernel_rfl) rfl (fun K hK => ?_)
    have z0 := N8.out.c 0 rfl
    have z1 := N8.out.c 1 rfl
    have z2 := N8.out.c 2 rfl
    have z3 := N8.out.c 3 rfl
    have z4 := N8.out.c 4 rfl
    have z5 := N8.out.c 5 rfl
    have zf0 := N8.out.f 0 rfl
    have zf1 := N8.out.f 1 rfl
    have zf2 := N8.out.f 2 rfl
    have zf3 := N8.out.f 3 rfl
    have zf4 := N8.out.f 4 rfl
    have zf5 := N8.out.f 5 rfl
    go_simp
    have X9 := hid ((((((X8.out.other (a := ⟨p, 0, none⟩) (by dsimp only; omega) (.string s1)).other (a := ⟨p, 1, none⟩) (by dsimp only; omega) (.int .i64 kd)).other (a := ⟨p, 2, none⟩) (by dsimp only; omega) (.int .i64 sa)).other (a := ⟨p, 3, none⟩) (by dsimp only; omega) (.int .i64 sb)).other (a := ⟨p, 4, none⟩) (by dsimp only; omega) (.int .i64 cp)).other (a := ⟨p, 5, none⟩) (by dsimp only; omega) (.slice no nx.length nc))
    have N9 := hid ((((((N8.out.set 0 (.string s1)).set 1 (.int .i64 kd)).set 2 (.int .i64 sa)).set 3 (.int .i64 sb)).set 4 (.int .i64 cp)).set 5 (.slice no nx.length nc))
    have F9 := hid ((((((F8.out.setAbove (a := ⟨p, 0, none⟩) (by dsimp only; omega) (.string s1)).setAbove (a := ⟨p, 1, none⟩) (by dsimp only; omega) (.int .i64 kd)).setAbove (a := ⟨p, 2, none⟩) (by dsimp only; omega) (.int .i64 sa)).setAbove (a := ⟨p, 3, none⟩) (by dsimp only; omega) (.int .i64 sb)).setAbove (a := ⟨p, 4, none⟩) (by dsimp only; omega) (.int .i64 cp)).setAbove (a := ⟨p, 5, none⟩) (by dsimp only; omega) (.slice no nx.length nc))
    have Q9 := hid ((((((Q8.out.other (a := ⟨p, 0, none⟩) (by dsimp only; omega) (.string s1)).other (a := ⟨p, 1, none⟩) (by dsimp only; omega) (.int .i64 kd)).other (a := ⟨p, 2, none⟩) (by dsimp only; omega) (.int .i64 sa)).other (a := ⟨p, 3, none⟩) (by dsimp only; omega) (.int .i64 sb)).other (a := ⟨p, 4, none⟩) (by dsimp only; omega) (.int .i64 cp)).other (a := ⟨p, 5, none⟩) (by dsimp only; omega) (.slice no nx.length nc))
    have hB9 := ((((((hB8.setCell (p := ⟨p, 0, none⟩) (by dsimp only; omega) (.string s1)).setCell (p := ⟨p, 1, none⟩) (by dsimp only; omega) (.int .i64 kd)).setCell (p := ⟨p, 2, none⟩) (by dsimp only; omega) (.int .i64 sa)).setCell (p := ⟨p, 3, none⟩) (by dsimp only; omega) (.int .i64 sb)).setCell (p := ⟨p, 4, none⟩) (by dsimp only; omega) (.int .i64 cp)).setCell (p := ⟨p, 5, none⟩) (by dsimp only; omega) (.slice no nx.length nc))
    have f9 : ((((((w8.setCell ⟨p, 0, none⟩ (.string s1)).setCell ⟨p, 1, none⟩ (.int .i64 kd)).setCell ⟨p, 2, none⟩ (.int .i64 sa)).setCell ⟨p, 3, none⟩ (.int .i64 sb)).setCell ⟨p, 4, none⟩ (.int .i64 cp)).setCell ⟨p, 5, none⟩ (.slice no nx.length nc)).cell? ⟨g, 1, none⟩ = some (.string s1) := by
      rw [World.cell?_setCell_other _ _ _ _ (by simp <;> omega), World.cell?_setCell_other _ _ _ _ (by simp <;> omega), World.cell?_setCell_other _ _ _ _ (by simp <;> omega), World.cell?_setCell_other _ _ _ _ (by simp <;> omega), World.cell?_setCell_other _ _ _ _ (by simp <;> omega), World.cell?_setCell_other _ _ _ _ (by simp <;> omega)]; exact f8
    obtain ⟨w9, hw9⟩ : ∃ w9, w9 = ((((((w8.setCell ⟨p, 0, none⟩ (.string s1)).setCell ⟨p, 1, none⟩ (.int .i64 kd)).setCell ⟨p, 2, none⟩ (.int .i64 sa)).setCell ⟨p, 3, none⟩ (.int .i64 sb)).setCell ⟨p, 4, none⟩ (.int .i64 cp)).setCell ⟨p, 5, none⟩ (.slice no nx.length nc)) := ⟨_, rfl⟩
    rw [← hw9] at X9 N9 F9 Q9 hB9 f9
    rw [← hw9]
    refine hK.out _ _ (fun _ => ⟨f9, Q9.out.c 0 rfl, Q9.out.c 1 rfl, Q9.out.c 2 rfl⟩) (fun _ => ?_)
    clear hK K
    refine Walks.done (by kernel_rfl) ?_ _
    clear z0 z1 z2 z3 z4 z5 zf0 zf1 zf2 zf3 zf4 zf5 X8 N8 F8 Q8 hB8 f8 Q9 f9 hw9
    cases y1
    · have HZ : Hid (R = zeroN) := by rw [Hid, HR2.out, if_neg (fun h => by cases h.1)]
      have x0 := X9.out.c 0 rfl
      have x1 := X9.out.c 1 rfl
      have x2 := X9.out.c 2 rfl
      have x3 := X9.out.c 3 rfl
      have x4 := X9.out.c 4 rfl
      have x5 := X9.out.c 5 rfl
      have y0 := X9.out.f 0 rfl
      have y1 := X9.out.f 1 rfl
      have y2 := X9.out.f 2 rfl
      have y3 := X9.out.f 3 rfl
      have y4 := X9.out.f 4 rfl
      have y5 := X9.out.f 5 rfl
      go_wp2
      refine bodyPost_ret (v := .tuple #[.agg #[.string ⟨#[]⟩, .int .i64 0, .int .i64 0, .int .i64 0, .int .i64 0, .slice none 0 0], .bool false]) (by simp [results, Tryd.results11, go_sem, x0, x1, x2, x3, x4, x5]) rfl ?_
      rw [HZ.out]
      exact ⟨⟨none, 0, rfl, fun _ => rfl, .inl rfl⟩, ((((((hB9.setCell (p := ⟨w.heap.size, 0, none⟩) (by dsimp only; omega) _).setCell (p := ⟨w.heap.size, 1, none⟩) (by dsimp only; omega) _).setCell (p := ⟨w.heap.size, 2, none⟩) (by dsimp only; omega) _).setCell (p := ⟨w.heap.size, 3, none⟩) (by dsimp only; omega) _).setCell (p := ⟨w.heap.size, 4, none⟩) (by dsimp only; omega) _).setCell (p := ⟨w.heap.size, 5, none⟩) (by dsimp only; omega) _)⟩
    cases y2
    · have HZ : Hid (R = zeroN) := by rw [Hid, HR2.out, if_neg (fun h => by cases h.2.1)]
      have x0 := X9.out.c 0 rfl
      have x1 := X9.out.c 1 rfl
      have x2 := X9.out.c 2 rfl
      have x3 := X9.out.c 3 rfl
      have x4 := X9.out.c 4 rfl
      have x5 := X9.out.c 5 rfl
      have y0 := X9.out.f 0 rfl
      have y1 := X9.out.f 1 rfl
      have y2 := X9.out.f 2 rfl
      have y3 := X9.out.f 3 rfl
      have y4 := X9.out.f 4 rfl
      have y5 := X9.out.f 5 rfl
      go_wp2
      refine bodyPost_ret (v := .tuple #[.agg #[.string ⟨#[]⟩, .int .i64 0, .int .i64 0, .int .i64 0, .int .i64 0, .slice none 0 0], .bool false]) (by simp [results, Tryd.results11, go_sem, x0, x1, x2, x3, x4, x5]) rfl ?_
      rw [HZ.out]
      exact ⟨⟨none, 0, rfl, fun _ => rfl, .inl rfl⟩, ((((((hB9.setCell (p := ⟨w.heap.size, 0, none⟩) (by dsimp only; omega) _).setCell (p := ⟨w.heap.size, 1, none⟩) (by dsimp only; omega) _).setCell (p := ⟨w.heap.size, 2, none⟩) (by dsimp only; omega) _).setCell (p := ⟨w.heap.size, 3, none⟩) (by dsimp only; omega) _).setCell (p := ⟨w.heap.size, 4, none⟩) (by dsimp only; omega) _).setCell (p := ⟨w.heap.size, 5, none⟩) (by dsimp only; omega) _)⟩
    cases y3
    · have HZ : Hid (R = zeroN) := by rw [Hid, HR2.out, if_neg (fun h => by cases h.2.2.1)]
      have x0 := X9.out.c 0 rfl
      have x1 := X9.out.c 1 rfl
      have x2 := X9.out.c 2 rfl
      have x3 := X9.out.c 3 rfl
      have x4 := X9.out.c 4 rfl
      have x5 := X9.out.c 5 rfl
      have y0 := X9.out.f 0 rfl
      have y1 := X9.out.f 1 rfl
      have y2 := X9.out.f 2 rfl
      have y3 := X9.out.f 3 rfl
      have y4 := X9.out.f 4 rfl
      have y5 := X9.out.f 5 rfl
      go_wp2
      refine bodyPost_ret (v := .tuple #[.agg #[.string ⟨#[]⟩, .int .i64 0, .int .i64 0, .int .i64 0, .int .i64 0, .slice none 0 0], .bool false]) (by simp [results, Tryd.results11, go_sem, x0, x1, x2, x3, x4, x5]) rfl ?_
      rw [HZ.out]
      exact ⟨⟨none, 0, rfl, fun _ => rfl, .inl rfl⟩, ((((((hB9.setCell (p := ⟨w.heap.size, 0, none⟩) (by dsimp only; omega) _).setCell (p := ⟨w.heap.size, 1, none⟩) (by dsimp only; omega) _).setCell (p := ⟨w.heap.size, 2, none⟩) (by dsimp only; omega) _).setCell (p := ⟨w.heap.size, 3, none⟩) (by dsimp only; omega) _).setCell (p := ⟨w.heap.size, 4, none⟩) (by dsimp only; omega) _).setCell (p := ⟨w.heap.size, 5, none⟩) (by dsimp only; omega) _)⟩
    have HHT := hid (hasText_is s1 kd sa sb cp no nc nx w9 (by have := HQ.out.2.1; omega) (by omega) F9.out.in)
    have n0 := N9.out.c 0 rfl
    have n1 := N9.out.c 1 rfl
    have n2 := N9.out.c 2 rfl
    have n3 := N9.out.c 3 rfl
    have n4 := N9.out.c 4 rfl
    have n5 := N9.out.c 5 rfl
    go_wp2_with fail
    refine HHT.out.mono ?_
    rintro e w10 ⟨rfl, hb10⟩
    have hB10 := hB9.trans (hb10.mono hB9.size)
    have X10 := hid (X9.out.later hb10)
    have N10 := hid (N9.out.later hb10)
    have F10 := hid (F9.out.later hb10)
    clear hb10 X9 N9 F9 hB9 HHT n0 n1 n2 n3 n4 n5
    cases hh : hasT s1 kd sa sb cp nx
    · have HZ : Hid (R = zeroN) := by rw [Hid, HR2.out, if_neg (fun h => by rw [hh] at h; cases h.2.2.2)]
      have x0 := X10.out.c 0 rfl
      have x1 := X10.out.c 1 rfl
      have x2 := X10.out.c 2 rfl
      have x3 := X10.out.c 3 rfl
      have x4 := X10.out.c 4 rfl
      have x5 := X10.out.c 5 rfl
      have y0 := X10.out.f 0 rfl
      have y1 := X10.out.f 1 rfl
      have y2 := X10.out.f 2 rfl
      have y3 := X10.out.f 3 rfl
      have y4 := X10.out.f 4 rfl
      have y5 := X10.out.f 5 rfl
      go_wp2
      refine bodyPost_ret (v := .tuple #[.agg #[.string ⟨#[]⟩, .int .i64 0, .int .i64 0, .int .i64 0, .int .i64 0, .slice none 0 0], .bool false]) (by simp [results, Tryd.results11, go_sem, x0, x1, x2, x3, x4, x5]) rfl ?_
      rw [HZ.out]
      exact ⟨⟨none, 0, rfl, fun _ => rfl, .inl rfl⟩, ((((((hB10.setCell (p := ⟨w.heap.size, 0, none⟩) (by dsimp only; omega) _).setCell (p := ⟨w.heap.size, 1, none⟩) (by dsimp only; omega) _).setCell (p := ⟨w.heap.size, 2, none⟩) (by dsimp only; omega) _).setCell (p := ⟨w.heap.size, 3, none⟩) (by dsimp only; omega) _).setCell (p := ⟨w.heap.size, 4, none⟩) (by dsimp only; omega) _).setCell (p := ⟨w.heap.size, 5, none⟩) (by dsimp only; omega) _)⟩
    have HY : Hid (R = ((s1, kd, sa, sb, cp, nx), true)) := by rw [Hid, HR2.out, if_pos (by simp [hh])]
    clear hh HR2
    have n0 := N10.out.c 0 rfl
    have n1 := N10.out.c 1 rfl
    have n2 := N10.out.c 2 rfl
    have n3 := N10.out.c 3 rfl
    have n4 := N10.out.c 4 rfl
    have n5 := N10.out.c 5 rfl
    have x0 := X10.out.c 0 rfl
    have x1 := X10.out.c 1 rfl
    have x2 := X10.out.c 2 rfl
    have x3 := X10.out.c 3 rfl
    have x4 := X10.out.c 4 rfl
    have x5 := X10.out.c 5 rfl
    have y0 := X10.out.f 0 rfl
    have y1 := X10.out.f 1 rfl
    have y2 := X10.out.f 2 rfl
    have y3 := X10.out.f 3 rfl
    have y4 := X10.out.f 4 rfl
    have y5 := X10.out.f 5 rfl
    go_wp2
    refine bodyPost_ret (v := .tuple #[.agg #[.string s1, .int .i64 kd, .int .i64 sa, .int .i64 sb, .int .i64 cp, .slice no nx.length nc], .bool true]) (by simp [results, Tryd.results11, go_sem, x0, x1, x2, x3, x4, x5]) rfl ?_
    rw [HY.out]
    refine ⟨⟨no, nc, rfl, hno5, ?_⟩, ((((((hB10.setCell (p := ⟨w.heap.size, 0, none⟩) (by dsimp only; omega) _).setCell (p := ⟨w.heap.size, 1, none⟩) (by dsimp only; omega) _).setCell (p := ⟨w.heap.size, 2, none⟩) (by dsimp only; omega) _).setCell (p := ⟨w.heap.size, 3, none⟩) (by dsimp only; omega) _).setCell (p := ⟨w.heap.size, 4, none⟩) (by dsimp only; omega) _).setCell (p := ⟨w.heap.size, 5, none⟩) (by dsimp only; omega) _)⟩
    exact (((((((F10.out.setBelow (a := ⟨w.heap.size, 0, none⟩) (by dsimp only; omega) _).setBelow (a := ⟨w.heap.size, 1, none⟩) (by dsimp only; omega) _).setBelow (a := ⟨w.heap.size, 2, none⟩) (by dsimp only; omega) _).setBelow (a := ⟨w.heap.size, 3, none⟩) (by dsimp only; omega) _).setBelow (a := ⟨w.heap.size, 4, none⟩) (by dsimp only; omega) _).setBelow (a := ⟨w.heap.size, 5, none⟩) (by dsimp only; omega) _).low (Nat.le_refl _)).wide (by omega) (Nat.le_refl _)
  · go_simp
    have f7 := ((below1 w5 (.cells #[.string ⟨#[]⟩, .int .i64 0, .int .i64 0, .int .i64 0, .int .i64 0, .slice none 0 0] 32)).cell (p := ⟨g, 1, none⟩) (by have := Q5.out.size; dsimp only; omega)).trans f1
    have Q7 := hid (Q5.out.alloc (.cells #[.string ⟨#[]⟩, .int .i64 0, .int .i64 0, .int .i64 0, .int .i64 0, .slice none 0 0] 32))
    have X7 := hid (X5.out.alloc (.cells #[.string ⟨#[]⟩, .int .i64 0, .int .i64 0, .int .i64 0, .int .i64 0, .slice none 0 0] 32))
    have F7 := hid (HF5.out.later (below1 w5 (.cells #[.string ⟨#[]⟩, .int .i64 0, .int .i64 0, .int .i64 0, .int .i64 0, .slice none 0 0] 32)))
    have N7 := hid (Bx.new (w := w5) [.string ⟨#[]⟩, .int .i64 0, .int .i64 0, .int .i64 0, .int .i64 0, .slice none 0 0] 32 rfl)
    have hB7 : Below w.heap.size w (w5.alloc (.cells #[.string ⟨#[]⟩, .int .i64 0, .int .i64 0, .int .i64 0, .int .i64 0, .slice none 0 0] 32)) := Below.allocS hB5 _
    obtain ⟨p, hp⟩ : ∃ p, p = w5.heap.size := ⟨_, rfl⟩
    obtain ⟨w7, hw7⟩ : ∃ w7, w7 = w5.alloc (.cells #[.string ⟨#[]⟩, .int .i64 0, .int .i64 0, .int .i64 0, .int .i64 0, .slice none 0 0] 32) := ⟨_, rfl⟩
    have hq5 := Q5.out.size
    have hx5 := X5.out.size
    have hw5s := hB5.size
    rw [← hp] at N7 ⊢
    rw [← hw7] at f7 Q7 X7 F7 N7 hB7 ⊢
    have hpw : w5.heap.size ≤ p := by omega
    refine hK.out _ _ (fun _ => ⟨f7, Q7.out.c 0 rfl, Q7.out.c 1 rfl, Q7.out.c 2 rfl⟩) (fun _ => ?_)
    clear hK K hH hw7 hp f1 Q5 X5 HF5 hB5
    refine Walks.one (i := 3) (o := _) (by kernel_rfl) rfl (fun K hK => ?_)
    go_simp
    refine (HCL.out _).mono ?_
    rintro e w8 ⟨rfl, hb80⟩
    have hb8 : Below w7.heap.size w7 w8 := (Below.refl w7.heap.size w7).drew.trans hb80
    clear hb80
    have hs8 := hb8.size
    have f8 := (hb8.cell (p := ⟨g, 1, none⟩) (by have := Q7.out.size; dsimp only; omega)).trans f7
    have Q8 := hid (Q7.out.later hb8)
    have X8 := hid (X7.out.later hb8)
    have F8 := hid (F7.out.later hb8)
    have N8 := hid (N7.out.later hb8)
    have hB8 := hB7.trans (hb8.mono hB7.size)
    refine hK.out _ _ (fun _ => ⟨f8, Q8.out.c 0 rfl, Q8.out.c 1 rfl, Q8.out.c 2 rfl⟩) (fun _ => ?_)
    clear hK K f7 Q7 X7 F7 N7 hB7 hb8 HCL
    refine Walks.take (i := 7) (v := ?vc7) rfl (by kernel_rfl) (by kernel_rfl) (fun _ _ _ h => h) _ _ _ _ (by kernel_rfl) (by kernel_rfl) (Or.inl ⟨by rfl, ?hyc7⟩) ⟨f8, Q8.out.c 0 rfl, Q8.out.c 1 rfl, Q8.out.c 2 rfl⟩ ?restc7
    case hyc7 => (intro w' hSw; (try dsimp only at hSw); go_simp <;> with_reducible rfl)
    refine Walks.one (i := 9) (o := _) (by kernel_rfl) rfl (fun K hK => ?_)
    have z0 := N8.out.c 0 rfl
    have z1 := N8.out.c 1 rfl
    have z2 := N8.out.c 2 rfl
    have z3 := N8.out.c 3 rfl
    have z4 := N8.out.c 4 rfl
    have z5 := N8.out.c 5 rfl
    have zf0 := N8.out.f 0 rfl
    have zf1 := N8.out.f 1 rfl
    have zf2 := N8.out.f 2 rfl
    have zf3 := N8.out.f 3 rfl
    have zf4 := N8.out.f 4 rfl
    have zf5 := N8.out.f 5 rfl
    go_simp
    have X9 := hid ((((((X8.out.other (a := ⟨p, 0, none⟩) (by dsimp only; omega) (.string s1)).other (a := ⟨p, 1, none⟩) (by dsimp only; omega) (.int .i64 kd)).other (a := ⟨p, 2, none⟩) (by dsimp only; omega) (.int .i64 sa)).other (a := ⟨p, 3, none⟩) (by dsimp only; omega) (.int .i64 sb)).other (a := ⟨p, 4, none⟩) (by dsimp only; omega) (.int .i64 cp)).other (a := ⟨p, 5, none⟩) (by dsimp only; omega) (.slice no nx.length nc))
    have N9 := hid ((((((N8.out.set 0 (.string s1)).set 1 (.int .i64 kd)).set 2 (.int .i64 sa)).set 3 (.int .i64 sb)).set 4 (.int .i64 cp)).set 5 (.slice no nx.length nc))
    have F9 := hid ((((((F8.out.setAbove (a := ⟨p, 0, none⟩) (by dsimp only; omega) (.string s1)).setAbove (a := ⟨p, 1, none⟩) (by dsimp only; omega) (.int .i64 kd)).setAbove (a := ⟨p, 2, none⟩) (by dsimp only; omega) (.int .i64 sa)).setAbove (a := ⟨p, 3, none⟩) (by dsimp only; omega) (.int .i64 sb)).setAbove (a := ⟨p, 4, none⟩) (by dsimp only; omega) (.int .i64 cp)).setAbove (a := ⟨p, 5, none⟩) (by dsimp only; omega) (.slice no nx.length nc))
    have Q9 := hid ((((((Q8.out.other (a := ⟨p, 0, none⟩) (by dsimp only; omega) (.string s1)).other (a := ⟨p, 1, none⟩) (by dsimp only; omega) (.int .i64 kd)).other (a := ⟨p, 2, none⟩) (by dsimp only; omega) (.int .i64 sa)).other (a := ⟨p, 3, none⟩) (by dsimp only; omega) (.int .i64 sb)).other (a := ⟨p, 4, none⟩) (by dsimp only; omega) (.int .i64 cp)).other (a := ⟨p, 5, none⟩) (by dsimp only; omega) (.slice no nx.length nc))
    have hB9 := ((((((hB8.setCell (p := ⟨p, 0, none⟩) (by dsimp only; omega) (.string s1)).setCell (p := ⟨p, 1, none⟩) (by dsimp only; omega) (.int .i64 kd)).setCell (p := ⟨p, 2, none⟩) (by dsimp only; omega) (.int .i64 sa)).setCell (p := ⟨p, 3, none⟩) (by dsimp only; omega) (.int .i64 sb)).setCell (p := ⟨p, 4, none⟩) (by dsimp only; omega) (.int .i64 cp)).setCell (p := ⟨p, 5, none⟩) (by dsimp only; omega) (.slice no nx.length nc))
    have f9 : ((((((w8.setCell ⟨p, 0, none⟩ (.string s1)).setCell ⟨p, 1, none⟩ (.int .i64 kd)).setCell ⟨p, 2, none⟩ (.int .i64 sa)).setCell ⟨p, 3, none⟩ (.int .i64 sb)).setCell ⟨p, 4, none⟩ (.int .i64 cp)).setCell ⟨p, 5, none⟩ (.slice no nx.length nc)).cell? ⟨g, 1, none⟩ = some (.string s1) := by
      rw [World.cell?_setCell_other _ _ _ _ (by simp <;> omega), World.cell?_setCell_other _ _ _ _ (by simp <;> omega), World.cell?_setCell_other _ _ _ _ (by simp <;> omega), World.cell?_setCell_other _ _ _ _ (by simp <;> omega), World.cell?_setCell_other _ _ _ _ (by simp <;> omega), World.cell?_setCell_other _ _ _ _ (by simp <;> omega)]; exact f8
    obtain ⟨w9, hw9⟩ : ∃ w9, w9 = ((((((w8.setCell ⟨p, 0, none⟩ (.string s1)).setCell ⟨p, 1, none⟩ (.int .i64 kd)).setCell ⟨p, 2, none⟩ (.int .i64 sa)).setCell ⟨p, 3, none⟩ (.int .i64 sb)).setCell ⟨p, 4, none⟩ (.int .i64 cp)).setCell ⟨p, 5, none⟩ (.slice no nx.length nc)) := ⟨_, rfl⟩
    rw [← hw9] at X9 N9 F9 Q9 hB9 f9
    rw [← hw9]
    refine hK.out _ _ (fun _ => ⟨f9, Q9.out.c 0 rfl, Q9.out.c 1 rfl, Q9.out.c 2 rfl⟩) (fun _ => ?_)
    clear hK K
    refine Walks.done (by kernel_rfl) ?_ _
    clear z0 z1 z2 z3 z4 z5 zf0 zf1 zf2 zf3 zf4 zf5 X8 N8 F8 Q8 hB8 f8 Q9 f9 hw9
    cases y1
    · have HZ : Hid (R = zeroN) := by rw [Hid, HR2.out, if_neg (fun h => by cases h.1)]
      have x0 := X9.out.c 0 rfl
      have x1 := X9.out.c 1 rfl
      have x2 := X9.out.c 2 rfl
      have x3 := X9.out.c 3 rfl
      have x4 := X9.out.c 4 rfl
      have x5 := X9.out.c 5 rfl
      have y0 := X9.out.f 0 rfl
      have y1 := X9.out.f 1 rfl
      have y2 := X9.out.f 2 rfl
      have y3 := X9.out.f 3 rfl
      have y4 := X9.out.f 4 rfl
      have y5 := X9.out.f 5 rfl
      go_wp2
      refine bodyPost_ret (v := .tuple #[.agg #[.string ⟨#[]⟩, .int .i64 0, .int .i64 0, .int .i64 0, .int .i64 0, .slice none 0 0], .bool false]) (by simp [results, Tryd.results11, go_sem, x0, x1, x2, x3, x4, x5]) rfl ?_
      rw [HZ.out]
      exact ⟨⟨none, 0, rfl, fun _ => rfl, .inl rfl⟩, ((((((hB9.setCell (p := ⟨w.heap.size, 0, none⟩) (by dsimp only; omega) _).setCell (p := ⟨w.heap.size, 1, none⟩) (by dsimp only; omega) _).setCell (p := ⟨w.heap.size, 2, none⟩) (by dsimp only; omega) _).setCell (p := ⟨w.heap.size, 3, none⟩) (by dsimp only; omega) _).setCell (p := ⟨w.heap.size, 4, none⟩) (by dsimp only; omega) _).setCell (p := ⟨w.heap.size, 5, none⟩) (by dsimp only; omega) _)⟩
    cases y2
    · have HZ : Hid (R = zeroN) := by rw [Hid, HR2.out, if_neg (fun h => by cases h.2.1)]
      have x0 := X9.out.c 0 rfl
      have x1 := X9.out.c 1 rfl
      have x2 := X9.out.c 2 rfl
      have x3 := X9.out.c 3 rfl
      have x4 := X9.out.c 4 rfl
      have x5 := X9.out.c 5 rfl
      have y0 := X9.out.f 0 rfl
      have y1 := X9.out.f 1 rfl
      have y2 := X9.out.f 2 rfl
      have y3 := X9.out.f 3 rfl
      have y4 := X9.out.f 4 rfl
      have y5 := X9.out.f 5 rfl
      go_wp2
      refine bodyPost_ret (v := .tuple #[.agg #[.string ⟨#[]⟩, .int .i64 0, .int .i64 0, .int .i64 0, .int .i64 0, .slice none 0 0], .bool false]) (by simp [results, Tryd.results11, go_sem, x0, x1, x2, x3, x4, x5]) rfl ?_
      rw [HZ.out]
      exact ⟨⟨none, 0, rfl, fun _ => rfl, .inl rfl⟩, ((((((hB9.setCell (p := ⟨w.heap.size, 0, none⟩) (by dsimp only; omega) _).setCell (p := ⟨w.heap.size, 1, none⟩) (by dsimp only; omega) _).setCell (p := ⟨w.heap.size, 2, none⟩) (by dsimp only; omega) _).setCell (p := ⟨w.heap.size, 3, none⟩) (by dsimp only; omega) _).setCell (p := ⟨w.heap.size, 4, none⟩) (by dsimp only; omega) _).setCell (p := ⟨w.heap.size, 5, none⟩) (by dsimp only; omega) _)⟩
    cases y3
    · have HZ : Hid (R = zeroN) := by rw [Hid, HR2.out, if_neg (fun h => by cases h.2.2.1)]
      have x0 := X9.out.c 0 rfl
      have x1 := X9.out.c 1 rfl
      have x2 := X9.out.c 2 rfl
      have x3 := X9.out.c 3 rfl
      have x4 := X9.out.c 4 rfl
      have x5 := X9.out.c 5 rfl
      have y0 := X9.out.f 0 rfl
      have y1 := X9.out.f 1 rfl
      have y2 := X9.out.f 2 rfl
      have y3 := X9.out.f 3 rfl
      have y4 := X9.out.f 4 rfl
      have y5 := X9.out.f 5 rfl
      go_wp2
      refine bodyPost_ret (v := .tuple #[.agg #[.string ⟨#[]⟩, .int .i64 0, .int .i64 0, .int .i64 0, .int .i64 0, .slice none 0 0], .bool false]) (by simp [results, Tryd.results11, go_sem, x0, x1, x2, x3, x4, x5]) rfl ?_
      rw [HZ.out]
      exact ⟨⟨none, 0, rfl, fun _ => rfl, .inl rfl⟩, ((((((hB9.setCell (p := ⟨w.heap.size, 0, none⟩) (by dsimp only; omega) _).setCell (p := ⟨w.heap.size, 1, none⟩) (by dsimp only; omega) _).setCell (p := ⟨w.heap.size, 2, none⟩) (by dsimp only; omega) _).setCell (p := ⟨w.heap.size, 3, none⟩) (by dsimp only; omega) _).setCell (p := ⟨w.heap.size, 4, none⟩) (by dsimp only; omega) _).setCell (p := ⟨w.heap.size, 5, none⟩) (by dsimp only; omega) _)⟩
    have HHT := hid (hasText_is s1 kd sa sb cp no nc nx w9 (by have := HQ.out.2.1; omega) (by omega) F9.out.in)
    have n0 := N9.out.c 0 rfl
    have n1 := N9.out.c 1 rfl
    have n2 := N9.out.c 2 rfl
    have n3 := N9.out.c 3 rfl
    have n4 := N9.out.c 4 rfl
    have n5 := N9.out.c 5 rfl
    go_wp2_with fail
    refine HHT.out.mono ?_
    rintro e w10 ⟨rfl, hb10⟩
    have hB10 := hB9.trans (hb10.mono hB9.size)
    have X10 := hid (X9.out.later hb10)
    have N10 := hid (N9.out.later hb10)
    have F10 := hid (F9.out.later hb10)
    clear hb10 X9 N9 F9 hB9 HHT n0 n1 n2 n3 n4 n5
    cases hh : hasT s1 kd sa sb cp nx
    · have HZ : Hid (R = zeroN) := by rw [Hid, HR2.out, if_neg (fun h => by rw [hh] at h; cases h.2.2.2)]
      have x0 := X10.out.c 0 rfl
      have x1 := X10.out.c 1 rfl
      have x2 := X10.out.c 2 rfl
      have x3 := X10.out.c 3 rfl
      have x4 := X10.out.c 4 rfl
      have x5 := X10.out.c 5 rfl
      have y0 := X10.out.f 0 rfl
      have y1 := X10.out.f 1 rfl
      have y2 := X10.out.f 2 rfl
      have y3 := X10.out.f 3 rfl
      have y4 := X10.out.f 4 rfl
      have y5 := X10.out.f 5 rfl
      go_wp2
      refine bodyPost_ret (v := .tuple #[.agg #[.string ⟨#[]⟩, .int .i64 0, .int .i64 0, .int .i64 0, .int .i64 0, .slice none 0 0], .bool false]) (by simp [results, Tryd.results11, go_sem, x0, x1, x2, x3, x4, x5]) rfl ?_
      rw [HZ.out]
      exact ⟨⟨none, 0, rfl, fun _ => rfl, .inl rfl⟩, ((((((hB10.setCell (p := ⟨w.heap.size, 0, none⟩) (by dsimp only; omega) _).setCell (p := ⟨w.heap.size, 1, none⟩) (by dsimp only; omega) _).setCell (p := ⟨w.heap.size, 2, none⟩) (by dsimp only; omega) _).setCell (p := ⟨w.heap.size, 3, none⟩) (by dsimp only; omega) _).setCell (p := ⟨w.heap.size, 4, none⟩) (by dsimp only; omega) _).setCell (p := ⟨w.heap.size, 5, none⟩) (by dsimp only; omega) _)⟩
    have HY : Hid (R = ((s1, kd, sa, sb, cp, nx), true)) := by rw [Hid, HR2.out, if_pos (by simp [hh])]
    clear hh HR2
    have n0 := N10.out.c 0 rfl
    have n1 := N10.out.c 1 rfl
    have n2 := N10.out.c 2 rfl
    have n3 := N10.out.c 3 rfl
    have n4 := N10.out.c 4 rfl
    have n5 := N10.out.c 5 rfl
    have x0 := X10.out.c 0 rfl
    have x1 := X10.out.c 1 rfl
    have x2 := X10.out.c 2 rfl
    have x3 := X10.out.c 3 rfl
    have x4 := X10.out.c 4 rfl
    have x5 := X10.out.c 5 rfl
    have y0 := X10.out.f 0 rfl
    have y1 := X10.out.f 1 rfl
    have y2 := X10.out.f 2 rfl
    have y3 := X10.out.f 3 rfl
    have y4 := X10.out.f 4 rfl
    have y5 := X10.out.f 5 rfl
    go_wp2
    refine bodyPost_ret (v := .tuple #[.agg #[.string s1, .int .i64 kd, .int .i64 sa, .int .i64 sb, .int .i64 cp, .slice no nx.length nc], .bool true]) (by simp [results, Tryd.results11, go_sem, x0, x1, x2, x3, x4, x5]) rfl ?_
    rw [HY.out]
    refine ⟨⟨no, nc, rfl, hno5, ?_⟩, ((((((hB10.setCell (p := ⟨w.heap.size, 0, none⟩) (by dsimp only; omega) _).setCell (p := ⟨w.heap.size, 1, none⟩) (by dsimp only; omega) _).setCell (p := ⟨w.heap.size, 2, none⟩) (by dsimp only; omega) _).setCell (p := ⟨w.heap.size, 3, none⟩) (by dsimp only; omega) _).setCell (p := ⟨w.heap.size, 4, none⟩) (by dsimp only; omega) _).setCell (p := ⟨w.heap.size, 5, none⟩) (by dsimp only; omega) _)⟩
    exact (((((((F10.out.setBelow (a := ⟨w.heap.size, 0, none⟩) (by dsimp only; omega) _).setBelow (a := ⟨w.heap.size, 1, none⟩) (by dsimp only; omega) _).setBelow (a := ⟨w.heap.size, 2, none⟩) (by dsimp only; omega) _).setBelow (a := ⟨w.heap.size, 3, none⟩) (by dsimp only; omega) _).setBelow (a := ⟨w.heap.size, 4, none⟩) (by dsimp only; omega) _).setBelow (a := ⟨w.heap.size, 5, none⟩) (by dsimp only; omega) _).low (Nat.le_refl _)).wide (by omega) (Nat.le_refl _)
end Go.Proofs.YtekadjjofcicaaaDoor
