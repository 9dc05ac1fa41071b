/- Who is let in: plain facts, and the program. No conditions but those written. -/
import Derived.Test.YtcdkdigafcfgmaaWn
import Derived.Test.YtcdkdigafcfgmaaMd
namespace Go.Proofs.Ytcdkdigafcfgmaa
open Go.RowKit

/-- Those that have room are let in: what is used then, who waits still, who goes. -/
def letR (s1 : Int) : Int → List (Int × Int) → Int × List (Int × Int) × List Int
  | u, [] => (u, [], [])
  | u, (t, m) :: r => if m ≤ s1 - u then ((letR s1 (u + m) r).1, (letR s1 (u + m) r).2.1, t :: (letR s1 (u + m) r).2.2) else (u, (t, m) :: r, [])
theorem letR_yes {s1 u t m : Int} {r : List (Int × Int)} (h : m ≤ s1 - u) : letR s1 u ((t, m) :: r) = ((letR s1 (u + m) r).1, (letR s1 (u + m) r).2.1, t :: (letR s1 (u + m) r).2.2) := by rw [letR, if_pos h]
theorem letR_no {s1 u : Int} {l : List (Int × Int)} (h : firstB s1 u l = false) : letR s1 u l = (u, l, []) := by
  cases l with
  | nil => rfl
  | cons x r =>
    obtain ⟨t, m⟩ := x
    rw [letR, if_neg]
    intro hm
    simp [firstB, el_zero, hm] at h
theorem letR_len (s1 : Int) : ∀ (l : List (Int × Int)) (u : Int), (letR s1 u l).2.1.length ≤ l.length ∧ (letR s1 u l).2.2.length ≤ l.length
  | [], u => by simp [letR]
  | (t, m) :: r, u => by
    rw [letR]
    have := letR_len s1 r (u + m)
    split
    · simp; omega
    · simp
theorem drop_cons {l : List (Int × Int)} {j : Nat} (h : j < l.length) : l.drop j = ((el l j).1, (el l j).2) :: l.drop (j + 1) := by
  rw [el_at h]; exact List.drop_eq_getElem_cons h
/-- When j have been let in. -/
def LetAt (s1 s2 : Int) (l : List (Int × Int)) (j : Nat) (u : Int) : Prop := letR s1 s2 l = ((letR s1 u (l.drop j)).1, (letR s1 u (l.drop j)).2.1, tasksOf (l.take j) ++ (letR s1 u (l.drop j)).2.2)
theorem LetAt.zero (s1 s2 : Int) (l : List (Int × Int)) : LetAt s1 s2 l 0 s2 := by simp [LetAt, tasksOf]
theorem LetAt.step {s1 s2 : Int} {l : List (Int × Int)} {j : Nat} {u : Int} (h : LetAt s1 s2 l j u) (hj : j < l.length) (hm : (el l j).2 ≤ s1 - u) : LetAt s1 s2 l (j + 1) (u + (el l j).2) := by
  unfold LetAt at *
  rw [h, drop_cons hj, letR_yes hm, tasksOf_succ hj]
  simp
theorem LetAt.done {s1 s2 : Int} {l : List (Int × Int)} {j : Nat} {u : Int} (h : LetAt s1 s2 l j u) (hf : firstB s1 u (l.drop j) = false) : letR s1 s2 l = (u, l.drop j, tasksOf (l.take j)) := by
  unfold LetAt at h
  rw [h, letR_no hf]; simp
theorem firstB_drop {s1 u : Int} {l : List (Int × Int)} {j : Nat} (h : firstB s1 u (l.drop j) = true) : j < l.length ∧ (el l j).2 ≤ s1 - u := by
  simp only [firstB, Bool.and_eq_true, decide_eq_true_eq, List.length_drop, el_drop, Nat.add_zero] at h
  exact ⟨by omega, h.2⟩
/-- The elements lie in a row of their own, from lo on, and not at p. -/
def Kind.Ap {α : Type} (K : Kind α) (p lo : Nat) (W : World) (to : Option Addr) (tc : Nat) (xs : List α) : Prop :=
  xs = [] ∨ ∃ g, to = some ⟨g, 0, none⟩ ∧ g ≠ p ∧ W.ownsRow lo K.ty K.sz (.slice (some ⟨g, 0, none⟩) xs.length tc) xs.length (K.flat xs)
section
variable {α β : Type} {K : Kind α} {L : Kind β} {p lo : Nat} {W W' : World} {to : Option Addr} {tc : Nat} {xs : List α}
theorem Kind.Ap.fresh (h : K.Ap p lo W to tc xs) : K.Fresh lo W.heap.size W to tc xs := by
  rcases h with h | ⟨g, e, _, ho⟩
  · exact .inl h
  · exact .inr ⟨g, e, (owns_lt ho).2, ho⟩
theorem Kind.Ap.later (h : K.Ap p lo W to tc xs) (hb : Below W.heap.size W W') : K.Ap p lo W' to tc xs := by
  rcases h with h | ⟨g, e, hg, ho⟩
  · exact .inl h
  · exact .inr ⟨g, e, hg, ownsRow_below ho hb⟩
theorem Kind.Ap.set (h : K.Ap p lo W to tc xs) (o : Nat) (u : Value) : K.Ap p lo (W.setCell ⟨p, o, none⟩ u) to tc xs := by
  rcases h with h | ⟨g, e, hg, ho⟩
  · exact .inl h
  · exact .inr ⟨g, e, hg, owns_block ho (Below.heap_setCell W ⟨p, o, none⟩ u g hg)⟩
theorem Kind.Fresh.apHi {hi : Nat} (h : K.Fresh lo hi W to tc xs) (hp : hi ≤ p) : K.Ap p lo W to tc xs := by
  rcases h with h | ⟨g, e, hg, ho⟩
  · exact .inl h
  · exact .inr ⟨g, e, by omega, ho⟩
theorem Kind.Fresh.apLo {lo' hi : Nat} (h : K.Fresh lo' hi W to tc xs) (hp : p < lo') (hl : lo ≤ lo') : K.Ap p lo W to tc xs := by
  rcases h with h | ⟨g, e, hg, ho⟩
  · exact .inl h
  · have := (owns_lt ho).1
    exact .inr ⟨g, e, by omega, ownsRow_base ho (by omega)⟩
theorem Kind.Ap.grown {lo' : Nat} {v : Value} {ys : List β} (h : K.Ap p lo W to tc xs) (ho : L.Own lo' W v ys) (hne : K.ty ≠ L.ty) (hg : W.grownBy W' v.ownBlock) : K.Ap p lo W' to tc xs := by
  rcases h with h | ⟨g, e, hl, hw⟩
  · exact .inl h
  · obtain ⟨cur, hc⟩ := owns_type hw
    refine .inr ⟨g, e, hl, owns_block hw (hg.block g (owns_lt hw).2 fun e => ?_)⟩
    rcases ho.2 with ⟨e', _⟩ | ⟨g', cap, cur', e', _, hh, _⟩
    · subst e'; cases e
    · subst e'
      simp [Value.ownBlock] at e
      subst e
      rw [hc] at hh; simp at hh; exact hne hh.2
end
/-- The length of the slice in a cell. -/
def lenAt (W : World) (p o : Nat) : Nat := match W.cell? ⟨p, o, none⟩ with | some (.slice _ n _) => n | _ => 0
theorem lenAt_eq {W : World} {p o : Nat} {a : Option Addr} {n c : Nat} (h : W.cell? ⟨p, o, none⟩ = some (.slice a n c)) : lenAt W p o = n := by rw [lenAt, h]
/-- Room, those that go: in memory of their own. -/
def AnsL (w : World) (s1 : Int) (R : Int × List (Int × Int) × List Int) (e : Ending) (w' : World) : Prop :=
  (∃ o c o' c', e = .returned (.tuple #[.agg #[.int .i64 s1, .int .i64 R.1, .slice o R.2.1.length c], .slice o' R.2.2.length c']) ∧ kN.Fresh w.heap.size w'.heap.size w' o c R.2.1 ∧ kI.Fresh w.heap.size w'.heap.size w' o' c' R.2.2) ∧ Below w.heap.size w w'

set_option maxRecDepth 10000 in
set_option maxHeartbeats 8000000 in
theorem letIn_any (s1 s2 : Int) (ao : Option Addr) (cap : Nat) (l : List (Int × Int)) (w : World) (hl : l.length ≤ 30) (h1 : 1 ≤ s1 ∧ s1 ≤ 1000) (h2 : 0 ≤ s2 ∧ s2 ≤ s1) (hm : ∀ j, j < l.length → manyB s1 (el l j) = true) (hz : kN.In w.heap.size w ao l) :
    Calls Try.prog 82 #[.agg #[.int .i64 s1, .int .i64 s2, .slice ao l.length cap]] w fun e w' => AnsL w s1 (letR s1 s2 l) e w' := by
  have HM := hid hm
  clear hm
  obtain ⟨W2, hW2⟩ : ∃ W2, W2 = (w.alloc (.cells #[.int .i64 s1, .int .i64 s2, .slice ao l.length cap] 46)).alloc (.cells #[.int .i64 0, .int .i64 0, .slice none 0 0] 46) := ⟨_, rfl⟩
  have hB2 : Below w.heap.size w W2 := by rw [hW2]; exact below2 _ _ _
  have R2 : Bx W2 (w.heap.size + 1) [.int .i64 0, .int .i64 0, .slice none 0 0] := by rw [hW2]; exact Bx.new [.int .i64 0, .int .i64 0, .slice none 0 0] _ (by simp)
  have HW := hid hW2
  have HS : Hid (W2.heap.size = w.heap.size + 1 + 1) := by rw [hW2]; simp [Hid]
  clear hW2
  go_enter Try.func82, Try.ntmps82
  go_wp2_with fail
  rw [← HW.out]
  refine (copyRoom_any s1 s2 ao cap l W2 (by omega) (hz.later hB2)).mono ?_
  rintro e w1 ⟨⟨go1, rfl, hF1⟩, hb1⟩
  have hs1 : w.heap.size + 1 + 1 ≤ w1.heap.size := by have := hb1.size; rw [HS.out] at this; exact this
  have hB1 := hB2.trans (hb1.mono hB2.size)
  have hn := below1 w1 (.cells #[.int .i64 s1, .int .i64 s2, .slice go1 l.length l.length] 46)
  have X0 : Hid (Bx (w1.alloc (.cells #[.int .i64 s1, .int .i64 s2, .slice go1 l.length l.length] 46)) w1.heap.size [.int .i64 s1, .int .i64 s2, .slice go1 l.length l.length]) := Bx.new _ _ rfl
  have R1 := hid ((R2.later hb1).later hn)
  have F1 : Hid (kN.Ap w1.heap.size (w.heap.size + 1 + 1) (w1.alloc (.cells #[.int .i64 s1, .int .i64 s2, .slice go1 l.length l.length] 46)) go1 l.length l) := by
    rw [HS.out] at hF1; exact (hF1.apHi (Nat.le_refl _)).later hn
  have hB1' := Below.allocS hB1 (.cells #[.int .i64 s1, .int .i64 s2, .slice go1 l.length l.length] 46)
  clear hb1 hF1 hn R2 HW
  go_wp2
  go_loopw [5] (fun z wr => ∃ (j : Nat) (u : Int) (v : Value) (qo : Option Addr) (qc : Nat) (D : List (Int × Int)), v = z ∧ Hid (D = l.drop j) ∧ j ≤ l.length ∧ (0 ≤ u ∧ u ≤ s1) ∧ Hid (LetAt s1 s2 l j u) ∧ Hid (Bx wr w1.heap.size [.int .i64 s1, .int .i64 u, .slice qo D.length qc]) ∧ Hid (Bx wr (w.heap.size + 1) [.int .i64 0, .int .i64 0, .slice none 0 0]) ∧ Hid (kN.Ap w1.heap.size (w.heap.size + 1 + 1) wr qo qc D) ∧ Hid (kI.Own (w1.heap.size + 1) wr v (tasksOf (l.take j))) ∧ Below w.heap.size w wr ∧ w1.heap.size + 1 ≤ wr.heap.size) (fun _ wr => lenAt wr w1.heap.size 2)
  case atStart => exact ⟨0, s2, _, go1, l.length, l, rfl, rfl, Nat.zero_le _, h2, LetAt.zero _ _ _, X0, R1, F1, Kind.Own.nil kI _ _, hB1', by simp⟩
  case round =>
    obtain ⟨j, u, v, qo, qc, D, rfl, HD0, hj, hu, hL, hX, hR, hF, hO, hB, hsz⟩ := hrel
    have x0 := hX.out.c 0 rfl
    have x1 := hX.out.c 1 rfl
    have x2 := hX.out.c 2 rfl
    have HX2 := hid x2
    have hdl : D.length ≤ 1048576 := by rw [HD0.out]; simp; omega
    cases hfb : firstB s1 u D
    · have HFB := hid hfb
      have HD := hid (hL.out.done (by rw [← HD0.out]; exact hfb))
      rw [← HD0.out] at HD
      clear hfb
      go_wp2_with fail
      refine (firstHas_is s1 u qo qc D wr false hdl ⟨by omega, by omega⟩ ⟨by omega, by omega⟩ hF.out.fresh.in HFB.out).mono ?_
      rintro e w2 ⟨rfl, hb2⟩
      have hB3 := hB.trans (hb2.mono hB.size)
      have X3 := hX.out.later hb2
      have R3 := hR.out.later hb2
      have F3 := hid (hF.out.later hb2).fresh
      obtain ⟨no, nc, rfl, _, hN⟩ := hO.out.fresh
      have N3 := hid ((hN.later hb2).wide (Nat.le_refl _) hb2.size)
      clear hb2 hN x0 x1 x2
      have x0 := X3.c 0 rfl
      have x1 := X3.c 1 rfl
      have x2 := X3.c 2 rfl
      have r0 := R3.c 0 rfl
      have r1 := R3.c 1 rfl
      have r2 := R3.c 2 rfl
      have rf0 := R3.f 0 rfl
      have rf1 := R3.f 1 rfl
      have rf2 := R3.f 2 rfl
      go_wp2
      refine bodyPost_ret (v := .tuple #[.agg #[.int .i64 s1, .int .i64 u, .slice qo D.length qc], .slice no (tasksOf (l.take j)).length nc]) (by simp [results, Try.results82, go_sem, r0, r1, r2]) rfl ?_
      rw [HD.out]
      exact ⟨⟨qo, qc, no, nc, rfl, (((F3.out.setBelow (a := ⟨w.heap.size + 1, 0, none⟩) (by simp) _).setBelow (a := ⟨w.heap.size + 1, 1, none⟩) (by simp) _).setBelow (a := ⟨w.heap.size + 1, 2, none⟩) (by simp) _).wide (by omega) (by simp), (((N3.out.setBelow (a := ⟨w.heap.size + 1, 0, none⟩) (by simp; omega) _).setBelow (a := ⟨w.heap.size + 1, 1, none⟩) (by simp; omega) _).setBelow (a := ⟨w.heap.size + 1, 2, none⟩) (by simp; omega) _).wide (by omega) (by simp)⟩, ((hB3.setCell (p := ⟨w.heap.size + 1, 0, none⟩) (by simp) _).setCell (p := ⟨w.heap.size + 1, 1, none⟩) (by simp) _).setCell (p := ⟨w.heap.size + 1, 2, none⟩) (by simp) _⟩
    · have HFB := hid hfb
      obtain ⟨hjl, hml⟩ := firstB_drop (by rw [← HD0.out]; exact hfb)
      have HST := hid (hL.out.step hjl hml)
      have hmb := HM.out j hjl
      have hpos : 0 < D.length := by rw [HD0.out]; simp; omega
      obtain ⟨z1, z2⟩ := len1 (l := D) (by omega)
      obtain ⟨⟨y1, y2⟩, ey⟩ : ∃ v, v = el l j := ⟨_, rfl⟩
      rw [← ey] at HST hmb hml
      have HY : Hid (el l j = (y1, y2)) := ey.symm
      have hy2 : 1 ≤ y2 ∧ y2 ≤ 1000 := by simp [manyB] at hmb; omega
      dsimp only at hml
      clear hfb hmb ey
      go_wp2_with fail
      refine (firstHas_is s1 u qo qc D wr true hdl ⟨by omega, by omega⟩ ⟨by omega, by omega⟩ hF.out.fresh.in HFB.out).mono ?_
      rintro e w2 ⟨rfl, hb2⟩
      have hB3 := hB.trans (hb2.mono hB.size)
      have hs2 := hb2.size
      have X3 := hX.out.later hb2
      have R3 := hR.out.later hb2
      have F3 := hid (hF.out.later hb2)
      have O3 := hid (hO.out.below hb2)
      clear hb2 x0 x1 x2 hF hO hX hR
      obtain ⟨g, eg, hg1, hg2, hg3, _⟩ := F3.out.fresh.at hpos
      subst eg
      have HED : Hid (el D 0 = (y1, y2)) := by rw [Hid, HD0.out, el_drop, Nat.add_zero]; exact HY.out
      have d1 : w2.cell? ⟨g, 0, none⟩ = some (.int .i64 y1) := by
        obtain ⟨b, off, e, _, hc⟩ := kN_at F3.out.fresh.in hpos
        cases e
        have := (hc 0 hpos).1
        rw [HED.out] at this
        simpa using this
      have d2 : w2.cell? ⟨g, 1, none⟩ = some (.int .i64 y2) := by
        obtain ⟨b, off, e, _, hc⟩ := kN_at F3.out.fresh.in hpos
        cases e
        have := (hc 0 hpos).2
        rw [HED.out] at this
        simpa using this
      have x0 := X3.c 0 rfl
      have x1 := X3.c 1 rfl
      have x2 := X3.c 2 rfl
      have xf1 := X3.f 1 rfl
      have hpx := X3.size
      -- the first one's box, and what is used
      obtain ⟨V, hV⟩ : ∃ V, V = (w2.setCell ⟨w1.heap.size, 1, none⟩ (.int .i64 (u + y2))).alloc (.cells #[.int .i64 y1, .int .i64 y2] 54) := ⟨_, rfl⟩
      have HV := hid hV
      have hsV : V.heap.size = w2.heap.size + 1 := by rw [hV]; simp
      have hnV : Below (w2.setCell ⟨w1.heap.size, 1, none⟩ (.int .i64 (u + y2))).heap.size (w2.setCell ⟨w1.heap.size, 1, none⟩ (.int .i64 (u + y2))) V := by rw [hV]; exact below1 _ _
      have X4 := hid ((X3.set 1 (.int .i64 (u + y2))).later hnV)
      have R4 := hid ((R3.other (a := ⟨w1.heap.size, 1, none⟩) (by simp; omega) (.int .i64 (u + y2))).later hnV)
      have F4 := hid ((F3.out.set 1 (.int .i64 (u + y2))).later hnV)
      have O4 := hid ((O3.out.setBelow (a := ⟨w1.heap.size, 1, none⟩) (by simp) (.int .i64 (u + y2))).below hnV)
      have I4 : Hid (Bx V w2.heap.size [.int .i64 y1, .int .i64 y2]) := by rw [hV]; exact Bx.new _ _ (by simp)
      have hB4 : Below w.heap.size w V := by rw [hV]; exact Below.allocS (hB3.setCell (p := ⟨w1.heap.size, 1, none⟩) (by simp; omega) _) _
      have HSV := hid hsV
      clear hV hnV hsV F3 O3 X3 R3
      go_wp2_with fail
      rw [← HV.out]
      refine (queueOfN_any (some ⟨g, 0, none⟩) qc D V hdl F4.out.fresh.in).mono ?_
      rintro e w3 ⟨⟨go2, rfl, hF5⟩, hb5⟩
      have F5 := hid hF5
      have X5 := hid (X4.out.later hb5)
      have R5 := hid (R4.out.later hb5)
      have O5 := hid (O4.out.below hb5)
      have I5 := hid (I4.out.later hb5)
      have hB5 := hB4.trans (hb5.mono hB4.size)
      have hs5 : w2.heap.size + 1 ≤ w3.heap.size := by have := hb5.size; rw [HSV.out] at this; exact this
      clear hF5 hb5 X4 R4 F4 O4 I4 x0 x1 x2 xf1 d1 d2
      go_wp2_with fail
      obtain ⟨D', hD'⟩ : ∃ D', D' = l.drop (j + 1) := ⟨_, rfl⟩
      have HD' := hid hD'
      have HKE : Hid (D' = keepE D 0 (List.range D.length)) := by
        have := keepE_range D 0 hpos
        rw [show ((0 : Nat) : Int) = 0 from rfl] at this
        rw [Hid, this, hD', HD0.out]; simp
      clear hD'
      refine (withoutN_any go2 D.length D 0 w3 hdl F5.out.in D' HKE.out).mono ?_
      rintro e w4 ⟨⟨go3, qc3, rfl, hF6⟩, hb6⟩
      have F6 := hid (hF6.apLo (p := w1.heap.size) (lo := w.heap.size + 1 + 1) (by omega) (by omega))
      have X6 := X5.out.later hb6
      have R6 := R5.out.later hb6
      have O6 := hid (O5.out.below hb6)
      have I6 := I5.out.later hb6
      have hB6 := hB5.trans (hb6.mono hB5.size)
      have hs6 := hb6.size
      clear hF6 hb6 X5 R5 F5 O5 I5
      dsimp only [List.set] at X6
      have hfl : ∀ (a : Option Addr) (n c : Nat) (W : World), (Instr.field 95 (.agg #[.slice a n c]) 0).run Try.prog W = .ok (.slice a n c) W := run_field95
      have x0 := X6.c 0 rfl
      have x1 := X6.c 1 rfl
      have x2 := X6.c 2 rfl
      have xf2 := X6.f 2 rfl
      have i0 := I6.c 0 rfl
      have hi6 := I6.size
      -- those that wait still
      obtain ⟨U, hU⟩ : ∃ U, U = w4.setCell ⟨w1.heap.size, 2, none⟩ (.slice go3 D'.length qc3) := ⟨_, rfl⟩
      have HU := hid hU
      have hsU : U.heap.size = w4.heap.size := by rw [hU]; simp
      have X7 : Bx U w1.heap.size [.int .i64 s1, .int .i64 (u + y2), .slice go3 D'.length qc3] := by rw [hU]; exact X6.set 2 _
      have R7 : Bx U (w.heap.size + 1) [.int .i64 0, .int .i64 0, .slice none 0 0] := by rw [hU]; exact R6.other (by simp; omega) _
      have F7 : Hid (kN.Ap w1.heap.size (w.heap.size + 1 + 1) U go3 qc3 D') := by rw [hU]; exact F6.out.set 2 _
      have O7 : Hid (kI.Own (w1.heap.size + 1) U v (tasksOf (l.take j))) := by rw [hU]; exact O6.out.setBelow (by simp) _
      have hB7 : Below w.heap.size w U := by rw [hU]; exact hB6.setCell (p := ⟨w1.heap.size, 2, none⟩) (by simp; omega) _
      have hn8 := below1 U (.cells #[.int .i64 y1] 3)
      have X8 := hid (X7.later hn8)
      have R8 := hid (R7.later hn8)
      have F8 := hid (F7.out.later hn8)
      have HA : Hid (kI.Own (w1.heap.size + 1) (U.alloc (.cells #[.int .i64 y1] 3)) v (tasksOf (l.take j))) := O7.out.below hn8
      have HN : Hid (kI.In (w4.heap.size + 1) (U.alloc (.cells #[.int .i64 y1] 3)) (some ⟨w4.heap.size, 0, none⟩) [y1]) := by rw [Hid, ← hsU]; exact int_one (by omega) (by simp)
      have hll : (tasksOf (l.take j)).length + 1 ≤ 4194304 := by rw [tasksOf_len]; simp; omega
      have hB8 := Below.allocS hB7 (.cells #[.int .i64 y1] 3)
      have HSU := hid hsU
      clear hU hsU hn8 X7 R7 F7 O7 X6 R6 F6 O6
      go_wp2_with (at_builtin; rw [← HU.out]; refine Kind.app kI_ok (U.alloc (.cells #[.int .i64 y1] 3)) rfl (.tmp 27) (.tmp 30) rfl (w1.heap.size + 1) v (tasksOf (l.take j)) rfl HA.out (by have := HSU.out; simp; omega) (some ⟨w4.heap.size, 0, none⟩) [y1] 1 1 rfl rfl (by simp) _ HN.out hll ?_; intro v' w' hO' hB' hG' hn'; have hB9 : Below w.heap.size w w' := hB8.trans (hB'.mono (by omega)); have hs9 : w4.heap.size + 1 ≤ w'.heap.size := (by have := hB'.size; have := HSU.out; simp at *; omega); have X9 := hid (X8.out.below hB' (by omega)); have R9 := hid (R8.out.below hB' (by omega)); have F9 := hid (F8.out.grown HA.out (by decide) hG'); have O9 : Hid (kI.Own (w1.heap.size + 1) w' v' (tasksOf (l.take (j + 1)))) := (by rw [Hid, tasksOf_succ hjl, HY.out]; exact hO'); clear hO' hB' hG' hn')
      go_roundw
      case rel => exact ⟨j + 1, u + y2, v', go3, qc3, D', rfl, HD', by omega, ⟨by omega, by omega⟩, HST, X9, R9, F9, O9, hB9, by omega⟩
      case measure =>
        rw [lenAt_eq (X9.out.c 2 rfl), lenAt_eq HX2.out]
        rw [HD'.out, HD0.out]; simp; omega
end Go.Proofs.Ytcdkdigafcfgmaa
