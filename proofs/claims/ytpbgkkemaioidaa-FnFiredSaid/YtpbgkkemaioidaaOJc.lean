
/- AdvanceTo: the program's answer. No conditions but those written. -/
import Derived.Test.YtpbgkkemaioidaaOJa
import Derived.Test.YtpbgkkemaioidaaOJb
namespace Go.Proofs.Ytpbgkkemaioidaa.Old
open Go.RowKit

/-- v is a row of its own, from lo on, that holds the ints zs. -/
def OwnZ (lo : Nat) (W : World) (v : Value) (zs : List Int) : Prop := W.ownsRow lo 3 1 v zs.length (zs.map (Value.int .i64))
theorem OwnZ.nil (lo : Nat) (W : World) : OwnZ lo W (.slice none 0 0) [] := World.ownsRow_nil _ _ _ _
theorem OwnZ.fresh {lo : Nat} {W : World} {v : Value} {F : List Int} (h : OwnZ lo W v F) : ∃ go qc, v = .slice go F.length qc ∧ FreshI lo W.heap.size W go qc F := by
  rcases h.2 with ⟨e, h0⟩ | ⟨g, cap, cur, e, _⟩
  · have : F = [] := List.length_eq_zero_iff.1 h0
    subst this
    exact ⟨none, 0, e, .inl rfl⟩
  · refine ⟨some ⟨g, 0, none⟩, cap, e, .inr ⟨g, rfl, ?_, ?_⟩⟩
    · unfold OwnZ at h; rw [e] at h; exact (owns_lt h).2
    · unfold OwnZ at h; rw [e] at h; exact h
theorem OwnZ.low {lo : Nat} {W : World} {v : Value} {xs : List Int} (h : OwnZ lo W v xs) : ∀ k, v.ownBlock = some k → lo ≤ k := by
  rcases h.2 with ⟨e, _⟩ | ⟨g, cap, cur, e, hb, hh, _⟩
  · subst e; intro k h; simp [Value.ownBlock] at h
  · subst e; intro k h; simp [Value.ownBlock] at h; omega
theorem OwnZ.below {lo : Nat} {W W' : World} {v : Value} {xs : List Int} (h : OwnZ lo W v xs) (hb : Below W.heap.size W W') : OwnZ lo W' v xs := ownsRow_below h hb
theorem OwnZ.belowG {lo : Nat} {W W' : World} {v : Value} {xs : List Int} (h : OwnZ lo W v xs) (hg : W.grownBy W' v.ownBlock) (hlo : lo ≤ W.heap.size) : Below lo W W' :=
  ⟨hg.os, hg.tape, hg.output, hg.size, fun k hk => hg.block k (by omega) (fun e => by have := h.low k e.symm; omega)⟩
theorem wpList_pushZ {ops : Array Oper} {rest : List Oper} {o : Oper} {a : Act} {Q : Exit → Act → World → Prop} (W : World) (hg : o.guard = none) (s x : Operand) (hop : o.op = Op.call { callee := Callee.builtin Builtin.append, args := #[s, x], argTypes := #[28, 28] })
    (lo : Nat) (v : Value) (xs : List Int) (hs : a.eval s = v) (hown : OwnZ lo W v xs) (hlo : lo ≤ W.heap.size) (hl : xs.length ≤ 1048576)
    (b : Nat) (z : Int) (c : Nat) (hx : a.eval x = .slice (some ⟨b, 0, none⟩) 1 c) (hc : W.cell? ⟨b, 0, none⟩ = some (.int .i64 z))
    (hK : ∀ v' w', OwnZ lo w' v' (xs ++ [z]) → Below lo W w' → wpList Try.prog ops Q rest (a.put o.dst v') w') :
    wpList Try.prog ops Q (o :: rest) a W := by
  obtain ⟨i0, hin, hz0, hz1, hz2⟩ := info_parts Try.info3
  have hcz : ∀ j u, ([Value.int .i64 z] : List Value)[j]? = some u → W.cell? ((⟨b, 0, none⟩ : Addr).add j) = some u := by
    intro j u h
    match j, h with
    | 0, h => simp at h; subst h; simpa [Addr.add] using hc
  have hone : ∀ u ∈ ([Value.int .i64 z] : List Value), u.oneCell' = true := by intro u hu; simp at hu; subst hu; rfl
  refine wpList_append_own W hg s x 28 hop lo 3 i0 (.int .i64 0) 1 8 Try.underlying28 hin hz0 hz1 hz2 rfl (by decide) v xs.length (xs.map (Value.int .i64)) hs hown ⟨b, 0, none⟩ 1 c [.int .i64 z] hx rfl hcz hone (by unfold maxLen; omega) (by omega) hlo ?_
  intro v' w' ho hgr _
  refine hK v' w' ?_ (hown.belowG hgr hlo)
  unfold OwnZ
  rw [List.map_append, List.length_append]; exact ho
theorem ids_snoc (D : List T3) (j : Nat) (h : j < D.length) : idsT (D.take (j + 1)) = idsT (D.take j) ++ [(t3 D j).1] := by
  have e : D.take (j + 1) = D.take j ++ [D[j]] := List.take_succ_eq_append_getElem h
  have e2 : t3 D j = D[j] := by simp [t3, h]
  rw [e, e2]
  unfold idsT
  rw [List.map_append]
  rfl
theorem ids_len (D : List T3) (j : Nat) (h : j ≤ D.length) : (idsT (D.take j)).length = j := by simp [idsT]; omega

/-- A clock, ints and a code, each in its own memory. -/
def AnsA (w : World) (R : Int × Int × List T3 × List Int × Int) (e : Ending) (w' : World) : Prop :=
  (∃ to tc qo qc, e = .returned (.tuple #[.agg #[.int .i64 R.1, .int .i64 R.2.1, .slice to R.2.2.1.length tc], .slice qo R.2.2.2.1.length qc, .int .i64 R.2.2.2.2]) ∧ FreshC w.heap.size w'.heap.size w' to tc R.2.2.1 ∧ FreshI w.heap.size w'.heap.size w' qo qc R.2.2.2.1) ∧ Below w.heap.size w w'
theorem FreshI.setBelow {lo hi : Nat} {W : World} {qo : Option Addr} {qc : Nat} {q : List Int} (h : FreshI lo hi W qo qc q) {a : Addr} (ha : a.block < lo) (u : Value) : FreshI lo hi (W.setCell a u) qo qc q := h.keep fun k hk _ _ => Below.heap_setCell W a u k (by omega)
theorem ansA_of {w W : World} {to : Option Addr} {tc : Nat} {ts : List T3} {qo : Option Addr} {qc : Nat} {q : List Int} {now sq c : Int} (hB : Below w.heap.size w W) (hF : FreshC (w.heap.size + 1 + 1) W.heap.size W to tc ts) (hI : FreshI (w.heap.size + 1 + 1) W.heap.size W qo qc q) (u0 u1 u2 : Value) :
    AnsA w (now, sq, ts, q, c) (.returned (.tuple #[.agg #[.int .i64 now, .int .i64 sq, .slice to ts.length tc], .slice qo q.length qc, .int .i64 c])) (((W.setCell ⟨w.heap.size + 1, 0, none⟩ u0).setCell ⟨w.heap.size + 1, 1, none⟩ u1).setCell ⟨w.heap.size + 1, 2, none⟩ u2) := by
  refine ⟨⟨to, tc, qo, qc, rfl, ?_, ?_⟩, ?_⟩
  · exact (((hF.setBelow (a := ⟨w.heap.size + 1, 0, none⟩) (by simp) _).setBelow (a := ⟨w.heap.size + 1, 1, none⟩) (by simp) _).setBelow (a := ⟨w.heap.size + 1, 2, none⟩) (by simp) _).wide (by omega) (by simp)
  · exact (((hI.setBelow (a := ⟨w.heap.size + 1, 0, none⟩) (by simp) _).setBelow (a := ⟨w.heap.size + 1, 1, none⟩) (by simp) _).setBelow (a := ⟨w.heap.size + 1, 2, none⟩) (by simp) _).wide (by omega) (by simp)
  · exact ((hB.setCell (p := ⟨w.heap.size + 1, 0, none⟩) (by simp) _).setCell (p := ⟨w.heap.size + 1, 1, none⟩) (by simp) _).setCell (p := ⟨w.heap.size + 1, 2, none⟩) (by simp) _

set_option maxRecDepth 100000 in
set_option maxHeartbeats 4000000 in
theorem implAdv_any (now sq : Int) (ao : Option Addr) (cap : Nat) (ts : List T3) (time : Int) (w : World) (hl : ts.length ≤ 1048576) (hcap : ts.length ≤ cap) (hz : TimersIn w.heap.size w ao ts) :
    Calls Try.prog 5 #[.agg #[.int .i64 now, .int .i64 sq, .slice ao ts.length cap], .int .i64 time] w fun e w' => AnsA w (advR now sq ts time) e w' := by
  generalize hR : advR now sq ts time = R
  have HR : Hid (advR now sq ts time = R) := hR
  clear hR
  go_enter Try.func5, Try.ntmps5
  go_wp2_with fail
  refine (implGood_any now sq ao cap ts _ hl hcap (hz.later (below2 _ _ _))).mono ?_
  rintro e w1 ⟨rfl, hb1⟩
  have hB1 := (below2 w (.cells #[.int .i64 now, .int .i64 sq, .slice ao ts.length cap] 25) (.cells #[.int .i64 0, .int .i64 0, .slice none 0 0] 25)).trans (hb1.mono (by simp; omega))
  have X1 := (Boxes.new w now sq (.slice ao ts.length cap)).later hb1
  obtain ⟨b0, b1, b2, bf0, bf1, bf2, r0, r1, r2, f0, f1, f2, l1⟩ := id X1
  clear hb1
  cases hg : goodB now sq ts
  · have HR2 : Hid (R = (0, 0, [], [], 1)) := by rw [Hid, ← HR.out, advR, hg]; rfl
    clear hg HR
    go_wp2
    refine bodyPost_ret (v := .tuple #[.agg #[.int .i64 0, .int .i64 0, .slice none 0 0], .slice none 0 0, .int .i64 1]) (by simp [results, Try.results5, go_sem, r0, r1, r2]) rfl ?_
    rw [HR2.out]
    exact ansA_of (ts := []) (q := []) hB1 (.inl rfl) (.inl rfl) _ _ _
  · have hn30 : ts.length ≤ 30 := (good_parts hg).2.2.2.1
    have HS : Hid (SortedT ts) := (good_sort hg).1
    have HG : Hid (goodB now sq ts = true) := hg
    clear hg
    by_cases ht : time < now
    · have HR2 : Hid (R = (now, sq, ts, [], 5)) := by rw [Hid, ← HR.out, advR, HG.out, if_pos rfl, if_pos ht]
      clear HR
      go_wp2_with fail
      refine (copyClock_any now sq ao cap ts w1 hl (hz.later hB1)).mono ?_
      rintro e w3 ⟨⟨to, tc, rfl, hF⟩, hb3⟩
      have hB3 := hB1.trans (hb3.mono hB1.size)
      obtain ⟨d0, d1, d2, df0, df1, df2, p0, p1, p2, q0, q1, q2, l3⟩ := X1.later hb3
      have HF : Hid (FreshC (w.heap.size + 1 + 1) w3.heap.size w3 to tc ts) := hF.wide (by omega) (Nat.le_refl _)
      clear hF hb3 X1 b0 b1 b2 bf0 bf1 bf2 r0 r1 r2 f0 f1 f2 l1
      go_wp2
      refine bodyPost_ret (v := .tuple #[.agg #[.int .i64 now, .int .i64 sq, .slice to ts.length tc], .slice none 0 0, .int .i64 5]) (by simp [results, Try.results5, go_sem, p0, p1, p2]) rfl ?_
      rw [HR2.out]
      exact ansA_of (q := []) hB3 HF.out (.inl rfl) _ _ _
    · have ht' : decide (time < now) = false := by simpa using ht
      obtain ⟨D, hD⟩ : ∃ D, D = ts.take (insK ts time) := ⟨_, rfl⟩
      obtain ⟨E, hE⟩ : ∃ E, E = ts.drop (insK ts time) := ⟨_, rfl⟩
      have HR2 : Hid (R = (time, sq, E, idsT D, 0)) := by rw [Hid, ← HR.out, advR, HG.out, if_pos rfl, if_neg ht, hD, hE]
      have HD : Hid (dueL ts time (List.range ts.length) = D ∧ latL ts time (List.range ts.length) = E) := by rw [hD, hE]; exact due_take HS.out time
      have hDl : D.length ≤ 30 := by rw [hD]; simp; omega
      clear HR ht hD hE
      go_wp2_with fail
      refine (split_any now sq ao cap ts time (List.range ts.length) w1 (by omega) (hz.later hB1) (List.Perm.refl _) (range_sorted HS.out)).mono ?_
      rintro e w3 ⟨⟨vd, vl, rfl, hOd, hOl⟩, hb3⟩
      rw [HD.out.1] at hOd
      rw [HD.out.2] at hOl
      obtain ⟨to, tc, rfl, hFd, _⟩ := hOd.fresh
      obtain ⟨lo', lc, rfl, hFl, _⟩ := hOl.fresh
      have hB3 := hB1.trans (hb3.mono hB1.size)
      have X3 := X1.later hb3
      have l3 := X3.lt
      have HF : Hid (TimersIn w3.heap.size w3 to D ∧ FreshC (w.heap.size + 1 + 1) w3.heap.size w3 lo' lc E) := ⟨hFd.timers, hFl.wide (by omega) (Nat.le_refl _)⟩
      clear hOd hOl hFd hFl hb3 X1 b0 b1 b2 bf0 bf1 bf2 r0 r1 r2 f0 f1 f2 l1
      go_wp2
      go_loopw [9, 30] (fun z i wr => ∃ (j : Nat) (vz : Value), i = .int .i64 (j : Int) ∧ vz = z ∧ j ≤ D.length ∧ Hid (OwnZ w3.heap.size wr vz (idsT (D.take j))) ∧ Below w3.heap.size w3 wr) (fun _ i _ => D.length - (intOf i).toNat)
      case atStart => exact ⟨0, .slice none 0 0, rfl, rfl, Nat.zero_le _, OwnZ.nil _ _, Below.refl _ _⟩
      case round =>
        obtain ⟨j, vz, rfl, rfl, hj, hO, hB⟩ := hrel
        have hsB := hB.size
        by_cases hlt : j < D.length
        · obtain ⟨b, off, rfl, hb, hc⟩ := HF.out.1.pos hlt
          obtain ⟨c1, c2, c3⟩ := hc j hlt
          have d1 := (hB.cell (p := ⟨b, off + j * 3, none⟩) hb).trans c1
          have d2 := (hB.cell (p := ⟨b, off + j * 3 + 1, none⟩) hb).trans c2
          have d3 := (hB.cell (p := ⟨b, off + j * 3 + 2, none⟩) hb).trans c3
          have hsn := ids_snoc D j hlt
          have hil := ids_len D j hj
          obtain ⟨⟨x1, x2, x3⟩, ex⟩ : ∃ x, x = t3 D j := ⟨_, rfl⟩
          rw [← ex] at d1 d2 d3 hsn
          have HSN : Hid (idsT (D.take (j + 1)) = idsT (D.take j) ++ [x1]) := hsn
          have hil' : (idsT (D.take j)).length ≤ 1048576 := by omega
          clear ex c1 c2 c3 hc hsn hil
          dsimp only at d1 d2 d3
          have hji : (j : Int) < (D.length : Int) := by omega
          have hcw : ((wr.alloc (.cells #[.int .i64 x1, .int .i64 x2, .int .i64 x3] 49)).alloc (.cells #[.int .i64 x1] 3)).cell? ⟨wr.heap.size + 1, 0, none⟩ = some (.int .i64 x1) := by simp
          have HOA : Hid (OwnZ w3.heap.size ((wr.alloc (.cells #[.int .i64 x1, .int .i64 x2, .int .i64 x3] 49)).alloc (.cells #[.int .i64 x1] 3)) vz (idsT (D.take j))) := hO.out.below (below2 _ _ _)
          go_wp2_with (at_builtin; refine wpList_pushZ ((wr.alloc (.cells #[.int .i64 x1, .int .i64 x2, .int .i64 x3] 49)).alloc (.cells #[.int .i64 x1] 3)) rfl (.tmp 34) (.tmp 37) rfl w3.heap.size vz (idsT (D.take j)) rfl HOA.out (by simp; omega) hil' (wr.heap.size + 1) x1 1 rfl hcw ?_; intro v5 w5 hO5 hB5; have HO5 : Hid (OwnZ w3.heap.size w5 v5 (idsT (D.take (j + 1))) ∧ Below w3.heap.size w3 w5) := ⟨(by rw [HSN.out]; exact hO5), hB.trans (((below2 wr _ _).mono hsB).trans hB5)⟩; clear hO5 hB5)
          go_roundw
          case rel => exact ⟨j + 1, v5, by go_num, rfl, by omega, HO5.out.1, HO5.out.2⟩
          case measure => simp [intOf]; omega
        · obtain rfl : j = D.length := by omega
          obtain ⟨qo, qc, rfl, hFq⟩ := hO.out.fresh
          rw [List.take_length] at hFq
          obtain ⟨p0, p1, p2, pf0, pf1, pf2, u0, u1, u2, v0, v1, v2, l5⟩ := X3.later hB
          have hBr := hB3.trans (hB.mono hB3.size)
          have HFF : Hid (FreshC (w.heap.size + 1 + 1) wr.heap.size wr lo' lc E ∧ FreshI (w.heap.size + 1 + 1) wr.heap.size wr qo qc (idsT D)) := ⟨(HF.out.2.later hB).wide (Nat.le_refl _) hsB, hFq.wide (by omega) (Nat.le_refl _)⟩
          have HLN : Hid ((idsT (D.take D.length)).length = (idsT D).length) := by rw [List.take_length]; rfl
          rw [HLN.out]
          clear hFq
          generalize hIL : idsT D = I at *
          clear hIL
          go_wp2
          refine bodyPost_ret (v := .tuple #[.agg #[.int .i64 time, .int .i64 sq, .slice lo' E.length lc], .slice qo I.length qc, .int .i64 0]) (by simp [results, Try.results5, go_sem, u0, u1, u2]) rfl ?_
          rw [HR2.out]
          exact ansA_of hBr HFF.out.1 HFF.out.2 _ _ _
end Go.Proofs.Ytpbgkkemaioidaa.Old
