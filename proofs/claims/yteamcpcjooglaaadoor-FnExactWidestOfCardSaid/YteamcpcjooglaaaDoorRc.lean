
/- Whether a node is reached: the specification. No conditions but those written. -/
import Derived.Test.YteamcpcjooglaaaDoorBf
import Derived.Test.YteamcpcjooglaaaDoorQu
import Derived.Deep.LoopGhost
namespace Go.Proofs.YteamcpcjooglaaaDoor
open Go.RowKit

theorem Tryd.infoB : (Tryd.prog.info? 4).map (fun i => (i.zero, i.size, i.bytes)) = some (some (.bool false), 1, 1) := by kernel_rfl
theorem map_setB (sn : List Bool) (k : Nat) : (sn.set k true).map Value.bool = (sn.map Value.bool).set k (.bool true) := by rw [List.map_set]
theorem rep_map (n : Nat) : (List.replicate n false).map Value.bool = List.replicate n (Value.bool false) := by simp
theorem Qu.new (W : World) (o : Obj) : Qu W.heap.size (W.alloc o) (.slice (some ⟨W.heap.size, 0, none⟩) 0 0) [] :=
  ⟨W.heap.size, 0, 0, rfl, Nat.le_refl _, by simp, Nat.le_refl _, fun j hj => by omega, fun j hj => by simp at hj⟩
/-- The cells of a row that was made. -/
theorem made_box {W : World} {g n : Nat} {e : TypeId} {us : List Value} (h : W.ownsRow g e 1 (.slice (some ⟨g, 0, none⟩) n n) n us) : Bx W g us := by
  refine ⟨(owns_lt h).2, fun i v hv => ⟨?_, h.frozenAt i⟩⟩
  have hl : i < us.length := (List.getElem?_eq_some_iff.1 hv).1
  rw [h.cellAt i (by rw [← h.1]; exact hl)]; exact hv
set_option maxRecDepth 10000 in
set_option maxHeartbeats 16000000 in
theorem l11Reach_is (ao : Option Addr) (cap : Nat) (ts : List LNode) (f t : Nat) (w : World) (hF : FitN ts) (hE : EdgesIn (ts.map valNode)) (hf : f < ts.length) (hz : DIn dNode w.heap.size w ao ts) :
    Calls Tryd.prog 21 #[.slice ao ts.length cap, .int .i64 (f : Int), .int .i64 (t : Int)] w fun e w' => (∃ r : Bool, e = .returned (.bool r) ∧ (r = true ↔ Rch (ts.map valNode) f t)) ∧ Below w.heap.size w w' := by
  obtain ⟨i0, hi, hz0, hz1, hz2⟩ := info_parts Tryd.infoB
  have h10 : ts.length ≤ 10 := by have := hE.many; simpa using this
  have HE := hid hE
  have HZ := hid hz
  have HFi := hid hF
  have hnode : Hid (∀ k, k < ts.length → ∃ b off nxo nxc, ao = some ⟨b, off, none⟩ ∧ b < w.heap.size ∧ w.cell? ⟨b, off + k * 6 + 5, none⟩ = some (.slice nxo (nxP (ts.map valNode) k).length nxc) ∧ kI.In w.heap.size w nxo (nxP (ts.map valNode) k)) := fun k hk => by
    obtain ⟨b, off, e, hb, hc⟩ := hNode_at hz.1 hk
    have d6 := (hc k hk).2.2.2.2.2
    have hin := hz.2 k hk
    have hev : nxP (ts.map valNode) k = (el ts k).2.2.2.2.2.2.2 := by rw [nxP, el_val hk]; rfl
    rw [hev]
    exact ⟨b, off, _, _, e, hb, d6, hin⟩
  clear hz hE hF
  obtain ⟨b, off, nxo, nxc, rfl, hb, c6, hI⟩ := hnode.out f hf
  have hff : (f : Int) < (ts.length : Int) := by omega
  obtain ⟨L, hL⟩ : ∃ L, L = nxP (ts.map valNode) f := ⟨_, rfl⟩
  rw [← hL] at c6 hI
  have HI := hid hI
  have HL := hid hL
  have hll : L.length ≤ 10 := by rw [hL]; exact HE.out.few f (by simpa using hf)
  clear hI hL
  go_enter Tryd.func21, Tryd.ntmps21
  go_wp2_with (first
    | (at_make; refine wpList_make_full _ rfl _ _ 64 rfl w.heap.size 4 i0 (.bool false) 1 Tryd.underlying64 hi hz0 hz1 .i64 .i64 _ _ ts.length rfl rfl rfl rfl (by rw [hz2]; omega) (by unfold maxLen; omega) (Nat.le_refl _) ?_; intro w1 hown hgrow; have hB1 : Below w.heap.size w w1 := (Below.refl _ _).grown hgrow (Nat.le_refl _) (fun k e => by cases e); have HO := hid (made_box hown); have c1 := (hB1.cell (p := ⟨b, off + f * 6 + 5, none⟩) hb).trans c6; have hs1 := (owns_lt hown).2; have hb1 : b < w1.heap.size := (by omega); have HQ0 := hid (Qu.new w1 (.cells #[] kI.ty)); have HZ0 : Hid (kI.In w1.heap.size (w1.alloc (.cells #[] kI.ty)) nxo L) := ((HI.out.later hB1).below (below1 _ _)); clear hown hgrow)
    | (at_builtin; refine Qu.app (w1.alloc (.cells #[] kI.ty)) rfl (.tmp 13) (.tmp 18) rfl w1.heap.size (.slice (some ⟨w1.heap.size, 0, none⟩) 0 0) [] rfl HQ0.out (by simp) nxo L L.length nxc rfl rfl _ HZ0.out (by simp; omega) ?_; intro v2 w2 hQ2 hB2 hK2 hv2; rw [List.nil_append] at hQ2; have hBa : Below w1.heap.size w1 w2 := ((below1 w1 _).trans hB2); have hB2w : Below w.heap.size w w2 := hB1.trans (hBa.mono hB1.size); have Q2 := hid hQ2; have O2 := hid (HO.out.later hBa); have hsz2 : w1.heap.size ≤ w2.heap.size := hBa.size; clear hQ2 hB2 hK2 hv2 hBa c1))
  have HS1 := hid hs1
  go_loopg [8] (leftB L (List.replicate ts.length false)) (fun m u wr => ∃ (v : Value) (todo : List Int) (sn : List Bool), v = u ∧ m = leftB todo sn ∧ m ≤ 120 ∧ Hid (Qu w1.heap.size wr v todo) ∧ Hid (Bx wr w.heap.size (sn.map Value.bool)) ∧ Hid (Bfs (ts.map valNode) f (t : Int) todo sn) ∧ Below w.heap.size w wr ∧ w1.heap.size ≤ wr.heap.size)
  case atStart =>
    refine ⟨v2, L, List.replicate ts.length false, rfl, rfl, ?_, Q2, ?_, ?_, hB2w, ?_⟩
    · unfold leftB; simp; omega
    · have h : Bx w2 w.heap.size (madeCells #[Value.bool false] (ts.length * 1)).toList := O2.out
      rw [toList_madeCells_one, Nat.mul_one] at h
      rw [rep_map]; exact h
    · have h := Bfs.start (t := (t : Int)) HE.out (f := f) (by simpa using hf)
      rw [List.length_map, ← HL.out] at h
      exact h
    · exact hsz2
  case round =>
    obtain ⟨v, todo, sn, rfl, hm, hm120, hQ, hO, hF, hB, hsz⟩ := hrel
    have hsl : sn.length = ts.length := by have := hF.out.len; simpa using this
    obtain ⟨g, og, cg, rfl, hcg⟩ := hQ.out.slice
    cases todo with
    | nil =>
      have HD := hid (Bfs.done HE.out (by simpa using hf) hF.out)
      clear hcg
      go_wp2
      go_ret
      exact ⟨⟨false, rfl, by simp; exact HD.out⟩, hB⟩
    | cons x r =>
      obtain ⟨k, hk, rfl, hrk⟩ := hF.out.way x (by simp)
      have hkn : k < ts.length := by simpa using hk
      obtain ⟨px, pq, pr⟩ := hQ.out.pop
      have hki : (k : Int) < (ts.length : Int) := by omega
      have hcr : r.length + 1 ≤ cg := by simpa using hcg
      have hlen : r.length ≤ 120 := by unfold leftB at hm; simp at hm; omega
      clear hk hrk hcg
      by_cases hkt : k = t
      · have HH : Hid (Rch (ts.map valNode) f t) := by subst hkt; exact hF.out.hit rfl
        have hkt' : ((k : Int) == (t : Int)) = true := by simp [hkt]
        clear hkt
        by_cases hc1 : cg = 1
        · go_wp2
          go_ret
          exact ⟨⟨true, rfl, by simp; exact HH.out⟩, hB⟩
        · go_wp2
          go_ret
          exact ⟨⟨true, rfl, by simp; exact HH.out⟩, hB⟩
      · have hkt' : ((k : Int) == (t : Int)) = false := by simp; omega
        have cs := hO.out.c k (show (sn.map Value.bool)[k]? = some (.bool (el sn k)) from by rw [List.getElem?_map, List.getElem?_eq_getElem (by omega), el_at (by omega)]; rfl)
        have csf := hO.out.f k (show (sn.map Value.bool)[k]? = some (.bool (el sn k)) from by rw [List.getElem?_map, List.getElem?_eq_getElem (by omega), el_at (by omega)]; rfl)
        cases hsk : el sn k
        · rw [hsk] at cs
          have HCN := hid (count_mark (by omega) hsk)
          obtain ⟨b2, off2, mxo, mxc, eb, hb2, c62, hI2⟩ := hnode.out k hkn
          obtain ⟨rfl, rfl⟩ : b = b2 ∧ off = off2 := by simp at eb; exact eb
          obtain ⟨L2, hL2⟩ : ∃ L2, L2 = nxP (ts.map valNode) k := ⟨_, rfl⟩
          rw [← hL2] at c62 hI2
          have hl2 : L2.length ≤ 10 := by rw [hL2]; exact HE.out.few k (by simpa using hkn)
          have HMK : Hid (Bfs (ts.map valNode) f (t : Int) (r ++ L2) (sn.set k true)) := by rw [hL2]; exact hF.out.mark HE.out (by simpa using hkn) (by omega)
          have HBs := hid (hB.setCell (p := ⟨w.heap.size, k, none⟩) (Nat.le_refl _) (.bool true))
          have HOs := hid (hO.out.set k (.bool true))
          have HI2 : Hid (kI.In (wr.setCell ⟨w.heap.size, k, none⟩ (.bool true)).heap.size (wr.setCell ⟨w.heap.size, k, none⟩ (.bool true)) mxo L2) := hI2.later HBs.out
          have d6 := (hB.cell (p := ⟨b, off + k * 6 + 5, none⟩) hb).trans c62
          have hbne : b ≠ w.heap.size := by omega
          clear hsk hF c62 hI2 eb hL2
          by_cases hc1 : cg = 1
          · have hp0 : Qu w1.heap.size wr (.slice (some ⟨g, og, none⟩) r.length 0) r := by have h := pr hc1; rw [hc1] at h; exact h
            have HQ := hid (hp0.keep (W' := wr.setCell ⟨w.heap.size, k, none⟩ (.bool true)) (by simp [World.setCell]) (fun g' hg' => Below.heap_setCell _ _ _ _ (by have := (hp0.lt hg').1; have := HS1.out; simp only; omega)))
            go_wp2_with (at_builtin; refine Qu.app (wr.setCell ⟨w.heap.size, k, none⟩ (.bool true)) rfl (.tmp 39) (.tmp 44) rfl w1.heap.size (.slice (some ⟨g, og, none⟩) r.length 0) r rfl HQ.out (by simp [World.setCell]; omega) mxo L2 L2.length mxc rfl rfl _ HI2.out (by omega) ?_; intro v3 w3 hQ3 hB3 hK3 hv3; have hB3w : Below w.heap.size w w3 := HBs.out.trans (hB3.mono (by omega)); have Q3 := hid hQ3; have O3 := hid (HOs.out.below hB3 (by omega)); have hsz3 : w1.heap.size ≤ w3.heap.size := (by have := hB3.size; simp [World.setCell] at this; omega); clear hQ3 hB3 hK3 hv3)
            go_roundg (leftB (r ++ L2) (sn.set k true))
            case measure => have := hm; have := HCN.out; unfold leftB at *; simp at *; omega
            case rel => exact ⟨_, r ++ L2, sn.set k true, rfl, rfl, by have := hm; have := HCN.out; unfold leftB at *; simp at *; omega, Q3, by rw [Hid, map_setB]; exact O3, HMK, hB3w, hsz3⟩
          · have HQ := hid ((pq hc1).keep (W' := wr.setCell ⟨w.heap.size, k, none⟩ (.bool true)) (by simp [World.setCell]) (fun g' hg' => Below.heap_setCell _ _ _ _ (by have := ((pq hc1).lt hg').1; have := HS1.out; simp only; omega)))
            go_wp2_with (at_builtin; refine Qu.app (wr.setCell ⟨w.heap.size, k, none⟩ (.bool true)) rfl (.tmp 39) (.tmp 44) rfl w1.heap.size (.slice (some ⟨g, og + 1, none⟩) r.length (cg - 1)) r rfl HQ.out (by simp [World.setCell]; omega) mxo L2 L2.length mxc rfl rfl _ HI2.out (by omega) ?_; intro v3 w3 hQ3 hB3 hK3 hv3; have hB3w : Below w.heap.size w w3 := HBs.out.trans (hB3.mono (by omega)); have Q3 := hid hQ3; have O3 := hid (HOs.out.below hB3 (by omega)); have hsz3 : w1.heap.size ≤ w3.heap.size := (by have := hB3.size; simp [World.setCell] at this; omega); clear hQ3 hB3 hK3 hv3)
            go_roundg (leftB (r ++ L2) (sn.set k true))
            case measure => have := hm; have := HCN.out; unfold leftB at *; simp at *; omega
            case rel => exact ⟨_, r ++ L2, sn.set k true, rfl, rfl, by have := hm; have := HCN.out; unfold leftB at *; simp at *; omega, Q3, by rw [Hid, map_setB]; exact O3, HMK, hB3w, hsz3⟩
        · rw [hsk] at cs
          have HSK := hid (hF.out.skip (by simpa using hsk))
          clear hsk hF
          by_cases hc1 : cg = 1
          · have hp0 : Qu w1.heap.size wr (.slice (some ⟨g, og, none⟩) r.length 0) r := by have h := pr hc1; rw [hc1] at h; exact h
            go_wp2
            go_roundg (leftB r sn)
            case measure => have := hm; unfold leftB at this ⊢; simp at this; omega
            case rel => exact ⟨_, r, sn, rfl, rfl, by have := hm; unfold leftB at this ⊢; simp at this; omega, hid hp0, hO, hid HSK.out, hB, hsz⟩
          · go_wp2
            go_roundg (leftB r sn)
            case measure => have := hm; unfold leftB at this ⊢; simp at this; omega
            case rel => exact ⟨_, r, sn, rfl, rfl, by have := hm; unfold leftB at this ⊢; simp at this; omega, hid (pq hc1), hO, hid HSK.out, hB, hsz⟩
end Go.Proofs.YteamcpcjooglaaaDoor
