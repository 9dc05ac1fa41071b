
/- The order of a graph: the program's loop. No conditions but those written. -/
import Derived.Test.YteamcpcjooglaaaDoorOr
namespace Go.Proofs.YteamcpcjooglaaaDoor
open Go.RowKit

def lenOf : Value → Nat | .slice _ n _ => n | _ => 0
theorem in_grown {W W' : World} {ro : Option Nat} {lo : Option Addr} {l : List Int} (hG : W.grownBy W' ro) (hz : kI.In W.heap.size W lo l) (hs : 0 < l.length → ∀ b off, lo = some ⟨b, off, none⟩ → ro ≠ some b) : kI.In W'.heap.size W' lo l := by
  rcases Nat.eq_zero_or_pos l.length with h0 | h0
  · exact .inl (List.length_eq_zero_iff.1 h0)
  rcases hz with h | ⟨b, off, e, hb, hc⟩
  · exact .inl h
  · exact .inr ⟨b, off, e, Nat.lt_of_lt_of_le hb hG.size, fun j hj i hi => (World.cell?_of_block (a := ⟨b, off + j * kI.sz + i, none⟩) (hG.block b hb (Ne.symm (hs h0 b off e)))).trans (hc j hj i hi)⟩
theorem behindP_len (gs : List PNode) : ∀ (n : Nat) (o l : List Int), (behindP gs n o l).1.length ≤ o.length + n
  | 0, o, l => Nat.le_refl _
  | n + 1, o, l => by
    rw [behindP]
    cases l.findIdx? (fun b => !ledP gs l b) with
    | none => simp
    | some k =>
      have := behindP_len gs n (o ++ [el l k]) (l.take k ++ l.drop (k + 1))
      simp only [List.length_append, List.length_singleton] at this ⊢
      omega
theorem own_lt {lo : Nat} {W : World} {v : Value} {xs : List Int} (h : kI.Own lo W v xs) {g : Nat} (hg : v.ownBlock = some g) : g < W.heap.size := by
  rcases h.2 with ⟨e, _⟩ | ⟨g', cap', cur, e, hb, hh, r⟩
  · rw [e] at hg; simp [Value.ownBlock] at hg
  · rw [e] at hg
    simp [Value.ownBlock] at hg
    subst hg
    exact (Array.getElem?_eq_some_iff.1 hh).1
theorem own_slice {lo : Nat} {W : World} {v : Value} {xs : List Int} (h : kI.Own lo W v xs) : ∃ go qc, v = .slice go xs.length qc := by
  obtain ⟨go, qc, e, _⟩ := h.fresh
  exact ⟨go, qc, e⟩
set_option maxRecDepth 10000 in
set_option maxHeartbeats 8000000 in
theorem eachBehind_any (pg : Nat) (ao : Option Addr) (cap : Nat) (ts : List LNode) (zo : Option Addr) (zc : Nat) (zs : List Int) (w : World) (hl : zs.length ≤ 1048576) (hv : ∀ x ∈ zs, ∃ k : Nat, k < ts.length ∧ x = (k : Int)) (hF : FitN ts) (hG : GrIn w pg ao cap ts) (hz : kI.In w.heap.size w zo zs) (R : List Int) (hR : (behindP (ts.map valNode) zs.length [] zs).1 = R) :
    Calls Tryd.prog 40 #[.slice zo zs.length zc, .func (.func 41) #[] #[.pointer (some ⟨pg, 0, none⟩)]] w fun e w' => AnsI w R e w' := by
  obtain ⟨V, hV⟩ : ∃ V, V = (w.alloc (.cells #[.func (.func 41) #[] #[.pointer (some ⟨pg, 0, none⟩)]] 72)).alloc (.cells #[.slice zo zs.length zc] 33) := ⟨_, rfl⟩
  have hb : Below w.heap.size w V := by rw [hV]; exact below2 _ _ _
  have hX : Bx V w.heap.size [.func (.func 41) #[] #[.pointer (some ⟨pg, 0, none⟩)]] := by rw [hV]; exact (Bx.new [.func (.func 41) #[] #[.pointer (some ⟨pg, 0, none⟩)]] _ rfl).alloc _
  have hY : Bx V (w.heap.size + 1) [.slice zo zs.length zc] := by rw [hV]; exact Bx.new [.slice zo zs.length zc] _ (by simp)
  have hs : V.heap.size = w.heap.size + 1 + 1 := by rw [hV]; simp
  have HV := hid hV
  have HX := hid hX
  have HY := hid hY
  have HG := hid hG
  have HZ := hid (hz.later hb)
  have HVV := hid hv
  have HR := hid hR
  have HS := hid hs
  have HB := hid hb
  have HZ0 := hid hz
  clear hV hX hY hG hz hv hR hs hb
  go_enter Tryd.func40, Tryd.ntmps40
  go_wp2
  rw [← HV.out]
  go_loopw [5] (fun u wr => ∃ (v : Value) (o l : List Int) (qo : Option Addr) (qc : Nat), v = u ∧ o.length + l.length = zs.length ∧ Hid (kI.Own (w.heap.size + 1 + 1) wr v o) ∧ Hid (Bx wr w.heap.size [.func (.func 41) #[] #[.pointer (some ⟨pg, 0, none⟩)]]) ∧ Hid (Bx wr (w.heap.size + 1) [.slice qo l.length qc]) ∧ Hid (kI.In wr.heap.size wr qo l) ∧ Hid (∀ x ∈ l, ∃ k : Nat, k < ts.length ∧ x = (k : Int)) ∧ Hid ((behindP (ts.map valNode) l.length o l).1 = R) ∧ Hid (0 < l.length → ∀ b off, qo = some ⟨b, off, none⟩ → v.ownBlock ≠ some b) ∧ Below w.heap.size w wr ∧ w.heap.size + 1 + 1 ≤ wr.heap.size) (fun u _ => zs.length - lenOf u)
  case atStart => exact ⟨.slice none 0 0, [], zs, zo, zc, rfl, by simp, Kind.Own.nil _ _ _, HX, HY, HZ, HVV, HR, fun _ b off _ h => by simp [Value.ownBlock] at h, HB.out, by have := HS.out; omega⟩
  case round =>
    obtain ⟨v, o, l, qo, qc, rfl, hol, hO, hX, hY, hZ, hV', hR', hSp, hB, hsz⟩ := hrel
    clear HX HY HZ HVV HR HS HB HV
    obtain ⟨go, gc, rfl⟩ := own_slice hO.out
    have hG := hid (HG.out.later hB)
    have hcon := indexFuncI_any 53 #[.pointer (some ⟨w.heap.size + 1, 0, none⟩), .pointer (some ⟨w.heap.size, 0, none⟩)] Tryd.entersB1 qo qc l (fun b => !ledP (ts.map valNode) l b) wr (by omega) hZ.out (fun x W _ hW => behind1_is pg w.heap.size (w.heap.size + 1) ao cap ts qo qc l x W (by omega) hV'.out hF (hG.out.later hW) (hX.out.later hW) (hY.out.later hW) (hZ.out.later hW))
    have y0 := hY.out.c 0 rfl
    cases hp : l.findIdx? (fun b => !ledP (ts.map valNode) l b) with
    | none =>
      have hf : fidx (fun b => !ledP (ts.map valNode) l b) l = -1 := by rw [fidx, hp]
      rw [hf] at hcon
      have HE : Hid (o = R) := by
        rw [Hid, ← hR'.out]
        cases l with
        | nil => rfl
        | cons x r => rw [List.length_cons, behindP, hp]
      clear hp hf
      go_wp2_with (go_at_call 37; refine hcon.mono ?_; rintro e w1 ⟨rfl, hb1⟩; have hB1 : Below w.heap.size w w1 := hB.trans (hb1.mono hB.size); have O1 := hid (hO.out.below hb1); clear hb1)
      go_ret
      obtain ⟨go', gc', e1, _, hFF⟩ := O1.out.fresh
      obtain ⟨rfl, rfl⟩ : go = go' ∧ gc = gc' := by simp at e1; exact e1
      rw [← HE.out]
      exact ⟨⟨go, gc, rfl, hFF.wide (by omega) (Nat.le_refl _)⟩, hB1⟩
    | some k =>
      have hkl : k < l.length := by
        rw [List.findIdx?_eq_some_iff_getElem] at hp
        exact hp.1
      have hf : fidx (fun b => !ledP (ts.map valNode) l b) l = (k : Int) := by rw [fidx, hp]
      rw [hf] at hcon
      have HE : Hid ((behindP (ts.map valNode) (l.take k ++ l.drop (k + 1)).length (o ++ [el l k]) (l.take k ++ l.drop (k + 1))).1 = R) := by
        rw [Hid, ← hR'.out]
        have e1 : (l.take k ++ l.drop (k + 1)).length = l.length - 1 := by simp; omega
        obtain ⟨m, hm⟩ : ∃ m, l.length = m + 1 := ⟨l.length - 1, by omega⟩
        rw [e1, hm, Nat.add_sub_cancel, behindP, hp]
      clear hp hf
      obtain ⟨bq, oq, rfl, hbq, hcq⟩ := ints_at hZ.out hkl
      have cq := hcq k hkl
      obtain ⟨x, hx⟩ : ∃ x, x = el l k := ⟨_, rfl⟩
      rw [← hx] at cq
      have HX2 := hid hx
      clear hx hcq
      have hkl' : (k : Int) < (l.length : Int) := by omega
      obtain ⟨l2, hl2⟩ : ∃ l2, l2 = l.take k ++ l.drop (k + 1) := ⟨_, rfl⟩
      obtain ⟨o2, ho2⟩ : ∃ o2, o2 = o ++ [x] := ⟨_, rfl⟩
      have hlen2 : o2.length + l2.length = zs.length := by rw [hl2, ho2]; simp; omega
      have hleno : o2.length = o.length + 1 := by rw [ho2]; simp
      have HLO := hid (And.intro hlen2 hleno)
      rw [← hl2, ← HX2.out, ← ho2] at HE
      have HL2 := hid hl2
      have HO2 := hid ho2
      clear hl2 ho2 hlen2 hleno
      go_wp2_with (first
        | (go_at_call 37; refine hcon.mono ?_; rintro e w1 ⟨rfl, hb1⟩; have hB1 : Below w.heap.size w w1 := hB.trans (hb1.mono hB.size); have hs1 : wr.heap.size ≤ w1.heap.size := hb1.size; have O1 : Hid (kI.Own (w.heap.size + 1 + 1) (w1.alloc (.cells #[.int .i64 x] 3)) (.slice go o.length gc) o) := ((hO.out.below hb1).below (below1 _ _)); have X1 := hid ((hX.out.later hb1).later (below1 w1 (.cells #[.int .i64 x] 3))); have Y1 := hid ((hY.out.later hb1).later (below1 w1 (.cells #[.int .i64 x] 3))); have Z1 := hid ((hZ.out.later hb1).later (below1 w1 (.cells #[.int .i64 x] 3))); have HN : Hid (kI.In (w1.heap.size + 1) (w1.alloc (.cells #[.int .i64 x] 3)) (some ⟨w1.heap.size, 0, none⟩) [x]) := int_one (by omega) (by simp); have y1 := (hY.out.later hb1).c 0 rfl; have c1 := (hb1.cell (p := ⟨bq, oq + k, none⟩) hbq).trans cq; clear hb1 y0 cq)
        | (at_builtin; refine Kind.appN kI_ok (w1.alloc (.cells #[.int .i64 x] 3)) rfl (.tmp 15) (.tmp 20) rfl (w.heap.size + 1 + 1) (.slice go o.length gc) o rfl O1.out (by simp; omega) (some ⟨w1.heap.size, 0, none⟩) [x] 1 1 rfl rfl (by simp) _ HN.out (by simp; omega) ?_; intro v2 w2 hO2 hB2 hG2 hw2; rw [← HO2.out] at hO2; obtain ⟨g2, c2, rfl⟩ := own_slice hO2; have hBa : Below w.heap.size w w2 := (Below.allocS hB1 _).trans (hB2.mono (by omega)); have O2 := hid hO2; have X2 := hid (X1.out.below hB2 (by omega)); have Y2 := hid (Y1.out.below hB2 (by omega)); have Z2 := hid (in_grown hG2 Z1.out hSp.out); have y2 := Y2.out.c 0 rfl; have hs2 : w1.heap.size + 1 ≤ w2.heap.size := (by have := hB2.size; simpa using this); clear hO2 hB2 hG2 hw2))
      refine (queueOfI_any (some ⟨bq, oq, none⟩) qc l w2 (by omega) Z2.out).mono ?_
      rintro e w3 ⟨⟨t3, rfl, hF3⟩, hb3⟩
      have hB3 := hBa.trans (hb3.mono hBa.size)
      have O3 := hid (O2.out.below hb3)
      have X3 := hid (X2.out.later hb3)
      have Y3 := hid (Y2.out.later hb3)
      have hs3 := hb3.size
      have F3 := hid hF3
      clear hb3 hF3 y2
      go_wp2_with fail
      refine (withoutI_any t3 l.length l (k : Int) w3 (by omega) F3.out.in l2 (by rw [HL2.out]; exact (keepE_range l k hkl).symm)).mono ?_
      rintro e w4 ⟨⟨g4, c4, rfl, hF4⟩, hb4⟩
      have hB4 := hB3.trans (hb4.mono hB3.size)
      have O4 := hid (O3.out.below hb4)
      have X4 := hid (X3.out.later hb4)
      have Y4 := hid (Y3.out.later hb4)
      have hs4 := hb4.size
      have F4 := hid hF4
      have y4 := Y4.out.c 0 rfl
      have yf4 := Y4.out.f 0 rfl
      have hol2 := own_lt (g := bq) O2.out
      clear hb4 hF4
      have O5 := hid (O4.out.setBelow (a := ⟨w.heap.size + 1, 0, none⟩) (by simp) (.slice g4 l2.length c4))
      have X5 := hid (X4.out.other (a := ⟨w.heap.size + 1, 0, none⟩) (by simp) (.slice g4 l2.length c4))
      have Y5 := hid (Y4.out.set 0 (.slice g4 l2.length c4))
      have Z5 := hid ((F4.out.setBelow (a := ⟨w.heap.size + 1, 0, none⟩) (by simp only; omega) (.slice g4 l2.length c4)).in)
      have V5 : Hid (∀ x ∈ l2, ∃ k : Nat, k < ts.length ∧ x = (k : Int)) := fun y hy => hV'.out y (by
        rw [HL2.out] at hy
        rcases List.mem_append.1 hy with h | h
        · exact List.mem_of_mem_take h
        · exact List.mem_of_mem_drop h)
      have S5 : Hid (0 < l2.length → ∀ b off, g4 = some ⟨b, off, none⟩ → Value.ownBlock (.slice g2 o2.length c2) ≠ some b) := fun h0 b off e h => by
        have h1 := own_lt O3.out h
        rcases F4.out with h2 | ⟨g5, e5, _, ho5⟩
        · rw [h2] at h0; simp at h0
        · rw [e] at e5
          simp at e5
          have h3 := (owns_lt ho5).1
          omega
      have B5 : Below w.heap.size w (w4.setCell ⟨w.heap.size + 1, 0, none⟩ (.slice g4 l2.length c4)) := hB4.setCell (p := ⟨w.heap.size + 1, 0, none⟩) (by simp) _
      clear HZ0
      go_wp2
      rename_i _ _ hKK
      refine hKK _ _ ?_
      go_wp2
      go_roundw
      case rel => exact ⟨_, o2, l2, g4, c4, rfl, HLO.out.1, O5, X5, Y5, Z5, V5, HE, S5, B5, by simp [World.setCell]; omega⟩
      case measure => have := HLO.out; simp [lenOf]; omega
/-- The order of a graph, as far as it goes. -/
def orderP (gs : List PNode) : List Int := (behindP gs gs.length [] (numsI gs.length)).1
set_option maxHeartbeats 2000000 in
theorem orderIn_any (ao : Option Addr) (cap : Nat) (ts : List LNode) (w : World) (hl : ts.length ≤ 1048576) (hF : FitN ts) (hz : DIn dNode w.heap.size w ao ts) :
    Calls Tryd.prog 28 #[.slice ao ts.length cap] w fun e w' => AnsI w (orderP (ts.map valNode)) e w' := by
  obtain ⟨V, hV⟩ : ∃ V, V = w.alloc (.cells #[.slice ao ts.length cap] 26) := ⟨_, rfl⟩
  have hb : Below w.heap.size w V := by rw [hV]; exact below1 _ _
  have hX : Bx V w.heap.size [.slice ao ts.length cap] := by rw [hV]; exact Bx.new [.slice ao ts.length cap] _ rfl
  have HG : Hid (GrIn V w.heap.size ao cap ts) := ⟨hX, hz.later dNode_ok hb⟩
  have HV := hid hV
  have HB := hid hb
  clear hV hX hz hb
  go_enter Tryd.func28, Tryd.ntmps28
  go_wp2_with fail
  rw [← HV.out]
  refine (numbersOf_any ao cap ts.length V hl).mono ?_
  rintro e w1 ⟨⟨go, qc, rfl, hF1⟩, hb1⟩
  have hB1 : Below w.heap.size w w1 := HB.out.trans (hb1.mono HB.out.size)
  have G1 := hid (HG.out.later hb1)
  have F1 := hid hF1
  clear hb1 hF1
  go_wp2_with fail
  refine (eachBehind_any w.heap.size ao cap ts go qc (numsI ts.length) w1 (by rw [numsI_len]; exact hl) (fun x hx => numsI_mem hx) hF G1.out F1.out.in (orderP (ts.map valNode)) (by rw [orderP, numsI_len, List.length_map])).mono ?_
  rintro e w2 ⟨⟨g2, c2, rfl, hF2⟩, hb2⟩
  have hB2 := hB1.trans (hb2.mono hB1.size)
  have F2 := hid (hF2.wide (lo' := w.heap.size) (hi' := w2.heap.size) hB1.size (Nat.le_refl _))
  clear hb2 hF2
  go_wp2
  go_ret
  exact ⟨⟨_, _, rfl, F2.out⟩, hB2⟩
end Go.Proofs.YteamcpcjooglaaaDoor
