/- A task leaves a channel: the specification. No conditions but those written. A task leaves all channels of a hub: the specification. No conditions but those written. -/
import Derived.Test.YtdjdbcfcccbhpaaPVbVc
import Derived.Deep.RegionLaw
namespace Go.Proofs.Ytdjdbcfcccbhpaa
section
open Go.RowKit Go.Maps

/-- All but one task. -/
def offT (t z : Int) : Int := if z = t then 0 else 1
theorem offT_pos (t z : Int) : 0 < offT t z ↔ z ≠ t := by unfold offT; split <;> simp [*]
set_option maxRecDepth 10000 in
set_option maxHeartbeats 8000000 in
theorem l3Without_any (lo : Option Addr) (lc : Nat) (l : List (Int × Int × Int)) (t : Int) (w : World) (hl : l.length ≤ 1048576) (hz : kW.In w.heap.size w lo l) :
    Calls Try.prog 64 #[.slice lo l.length lc, .int .i64 t] w fun e w' => (∃ o c, e = .returned (.slice o (keptW (offT t) l).length c) ∧ kW.Fresh w.heap.size w'.heap.size w' o c (keptW (offT t) l)) ∧ Below w.heap.size w w' := by
  go_enter Try.func64, Try.ntmps64
  go_wp2
  go_loopw [5, 10] (fun u i wr => ∃ (k : Nat) (v : Value), v = u ∧ k ≤ l.length ∧ i = .int .i64 (k : Int) ∧ Hid (kW.Own w.heap.size wr v (keptW (offT t) (l.take k))) ∧ Below w.heap.size w wr) (fun _ i _ => l.length - (intOf i).toNat)
  case atStart => exact ⟨0, _, rfl, Nat.zero_le _, rfl, Kind.Own.nil _ _ _, Below.refl _ _⟩
  case round =>
    obtain ⟨k, v, rfl, hk, rfl, hO, hB⟩ := hrel
    by_cases hlt : k < l.length
    · obtain ⟨bb, off, rfl, hbb, hc⟩ := kW_at hz hlt
      have d1 := (hB.cell (p := ⟨bb, off + k * 3, none⟩) hbb).trans (hc k hlt).1
      have d2 := (hB.cell (p := ⟨bb, off + k * 3 + 1, none⟩) hbb).trans (hc k hlt).2.1
      have d3 := (hB.cell (p := ⟨bb, off + k * 3 + 2, none⟩) hbb).trans (hc k hlt).2.2
      obtain ⟨⟨y1, y2, y3⟩, ey⟩ : ∃ v, v = el l k := ⟨_, rfl⟩
      rw [← ey] at d1 d2 d3
      have HY : Hid (el l k = (y1, y2, y3)) := ey.symm
      clear ey hc
      dsimp only at d1 d2 d3
      have hs := hB.size
      by_cases he : y1 = t
      · have he' : (y1 != t) = false := by simpa using he
        have HO' : Hid (kW.Own w.heap.size (wr.alloc (.cells #[.int .i64 y1, .int .i64 y2, .int .i64 y3] 70)) v (keptW (offT t) (l.take (k + 1)))) := by rw [Hid, keptW_out hlt (by rw [HY.out, offT_pos]; simpa using he)]; exact hO.out.below (below1 _ _)
        have hB2 := Below.allocS hB (.cells #[.int .i64 y1, .int .i64 y2, .int .i64 y3] 70)
        clear he
        go_wp2
        go_roundw
        case rel => exact ⟨k + 1, _, rfl, by omega, by go_num, HO', hB2⟩
        case measure => simp [intOf]; omega
      · have he' : (y1 != t) = true := by simpa using he
        have HE : Hid (0 < offT t (y1, y2, y3).1) := (offT_pos _ _).2 he
        have HA : Hid (kW.Own w.heap.size ((wr.alloc (.cells #[.int .i64 y1, .int .i64 y2, .int .i64 y3] 70)).alloc (.cells #[.int .i64 y1, .int .i64 y2, .int .i64 y3] 70)) v (keptW (offT t) (l.take k))) := (hO.out.below (below1 _ _)).below (below1 _ _)
        have HN : Hid (kW.In (wr.heap.size + 1 + 1) ((wr.alloc (.cells #[.int .i64 y1, .int .i64 y2, .int .i64 y3] 70)).alloc (.cells #[.int .i64 y1, .int .i64 y2, .int .i64 y3] 70)) (some ⟨wr.heap.size + 1, 0, none⟩) [(y1, y2, y3)]) := kW_one (by omega) (by simp) (by simp) (by simp)
        have hll : (keptW (offT t) (l.take k)).length + 1 ≤ 4194304 := by have := keptW_le (offT t) (l.take k); simp at this; omega
        have hBa : Below w.heap.size w ((wr.alloc (.cells #[.int .i64 y1, .int .i64 y2, .int .i64 y3] 70)).alloc (.cells #[.int .i64 y1, .int .i64 y2, .int .i64 y3] 70)) := Below.allocS (Below.allocS hB _) _
        clear he
        go_wp2_with (at_builtin; refine Kind.app kW_ok ((wr.alloc (.cells #[.int .i64 y1, .int .i64 y2, .int .i64 y3] 70)).alloc (.cells #[.int .i64 y1, .int .i64 y2, .int .i64 y3] 70)) rfl (.tmp 18) (.tmp 20) rfl w.heap.size v (keptW (offT t) (l.take k)) rfl HA.out (by simp; omega) (some ⟨wr.heap.size + 1, 0, none⟩) [(y1, y2, y3)] 1 1 rfl rfl (by simp) _ HN.out hll ?_; intro v' w' hO' hB' hG' hn'; have hB2 : Below w.heap.size w w' := hBa.trans (hB'.mono (by omega)); have HO' : Hid (kW.Own w.heap.size w' v' (keptW (offT t) (l.take (k + 1)))) := (by rw [Hid, keptW_in hlt (by rw [HY.out]; exact HE.out), HY.out]; exact hO'); clear hO' hB' hG' hn')
        go_roundw
        case rel => exact ⟨k + 1, v', rfl, by omega, by go_num, HO', hB2⟩
        case measure => simp [intOf]; omega
    · obtain rfl : k = l.length := by omega
      rw [List.take_length] at hO
      obtain ⟨qo, qc, rfl, _, hF⟩ := hO.out.fresh
      have HF : Hid (kW.Fresh w.heap.size wr.heap.size wr qo qc (keptW (offT t) l)) := hF
      clear hF hO
      go_wp2
      go_ret
      exact ⟨⟨_, _, rfl, HF.out⟩, hB⟩
set_option maxRecDepth 10000 in
set_option maxHeartbeats 8000000 in
theorem l3Leave_any (kap : Int) (cl : Bool) (bo : Option Addr) (bc : Nat) (b : List Int) (so : Option Addr) (sc : Nat) (s : List (Int × Int × Int)) (ro : Option Addr) (rc : Nat) (r : List (Int × Int × Int)) (t : Int) (w : World) (hls : s.length ≤ 1048576) (hlr : r.length ≤ 1048576) (hz : InChan w.heap.size w bo b so s ro r) :
    Calls Try.prog 53 #[.agg #[.int .i64 kap, .bool cl, .slice bo b.length bc, .slice so s.length sc, .slice ro r.length rc], .int .i64 t] w fun e w' => (∃ o1 c1 o2 c2, e = .returned (.agg #[.int .i64 kap, .bool cl, .slice bo b.length bc, .slice o1 (keptW (offT t) s).length c1, .slice o2 (keptW (offT t) r).length c2]) ∧ kW.Fresh w.heap.size w'.heap.size w' o1 c1 (keptW (offT t) s) ∧ kW.Fresh w.heap.size w'.heap.size w' o2 c2 (keptW (offT t) r) ∧ Off o1 (keptW (offT t) s).length o2 (keptW (offT t) r).length) ∧ Below w.heap.size w w' := by
  obtain ⟨w0, hw0⟩ : ∃ w0, w0 = ((w.alloc (.cells #[.int .i64 kap, .bool cl, .slice bo b.length bc, .slice so s.length sc, .slice ro r.length rc] 45)).alloc (.cells #[.int .i64 0, .bool false, .slice none 0 0, .slice none 0 0, .slice none 0 0] 45)) := ⟨_, rfl⟩
  have hB0 : Below w.heap.size w w0 := by rw [hw0]; exact Below.allocS (Below.allocS (Below.refl _ _) _) _
  have XA0 : Hid (Bx w0 (w.heap.size) [.int .i64 kap, .bool cl, .slice bo b.length bc, .slice so s.length sc, .slice ro r.length rc]) := by rw [hw0]; exact Bx.alloc (Bx.new [.int .i64 kap, .bool cl, .slice bo b.length bc, .slice so s.length sc, .slice ro r.length rc] _ rfl) _
  have XR0 : Hid (Bx w0 (w.heap.size + 1) [.int .i64 0, .bool false, .slice none 0 0, .slice none 0 0, .slice none 0 0]) := by rw [hw0]; exact Bx.new [.int .i64 0, .bool false, .slice none 0 0, .slice none 0 0, .slice none 0 0] _ (by simp)
  have H0 : Hid (w0 = ((w.alloc (.cells #[.int .i64 kap, .bool cl, .slice bo b.length bc, .slice so s.length sc, .slice ro r.length rc] 45)).alloc (.cells #[.int .i64 0, .bool false, .slice none 0 0, .slice none 0 0, .slice none 0 0] 45))) := hw0
  have hs0 : w.heap.size + 1 + 1 ≤ w0.heap.size := by rw [hw0]; simp
  clear hw0
  go_enter Try.func53, Try.ntmps53
  go_wp2_with fail
  rw [← H0.out]
  refine (l3Without_any so sc s t w0 hls (hz.2.1.later hB0)).mono ?_
  rintro e w1 ⟨⟨o1, c1, rfl, hF1⟩, hb1⟩
  have hB1 := hB0.trans (hb1.mono hB0.size)
  have hs1 : w.heap.size + 1 + 1 ≤ w1.heap.size := Nat.le_trans hs0 hb1.size
  have hz1 : w0.heap.size ≤ w1.heap.size := hb1.size
  have XA1 := hid (XA0.out.later hb1)
  have XR1 := hid (XR0.out.later hb1)
  clear XA0 XR0
  have F1 := hid (hF1)
  clear hb1 hF1
  have a0 := XA1.out.c 0 rfl
  have af0 := XA1.out.f 0 rfl
  have a1 := XA1.out.c 1 rfl
  have af1 := XA1.out.f 1 rfl
  have a2 := XA1.out.c 2 rfl
  have af2 := XA1.out.f 2 rfl
  have a3 := XA1.out.c 3 rfl
  have af3 := XA1.out.f 3 rfl
  have a4 := XA1.out.c 4 rfl
  have af4 := XA1.out.f 4 rfl
  have az := XA1.out.size
  have r0 := XR1.out.c 0 rfl
  have rf0 := XR1.out.f 0 rfl
  have r1 := XR1.out.c 1 rfl
  have rf1 := XR1.out.f 1 rfl
  have r2 := XR1.out.c 2 rfl
  have rf2 := XR1.out.f 2 rfl
  have r3 := XR1.out.c 3 rfl
  have rf3 := XR1.out.f 3 rfl
  have r4 := XR1.out.c 4 rfl
  have rf4 := XR1.out.f 4 rfl
  have rz := XR1.out.size
  obtain ⟨w2, hV⟩ : ∃ V, V = (w1.setCell ⟨w.heap.size, 3, none⟩ (.slice o1 (keptW (offT t) s).length c1)) := ⟨_, rfl⟩
  have hz2 : w1.heap.size ≤ w2.heap.size := by rw [hV]; simp [World.setCell]
  have hs2 : w.heap.size + 1 + 1 ≤ w2.heap.size := Nat.le_trans hs1 hz2
  have hB2 : Below w.heap.size w w2 := by rw [hV]; exact (hB1.setCell (p := ⟨w.heap.size, 3, none⟩) (by dsimp only; omega) _)
  have XA2 := hid ((XA1.out.set 3 (.slice o1 (keptW (offT t) s).length c1)))
  rw [← hV] at XA2
  have XR2 := hid ((XR1.out.other (a := ⟨w.heap.size, 3, none⟩) (by dsimp only; omega) (.slice o1 (keptW (offT t) s).length c1)))
  rw [← hV] at XR2
  have F2 := hid ((F1.out.setOff (a := ⟨w.heap.size, 3, none⟩) (by dsimp only; omega) (.slice o1 (keptW (offT t) s).length c1)))
  rw [← hV] at F2
  have H2 : Hid (w2 = (w1.setCell ⟨w.heap.size, 3, none⟩ (.slice o1 (keptW (offT t) s).length c1))) := hV
  clear hV XA1 XR1 F1
  go_wp2_with fail
  clear a0 af0 a1 af1 a2 af2 a3 af3 a4 af4 az r0 rf0 r1 rf1 r2 rf2 r3 rf3 r4 rf4 rz
  rw [← H2.out]
  refine (l3Without_any ro rc r t w2 hlr (hz.2.2.later hB2)).mono ?_
  rintro e w3 ⟨⟨o2, c2, rfl, hF2⟩, hb3⟩
  have hB3 := hB2.trans (hb3.mono hB2.size)
  have hs3 : w.heap.size + 1 + 1 ≤ w3.heap.size := Nat.le_trans hs2 hb3.size
  have hz3 : w2.heap.size ≤ w3.heap.size := hb3.size
  have XA3 := hid (XA2.out.later hb3)
  have XR3 := hid (XR2.out.later hb3)
  have F3 := hid (F2.out.later hb3)
  clear XA2 XR2 F2
  have G3 := hid (hF2)
  clear hb3 hF2
  have a0 := XA3.out.c 0 rfl
  have af0 := XA3.out.f 0 rfl
  have a1 := XA3.out.c 1 rfl
  have af1 := XA3.out.f 1 rfl
  have a2 := XA3.out.c 2 rfl
  have af2 := XA3.out.f 2 rfl
  have a3 := XA3.out.c 3 rfl
  have af3 := XA3.out.f 3 rfl
  have a4 := XA3.out.c 4 rfl
  have af4 := XA3.out.f 4 rfl
  have az := XA3.out.size
  have r0 := XR3.out.c 0 rfl
  have rf0 := XR3.out.f 0 rfl
  have r1 := XR3.out.c 1 rfl
  have rf1 := XR3.out.f 1 rfl
  have r2 := XR3.out.c 2 rfl
  have rf2 := XR3.out.f 2 rfl
  have r3 := XR3.out.c 3 rfl
  have rf3 := XR3.out.f 3 rfl
  have r4 := XR3.out.c 4 rfl
  have rf4 := XR3.out.f 4 rfl
  have rz := XR3.out.size
  go_wp2
  refine bodyPost_ret (v := .agg #[.int .i64 kap, .bool cl, .slice bo b.length bc, .slice o1 (keptW (offT t) s).length c1, .slice o2 (keptW (offT t) r).length c2]) (by simp [results, Try.results53, go_sem, r0, r1, r2, r3, r4]) rfl ?_
  exact ⟨⟨o1, c1, o2, c2, rfl, ((((((F3.out.setOff (a := ⟨w.heap.size, 4, none⟩) (by dsimp only; omega) _).setOff (a := ⟨w.heap.size + 1, 0, none⟩) (by dsimp only; omega) _).setOff (a := ⟨w.heap.size + 1, 1, none⟩) (by dsimp only; omega) _).setOff (a := ⟨w.heap.size + 1, 2, none⟩) (by dsimp only; omega) _).setOff (a := ⟨w.heap.size + 1, 3, none⟩) (by dsimp only; omega) _).setOff (a := ⟨w.heap.size + 1, 4, none⟩) (by dsimp only; omega) _).wide (by omega) (by simp <;> omega), ((((((G3.out.setOff (a := ⟨w.heap.size, 4, none⟩) (by dsimp only; omega) _).setOff (a := ⟨w.heap.size + 1, 0, none⟩) (by dsimp only; omega) _).setOff (a := ⟨w.heap.size + 1, 1, none⟩) (by dsimp only; omega) _).setOff (a := ⟨w.heap.size + 1, 2, none⟩) (by dsimp only; omega) _).setOff (a := ⟨w.heap.size + 1, 3, none⟩) (by dsimp only; omega) _).setOff (a := ⟨w.heap.size + 1, 4, none⟩) (by dsimp only; omega) _).wide (by omega) (by simp <;> omega), Kind.Fresh.apart F3.out G3.out (by omega)⟩, ((((((hB3.setCell (p := ⟨w.heap.size, 4, none⟩) (by dsimp only; omega) _).setCell (p := ⟨w.heap.size + 1, 0, none⟩) (by dsimp only; omega) _).setCell (p := ⟨w.heap.size + 1, 1, none⟩) (by dsimp only; omega) _).setCell (p := ⟨w.heap.size + 1, 2, none⟩) (by dsimp only; omega) _).setCell (p := ⟨w.heap.size + 1, 3, none⟩) (by dsimp only; omega) _).setCell (p := ⟨w.heap.size + 1, 4, none⟩) (by dsimp only; omega) _)⟩
end
section
open Go.RowKit Go.Maps

theorem hChan_all {us : List LChan} {i : Nat} (hi : i < us.length) (kap : Int) (cl : Bool) (bo : Option Addr) (bc : Nat) (b : List Int) (o1 : Option Addr) (c1 : Nat) (s1 : List (Int × Int × Int)) (o2 : Option Addr) (c2 : Nat) (r1 : List (Int × Int × Int)) : ((((((hChan.flat us).set (i * 5) (.int .i64 kap)).set (i * 5 + 1) (.bool cl)).set (i * 5 + 2) (.slice bo b.length bc)).set (i * 5 + 3) (.slice o1 s1.length c1)).set (i * 5 + 4) (.slice o2 r1.length c2)) = hChan.flat (us.set i ((kap, cl, (bo, bc, b), (o1, c1, s1), (o2, c2, r1)) : LChan)) := by
  have hlen : (hChan.flat us).length = us.length * 5 := hChan.flat_len us
  refine hChan.flat_of _ _ (by simp [hlen]; rfl) fun j hj q hq => ?_
  have hj' : j < us.length := by simpa using hj
  have hq' : q < 5 := hq
  have hsz : hChan.sz = 5 := rfl
  have hold := hChan.flat_at us j hj' q hq
  rw [hsz] at hold ⊢
  by_cases e : j = i
  · subst e
    rw [el_set_same hj']
    rcases (show q = 0 ∨ q = 1 ∨ q = 2 ∨ q = 3 ∨ q = 4 from by omega) with rfl | rfl | rfl | rfl | rfl
    all_goals clear hold
    · rw [set_far (by omega), set_far (by omega), set_far (by omega), set_far (by omega), show j * 5 + 0 = j * 5 from rfl, set_at (by first | omega | (simp only [List.length_set]; omega))]; rfl
    · rw [set_far (by omega), set_far (by omega), set_far (by omega), set_at (by first | omega | (simp only [List.length_set]; omega))]; rfl
    · rw [set_far (by omega), set_far (by omega), set_at (by first | omega | (simp only [List.length_set]; omega))]; rfl
    · rw [set_far (by omega), set_at (by first | omega | (simp only [List.length_set]; omega))]; rfl
    · rw [set_at (by first | omega | (simp only [List.length_set]; omega))]; rfl
  · rw [el_set_other e, set_far (by omega), set_far (by omega), set_far (by omega), set_far (by omega), set_far (by omega), hold]
theorem DFr.newSR {lo hi hi' : Nat} {W : World} {g c : Nat} {us : List LChan} (h : DFr dChan lo hi W (some ⟨g, 0, none⟩) c us) {i : Nat} (hi0 : i < us.length) {kap : Int} {cl : Bool} {bo : Option Addr} {bc : Nat} {b : List Int} {o1 : Option Addr} {c1 : Nat} {s1 : List (Int × Int × Int)} {o2 : Option Addr} {c2 : Nat} {r1 : List (Int × Int × Int)} {so : Option Addr} {sc : Nat} {s : List (Int × Int × Int)} {ro : Option Addr} {rc : Nat} {r : List (Int × Int × Int)} (he : el us i = (kap, cl, (bo, bc, b), (so, sc, s), (ro, rc, r))) (hn1 : kW.Fresh hi hi' W o1 c1 s1) (hn2 : kW.Fresh hi hi' W o2 c2 r1) (hoff : Off o1 s1.length o2 r1.length) (hhi : hi ≤ hi') :
    DFr dChan lo hi' (((((W.setCell ⟨g, i * 5, none⟩ (.int .i64 kap)).setCell ⟨g, i * 5 + 1, none⟩ (.bool cl)).setCell ⟨g, i * 5 + 2, none⟩ (.slice bo b.length bc)).setCell ⟨g, i * 5 + 3, none⟩ (.slice o1 s1.length c1)).setCell ⟨g, i * 5 + 4, none⟩ (.slice o2 r1.length c2)) (some ⟨g, 0, none⟩) c (us.set i ((kap, cl, (bo, bc, b), (o1, c1, s1), (o2, c2, r1)) : LChan)) := by
  have h1 : hChan.Fresh lo hi W (some ⟨g, 0, none⟩) c us := h.1
  obtain ⟨g2, e2, hg1, hg2, hg3, ho⟩ := h1.at (show 0 < us.length by omega)
  simp at e2; subst e2
  have hblk : ∀ z, z ≠ g → (((((W.setCell ⟨g, i * 5, none⟩ (.int .i64 kap)).setCell ⟨g, i * 5 + 1, none⟩ (.bool cl)).setCell ⟨g, i * 5 + 2, none⟩ (.slice bo b.length bc)).setCell ⟨g, i * 5 + 3, none⟩ (.slice o1 s1.length c1)).setCell ⟨g, i * 5 + 4, none⟩ (.slice o2 r1.length c2)).heap[z]? = W.heap[z]? := fun z hz => by
    rw [Below.heap_setCell _ _ _ _ (by simpa using hz), Below.heap_setCell _ _ _ _ (by simpa using hz), Below.heap_setCell _ _ _ _ (by simpa using hz), Below.heap_setCell _ _ _ _ (by simpa using hz), Below.heap_setCell _ _ _ _ (by simpa using hz)]
  have hf0 : FrChan lo hi W bo bc b so sc s ro rc r := by have := h.2.1 i hi0; rw [he] at this; exact this
  have hown : ∀ z, dChan.own (el us i) z → z ≠ g := fun z hob e => by
    subst e; exact h.head dChan_ok hi0 hob ⟨by omega, rfl⟩
  rw [he] at hown
  have hf : FrChan lo hi (((((W.setCell ⟨g, i * 5, none⟩ (.int .i64 kap)).setCell ⟨g, i * 5 + 1, none⟩ (.bool cl)).setCell ⟨g, i * 5 + 2, none⟩ (.slice bo b.length bc)).setCell ⟨g, i * 5 + 3, none⟩ (.slice o1 s1.length c1)).setCell ⟨g, i * 5 + 4, none⟩ (.slice o2 r1.length c2)) bo bc b so sc s ro rc r := dChan_ok.keep (a := (kap, cl, (bo, bc, b), (so, sc, s), (ro, rc, r))) hf0 fun z hob => hblk z (hown z hob)
  have hf1 := ((Kind.Fresh.keepB hn1 fun z hz => hblk z (by have := (hn1.lt hz).1; omega)).wide (lo' := lo) (hi' := hi') (by omega) (Nat.le_refl _))
  have hf2 := ((Kind.Fresh.keepB hn2 fun z hz => hblk z (by have := (hn2.lt hz).1; omega)).wide (lo' := lo) (hi' := hi') (by omega) (Nat.le_refl _))
  refine DFr.put2 dChan_ok h hhi hi0 ?_ ⟨hf.1.wide (Nat.le_refl _) hhi, hf1, hf2, hoff⟩ (fun z hq => ?_) fun z h1 _ => hblk z fun e => h1 ⟨by omega, by rw [e]⟩
  · show hChan.Fresh _ _ _ _ _ _
    have hs := (World.ownsRow.stored (World.ownsRow.stored (World.ownsRow.stored (World.ownsRow.stored (World.ownsRow.stored ho (i * 5) (.int .i64 kap)).1 (i * 5 + 1) (.bool cl)).1 (i * 5 + 2) (.slice bo b.length bc)).1 (i * 5 + 3) (.slice o1 s1.length c1)).1 (i * 5 + 4) (.slice o2 r1.length c2)).1
    rw [hChan_all hi0] at hs
    exact .inr ⟨g, rfl, by omega, by simpa using hs⟩
  · rw [he]
    rcases hq with h | h | h
    · exact .inl (.inl h)
    · exact .inr (hn1.lt h).1
    · exact .inr (hn2.lt h).1
set_option maxRecDepth 100000 in
set_option maxHeartbeats 16000000 in
theorem l4Leave_any (n0 : Nat) (o : Option Addr) (c : Nat) (us0 : List LChan) (ps : List PChan) (t : Int) (w : World) (hn0 : n0 ≤ w.heap.size) (hv : us0.map valChan = ps) (hl : us0.length ≤ 1048576) (ht : totChan us0 ≤ 1048576) (hF : DFr dChan n0 w.heap.size w o c us0) :
    Calls Try.prog 37 #[.agg #[.slice o us0.length c], .int .i64 t] w fun e w' => (∃ u, e = .returned u) ∧ (∃ us, us.length = us0.length ∧ us.map valChan = ps.map (keepP (offT t)) ∧ DFr dChan n0 w'.heap.size w' o c us) ∧ Below n0 w w' := by
  have HF := hid hF
  have HTT := hid ht
  have HV := hid hv
  have hpl : ps.length = us0.length := by rw [← hv]; simp
  have hpt : Hid (∀ k, k < ps.length → (el ps k).2.2.1.length + (el ps k).2.2.2.1.length + (el ps k).2.2.2.2.length ≤ 1048576) := fun k hk => by
    have hk' : k < us0.length := by omega
    have h1 : el ps k = valChan (el us0 k) := by rw [← hv]; simp [el, hk']
    have := totChan_el hk'
    rw [h1]; simp only [sizeChan, valChan] at this ⊢; omega
  clear hF ht hv
  obtain ⟨V0, hV0⟩ : ∃ V0, V0 = w.alloc (.cells #[.slice o us0.length c] 28) := ⟨_, rfl⟩
  have hb0 : Below w.heap.size w V0 := by rw [hV0]; exact below1 _ _
  have hB0 : Below n0 w V0 := hb0.mono hn0
  have N0 : Hid (Bx V0 w.heap.size [.slice o us0.length c]) := by rw [hV0]; exact Bx.new [.slice o us0.length c] _ rfl
  have F0 := hid (DFr.wide dChan_ok (DFr.later dChan_ok HF.out hb0) (Nat.le_refl _) hb0.size)
  have HOG : Hid (∀ q, 0 < us0.length → o = some ⟨q, 0, none⟩ → n0 ≤ q ∧ q < w.heap.size) := fun q h0 eq => by
    obtain ⟨g2, e2, h1, h2, _⟩ := (show hChan.Fresh _ _ _ _ _ _ from HF.out.1).at h0
    rw [eq] at e2; simp at e2; subst e2; exact ⟨h1, h2⟩
  have HV0 := hid hV0
  clear hV0 hb0
  go_enter Try.func37, Try.ntmps37
  go_wp2
  rw [← HV0.out]
  go_loopw [8] (fun i wr => ∃ (k : Nat) (us : List LChan), k ≤ us0.length ∧ i = .int .i64 (k : Int) ∧ us.length = us0.length ∧ Hid (us.map valChan = mixP (offT t) ps k) ∧ Hid (DFr dChan n0 wr.heap.size wr o c us) ∧ Hid (Bx wr w.heap.size [.slice o us0.length c]) ∧ Below n0 w wr) (fun i _ => us0.length - (intOf i).toNat)
  case atStart => exact ⟨0, us0, Nat.zero_le _, rfl, rfl, by rw [Hid, mixP_zero]; exact HV.out, F0, N0, hB0⟩
  case round =>
    obtain ⟨k, us, hk, rfl, hul, hV, hD, hN, hB⟩ := hrel
    by_cases hlt : k < us0.length
    · have HLT := hid hlt
      have HKU : Hid (k < us.length) := by rw [Hid, hul]; exact hlt
      obtain ⟨gg, eo, _⟩ := (show hChan.Fresh _ _ _ _ _ _ from hD.out.1).at (show 0 < us.length by omega)
      subst eo
      have hgn := HOG.out gg (by omega) rfl
      have hns := hN.out.size
      have hps : el ps k = valChan (el us k) := by
        have h1 : el (us.map valChan) k = valChan (el us k) := by simp [el, HKU.out]
        rw [← h1, hV.out, mixP_el (offT t) (by omega)]
      have hsz := hpt.out k (by omega)
      have hx := hd_at hD.out HKU.out
      have hI := dChan_ok.fin (hD.out.2.1 k HKU.out)
      obtain ⟨⟨kap, cl, ⟨bo, bc, b⟩, ⟨so, sc, s⟩, ⟨ro, rc, r⟩⟩, ex⟩ : ∃ v, v = el us k := ⟨_, rfl⟩
      rw [hps] at hsz
      rw [← ex] at hx hps hI hsz
      have HEX : Hid (el us k = (kap, cl, (bo, bc, b), (so, sc, s), (ro, rc, r))) := ex.symm
      have HI : Hid (InChan wr.heap.size wr bo b so s ro r) := hI
      have HPS : Hid (el ps k = (kap, cl, b, s, r)) := hps
      simp only [valChan] at hsz
      obtain ⟨x0, x1, x2, x3, x4⟩ := hx
      dsimp only at x0 x1 x2 x3 x4
      have hkl : (k : Int) < (us0.length : Int) := by omega
      have n00 := hN.out.c 0 rfl
      have HSZ : Hid (s.length ≤ 1048576 ∧ r.length ≤ 1048576) := ⟨by omega, by omega⟩
      clear ex hI hps hsz
      have hs1 := HSZ.out.1
      have hs2 := HSZ.out.2
      go_wp2
      go_region_law (first
        | (go_simp; go_at_call 53; refine (l3Leave_any kap cl bo bc b so sc s ro rc r t _ (by omega) (by omega) (by exact HI.out.later (Below.refl wr.heap.size wr).drew)).mono ?_; rintro e w4 ⟨⟨o1, c1, o2, c2, rfl, hF1, hF2, hof⟩, hbx⟩; have hb4 : Below wr.heap.size wr w4 := (Below.refl wr.heap.size wr).drew.trans hbx; have hB4 : Below n0 w w4 := hB.trans (hb4.mono (by omega)); have hz4 := hb4.size; have D4 := hid (DFr.later dChan_ok hD.out hb4); have N4 := hid (hN.out.later hb4); have F1 : Hid (kW.Fresh wr.heap.size w4.heap.size w4 o1 c1 (keptW (offT t) s)) := hF1; have F2 : Hid (kW.Fresh wr.heap.size w4.heap.size w4 o2 c2 (keptW (offT t) r)) := hF2; have HOF := hid hof; have hx4 := hd_at D4.out HKU.out; have y0 := N4.out.c 0 rfl; obtain ⟨q0, q1, q2, q3, q4⟩ := hx4; have z0 := hd_frozen D4.out (by have := HKU.out; omega) (k * 5); have z1 := hd_frozen D4.out (by have := HKU.out; omega) (k * 5 + 1); have z2 := hd_frozen D4.out (by have := HKU.out; omega) (k * 5 + 2); have z3 := hd_frozen D4.out (by have := HKU.out; omega) (k * 5 + 3); have z4 := hd_frozen D4.out (by have := HKU.out; omega) (k * 5 + 4); clear hbx hF1 hF2 hof hb4))
      all_goals
        obtain ⟨W5, hW5⟩ : ∃ W5, W5 = (((((w4.setCell ⟨gg, k * 5, none⟩ (.int .i64 kap)).setCell ⟨gg, k * 5 + 1, none⟩ (.bool cl)).setCell ⟨gg, k * 5 + 2, none⟩ (.slice bo b.length bc)).setCell ⟨gg, k * 5 + 3, none⟩ (.slice o1 (keptW (offT t) s).length c1)).setCell ⟨gg, k * 5 + 4, none⟩ (.slice o2 (keptW (offT t) r).length c2)) := ⟨_, rfl⟩
        have D5 := hid (DFr.newSR D4.out HKU.out HEX.out F1.out F2.out HOF.out hz4)
        rw [← hW5] at D5
        have hB5 : Below n0 w W5 := by rw [hW5]; exact ((((hB4.setCell (p := ⟨gg, k * 5, none⟩) (by dsimp only; omega) _).setCell (p := ⟨gg, k * 5 + 1, none⟩) (by dsimp only; omega) _).setCell (p := ⟨gg, k * 5 + 2, none⟩) (by dsimp only; omega) _).setCell (p := ⟨gg, k * 5 + 3, none⟩) (by dsimp only; omega) _).setCell (p := ⟨gg, k * 5 + 4, none⟩) (by dsimp only; omega) _
        have N5 : Hid (Bx W5 w.heap.size [.slice (some ⟨gg, 0, none⟩) us0.length c]) := by rw [hW5]; exact ((((N4.out.other (a := ⟨gg, k * 5, none⟩) (by dsimp only; omega) _).other (a := ⟨gg, k * 5 + 1, none⟩) (by dsimp only; omega) _).other (a := ⟨gg, k * 5 + 2, none⟩) (by dsimp only; omega) _).other (a := ⟨gg, k * 5 + 3, none⟩) (by dsimp only; omega) _).other (a := ⟨gg, k * 5 + 4, none⟩) (by dsimp only; omega) _
        have hz5 : W5.heap.size = w4.heap.size := by rw [hW5]; simp [World.setCell]
        rw [← hz5] at D5
        have HV5 : Hid ((us.set k ((kap, cl, (bo, bc, b), (o1, c1, (keptW (offT t) s)), (o2, c2, (keptW (offT t) r))) : LChan)).map valChan = mixP (offT t) ps (k + 1)) := by
          rw [Hid, List.map_set, hV.out, ← mixP_set (offT t) (by omega), HPS.out]; rfl
        have HW5 := hid hW5
        clear hW5 D4 N4 F1 F2 HOF y0 q0 q1 q2 q3 q4 z0 z1 z2 z3 z4 x0 x1 x2 x3 x4 n00
        go_wp2
        rw [← HW5.out]
        go_roundw
        case rel => exact ⟨k + 1, _, by omega, by go_num, by simp; omega, HV5, D5, N5, hB5⟩
        case measure => simp [intOf]; omega
    · obtain rfl : k = us0.length := by omega
      have hV2 : us.map valChan = ps.map (keepP (offT t)) := by
        have h := hV.out
        rw [← hpl, mixP_all] at h; exact h
      have HV2 := hid hV2
      clear hV2
      go_wp2
      first | refine bodyPost_ret (results_none rfl _ _ _) rfl ?_ | refine bodyPost_end (results_none rfl _ _ _) rfl ?_
      exact ⟨⟨_, rfl⟩, ⟨us, hul, HV2.out, hD.out⟩, hB⟩
end
end Go.Proofs.Ytdjdbcfcccbhpaa
