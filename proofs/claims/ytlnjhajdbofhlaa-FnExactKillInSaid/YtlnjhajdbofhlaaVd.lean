
/- A task leaves a channel: the specification. No conditions but those written. -/
import Derived.Test.YtlnjhajdbofhlaaVb
namespace Go.Proofs.Ytlnjhajdbofhlaa
open Go.RowKit Go.Maps

/-- All but one task. -/
def offT (t z : Int) : Int := if z = t then 0 else 1
theorem offT_pos (t z : Int) : 0 < offT t z ↔ z ≠ t := by unfold offT; split <;> simp [*]
set_option maxRecDepth 10000 in
set_option maxHeartbeats 8000000 in
theorem l3Without_any (lo : Option Addr) (lc : Nat) (l : List (Int × Int × Int)) (t : Int) (w : World) (hl : l.length ≤ 1048576) (hz : kW.In w.heap.size w lo l) :
    Calls Try.prog 143 #[.slice lo l.length lc, .int .i64 t] w fun e w' => (∃ o c, e = .returned (.slice o (keptW (offT t) l).length c) ∧ kW.Fresh w.heap.size w'.heap.size w' o c (keptW (offT t) l)) ∧ Below w.heap.size w w' := by
  go_enter Try.func143, Try.ntmps143
  go_wp2
  go_loopw [5, 10] (fun u i wr => ∃ (k : Nat) (v : Value), v = u ∧ k ≤ l.length ∧ i = .int .i64 (k : Int) ∧ Hid (kW.Own w.heap.size wr v (keptW (offT t) (l.take k))) ∧ Below w.heap.size w wr) (fun _ i _ => l.length - (intOf i).toNat)
  case atStart => exact ⟨0, _, rfl, Nat.zero_le _, rfl, Kind.Own.nil _ _ _, Below.refl _ _⟩
  case round =>
    obtain ⟨k, v, rfl, hk, rfl, hO, hB⟩ := hrel
    by_cases hlt : k < l.length
    · obtain ⟨bb, off, rfl, hbb, hc⟩ := kW_at hz hlt
      have d1 := (hB.cell (p := ⟨bb, off + k * 3, none⟩) hbb).trans (hc k hlt).1
      have d2 := (hB.cell (p := ⟨bb, off + k * 3 + 1, none⟩) hbb).trans (hc k hlt).2.1
      have d3 := (hB.cell (p := ⟨bb, off + k * 3 + 2, none⟩) hbb).trans (hc k hlt).2.2
      obtain ⟨⟨y1, y2, y3⟩, ey⟩ : ∃ v, v = el l k := ⟨_, rfl⟩
      rw [← ey] at d1 d2 d3
      have HY : Hid (el l k = (y1, y2, y3)) := ey.symm
      clear ey hc
      dsimp only at d1 d2 d3
      have hs := hB.size
      by_cases he : y1 = t
      · have he' : (y1 != t) = false := by simpa using he
        have HO' : Hid (kW.Own w.heap.size (wr.alloc (.cells #[.int .i64 y1, .int .i64 y2, .int .i64 y3] 28)) v (keptW (offT t) (l.take (k + 1)))) := by rw [Hid, keptW_out hlt (by rw [HY.out, offT_pos]; simpa using he)]; exact hO.out.below (below1 _ _)
        have hB2 := Below.allocS hB (.cells #[.int .i64 y1, .int .i64 y2, .int .i64 y3] 28)
        clear he
        go_wp2
        go_roundw
        case rel => exact ⟨k + 1, _, rfl, by omega, by go_num, HO', hB2⟩
        case measure => simp [intOf]; omega
      · have he' : (y1 != t) = true := by simpa using he
        have HE : Hid (0 < offT t (y1, y2, y3).1) := (offT_pos _ _).2 he
        have HA : Hid (kW.Own w.heap.size ((wr.alloc (.cells #[.int .i64 y1, .int .i64 y2, .int .i64 y3] 28)).alloc (.cells #[.int .i64 y1, .int .i64 y2, .int .i64 y3] 28)) v (keptW (offT t) (l.take k))) := (hO.out.below (below1 _ _)).below (below1 _ _)
        have HN : Hid (kW.In (wr.heap.size + 1 + 1) ((wr.alloc (.cells #[.int .i64 y1, .int .i64 y2, .int .i64 y3] 28)).alloc (.cells #[.int .i64 y1, .int .i64 y2, .int .i64 y3] 28)) (some ⟨wr.heap.size + 1, 0, none⟩) [(y1, y2, y3)]) := kW_one (by omega) (by simp) (by simp) (by simp)
        have hll : (keptW (offT t) (l.take k)).length + 1 ≤ 4194304 := by have := keptW_le (offT t) (l.take k); simp at this; omega
        have hBa : Below w.heap.size w ((wr.alloc (.cells #[.int .i64 y1, .int .i64 y2, .int .i64 y3] 28)).alloc (.cells #[.int .i64 y1, .int .i64 y2, .int .i64 y3] 28)) := Below.allocS (Below.allocS hB _) _
        clear he
        go_wp2_with (at_builtin; refine Kind.app kW_ok ((wr.alloc (.cells #[.int .i64 y1, .int .i64 y2, .int .i64 y3] 28)).alloc (.cells #[.int .i64 y1, .int .i64 y2, .int .i64 y3] 28)) rfl (.tmp 18) (.tmp 20) rfl w.heap.size v (keptW (offT t) (l.take k)) rfl HA.out (by simp; omega) (some ⟨wr.heap.size + 1, 0, none⟩) [(y1, y2, y3)] 1 1 rfl rfl (by simp) _ HN.out hll ?_; intro v' w' hO' hB' hG' hn'; have hB2 : Below w.heap.size w w' := hBa.trans (hB'.mono (by omega)); have HO' : Hid (kW.Own w.heap.size w' v' (keptW (offT t) (l.take (k + 1)))) := (by rw [Hid, keptW_in hlt (by rw [HY.out]; exact HE.out), HY.out]; exact hO'); clear hO' hB' hG' hn')
        go_roundw
        case rel => exact ⟨k + 1, v', rfl, by omega, by go_num, HO', hB2⟩
        case measure => simp [intOf]; omega
    · obtain rfl : k = l.length := by omega
      rw [List.take_length] at hO
      obtain ⟨qo, qc, rfl, _, hF⟩ := hO.out.fresh
      have HF : Hid (kW.Fresh w.heap.size wr.heap.size wr qo qc (keptW (offT t) l)) := hF
      clear hF hO
      go_wp2
      go_ret
      exact ⟨⟨_, _, rfl, HF.out⟩, hB⟩
set_option maxRecDepth 10000 in
set_option maxHeartbeats 8000000 in
theorem l3Leave_any (kap : Int) (cl : Bool) (bo : Option Addr) (bc : Nat) (b : List Int) (so : Option Addr) (sc : Nat) (s : List (Int × Int × Int)) (ro : Option Addr) (rc : Nat) (r : List (Int × Int × Int)) (t : Int) (w : World) (hls : s.length ≤ 1048576) (hlr : r.length ≤ 1048576) (hz : InChan w.heap.size w bo b so s ro r) :
    Calls Try.prog 128 #[.agg #[.int .i64 kap, .bool cl, .slice bo b.length bc, .slice so s.length sc, .slice ro r.length rc], .int .i64 t] w fun e w' => (∃ o1 c1 o2 c2, e = .returned (.agg #[.int .i64 kap, .bool cl, .slice bo b.length bc, .slice o1 (keptW (offT t) s).length c1, .slice o2 (keptW (offT t) r).length c2]) ∧ kW.Fresh w.heap.size w'.heap.size w' o1 c1 (keptW (offT t) s) ∧ kW.Fresh w.heap.size w'.heap.size w' o2 c2 (keptW (offT t) r) ∧ Off o1 (keptW (offT t) s).length o2 (keptW (offT t) r).length) ∧ Below w.heap.size w w' := by
  obtain ⟨w0, hw0⟩ : ∃ w0, w0 = ((w.alloc (.cells #[.int .i64 kap, .bool cl, .slice bo b.length bc, .slice so s.length sc, .slice ro r.length rc] 26)).alloc (.cells #[.int .i64 0, .bool false, .slice none 0 0, .slice none 0 0, .slice none 0 0] 26)) := ⟨_, rfl⟩
  have hB0 : Below w.heap.size w w0 := by rw [hw0]; exact Below.allocS (Below.allocS (Below.refl _ _) _) _
  have XA0 : Hid (Bx w0 (w.heap.size) [.int .i64 kap, .bool cl, .slice bo b.length bc, .slice so s.length sc, .slice ro r.length rc]) := by rw [hw0]; exact Bx.alloc (Bx.new [.int .i64 kap, .bool cl, .slice bo b.length bc, .slice so s.length sc, .slice ro r.length rc] _ rfl) _
  have XR0 : Hid (Bx w0 (w.heap.size + 1) [.int .i64 0, .bool false, .slice none 0 0, .slice none 0 0, .slice none 0 0]) := by rw [hw0]; exact Bx.new [.int .i64 0, .bool false, .slice none 0 0, .slice none 0 0, .slice none 0 0] _ (by simp)
  have H0 : Hid (w0 = ((w.alloc (.cells #[.int .i64 kap, .bool cl, .slice bo b.length bc, .slice so s.length sc, .slice ro r.length rc] 26)).alloc (.cells #[.int .i64 0, .bool false, .slice none 0 0, .slice none 0 0, .slice none 0 0] 26))) := hw0
  have hs0 : w.heap.size + 1 + 1 ≤ w0.heap.size := by rw [hw0]; simp
  clear hw0
  go_enter Try.func128, Try.ntmps128
  go_wp2_with fail
  rw [← H0.out]
  refine (l3Without_any so sc s t w0 hls (hz.2.1.later hB0)).mono ?_
  rintro e w1 ⟨⟨o1, c1, rfl, hF1⟩, hb1⟩
  have hB1 := hB0.trans (hb1.mono hB0.size)
  have hs1 : w.heap.size + 1 + 1 ≤ w1.heap.size := Nat.le_trans hs0 hb1.size
  have hz1 : w0.heap.size ≤ w1.heap.size := hb1.size
  have XA1 := hid (XA0.out.later hb1)
  have XR1 := hid (XR0.out.later hb1)
  clear XA0 XR0
  have F1 := hid (hF1)
  clear hb1 hF1
  have a0 := XA1.out.c 0 rfl
  have af0 := XA1.out.f 0 rfl
  have a1 := XA1.out.c 1 rfl
  have af1 := XA1.out.f 1 rfl
  have a2 := XA1.out.c 2 rfl
  have af2 := XA1.out.f 2 rfl
  have a3 := XA1.out.c 3 rfl
  have af3 := XA1.out.f 3 rfl
  have a4 := XA1.out.c 4 rfl
  have af4 := XA1.out.f 4 rfl
  have az := XA1.out.size
  have r0 := XR1.out.c 0 rfl
  have rf0 := XR1.out.f 0 rfl
  have r1 := XR1.out.c 1 rfl
  have rf1 := XR1.out.f 1 rfl
  have r2 := XR1.out.c 2 rfl
  have rf2 := XR1.out.f 2 rfl
  have r3 := XR1.out.c 3 rfl
  have rf3 := XR1.out.f 3 rfl
  have r4 := XR1.out.c 4 rfl
  have rf4 := XR1.out.f 4 rfl
  have rz := XR1.out.size
  obtain ⟨w2, hV⟩ : ∃ V, V = (w1.setCell ⟨w.heap.size, 3, none⟩ (.slice o1 (keptW (offT t) s).length c1)) := ⟨_, rfl⟩
  have hz2 : w1.heap.size ≤ w2.heap.size := by rw [hV]; simp [World.setCell]
  have hs2 : w.heap.size + 1 + 1 ≤ w2.heap.size := Nat.le_trans hs1 hz2
  have hB2 : Below w.heap.size w w2 := by rw [hV]; exact (hB1.setCell (p := ⟨w.heap.size, 3, none⟩) (by dsimp only; omega) _)
  have XA2 := hid ((XA1.out.set 3 (.slice o1 (keptW (offT t) s).length c1)))
  rw [← hV] at XA2
  have XR2 := hid ((XR1.out.other (a := ⟨w.heap.size, 3, none⟩) (by dsimp only; omega) (.slice o1 (keptW (offT t) s).length c1)))
  rw [← hV] at XR2
  have F2 := hid ((F1.out.setOff (a := ⟨w.heap.size, 3, none⟩) (by dsimp only; omega) (.slice o1 (keptW (offT t) s).length c1)))
  rw [← hV] at F2
  have H2 : Hid (w2 = (w1.setCell ⟨w.heap.size, 3, none⟩ (.slice o1 (keptW (offT t) s).length c1))) := hV
  clear hV XA1 XR1 F1
  go_wp2_with fail
  clear a0 af0 a1 af1 a2 af2 a3 af3 a4 af4 az r0 rf0 r1 rf1 r2 rf2 r3 rf3 r4 rf4 rz
  rw [← H2.out]
  refine (l3Without_any ro rc r t w2 hlr (hz.2.2.later hB2)).mono ?_
  rintro e w3 ⟨⟨o2, c2, rfl, hF2⟩, hb3⟩
  have hB3 := hB2.trans (hb3.mono hB2.size)
  have hs3 : w.heap.size + 1 + 1 ≤ w3.heap.size := Nat.le_trans hs2 hb3.size
  have hz3 : w2.heap.size ≤ w3.heap.size := hb3.size
  have XA3 := hid (XA2.out.later hb3)
  have XR3 := hid (XR2.out.later hb3)
  have F3 := hid (F2.out.later hb3)
  clear XA2 XR2 F2
  have G3 := hid (hF2)
  clear hb3 hF2
  have a0 := XA3.out.c 0 rfl
  have af0 := XA3.out.f 0 rfl
  have a1 := XA3.out.c 1 rfl
  have af1 := XA3.out.f 1 rfl
  have a2 := XA3.out.c 2 rfl
  have af2 := XA3.out.f 2 rfl
  have a3 := XA3.out.c 3 rfl
  have af3 := XA3.out.f 3 rfl
  have a4 := XA3.out.c 4 rfl
  have af4 := XA3.out.f 4 rfl
  have az := XA3.out.size
  have r0 := XR3.out.c 0 rfl
  have rf0 := XR3.out.f 0 rfl
  have r1 := XR3.out.c 1 rfl
  have rf1 := XR3.out.f 1 rfl
  have r2 := XR3.out.c 2 rfl
  have rf2 := XR3.out.f 2 rfl
  have r3 := XR3.out.c 3 rfl
  have rf3 := XR3.out.f 3 rfl
  have r4 := XR3.out.c 4 rfl
  have rf4 := XR3.out.f 4 rfl
  have rz := XR3.out.size
  go_wp2
  refine bodyPost_ret (v := .agg #[.int .i64 kap, .bool cl, .slice bo b.length bc, .slice o1 (keptW (offT t) s).length c1, .slice o2 (keptW (offT t) r).length c2]) (by simp [results, Try.results128, go_sem, r0, r1, r2, r3, r4]) rfl ?_
  exact ⟨⟨o1, c1, o2, c2, rfl, ((((((F3.out.setOff (a := ⟨w.heap.size, 4, none⟩) (by dsimp only; omega) _).setOff (a := ⟨w.heap.size + 1, 0, none⟩) (by dsimp only; omega) _).setOff (a := ⟨w.heap.size + 1, 1, none⟩) (by dsimp only; omega) _).setOff (a := ⟨w.heap.size + 1, 2, none⟩) (by dsimp only; omega) _).setOff (a := ⟨w.heap.size + 1, 3, none⟩) (by dsimp only; omega) _).setOff (a := ⟨w.heap.size + 1, 4, none⟩) (by dsimp only; omega) _).wide (by omega) (by simp <;> omega), ((((((G3.out.setOff (a := ⟨w.heap.size, 4, none⟩) (by dsimp only; omega) _).setOff (a := ⟨w.heap.size + 1, 0, none⟩) (by dsimp only; omega) _).setOff (a := ⟨w.heap.size + 1, 1, none⟩) (by dsimp only; omega) _).setOff (a := ⟨w.heap.size + 1, 2, none⟩) (by dsimp only; omega) _).setOff (a := ⟨w.heap.size + 1, 3, none⟩) (by dsimp only; omega) _).setOff (a := ⟨w.heap.size + 1, 4, none⟩) (by dsimp only; omega) _).wide (by omega) (by simp <;> omega), Kind.Fresh.apart F3.out G3.out (by omega)⟩, ((((((hB3.setCell (p := ⟨w.heap.size, 4, none⟩) (by dsimp only; omega) _).setCell (p := ⟨w.heap.size + 1, 0, none⟩) (by dsimp only; omega) _).setCell (p := ⟨w.heap.size + 1, 1, none⟩) (by dsimp only; omega) _).setCell (p := ⟨w.heap.size + 1, 2, none⟩) (by dsimp only; omega) _).setCell (p := ⟨w.heap.size + 1, 3, none⟩) (by dsimp only; omega) _).setCell (p := ⟨w.heap.size + 1, 4, none⟩) (by dsimp only; omega) _)⟩
end Go.Proofs.Ytlnjhajdbofhlaa
