
/- DoneWith, GiveBackLetters: the specification, their rows their own. No conditions but those written. -/
import Derived.Test.YtnnlbnbamhkcaaaEf
import Derived.Test.YtnnlbnbamhkcaaaEh
import Derived.Test.YtnnlbnbamhkcaaaOa
import Derived.Deep.Cut
import Derived.Deep.RegionLaw
namespace Go.Proofs.Ytnnlbnbamhkcaaa
open Go.RowKit

set_option maxRecDepth 10000 in
set_option maxHeartbeats 8000000 in
theorem specDone_own (kap : Int) (cl : Bool) (bo : Option Addr) (bc : Nat) (b : List Int) (so : Option Addr) (sc : Nat) (s : List (Int × Int × Int)) (ro : Option Addr) (rc : Nat) (r : List (Int × Int × Int)) (iv : Int) (w : World) (hlb : b.length ≤ 1048576) (hls : s.length ≤ 1048576) (hlr : r.length ≤ 1048576) (hz : InBox w.heap.size w bo b so s ro r) (hwf : WfBox bo bc so sc ro rc) :
    Calls Try.prog 38 #[.agg #[.int .i64 kap, .bool cl, .slice bo b.length bc, .slice so s.length sc, .slice ro r.length rc], .int .i64 iv] w fun e w' => AnsO w (doneR kap cl b s r iv) e w' := by
  cases hg : goodX kap b s r
  · have HG : Hid (goodX kap b s r = false) := hg
    have HR : Hid (doneR kap cl b s r iv = (0, false, [], [], [], 1)) := doneR_bad hg
    clear hg
    obtain ⟨w0, hw0⟩ : ∃ w0, w0 = ((w.alloc (.cells #[.int .i64 kap, .bool cl, .slice bo b.length bc, .slice so s.length sc, .slice ro r.length rc] 26)).alloc (.cells #[.int .i64 0, .bool false, .slice none 0 0, .slice none 0 0, .slice none 0 0] 26)) := ⟨_, rfl⟩
    have hB0 : Below w.heap.size w w0 := by rw [hw0]; exact Below.allocS (Below.allocS (Below.refl _ _) _) _
    have XA0 : Hid (Bx w0 (w.heap.size) [.int .i64 kap, .bool cl, .slice bo b.length bc, .slice so s.length sc, .slice ro r.length rc]) := by rw [hw0]; exact Bx.alloc (Bx.new [.int .i64 kap, .bool cl, .slice bo b.length bc, .slice so s.length sc, .slice ro r.length rc] _ rfl) _
    have XR0 : Hid (Bx w0 (w.heap.size + 1) [.int .i64 0, .bool false, .slice none 0 0, .slice none 0 0, .slice none 0 0]) := by rw [hw0]; exact Bx.new [.int .i64 0, .bool false, .slice none 0 0, .slice none 0 0, .slice none 0 0] _ (by simp)
    have H0 : Hid (w0 = ((w.alloc (.cells #[.int .i64 kap, .bool cl, .slice bo b.length bc, .slice so s.length sc, .slice ro r.length rc] 26)).alloc (.cells #[.int .i64 0, .bool false, .slice none 0 0, .slice none 0 0, .slice none 0 0] 26))) := hw0
    have hs0 : w.heap.size + 1 + 1 ≤ w0.heap.size := by rw [hw0]; simp
    clear hw0
    go_enter Try.func38, Try.ntmps38
    go_wp2_with fail
    rw [← H0.out]
    refine (specGood_is kap cl bo bc b so sc s ro rc r w0 false hlb hls hlr (hz.later hB0) HG.out).mono ?_
    rintro e w1 ⟨rfl, hb1⟩
    have hB1 := hB0.trans (hb1.mono hB0.size)
    have hs1 : w.heap.size + 1 + 1 ≤ w1.heap.size := Nat.le_trans hs0 hb1.size
    have hz1 : w0.heap.size ≤ w1.heap.size := hb1.size
    have XA1 := hid (XA0.out.later hb1)
    have XR1 := hid (XR0.out.later hb1)
    clear XA0 XR0
    clear hb1
    have a0 := XA1.out.c 0 rfl
    have af0 := XA1.out.f 0 rfl
    have a1 := XA1.out.c 1 rfl
    have af1 := XA1.out.f 1 rfl
    have a2 := XA1.out.c 2 rfl
    have af2 := XA1.out.f 2 rfl
    have a3 := XA1.out.c 3 rfl
    have af3 := XA1.out.f 3 rfl
    have a4 := XA1.out.c 4 rfl
    have af4 := XA1.out.f 4 rfl
    have az := XA1.out.size
    have r0 := XR1.out.c 0 rfl
    have rf0 := XR1.out.f 0 rfl
    have r1 := XR1.out.c 1 rfl
    have rf1 := XR1.out.f 1 rfl
    have r2 := XR1.out.c 2 rfl
    have rf2 := XR1.out.f 2 rfl
    have r3 := XR1.out.c 3 rfl
    have rf3 := XR1.out.f 3 rfl
    have r4 := XR1.out.c 4 rfl
    have rf4 := XR1.out.f 4 rfl
    have rz := XR1.out.size
    go_wp2
    refine bodyPost_ret (v := .tuple #[.agg #[.int .i64 0, .bool false, .slice none 0 0, .slice none 0 0, .slice none 0 0], .int .i64 1]) (by simp [results, Try.results38, go_sem, r0, r1, r2, r3, r4]) rfl ?_
    rw [HR.out]
    exact ⟨⟨_, _, _, rfl, wBox_nil _ _⟩, (((((hB1.setCell (p := ⟨w.heap.size + 1, 0, none⟩) (by dsimp only; omega) _).setCell (p := ⟨w.heap.size + 1, 1, none⟩) (by dsimp only; omega) _).setCell (p := ⟨w.heap.size + 1, 2, none⟩) (by dsimp only; omega) _).setCell (p := ⟨w.heap.size + 1, 3, none⟩) (by dsimp only; omega) _).setCell (p := ⟨w.heap.size + 1, 4, none⟩) (by dsimp only; omega) _)⟩
  have HG : Hid (goodX kap b s r = true) := hg
  have hnd : (idsOf r).Nodup := (List.nodup_append.1 (goodX_good hg).2.2.2.2.1).2.1
  have HGT : Hid (goodX kap b s r = true) := hg
  have HND := hid hnd
  clear hg hnd
  obtain ⟨w0, hw0⟩ : ∃ w0, w0 = ((w.alloc (.cells #[.int .i64 kap, .bool cl, .slice bo b.length bc, .slice so s.length sc, .slice ro r.length rc] 26)).alloc (.cells #[.int .i64 0, .bool false, .slice none 0 0, .slice none 0 0, .slice none 0 0] 26)) := ⟨_, rfl⟩
  have hB0 : Below w.heap.size w w0 := by rw [hw0]; exact Below.allocS (Below.allocS (Below.refl _ _) _) _
  have XA0 : Hid (Bx w0 (w.heap.size) [.int .i64 kap, .bool cl, .slice bo b.length bc, .slice so s.length sc, .slice ro r.length rc]) := by rw [hw0]; exact Bx.alloc (Bx.new [.int .i64 kap, .bool cl, .slice bo b.length bc, .slice so s.length sc, .slice ro r.length rc] _ rfl) _
  have XR0 : Hid (Bx w0 (w.heap.size + 1) [.int .i64 0, .bool false, .slice none 0 0, .slice none 0 0, .slice none 0 0]) := by rw [hw0]; exact Bx.new [.int .i64 0, .bool false, .slice none 0 0, .slice none 0 0, .slice none 0 0] _ (by simp)
  have H0 : Hid (w0 = ((w.alloc (.cells #[.int .i64 kap, .bool cl, .slice bo b.length bc, .slice so s.length sc, .slice ro r.length rc] 26)).alloc (.cells #[.int .i64 0, .bool false, .slice none 0 0, .slice none 0 0, .slice none 0 0] 26))) := hw0
  have hs0 : w.heap.size + 1 + 1 ≤ w0.heap.size := by rw [hw0]; simp
  clear hw0
  go_enter Try.func38, Try.ntmps38
  go_wp2_with fail
  rw [← H0.out]
  refine (specGood_is kap cl bo bc b so sc s ro rc r w0 true hlb hls hlr (hz.later hB0) HG.out).mono ?_
  rintro e w1 ⟨rfl, hb1⟩
  have hB1 := hB0.trans (hb1.mono hB0.size)
  have hs1 : w.heap.size + 1 + 1 ≤ w1.heap.size := Nat.le_trans hs0 hb1.size
  have hz1 : w0.heap.size ≤ w1.heap.size := hb1.size
  have XA1 := hid (XA0.out.later hb1)
  have XR1 := hid (XR0.out.later hb1)
  clear XA0 XR0
  clear hb1
  have a0 := XA1.out.c 0 rfl
  have af0 := XA1.out.f 0 rfl
  have a1 := XA1.out.c 1 rfl
  have af1 := XA1.out.f 1 rfl
  have a2 := XA1.out.c 2 rfl
  have af2 := XA1.out.f 2 rfl
  have a3 := XA1.out.c 3 rfl
  have af3 := XA1.out.f 3 rfl
  have a4 := XA1.out.c 4 rfl
  have af4 := XA1.out.f 4 rfl
  have az := XA1.out.size
  have r0 := XR1.out.c 0 rfl
  have rf0 := XR1.out.f 0 rfl
  have r1 := XR1.out.c 1 rfl
  have rf1 := XR1.out.f 1 rfl
  have r2 := XR1.out.c 2 rfl
  have rf2 := XR1.out.f 2 rfl
  have r3 := XR1.out.c 3 rfl
  have rf3 := XR1.out.f 3 rfl
  have r4 := XR1.out.c 4 rfl
  have rf4 := XR1.out.f 4 rfl
  have rz := XR1.out.size
  go_wp2_with fail
  clear a0 af0 a1 af1 a2 af2 a3 af3 a4 af4 az r0 rf0 r1 rf1 r2 rf2 r3 rf3 r4 rf4 rz
  refine (ownBox_any kap cl bo bc b so sc s ro rc r w1 hlb hls hlr (hz.later hB1) hwf).mono ?_
  rintro e w2 ⟨⟨gb, bc1, gs, sc1, gr, rc1, rfl, hF⟩, hb2⟩
  have hB2 := hB1.trans (hb2.mono hB1.size)
  have hs2 : w.heap.size + 1 + 1 ≤ w2.heap.size := Nat.le_trans hs1 hb2.size
  have hz2 : w1.heap.size ≤ w2.heap.size := hb2.size
  have XA2 := hid (XA1.out.later hb2)
  have XR2 := hid (XR1.out.later hb2)
  clear XA1 XR1
  have F2 := hid (hF)
  clear hb2 hF
  have a0 := XA2.out.c 0 rfl
  have af0 := XA2.out.f 0 rfl
  have a1 := XA2.out.c 1 rfl
  have af1 := XA2.out.f 1 rfl
  have a2 := XA2.out.c 2 rfl
  have af2 := XA2.out.f 2 rfl
  have a3 := XA2.out.c 3 rfl
  have af3 := XA2.out.f 3 rfl
  have a4 := XA2.out.c 4 rfl
  have af4 := XA2.out.f 4 rfl
  have az := XA2.out.size
  have r0 := XR2.out.c 0 rfl
  have rf0 := XR2.out.f 0 rfl
  have r1 := XR2.out.c 1 rfl
  have rf1 := XR2.out.f 1 rfl
  have r2 := XR2.out.c 2 rfl
  have rf2 := XR2.out.f 2 rfl
  have r3 := XR2.out.c 3 rfl
  have rf3 := XR2.out.f 3 rfl
  have r4 := XR2.out.c 4 rfl
  have rf4 := XR2.out.f 4 rfl
  have rz := XR2.out.size
  go_upto_region 4 with fail
  clear a0 af0 a1 af1 a2 af2 a3 af3 a4 af4 az r0 rf0 r1 rf1 r2 rf2 r3 rf3 r4 rf4 rz
  obtain ⟨w3, hV⟩ : ∃ V, V = (((((w2.setCell ⟨w.heap.size, 0, none⟩ (.int .i64 kap)).setCell ⟨w.heap.size, 1, none⟩ (.bool cl)).setCell ⟨w.heap.size, 2, none⟩ (.slice (some ⟨gb, 0, none⟩) b.length bc1)).setCell ⟨w.heap.size, 3, none⟩ (.slice (some ⟨gs, 0, none⟩) s.length sc1)).setCell ⟨w.heap.size, 4, none⟩ (.slice (some ⟨gr, 0, none⟩) r.length rc1)) := ⟨_, rfl⟩
  have hz3 : w2.heap.size ≤ w3.heap.size := by rw [hV]; simp [World.setCell]
  have hs3 : w.heap.size + 1 + 1 ≤ w3.heap.size := Nat.le_trans hs2 hz3
  have hB3 : Below w.heap.size w w3 := by rw [hV]; exact (((((hB2.setCell (p := ⟨w.heap.size, 0, none⟩) (by dsimp only; omega) _).setCell (p := ⟨w.heap.size, 1, none⟩) (by dsimp only; omega) _).setCell (p := ⟨w.heap.size, 2, none⟩) (by dsimp only; omega) _).setCell (p := ⟨w.heap.size, 3, none⟩) (by dsimp only; omega) _).setCell (p := ⟨w.heap.size, 4, none⟩) (by dsimp only; omega) _)
  have XA3 := hid ((((((XA2.out.set 0 (.int .i64 kap)).set 1 (.bool cl)).set 2 (.slice (some ⟨gb, 0, none⟩) b.length bc1)).set 3 (.slice (some ⟨gs, 0, none⟩) s.length sc1)).set 4 (.slice (some ⟨gr, 0, none⟩) r.length rc1)))
  rw [← hV] at XA3
  have XR3 := hid ((((((XR2.out.other (a := ⟨w.heap.size, 0, none⟩) (by dsimp only; omega) (.int .i64 kap)).other (a := ⟨w.heap.size, 1, none⟩) (by dsimp only; omega) (.bool cl)).other (a := ⟨w.heap.size, 2, none⟩) (by dsimp only; omega) (.slice (some ⟨gb, 0, none⟩) b.length bc1)).other (a := ⟨w.heap.size, 3, none⟩) (by dsimp only; omega) (.slice (some ⟨gs, 0, none⟩) s.length sc1)).other (a := ⟨w.heap.size, 4, none⟩) (by dsimp only; omega) (.slice (some ⟨gr, 0, none⟩) r.length rc1)))
  rw [← hV] at XR3
  have F3 := hid ((((((F2.out.setBelow (a := ⟨w.heap.size, 0, none⟩) (by dsimp only; omega) (.int .i64 kap)).setBelow (a := ⟨w.heap.size, 1, none⟩) (by dsimp only; omega) (.bool cl)).setBelow (a := ⟨w.heap.size, 2, none⟩) (by dsimp only; omega) (.slice (some ⟨gb, 0, none⟩) b.length bc1)).setBelow (a := ⟨w.heap.size, 3, none⟩) (by dsimp only; omega) (.slice (some ⟨gs, 0, none⟩) s.length sc1)).setBelow (a := ⟨w.heap.size, 4, none⟩) (by dsimp only; omega) (.slice (some ⟨gr, 0, none⟩) r.length rc1)))
  rw [← hV] at F3
  have H3 : Hid (w3 = (((((w2.setCell ⟨w.heap.size, 0, none⟩ (.int .i64 kap)).setCell ⟨w.heap.size, 1, none⟩ (.bool cl)).setCell ⟨w.heap.size, 2, none⟩ (.slice (some ⟨gb, 0, none⟩) b.length bc1)).setCell ⟨w.heap.size, 3, none⟩ (.slice (some ⟨gs, 0, none⟩) s.length sc1)).setCell ⟨w.heap.size, 4, none⟩ (.slice (some ⟨gr, 0, none⟩) r.length rc1))) := hV
  clear hV XA2 XR2 F2
  rw [← H3.out]
  clear H3
  have HI : Hid (kL.In w3.heap.size w3 (some ⟨gr, 0, none⟩) r) := (OBox.in F3.out).2.2
  have F0 := hid (OBox.fr F3.out)
  have HGS := hid (own_at F3.out.2.1).2
  have a0 := XA3.out.c 0 rfl
  have af0 := XA3.out.f 0 rfl
  have a1 := XA3.out.c 1 rfl
  have af1 := XA3.out.f 1 rfl
  have a2 := XA3.out.c 2 rfl
  have af2 := XA3.out.f 2 rfl
  have a3 := XA3.out.c 3 rfl
  have af3 := XA3.out.f 3 rfl
  have a4 := XA3.out.c 4 rfl
  have af4 := XA3.out.f 4 rfl
  have az := XA3.out.size
  have r0 := XR3.out.c 0 rfl
  have rf0 := XR3.out.f 0 rfl
  have r1 := XR3.out.c 1 rfl
  have rf1 := XR3.out.f 1 rfl
  have r2 := XR3.out.c 2 rfl
  have rf2 := XR3.out.f 2 rfl
  have r3 := XR3.out.c 3 rfl
  have rf3 := XR3.out.f 3 rfl
  have r4 := XR3.out.c 4 rfl
  have rf4 := XR3.out.f 4 rfl
  have rz := XR3.out.size
  go_wp2
  go_loopw [6, 18] (fun u i wr => ∃ (k : Nat) (v : Value), v = u ∧ k ≤ r.length ∧ i = .int .i64 k ∧ Hid (kL.Own w3.heap.size wr v ((r.take k).filter (fun t => t.1 != iv))) ∧ Below w3.heap.size w3 wr) (fun _ i _ => r.length - (intOf i).toNat)
  case atStart => exact ⟨0, _, rfl, Nat.zero_le _, rfl, Kind.Own.nil _ _ _, Below.refl _ _⟩
  case round =>
    obtain ⟨k, v, rfl, hk, rfl, hO, hB⟩ := hrel
    have hsz := hB.size
    by_cases hlt : k < r.length
    · obtain ⟨bb, off, ebb, hbb, hc⟩ := kL_at HI.out hlt
      cases ebb
      simp only [Nat.zero_add] at hc
      have d1 := (hB.cell (p := ⟨gr, k * 3, none⟩) hbb).trans (hc k hlt).1
      have d2 := (hB.cell (p := ⟨gr, k * 3 + 1, none⟩) hbb).trans (hc k hlt).2.1
      have d3 := (hB.cell (p := ⟨gr, k * 3 + 2, none⟩) hbb).trans (hc k hlt).2.2
      obtain ⟨⟨y1, y2, y3⟩, ey⟩ : ∃ v, v = el r k := ⟨_, rfl⟩
      rw [← ey] at d1 d2 d3
      have HY : Hid (el r k = (y1, y2, y3)) := ey.symm
      clear ey hc
      dsimp only at d1 d2 d3
      cases hy : (y1 != iv)
      · have HE : Hid (((r.take (k + 1)).filter (fun t => t.1 != iv)) = ((r.take k).filter (fun t => t.1 != iv))) := by rw [Hid, take_succ_el hlt, HY.out, List.filter_append]; simp [hy]
        go_wp2
        go_roundw
        case rel => exact ⟨k + 1, v, rfl, by omega, by go_num, by rw [HE.out]; exact hid (hO.out.below (below1 _ _)), hB.alloc hB.size _⟩
        case measure => simp [intOf]; omega
      · have HE : Hid (((r.take (k + 1)).filter (fun t => t.1 != iv)) = ((r.take k).filter (fun t => t.1 != iv)) ++ [(y1, y2, y3)]) := by rw [Hid, take_succ_el hlt, HY.out, List.filter_append]; simp [hy]
        have hfl : ((r.take k).filter (fun t => t.1 != iv)).length ≤ 1048576 := Nat.le_trans (List.length_filter_le _ _) (by simp; omega)
        have HA : Hid (kL.Own w3.heap.size ((wr.alloc (.cells #[.int .i64 y1, .int .i64 y2, .int .i64 y3] 29)).alloc (.cells #[.int .i64 y1, .int .i64 y2, .int .i64 y3] 29)) v ((r.take k).filter (fun t => t.1 != iv))) := (hO.out.below (below1 _ _)).below (below1 _ _)
        have HN : Hid (kL.In (wr.heap.size + 1 + 1) ((wr.alloc (.cells #[.int .i64 y1, .int .i64 y2, .int .i64 y3] 29)).alloc (.cells #[.int .i64 y1, .int .i64 y2, .int .i64 y3] 29)) (some ⟨wr.heap.size + 1, 0, none⟩) [(y1, y2, y3)]) := kL_one (t := (y1, y2, y3)) (by omega) (by simp) (by simp) (by simp)
        have hBa : Below w3.heap.size w3 ((wr.alloc (.cells #[.int .i64 y1, .int .i64 y2, .int .i64 y3] 29)).alloc (.cells #[.int .i64 y1, .int .i64 y2, .int .i64 y3] 29)) := (hB.alloc hB.size _).alloc (by simp; omega) _
        obtain ⟨fk, efk⟩ : ∃ l, l = ((r.take k).filter (fun t => t.1 != iv)) := ⟨_, rfl⟩
        rw [← efk] at HE hfl HA
        clear efk hO
        go_wp2_with (at_builtin; refine Kind.app kL_ok ((wr.alloc (.cells #[.int .i64 y1, .int .i64 y2, .int .i64 y3] 29)).alloc (.cells #[.int .i64 y1, .int .i64 y2, .int .i64 y3] 29)) rfl (.tmp 26) (.tmp 28) rfl w3.heap.size v fk rfl HA.out (by simp; omega) (some ⟨wr.heap.size + 1, 0, none⟩) [(y1, y2, y3)] 1 1 rfl rfl (by simp) _ HN.out (by simp; omega) ?_; intro v' w' hO' hB' hG' hn'; have hB2 : Below w3.heap.size w3 w' := hBa.trans hB'; have HO' : Hid (kL.Own w3.heap.size w' v' ((r.take (k + 1)).filter (fun t => t.1 != iv))) := (by rw [Hid, HE.out]; exact hO'); clear hO' hB' hG' hn')
        go_roundw
        case rel => exact ⟨k + 1, v', rfl, by omega, by go_num, HO', hB2⟩
        case measure => simp [intOf]; omega
    · obtain rfl : k = r.length := by omega
      rw [List.take_length] at hO
      clear a0 af0 a1 af1 a2 af2 a3 af3 a4 af4 az r0 rf0 r1 rf1 r2 rf2 r3 rf3 r4 rf4 rz
      have hB4 := hB3.trans (hB.mono hB3.size)
      have hs4 : w.heap.size + 1 + 1 ≤ wr.heap.size := Nat.le_trans hs3 hB.size
      have hz4 : w3.heap.size ≤ wr.heap.size := hB.size
      have XA4 := hid (XA3.out.later hB)
      have XR4 := hid (XR3.out.later hB)
      have F4 := hid (F3.out.below hB)
      clear XA3 XR3 F3
      have HF0 := hid (FrBox.later F0.out hB)
      clear hlt hk F0 hB
      cases hh : hasB (idsOf r) iv
      · have HR : Hid (doneR kap cl b s r iv = (kap, cl, b, s, r, 4)) := by rw [Hid, doneR, if_pos HGT.out, if_neg (by rw [hh]; simp)]
        rw [filter_none hh] at hO
        clear hh
        obtain ⟨go, qc, rfl, _, _⟩ := hO.out.fresh
        clear hO
        have hle : ((r.length : Int) == (r.length : Int)) = true := by simp
        have a0 := XA4.out.c 0 rfl
        have af0 := XA4.out.f 0 rfl
        have a1 := XA4.out.c 1 rfl
        have af1 := XA4.out.f 1 rfl
        have a2 := XA4.out.c 2 rfl
        have af2 := XA4.out.f 2 rfl
        have a3 := XA4.out.c 3 rfl
        have af3 := XA4.out.f 3 rfl
        have a4 := XA4.out.c 4 rfl
        have af4 := XA4.out.f 4 rfl
        have az := XA4.out.size
        have r0 := XR4.out.c 0 rfl
        have rf0 := XR4.out.f 0 rfl
        have r1 := XR4.out.c 1 rfl
        have rf1 := XR4.out.f 1 rfl
        have r2 := XR4.out.c 2 rfl
        have rf2 := XR4.out.f 2 rfl
        have r3 := XR4.out.c 3 rfl
        have rf3 := XR4.out.f 3 rfl
        have r4 := XR4.out.c 4 rfl
        have rf4 := XR4.out.f 4 rfl
        have rz := XR4.out.size
        go_wp2
        refine bodyPost_ret (v := .tuple #[.agg #[.int .i64 kap, .bool cl, .slice (some ⟨gb, 0, none⟩) b.length bc1, .slice (some ⟨gs, 0, none⟩) s.length sc1, .slice (some ⟨gr, 0, none⟩) r.length rc1], .int .i64 4]) (by simp [results, Try.results38, go_sem, r0, r1, r2, r3, r4]) rfl ?_
        rw [HR.out]
        exact ⟨⟨_, _, _, rfl, (OBox.w (((((F4.out.setBelow (a := ⟨w.heap.size + 1, 0, none⟩) (by dsimp only; omega) _).setBelow (a := ⟨w.heap.size + 1, 1, none⟩) (by dsimp only; omega) _).setBelow (a := ⟨w.heap.size + 1, 2, none⟩) (by dsimp only; omega) _).setBelow (a := ⟨w.heap.size + 1, 3, none⟩) (by dsimp only; omega) _).setBelow (a := ⟨w.heap.size + 1, 4, none⟩) (by dsimp only; omega) _)).low (by omega)⟩, (((((hB4.setCell (p := ⟨w.heap.size + 1, 0, none⟩) (by dsimp only; omega) _).setCell (p := ⟨w.heap.size + 1, 1, none⟩) (by dsimp only; omega) _).setCell (p := ⟨w.heap.size + 1, 2, none⟩) (by dsimp only; omega) _).setCell (p := ⟨w.heap.size + 1, 3, none⟩) (by dsimp only; omega) _).setCell (p := ⟨w.heap.size + 1, 4, none⟩) (by dsimp only; omega) _)⟩
      · obtain ⟨p, hp1, hp2, hp4⟩ := hasB_at hh
        have hpr : p < r.length := by rw [idsOf_len] at hp1; exact hp1
        have hfl1 : r.filter (fun t => t.1 != iv) = r.take p ++ r.drop (p + 1) := by rw [← hp2, idsOf_el hpr]; exact filter_one r p hpr HND.out
        have hln : (r.filter (fun t => t.1 != iv)).length + 1 = r.length := by rw [hfl1]; exact filter_len hpr
        obtain ⟨fl, efl⟩ : ∃ l, l = r.filter (fun t => t.1 != iv) := ⟨_, rfl⟩
        have HR : Hid (doneR kap cl b s r iv = (kap, cl, b, s, fl, 0)) := by rw [Hid, doneR, if_pos HGT.out, if_pos hh, efl]
        rw [← efl] at hO hln
        have hle : ((fl.length : Int) == (r.length : Int)) = false := by simp; omega
        obtain ⟨go, qc, rfl, _, hFr⟩ := hO.out.fresh
        have K0 := hid hFr
        have O4 := hO
        clear hh hp1 hp2 hp4 hfl1 hln efl hO hFr
        have K4 := K0
        have M4 := HF0
        have a0 := XA4.out.c 0 rfl
        have af0 := XA4.out.f 0 rfl
        have a1 := XA4.out.c 1 rfl
        have af1 := XA4.out.f 1 rfl
        have a2 := XA4.out.c 2 rfl
        have af2 := XA4.out.f 2 rfl
        have a3 := XA4.out.c 3 rfl
        have af3 := XA4.out.f 3 rfl
        have a4 := XA4.out.c 4 rfl
        have af4 := XA4.out.f 4 rfl
        have az := XA4.out.size
        have r0 := XR4.out.c 0 rfl
        have rf0 := XR4.out.f 0 rfl
        have r1 := XR4.out.c 1 rfl
        have rf1 := XR4.out.f 1 rfl
        have r2 := XR4.out.c 2 rfl
        have rf2 := XR4.out.f 2 rfl
        have r3 := XR4.out.c 3 rfl
        have rf3 := XR4.out.f 3 rfl
        have r4 := XR4.out.c 4 rfl
        have rf4 := XR4.out.f 4 rfl
        have rz := XR4.out.size
        go_wp2
        refine bodyPost_ret (v := .tuple #[.agg #[.int .i64 kap, .bool cl, .slice (some ⟨gb, 0, none⟩) b.length bc1, .slice (some ⟨gs, 0, none⟩) s.length sc1, .slice go fl.length qc], .int .i64 0]) (by simp [results, Try.results38, go_sem, r0, r1, r2, r3, r4]) rfl ?_
        rw [HR.out]
        exact ⟨⟨_, _, _, rfl, (OBox.low ((((((F4.out.setBelow (a := ⟨w.heap.size, 4, none⟩) (by dsimp only; omega) _).setBelow (a := ⟨w.heap.size + 1, 0, none⟩) (by dsimp only; omega) _).setBelow (a := ⟨w.heap.size + 1, 1, none⟩) (by dsimp only; omega) _).setBelow (a := ⟨w.heap.size + 1, 2, none⟩) (by dsimp only; omega) _).setBelow (a := ⟨w.heap.size + 1, 3, none⟩) (by dsimp only; omega) _).setBelow (a := ⟨w.heap.size + 1, 4, none⟩) (by dsimp only; omega) _) (by omega)).1, (OBox.low ((((((F4.out.setBelow (a := ⟨w.heap.size, 4, none⟩) (by dsimp only; omega) _).setBelow (a := ⟨w.heap.size + 1, 0, none⟩) (by dsimp only; omega) _).setBelow (a := ⟨w.heap.size + 1, 1, none⟩) (by dsimp only; omega) _).setBelow (a := ⟨w.heap.size + 1, 2, none⟩) (by dsimp only; omega) _).setBelow (a := ⟨w.heap.size + 1, 3, none⟩) (by dsimp only; omega) _).setBelow (a := ⟨w.heap.size + 1, 4, none⟩) (by dsimp only; omega) _) (by omega)).2.1, own_less ((((((O4.out.setBelow (a := ⟨w.heap.size, 4, none⟩) (by dsimp only; omega) _).setBelow (a := ⟨w.heap.size + 1, 0, none⟩) (by dsimp only; omega) _).setBelow (a := ⟨w.heap.size + 1, 1, none⟩) (by dsimp only; omega) _).setBelow (a := ⟨w.heap.size + 1, 2, none⟩) (by dsimp only; omega) _).setBelow (a := ⟨w.heap.size + 1, 3, none⟩) (by dsimp only; omega) _).setBelow (a := ⟨w.heap.size + 1, 4, none⟩) (by dsimp only; omega) _) (by omega), fun g e e2 => by have h1 := HGS.out; have h2 := Kind.Own.low O4.out g e2; simp [Value.ownBlock] at e; omega⟩, ((((((hB4.setCell (p := ⟨w.heap.size, 4, none⟩) (by dsimp only; omega) _).setCell (p := ⟨w.heap.size + 1, 0, none⟩) (by dsimp only; omega) _).setCell (p := ⟨w.heap.size + 1, 1, none⟩) (by dsimp only; omega) _).setCell (p := ⟨w.heap.size + 1, 2, none⟩) (by dsimp only; omega) _).setCell (p := ⟨w.heap.size + 1, 3, none⟩) (by dsimp only; omega) _).setCell (p := ⟨w.heap.size + 1, 4, none⟩) (by dsimp only; omega) _)⟩
set_option maxRecDepth 10000 in
set_option maxHeartbeats 8000000 in
theorem specGive_own (kap : Int) (cl : Bool) (bo : Option Addr) (bc : Nat) (b : List Int) (so : Option Addr) (sc : Nat) (s : List (Int × Int × Int)) (ro : Option Addr) (rc : Nat) (r : List (Int × Int × Int)) (w : World) (hlb : b.length ≤ 1048576) (hls : s.length ≤ 1048576) (hlr : r.length ≤ 1048576) (hz : InBox w.heap.size w bo b so s ro r) (hwf : WfBox bo bc so sc ro rc) :
    Calls Try.prog 39 #[.agg #[.int .i64 kap, .bool cl, .slice bo b.length bc, .slice so s.length sc, .slice ro r.length rc]] w fun e w' => AnsO w (giveR kap cl b s r) e w' := by
  cases hg : goodX kap b s r
  · have HG : Hid (goodX kap b s r = false) := hg
    have HR : Hid (giveR kap cl b s r = (0, false, [], [], [], 1)) := giveR_bad hg
    clear hg
    obtain ⟨w0, hw0⟩ : ∃ w0, w0 = ((w.alloc (.cells #[.int .i64 kap, .bool cl, .slice bo b.length bc, .slice so s.length sc, .slice ro r.length rc] 26)).alloc (.cells #[.int .i64 0, .bool false, .slice none 0 0, .slice none 0 0, .slice none 0 0] 26)) := ⟨_, rfl⟩
    have hB0 : Below w.heap.size w w0 := by rw [hw0]; exact Below.allocS (Below.allocS (Below.refl _ _) _) _
    have XA0 : Hid (Bx w0 (w.heap.size) [.int .i64 kap, .bool cl, .slice bo b.length bc, .slice so s.length sc, .slice ro r.length rc]) := by rw [hw0]; exact Bx.alloc (Bx.new [.int .i64 kap, .bool cl, .slice bo b.length bc, .slice so s.length sc, .slice ro r.length rc] _ rfl) _
    have XR0 : Hid (Bx w0 (w.heap.size + 1) [.int .i64 0, .bool false, .slice none 0 0, .slice none 0 0, .slice none 0 0]) := by rw [hw0]; exact Bx.new [.int .i64 0, .bool false, .slice none 0 0, .slice none 0 0, .slice none 0 0] _ (by simp)
    have H0 : Hid (w0 = ((w.alloc (.cells #[.int .i64 kap, .bool cl, .slice bo b.length bc, .slice so s.length sc, .slice ro r.length rc] 26)).alloc (.cells #[.int .i64 0, .bool false, .slice none 0 0, .slice none 0 0, .slice none 0 0] 26))) := hw0
    have hs0 : w.heap.size + 1 + 1 ≤ w0.heap.size := by rw [hw0]; simp
    clear hw0
    go_enter Try.func39, Try.ntmps39
    go_wp2_with fail
    rw [← H0.out]
    refine (specGood_is kap cl bo bc b so sc s ro rc r w0 false hlb hls hlr (hz.later hB0) HG.out).mono ?_
    rintro e w1 ⟨rfl, hb1⟩
    have hB1 := hB0.trans (hb1.mono hB0.size)
    have hs1 : w.heap.size + 1 + 1 ≤ w1.heap.size := Nat.le_trans hs0 hb1.size
    have hz1 : w0.heap.size ≤ w1.heap.size := hb1.size
    have XA1 := hid (XA0.out.later hb1)
    have XR1 := hid (XR0.out.later hb1)
    clear XA0 XR0
    clear hb1
    have a0 := XA1.out.c 0 rfl
    have af0 := XA1.out.f 0 rfl
    have a1 := XA1.out.c 1 rfl
    have af1 := XA1.out.f 1 rfl
    have a2 := XA1.out.c 2 rfl
    have af2 := XA1.out.f 2 rfl
    have a3 := XA1.out.c 3 rfl
    have af3 := XA1.out.f 3 rfl
    have a4 := XA1.out.c 4 rfl
    have af4 := XA1.out.f 4 rfl
    have az := XA1.out.size
    have r0 := XR1.out.c 0 rfl
    have rf0 := XR1.out.f 0 rfl
    have r1 := XR1.out.c 1 rfl
    have rf1 := XR1.out.f 1 rfl
    have r2 := XR1.out.c 2 rfl
    have rf2 := XR1.out.f 2 rfl
    have r3 := XR1.out.c 3 rfl
    have rf3 := XR1.out.f 3 rfl
    have r4 := XR1.out.c 4 rfl
    have rf4 := XR1.out.f 4 rfl
    have rz := XR1.out.size
    go_wp2
    refine bodyPost_ret (v := .tuple #[.agg #[.int .i64 0, .bool false, .slice none 0 0, .slice none 0 0, .slice none 0 0], .int .i64 1]) (by simp [results, Try.results39, go_sem, r0, r1, r2, r3, r4]) rfl ?_
    rw [HR.out]
    exact ⟨⟨_, _, _, rfl, wBox_nil _ _⟩, (((((hB1.setCell (p := ⟨w.heap.size + 1, 0, none⟩) (by dsimp only; omega) _).setCell (p := ⟨w.heap.size + 1, 1, none⟩) (by dsimp only; omega) _).setCell (p := ⟨w.heap.size + 1, 2, none⟩) (by dsimp only; omega) _).setCell (p := ⟨w.heap.size + 1, 3, none⟩) (by dsimp only; omega) _).setCell (p := ⟨w.heap.size + 1, 4, none⟩) (by dsimp only; omega) _)⟩
  have HG : Hid (goodX kap b s r = true) := hg
  obtain ⟨q, eq⟩ : ∃ q, r ++ s = q := ⟨_, rfl⟩
  have HR : Hid (giveR kap cl b s r = (kap, cl, b, q, [], 0)) := by rw [Hid, giveR, if_pos hg, eq]
  have HQ := hid eq
  have hq1 : s.length + r.length ≤ 1048576 := by have := goodX_good hg; omega
  clear hg eq
  obtain ⟨w0, hw0⟩ : ∃ w0, w0 = ((w.alloc (.cells #[.int .i64 kap, .bool cl, .slice bo b.length bc, .slice so s.length sc, .slice ro r.length rc] 26)).alloc (.cells #[.int .i64 0, .bool false, .slice none 0 0, .slice none 0 0, .slice none 0 0] 26)) := ⟨_, rfl⟩
  have hB0 : Below w.heap.size w w0 := by rw [hw0]; exact Below.allocS (Below.allocS (Below.refl _ _) _) _
  have XA0 : Hid (Bx w0 (w.heap.size) [.int .i64 kap, .bool cl, .slice bo b.length bc, .slice so s.length sc, .slice ro r.length rc]) := by rw [hw0]; exact Bx.alloc (Bx.new [.int .i64 kap, .bool cl, .slice bo b.length bc, .slice so s.length sc, .slice ro r.length rc] _ rfl) _
  have XR0 : Hid (Bx w0 (w.heap.size + 1) [.int .i64 0, .bool false, .slice none 0 0, .slice none 0 0, .slice none 0 0]) := by rw [hw0]; exact Bx.new [.int .i64 0, .bool false, .slice none 0 0, .slice none 0 0, .slice none 0 0] _ (by simp)
  have H0 : Hid (w0 = ((w.alloc (.cells #[.int .i64 kap, .bool cl, .slice bo b.length bc, .slice so s.length sc, .slice ro r.length rc] 26)).alloc (.cells #[.int .i64 0, .bool false, .slice none 0 0, .slice none 0 0, .slice none 0 0] 26))) := hw0
  have hs0 : w.heap.size + 1 + 1 ≤ w0.heap.size := by rw [hw0]; simp
  clear hw0
  go_enter Try.func39, Try.ntmps39
  go_wp2_with fail
  rw [← H0.out]
  refine (specGood_is kap cl bo bc b so sc s ro rc r w0 true hlb hls hlr (hz.later hB0) HG.out).mono ?_
  rintro e w1 ⟨rfl, hb1⟩
  have hB1 := hB0.trans (hb1.mono hB0.size)
  have hs1 : w.heap.size + 1 + 1 ≤ w1.heap.size := Nat.le_trans hs0 hb1.size
  have hz1 : w0.heap.size ≤ w1.heap.size := hb1.size
  have XA1 := hid (XA0.out.later hb1)
  have XR1 := hid (XR0.out.later hb1)
  clear XA0 XR0
  clear hb1
  have a0 := XA1.out.c 0 rfl
  have af0 := XA1.out.f 0 rfl
  have a1 := XA1.out.c 1 rfl
  have af1 := XA1.out.f 1 rfl
  have a2 := XA1.out.c 2 rfl
  have af2 := XA1.out.f 2 rfl
  have a3 := XA1.out.c 3 rfl
  have af3 := XA1.out.f 3 rfl
  have a4 := XA1.out.c 4 rfl
  have af4 := XA1.out.f 4 rfl
  have az := XA1.out.size
  have r0 := XR1.out.c 0 rfl
  have rf0 := XR1.out.f 0 rfl
  have r1 := XR1.out.c 1 rfl
  have rf1 := XR1.out.f 1 rfl
  have r2 := XR1.out.c 2 rfl
  have rf2 := XR1.out.f 2 rfl
  have r3 := XR1.out.c 3 rfl
  have rf3 := XR1.out.f 3 rfl
  have r4 := XR1.out.c 4 rfl
  have rf4 := XR1.out.f 4 rfl
  have rz := XR1.out.size
  go_wp2_with fail
  clear a0 af0 a1 af1 a2 af2 a3 af3 a4 af4 az r0 rf0 r1 rf1 r2 rf2 r3 rf3 r4 rf4 rz
  refine (ownBox_any kap cl bo bc b so sc s ro rc r w1 hlb hls hlr (hz.later hB1) hwf).mono ?_
  rintro e w2 ⟨⟨gb, bc1, gs, sc1, gr, rc1, rfl, hF⟩, hb2⟩
  have hB2 := hB1.trans (hb2.mono hB1.size)
  have hs2 : w.heap.size + 1 + 1 ≤ w2.heap.size := Nat.le_trans hs1 hb2.size
  have hz2 : w1.heap.size ≤ w2.heap.size := hb2.size
  have XA2 := hid (XA1.out.later hb2)
  have XR2 := hid (XR1.out.later hb2)
  clear XA1 XR1
  have F2 := hid (hF)
  clear hb2 hF
  have a0 := XA2.out.c 0 rfl
  have af0 := XA2.out.f 0 rfl
  have a1 := XA2.out.c 1 rfl
  have af1 := XA2.out.f 1 rfl
  have a2 := XA2.out.c 2 rfl
  have af2 := XA2.out.f 2 rfl
  have a3 := XA2.out.c 3 rfl
  have af3 := XA2.out.f 3 rfl
  have a4 := XA2.out.c 4 rfl
  have af4 := XA2.out.f 4 rfl
  have az := XA2.out.size
  have r0 := XR2.out.c 0 rfl
  have rf0 := XR2.out.f 0 rfl
  have r1 := XR2.out.c 1 rfl
  have rf1 := XR2.out.f 1 rfl
  have r2 := XR2.out.c 2 rfl
  have rf2 := XR2.out.f 2 rfl
  have r3 := XR2.out.c 3 rfl
  have rf3 := XR2.out.f 3 rfl
  have r4 := XR2.out.c 4 rfl
  have rf4 := XR2.out.f 4 rfl
  have rz := XR2.out.size
  go_upto_region 4 with fail
  clear a0 af0 a1 af1 a2 af2 a3 af3 a4 af4 az r0 rf0 r1 rf1 r2 rf2 r3 rf3 r4 rf4 rz
  obtain ⟨w3, hV⟩ : ∃ V, V = (((((w2.setCell ⟨w.heap.size, 0, none⟩ (.int .i64 kap)).setCell ⟨w.heap.size, 1, none⟩ (.bool cl)).setCell ⟨w.heap.size, 2, none⟩ (.slice (some ⟨gb, 0, none⟩) b.length bc1)).setCell ⟨w.heap.size, 3, none⟩ (.slice (some ⟨gs, 0, none⟩) s.length sc1)).setCell ⟨w.heap.size, 4, none⟩ (.slice (some ⟨gr, 0, none⟩) r.length rc1)) := ⟨_, rfl⟩
  have hz3 : w2.heap.size ≤ w3.heap.size := by rw [hV]; simp [World.setCell]
  have hs3 : w.heap.size + 1 + 1 ≤ w3.heap.size := Nat.le_trans hs2 hz3
  have hB3 : Below w.heap.size w w3 := by rw [hV]; exact (((((hB2.setCell (p := ⟨w.heap.size, 0, none⟩) (by dsimp only; omega) _).setCell (p := ⟨w.heap.size, 1, none⟩) (by dsimp only; omega) _).setCell (p := ⟨w.heap.size, 2, none⟩) (by dsimp only; omega) _).setCell (p := ⟨w.heap.size, 3, none⟩) (by dsimp only; omega) _).setCell (p := ⟨w.heap.size, 4, none⟩) (by dsimp only; omega) _)
  have XA3 := hid ((((((XA2.out.set 0 (.int .i64 kap)).set 1 (.bool cl)).set 2 (.slice (some ⟨gb, 0, none⟩) b.length bc1)).set 3 (.slice (some ⟨gs, 0, none⟩) s.length sc1)).set 4 (.slice (some ⟨gr, 0, none⟩) r.length rc1)))
  rw [← hV] at XA3
  have XR3 := hid ((((((XR2.out.other (a := ⟨w.heap.size, 0, none⟩) (by dsimp only; omega) (.int .i64 kap)).other (a := ⟨w.heap.size, 1, none⟩) (by dsimp only; omega) (.bool cl)).other (a := ⟨w.heap.size, 2, none⟩) (by dsimp only; omega) (.slice (some ⟨gb, 0, none⟩) b.length bc1)).other (a := ⟨w.heap.size, 3, none⟩) (by dsimp only; omega) (.slice (some ⟨gs, 0, none⟩) s.length sc1)).other (a := ⟨w.heap.size, 4, none⟩) (by dsimp only; omega) (.slice (some ⟨gr, 0, none⟩) r.length rc1)))
  rw [← hV] at XR3
  have F3 := hid ((((((F2.out.setBelow (a := ⟨w.heap.size, 0, none⟩) (by dsimp only; omega) (.int .i64 kap)).setBelow (a := ⟨w.heap.size, 1, none⟩) (by dsimp only; omega) (.bool cl)).setBelow (a := ⟨w.heap.size, 2, none⟩) (by dsimp only; omega) (.slice (some ⟨gb, 0, none⟩) b.length bc1)).setBelow (a := ⟨w.heap.size, 3, none⟩) (by dsimp only; omega) (.slice (some ⟨gs, 0, none⟩) s.length sc1)).setBelow (a := ⟨w.heap.size, 4, none⟩) (by dsimp only; omega) (.slice (some ⟨gr, 0, none⟩) r.length rc1)))
  rw [← hV] at F3
  have H3 : Hid (w3 = (((((w2.setCell ⟨w.heap.size, 0, none⟩ (.int .i64 kap)).setCell ⟨w.heap.size, 1, none⟩ (.bool cl)).setCell ⟨w.heap.size, 2, none⟩ (.slice (some ⟨gb, 0, none⟩) b.length bc1)).setCell ⟨w.heap.size, 3, none⟩ (.slice (some ⟨gs, 0, none⟩) s.length sc1)).setCell ⟨w.heap.size, 4, none⟩ (.slice (some ⟨gr, 0, none⟩) r.length rc1))) := hV
  clear hV XA2 XR2 F2
  rw [← H3.out]
  clear H3
  obtain ⟨V, hV⟩ : ∃ V, V = (w3.alloc (.cells #[] 29)).drew := ⟨_, rfl⟩
  have hBV : Below w3.heap.size w3 V := by rw [hV]; exact ((Below.refl _ _).alloc (Nat.le_refl _) _).drew
  have HV := hid hV
  have XAV := hid (XA3.out.later hBV)
  have FV := hid (F3.out.below hBV)
  have HE : Hid (kL.Own w3.heap.size V (.slice (some ⟨w3.heap.size, 0, none⟩) 0 0) []) := by rw [hV]; exact (Kind.Own.new kL _ w3 (Nat.le_refl _)).below (Below.refl _ _).drew
  have hVs := hBV.size
  clear hV
  have M0 := hid (OBox.fr F3.out)
  have a0 := XA3.out.c 0 rfl
  have af0 := XA3.out.f 0 rfl
  have a1 := XA3.out.c 1 rfl
  have af1 := XA3.out.f 1 rfl
  have a2 := XA3.out.c 2 rfl
  have af2 := XA3.out.f 2 rfl
  have a3 := XA3.out.c 3 rfl
  have af3 := XA3.out.f 3 rfl
  have a4 := XA3.out.c 4 rfl
  have af4 := XA3.out.f 4 rfl
  have az := XA3.out.size
  have r0 := XR3.out.c 0 rfl
  have rf0 := XR3.out.f 0 rfl
  have r1 := XR3.out.c 1 rfl
  have rf1 := XR3.out.f 1 rfl
  have r2 := XR3.out.c 2 rfl
  have rf2 := XR3.out.f 2 rfl
  have r3 := XR3.out.c 3 rfl
  have rf3 := XR3.out.f 3 rfl
  have r4 := XR3.out.c 4 rfl
  have rf4 := XR3.out.f 4 rfl
  have rz := XR3.out.size
  have PD : w3.drew.cell? ⟨w.heap.size, 4, none⟩ = some (.slice (some ⟨gr, 0, none⟩) r.length rc1) ∧ w3.drew.cell? ⟨w.heap.size, 3, none⟩ = some (.slice (some ⟨gs, 0, none⟩) s.length sc1) := ⟨a4, a3⟩
  have PV : V.cell? ⟨w.heap.size, 4, none⟩ = some (.slice (some ⟨gr, 0, none⟩) r.length rc1) ∧ V.cell? ⟨w.heap.size, 3, none⟩ = some (.slice (some ⟨gs, 0, none⟩) s.length sc1) := ⟨XAV.out.c 4 rfl, XAV.out.c 3 rfl⟩
  rw [HV.out] at PV
  go_region_law (first
    | (rw [← HV.out]; refine Kind.appS kL_ok V (by rfl) (.tmp 10) (.tmp 12) (by rfl) w3.heap.size (.slice (some ⟨w3.heap.size, 0, none⟩) 0 0) [] (by rfl) HE.out hVs (some ⟨gr, 0, none⟩) r r.length rc1 (by rfl) rfl (by simp) _ (OBox.in FV.out).2.2 (by simp; omega) ?_; intro v1 w5 hO hB hG hn; have hb5 : Below w3.heap.size w3 w5 := hBV.trans hB; have O1 : Hid (kL.Own w3.heap.size w5 v1 r) := hO; have hs5 := hb5.size; have F5 := hid (F3.out.below hb5); have XA5 := hid (XA3.out.later hb5); have P1 := XA5.out.c 3 rfl; have P1b := XA5.out.c 4 rfl; clear hO hB hG hn)
    | (refine Kind.appS kL_ok w5 (by rfl) (.tmp 13) (.tmp 15) (by rfl) w3.heap.size v1 r (by rfl) O1.out hs5 (some ⟨gs, 0, none⟩) s s.length sc1 (by rfl) rfl (by simp) _ (OBox.in F5.out).2.1 (by omega) ?_; intro v2 w6 hO hB hG hn; have hb6 : Below w3.heap.size w3 w6 := hb5.trans hB; rw [HQ.out] at hO; obtain ⟨go, qc, rfl, _, hK⟩ := Kind.Own.fresh hO; have K6 := hid hK; have O6 := hid hO; have XA6 := hid (XA3.out.later hb6); have XR6 := hid (XR3.out.later hb6); have F6 := hid (F3.out.below hb6); have M6 := hid (M0.out.later hb6); have hB6 := hB3.trans (hb6.mono hB3.size); have hz6 : w3.heap.size ≤ w6.heap.size := hb6.size; have hs6 := Nat.le_trans hs3 hb6.size; have e3 := XA6.out.c 3 rfl; have ef3 := XA6.out.f 3 rfl; clear hO hB hG hn hK))
  all_goals
    clear PD PV P1 P1b e3 ef3 XA5 F5 O1 hb5 hb6 XAV FV HE HV hBV a0 af0 a1 af1 a2 af2 a3 af3 a4 af4 az r0 rf0 r1 rf1 r2 rf2 r3 rf3 r4 rf4 rz
    have a0 := XA6.out.c 0 rfl
    have af0 := XA6.out.f 0 rfl
    have a1 := XA6.out.c 1 rfl
    have af1 := XA6.out.f 1 rfl
    have a2 := XA6.out.c 2 rfl
    have af2 := XA6.out.f 2 rfl
    have a3 := XA6.out.c 3 rfl
    have af3 := XA6.out.f 3 rfl
    have a4 := XA6.out.c 4 rfl
    have af4 := XA6.out.f 4 rfl
    have az := XA6.out.size
    have r0 := XR6.out.c 0 rfl
    have rf0 := XR6.out.f 0 rfl
    have r1 := XR6.out.c 1 rfl
    have rf1 := XR6.out.f 1 rfl
    have r2 := XR6.out.c 2 rfl
    have rf2 := XR6.out.f 2 rfl
    have r3 := XR6.out.c 3 rfl
    have rf3 := XR6.out.f 3 rfl
    have r4 := XR6.out.c 4 rfl
    have rf4 := XR6.out.f 4 rfl
    have rz := XR6.out.size
    go_upto_region 6 with fail
    clear a0 af0 a1 af1 a2 af2 a3 af3 a4 af4 az r0 rf0 r1 rf1 r2 rf2 r3 rf3 r4 rf4 rz
    obtain ⟨w7, hV⟩ : ∃ V, V = ((w6.setCell ⟨w.heap.size, 3, none⟩ (.slice go q.length qc)).setCell ⟨w.heap.size, 4, none⟩ (.slice none 0 0)) := ⟨_, rfl⟩
    have hz7 : w6.heap.size ≤ w7.heap.size := by rw [hV]; simp [World.setCell]
    have hs7 : w.heap.size + 1 + 1 ≤ w7.heap.size := Nat.le_trans hs6 hz7
    have hB7 : Below w.heap.size w w7 := by rw [hV]; exact ((hB6.setCell (p := ⟨w.heap.size, 3, none⟩) (by dsimp only; omega) _).setCell (p := ⟨w.heap.size, 4, none⟩) (by dsimp only; omega) _)
    have XA7 := hid (((XA6.out.set 3 (.slice go q.length qc)).set 4 (.slice none 0 0)))
    rw [← hV] at XA7
    have XR7 := hid (((XR6.out.other (a := ⟨w.heap.size, 3, none⟩) (by dsimp only; omega) (.slice go q.length qc)).other (a := ⟨w.heap.size, 4, none⟩) (by dsimp only; omega) (.slice none 0 0)))
    rw [← hV] at XR7
    have F7 := hid (((F6.out.setBelow (a := ⟨w.heap.size, 3, none⟩) (by dsimp only; omega) (.slice go q.length qc)).setBelow (a := ⟨w.heap.size, 4, none⟩) (by dsimp only; omega) (.slice none 0 0)))
    rw [← hV] at F7
    have K7 := hid (((K6.out.setOff (a := ⟨w.heap.size, 3, none⟩) (by dsimp only; omega) (.slice go q.length qc)).setOff (a := ⟨w.heap.size, 4, none⟩) (by dsimp only; omega) (.slice none 0 0)))
    rw [← hV] at K7
    have M7 := hid (((M6.out.setOff (a := ⟨w.heap.size, 3, none⟩) (by dsimp only; omega) (.slice go q.length qc)).setOff (a := ⟨w.heap.size, 4, none⟩) (by dsimp only; omega) (.slice none 0 0)))
    rw [← hV] at M7
    have O7 := hid (((O6.out.setBelow (a := ⟨w.heap.size, 3, none⟩) (by dsimp only; omega) (.slice go q.length qc)).setBelow (a := ⟨w.heap.size, 4, none⟩) (by dsimp only; omega) (.slice none 0 0)))
    rw [← hV] at O7
    have H7 : Hid (w7 = ((w6.setCell ⟨w.heap.size, 3, none⟩ (.slice go q.length qc)).setCell ⟨w.heap.size, 4, none⟩ (.slice none 0 0))) := hV
    clear hV XA6 XR6 F6 K6 M6 O6
    rw [← H7.out]
    clear H7
    have a0 := XA7.out.c 0 rfl
    have af0 := XA7.out.f 0 rfl
    have a1 := XA7.out.c 1 rfl
    have af1 := XA7.out.f 1 rfl
    have a2 := XA7.out.c 2 rfl
    have af2 := XA7.out.f 2 rfl
    have a3 := XA7.out.c 3 rfl
    have af3 := XA7.out.f 3 rfl
    have a4 := XA7.out.c 4 rfl
    have af4 := XA7.out.f 4 rfl
    have az := XA7.out.size
    have r0 := XR7.out.c 0 rfl
    have rf0 := XR7.out.f 0 rfl
    have r1 := XR7.out.c 1 rfl
    have rf1 := XR7.out.f 1 rfl
    have r2 := XR7.out.c 2 rfl
    have rf2 := XR7.out.f 2 rfl
    have r3 := XR7.out.c 3 rfl
    have rf3 := XR7.out.f 3 rfl
    have r4 := XR7.out.c 4 rfl
    have rf4 := XR7.out.f 4 rfl
    have rz := XR7.out.size
    go_wp2
    refine bodyPost_ret (v := .tuple #[.agg #[.int .i64 kap, .bool cl, .slice (some ⟨gb, 0, none⟩) b.length bc1, .slice go q.length qc, .slice none 0 0], .int .i64 0]) (by simp [results, Try.results39, go_sem, r0, r1, r2, r3, r4]) rfl ?_
    rw [HR.out]
    exact ⟨⟨_, _, _, rfl, (OBox.low (((((F7.out.setBelow (a := ⟨w.heap.size + 1, 0, none⟩) (by dsimp only; omega) _).setBelow (a := ⟨w.heap.size + 1, 1, none⟩) (by dsimp only; omega) _).setBelow (a := ⟨w.heap.size + 1, 2, none⟩) (by dsimp only; omega) _).setBelow (a := ⟨w.heap.size + 1, 3, none⟩) (by dsimp only; omega) _).setBelow (a := ⟨w.heap.size + 1, 4, none⟩) (by dsimp only; omega) _) (by omega)).1, own_less (((((O7.out.setBelow (a := ⟨w.heap.size + 1, 0, none⟩) (by dsimp only; omega) _).setBelow (a := ⟨w.heap.size + 1, 1, none⟩) (by dsimp only; omega) _).setBelow (a := ⟨w.heap.size + 1, 2, none⟩) (by dsimp only; omega) _).setBelow (a := ⟨w.heap.size + 1, 3, none⟩) (by dsimp only; omega) _).setBelow (a := ⟨w.heap.size + 1, 4, none⟩) (by dsimp only; omega) _) (by omega), Kind.Own.nil _ _ _, fun g _ e2 => by simp [Value.ownBlock] at e2⟩, (((((hB7.setCell (p := ⟨w.heap.size + 1, 0, none⟩) (by dsimp only; omega) _).setCell (p := ⟨w.heap.size + 1, 1, none⟩) (by dsimp only; omega) _).setCell (p := ⟨w.heap.size + 1, 2, none⟩) (by dsimp only; omega) _).setCell (p := ⟨w.heap.size + 1, 3, none⟩) (by dsimp only; omega) _).setCell (p := ⟨w.heap.size + 1, 4, none⟩) (by dsimp only; omega) _)⟩
end Go.Proofs.Ytnnlbnbamhkcaaa
