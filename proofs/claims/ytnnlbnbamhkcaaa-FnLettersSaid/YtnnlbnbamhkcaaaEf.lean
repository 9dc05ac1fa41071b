
/- DoneWith: the program. No conditions but those written. -/
import Derived.Test.YtnnlbnbamhkcaaaEa
import Derived.Test.YtnnlbnbamhkcaaaWl
import Derived.Deep.Cut
namespace Go.Proofs.Ytnnlbnbamhkcaaa
open Go.RowKit

/-- DoneWith's answer. -/
def doneR (kap : Int) (cl : Bool) (b : List Int) (s r : List (Int × Int × Int)) (iv : Int) : Int × Bool × List Int × List (Int × Int × Int) × List (Int × Int × Int) × Int := if goodX kap b s r = true then (if hasB (idsOf r) iv = true then (kap, cl, b, s, r.filter (fun t => t.1 != iv), 0) else (kap, cl, b, s, r, 4)) else (0, false, [], [], [], 1)
theorem doneR_bad {kap : Int} {cl : Bool} {b : List Int} {s r : List (Int × Int × Int)} {iv : Int} (h : goodX kap b s r = false) : doneR kap cl b s r iv = (0, false, [], [], [], 1) := by rw [doneR, if_neg]; rw [h]; simp
theorem doneR_len {kap : Int} {cl : Bool} {b : List Int} {s r : List (Int × Int × Int)} {iv : Int} (h1 : b.length ≤ 1048576) (h2 : s.length ≤ 1048576) (h3 : r.length ≤ 1048576) : (doneR kap cl b s r iv).2.2.1.length ≤ 1048576 ∧ (doneR kap cl b s r iv).2.2.2.1.length ≤ 1048576 ∧ (doneR kap cl b s r iv).2.2.2.2.1.length ≤ 1048576 := by
  unfold doneR
  split
  · split
    · exact ⟨h1, h2, Nat.le_trans (List.length_filter_le _ _) h3⟩
    · exact ⟨h1, h2, h3⟩
  · simp
theorem idsOf_el {l : List (Int × Int × Int)} {k : Nat} (h : k < l.length) : el (idsOf l) k = (el l k).1 := by simp [el, idsOf, h]
theorem filter_none {l : List (Int × Int × Int)} {iv : Int} (h : hasB (idsOf l) iv = false) : l.filter (fun t => t.1 != iv) = l := by
  rw [List.filter_eq_self]
  intro t ht
  simp only [hasB, decide_eq_false_iff_not, idsOf, List.mem_map, not_exists, not_and] at h
  simpa using h t ht
theorem filter_one : ∀ (l : List (Int × Int × Int)) (p : Nat), p < l.length → (idsOf l).Nodup → l.filter (fun t => t.1 != (el l p).1) = l.take p ++ l.drop (p + 1)
  | [], p, h, _ => by simp at h
  | x :: l, 0, _, hn => by
    have hx : hasB (idsOf l) x.1 = false := by
      simp only [idsOf, List.map_cons, List.nodup_cons] at hn
      simp only [hasB, idsOf]; exact decide_eq_false hn.1
    have := filter_none hx
    simpa [el_zero] using this
  | x :: l, p + 1, h, hn => by
    have hp : p < l.length := by simpa using h
    simp only [idsOf, List.map_cons, List.nodup_cons] at hn
    have hne : x.1 ≠ (el l p).1 := fun e => hn.1 (by rw [e]; exact List.mem_map.2 ⟨_, el_mem hp, rfl⟩)
    have ih := filter_one l p hp hn.2
    rw [el_cons, List.filter_cons_of_pos (by simpa using hne), ih]
    simp
theorem hasB_at {q : List Int} {n : Int} (h : hasB q n = true) : ∃ p, p < q.length ∧ el q p = n ∧ idxI q n = p := by
  have hm : n ∈ q := by simpa [hasB] using h
  have hlt : q.idxOf n < q.length := List.idxOf_lt_length_iff.2 hm
  exact ⟨q.idxOf n, hlt, by rw [el_at hlt]; exact List.getElem_idxOf hlt, by rw [idxI, if_pos hm]⟩
theorem hasB_not {q : List Int} {n : Int} (h : hasB q n = false) : idxI q n = -1 := by
  rw [idxI, if_neg (by simpa [hasB] using h)]
theorem filter_len {l : List (Int × Int × Int)} {p : Nat} (h : p < l.length) : (l.take p ++ l.drop (p + 1)).length + 1 = l.length := by simp; omega
set_option maxHeartbeats 1000000 in
theorem done1_is (y1 y2 y3 iv : Int) (p : Nat) (w : World) (x : Bool) (hp : w.cell? ⟨p, 0, none⟩ = some (.int .i64 iv)) (hlt : p < w.heap.size) (hx : (y1 == iv) = x) :
    Calls Try.prog 23 #[.agg #[.int .i64 y1, .int .i64 y2, .int .i64 y3], .pointer (some ⟨p, 0, none⟩)] w fun e w' => e = .returned (.bool x) ∧ Below w.heap.size w w' := by
  have HX : Hid ((y1 == iv) = x) := hx
  clear hx
  go_enter Try.func23, Try.ntmps23
  go_wp2
  go_ret
  exact ⟨ret_bool HX.out, below1 _ _⟩
set_option maxRecDepth 10000 in
set_option maxHeartbeats 2000000 in
theorem indexFunc_is (ro : Option Addr) (rc : Nat) (r : List (Int × Int × Int)) (iv : Int) (p : Nat) (w : World) (x : Int) (hl : r.length ≤ 1048576) (hz : kL.In w.heap.size w ro r) (hp : Bx w p [.int .i64 iv]) (hx : idxI (idsOf r) iv = x) :
    Calls Try.prog 22 #[.slice ro r.length rc, .func (.func 23) #[] #[.pointer (some ⟨p, 0, none⟩)]] w fun e w' => e = .returned (.int .i64 x) ∧ Below w.heap.size w w' := by
  have HX : Hid (idxI (idsOf r) iv = x) := hx
  have P0 := hid hp
  clear hx hp
  go_enter Try.func22, Try.ntmps22
  go_wp2
  go_loopw [8] (fun i wr => ∃ k : Nat, k ≤ r.length ∧ i = .int .i64 k ∧ Hid (∀ j, j < k → (el r j).1 ≠ iv) ∧ Hid (Bx wr p [.int .i64 iv]) ∧ Below w.heap.size w wr) (fun i _ => r.length - (intOf i).toNat)
  case atStart => exact ⟨0, Nat.zero_le _, rfl, fun j hj => by omega, P0, Below.refl _ _⟩
  case round =>
    obtain ⟨k, hk, rfl, hno, hP, hB⟩ := hrel
    by_cases hlt : k < r.length
    · obtain ⟨bb, off, rfl, hbb, hc⟩ := kL_at hz hlt
      have d1 := (hB.cell (p := ⟨bb, off + k * 3, none⟩) hbb).trans (hc k hlt).1
      have d2 := (hB.cell (p := ⟨bb, off + k * 3 + 1, none⟩) hbb).trans (hc k hlt).2.1
      have d3 := (hB.cell (p := ⟨bb, off + k * 3 + 2, none⟩) hbb).trans (hc k hlt).2.2
      obtain ⟨⟨y1, y2, y3⟩, ey⟩ : ∃ v, v = el r k := ⟨_, rfl⟩
      rw [← ey] at d1 d2 d3
      have HY : Hid (el r k = (y1, y2, y3)) := ey.symm
      clear ey hc
      dsimp only at d1 d2 d3
      clear hz
      have hpc := hP.out.c 0 rfl
      have hpz := hP.out.size
      by_cases hy : y1 = iv
      · have HY1 : Hid ((y1 == iv) = true) := by simpa [Hid] using hy
        have HV : Hid (x = (k : Int)) := by
          rw [Hid, ← HX.out]
          refine idxI_yes (by rw [idsOf_len]; exact hlt) (by rw [idsOf_el hlt, HY.out]; exact hy) fun j hj => ?_
          rw [idsOf_el (by omega)]; exact hno.out j hj
        clear hy
        go_wp2_with fail
        refine (done1_is y1 y2 y3 iv p _ true hpc hpz HY1.out).mono ?_
        rintro e w1 ⟨rfl, hb1⟩
        have hB1 := hB.trans (hb1.mono hB.size)
        go_wp2
        go_ret
        exact ⟨ret_int HV.out.symm, hB1⟩
      · have HY1 : Hid ((y1 == iv) = false) := by simpa [Hid] using hy
        have HY2 : Hid (y1 ≠ iv) := hy
        clear hy
        go_wp2_with fail
        refine (done1_is y1 y2 y3 iv p _ false hpc hpz HY1.out).mono ?_
        rintro e w1 ⟨rfl, hb1⟩
        have hB1 := hB.trans (hb1.mono hB.size)
        have hP1 := hid (hP.out.later hb1)
        clear hb1
        go_wp2
        go_roundw
        case rel => exact ⟨k + 1, by omega, by go_num, fun j hj => by
          rcases Nat.lt_succ_iff_lt_or_eq.1 hj with h | rfl
          · exact hno.out j h
          · rw [HY.out]; exact HY2.out, hP1, hB1⟩
        case measure => simp [intOf]; omega
    · obtain rfl : k = r.length := by omega
      have HV : Hid (x = -1) := by
        rw [Hid, ← HX.out]
        refine idxI_no fun j hj => ?_
        rw [idsOf_len] at hj
        rw [idsOf_el hj]; exact hno.out j hj
      go_wp2
      go_ret
      exact ⟨ret_int HV.out.symm, hB⟩
set_option maxRecDepth 10000 in
set_option maxHeartbeats 8000000 in
theorem implDone_any (kap : Int) (cl : Bool) (bo : Option Addr) (bc : Nat) (b : List Int) (so : Option Addr) (sc : Nat) (s : List (Int × Int × Int)) (ro : Option Addr) (rc : Nat) (r : List (Int × Int × Int)) (iv : Int) (w : World) (hlb : b.length ≤ 1048576) (hls : s.length ≤ 1048576) (hlr : r.length ≤ 1048576) (hz : InBox w.heap.size w bo b so s ro r) :
    Calls Try.prog 11 #[.agg #[.int .i64 kap, .bool cl, .slice bo b.length bc, .slice so s.length sc, .slice ro r.length rc], .int .i64 iv] w fun e w' => AnsN w (doneR kap cl b s r iv) e w' := by
  cases hg : goodX kap b s r
  · have HG : Hid (goodX kap b s r = false) := hg
    have HR : Hid (doneR kap cl b s r iv = (0, false, [], [], [], 1)) := doneR_bad hg
    clear hg
    obtain ⟨w0, hw0⟩ : ∃ w0, w0 = (((w.alloc (.cells #[.int .i64 kap, .bool cl, .slice bo b.length bc, .slice so s.length sc, .slice ro r.length rc] 26)).alloc (.cells #[.int .i64 iv] 3)).alloc (.cells #[.int .i64 0, .bool false, .slice none 0 0, .slice none 0 0, .slice none 0 0] 26)) := ⟨_, rfl⟩
    have hB0 : Below w.heap.size w w0 := by rw [hw0]; exact Below.allocS (Below.allocS (Below.allocS (Below.refl _ _) _) _) _
    have XA0 : Hid (Bx w0 (w.heap.size) [.int .i64 kap, .bool cl, .slice bo b.length bc, .slice so s.length sc, .slice ro r.length rc]) := by rw [hw0]; exact Bx.alloc (Bx.alloc (Bx.new [.int .i64 kap, .bool cl, .slice bo b.length bc, .slice so s.length sc, .slice ro r.length rc] _ rfl) _) _
    have XI0 : Hid (Bx w0 (w.heap.size + 1) [.int .i64 iv]) := by rw [hw0]; exact Bx.alloc (Bx.new [.int .i64 iv] _ (by simp)) _
    have XR0 : Hid (Bx w0 (w.heap.size + 1 + 1) [.int .i64 0, .bool false, .slice none 0 0, .slice none 0 0, .slice none 0 0]) := by rw [hw0]; exact Bx.new [.int .i64 0, .bool false, .slice none 0 0, .slice none 0 0, .slice none 0 0] _ (by simp)
    have H0 : Hid (w0 = (((w.alloc (.cells #[.int .i64 kap, .bool cl, .slice bo b.length bc, .slice so s.length sc, .slice ro r.length rc] 26)).alloc (.cells #[.int .i64 iv] 3)).alloc (.cells #[.int .i64 0, .bool false, .slice none 0 0, .slice none 0 0, .slice none 0 0] 26))) := hw0
    have hs0 : w.heap.size + 1 + 1 + 1 ≤ w0.heap.size := by rw [hw0]; simp
    clear hw0
    go_enter Try.func11, Try.ntmps11
    go_wp2_with fail
    rw [← H0.out]
    refine (implGood_is kap cl bo bc b so sc s ro rc r w0 false hlb hls hlr (hz.later hB0) HG.out).mono ?_
    rintro e w1 ⟨rfl, hb1⟩
    have hB1 := hB0.trans (hb1.mono hB0.size)
    have hs1 : w.heap.size + 1 + 1 + 1 ≤ w1.heap.size := Nat.le_trans hs0 hb1.size
    have hz1 : w0.heap.size ≤ w1.heap.size := hb1.size
    have XA1 := hid (XA0.out.later hb1)
    have XI1 := hid (XI0.out.later hb1)
    have XR1 := hid (XR0.out.later hb1)
    clear XA0 XI0 XR0
    clear hb1
    have a0 := XA1.out.c 0 rfl
    have af0 := XA1.out.f 0 rfl
    have a1 := XA1.out.c 1 rfl
    have af1 := XA1.out.f 1 rfl
    have a2 := XA1.out.c 2 rfl
    have af2 := XA1.out.f 2 rfl
    have a3 := XA1.out.c 3 rfl
    have af3 := XA1.out.f 3 rfl
    have a4 := XA1.out.c 4 rfl
    have af4 := XA1.out.f 4 rfl
    have az := XA1.out.size
    have i0 := XI1.out.c 0 rfl
    have if0 := XI1.out.f 0 rfl
    have iz := XI1.out.size
    have r0 := XR1.out.c 0 rfl
    have rf0 := XR1.out.f 0 rfl
    have r1 := XR1.out.c 1 rfl
    have rf1 := XR1.out.f 1 rfl
    have r2 := XR1.out.c 2 rfl
    have rf2 := XR1.out.f 2 rfl
    have r3 := XR1.out.c 3 rfl
    have rf3 := XR1.out.f 3 rfl
    have r4 := XR1.out.c 4 rfl
    have rf4 := XR1.out.f 4 rfl
    have rz := XR1.out.size
    go_wp2
    refine bodyPost_ret (v := .tuple #[.agg #[.int .i64 0, .bool false, .slice none 0 0, .slice none 0 0, .slice none 0 0], .int .i64 1]) (by simp [results, Try.results11, go_sem, r0, r1, r2, r3, r4]) rfl ?_
    rw [HR.out]
    exact ⟨⟨none, 0, none, 0, none, 0, rfl, frBox_nil _ _ _⟩, (((((hB1.setCell (p := ⟨w.heap.size + 1 + 1, 0, none⟩) (by dsimp only; omega) _).setCell (p := ⟨w.heap.size + 1 + 1, 1, none⟩) (by dsimp only; omega) _).setCell (p := ⟨w.heap.size + 1 + 1, 2, none⟩) (by dsimp only; omega) _).setCell (p := ⟨w.heap.size + 1 + 1, 3, none⟩) (by dsimp only; omega) _).setCell (p := ⟨w.heap.size + 1 + 1, 4, none⟩) (by dsimp only; omega) _)⟩
  have HG : Hid (goodX kap b s r = true) := hg
  cases hh : hasB (idsOf r) iv
  · have HR : Hid (doneR kap cl b s r iv = (kap, cl, b, s, r, 4)) := by rw [Hid, doneR, if_pos hg, if_neg (by rw [hh]; simp)]
    have HI : Hid (idxI (idsOf r) iv = -1) := hasB_not hh
    clear hg hh
    obtain ⟨w0, hw0⟩ : ∃ w0, w0 = (((w.alloc (.cells #[.int .i64 kap, .bool cl, .slice bo b.length bc, .slice so s.length sc, .slice ro r.length rc] 26)).alloc (.cells #[.int .i64 iv] 3)).alloc (.cells #[.int .i64 0, .bool false, .slice none 0 0, .slice none 0 0, .slice none 0 0] 26)) := ⟨_, rfl⟩
    have hB0 : Below w.heap.size w w0 := by rw [hw0]; exact Below.allocS (Below.allocS (Below.allocS (Below.refl _ _) _) _) _
    have XA0 : Hid (Bx w0 (w.heap.size) [.int .i64 kap, .bool cl, .slice bo b.length bc, .slice so s.length sc, .slice ro r.length rc]) := by rw [hw0]; exact Bx.alloc (Bx.alloc (Bx.new [.int .i64 kap, .bool cl, .slice bo b.length bc, .slice so s.length sc, .slice ro r.length rc] _ rfl) _) _
    have XI0 : Hid (Bx w0 (w.heap.size + 1) [.int .i64 iv]) := by rw [hw0]; exact Bx.alloc (Bx.new [.int .i64 iv] _ (by simp)) _
    have XR0 : Hid (Bx w0 (w.heap.size + 1 + 1) [.int .i64 0, .bool false, .slice none 0 0, .slice none 0 0, .slice none 0 0]) := by rw [hw0]; exact Bx.new [.int .i64 0, .bool false, .slice none 0 0, .slice none 0 0, .slice none 0 0] _ (by simp)
    have H0 : Hid (w0 = (((w.alloc (.cells #[.int .i64 kap, .bool cl, .slice bo b.length bc, .slice so s.length sc, .slice ro r.length rc] 26)).alloc (.cells #[.int .i64 iv] 3)).alloc (.cells #[.int .i64 0, .bool false, .slice none 0 0, .slice none 0 0, .slice none 0 0] 26))) := hw0
    have hs0 : w.heap.size + 1 + 1 + 1 ≤ w0.heap.size := by rw [hw0]; simp
    clear hw0
    go_enter Try.func11, Try.ntmps11
    go_wp2_with fail
    rw [← H0.out]
    refine (implGood_is kap cl bo bc b so sc s ro rc r w0 true hlb hls hlr (hz.later hB0) HG.out).mono ?_
    rintro e w1 ⟨rfl, hb1⟩
    have hB1 := hB0.trans (hb1.mono hB0.size)
    have hs1 : w.heap.size + 1 + 1 + 1 ≤ w1.heap.size := Nat.le_trans hs0 hb1.size
    have hz1 : w0.heap.size ≤ w1.heap.size := hb1.size
    have XA1 := hid (XA0.out.later hb1)
    have XI1 := hid (XI0.out.later hb1)
    have XR1 := hid (XR0.out.later hb1)
    clear XA0 XI0 XR0
    clear hb1
    have a0 := XA1.out.c 0 rfl
    have af0 := XA1.out.f 0 rfl
    have a1 := XA1.out.c 1 rfl
    have af1 := XA1.out.f 1 rfl
    have a2 := XA1.out.c 2 rfl
    have af2 := XA1.out.f 2 rfl
    have a3 := XA1.out.c 3 rfl
    have af3 := XA1.out.f 3 rfl
    have a4 := XA1.out.c 4 rfl
    have af4 := XA1.out.f 4 rfl
    have az := XA1.out.size
    have i0 := XI1.out.c 0 rfl
    have if0 := XI1.out.f 0 rfl
    have iz := XI1.out.size
    have r0 := XR1.out.c 0 rfl
    have rf0 := XR1.out.f 0 rfl
    have r1 := XR1.out.c 1 rfl
    have rf1 := XR1.out.f 1 rfl
    have r2 := XR1.out.c 2 rfl
    have rf2 := XR1.out.f 2 rfl
    have r3 := XR1.out.c 3 rfl
    have rf3 := XR1.out.f 3 rfl
    have r4 := XR1.out.c 4 rfl
    have rf4 := XR1.out.f 4 rfl
    have rz := XR1.out.size
    go_wp2_with fail
    clear a0 af0 a1 af1 a2 af2 a3 af3 a4 af4 az i0 if0 iz r0 rf0 r1 rf1 r2 rf2 r3 rf3 r4 rf4 rz
    refine (copyBox_any kap cl bo bc b so sc s ro rc r w1 hlb hls hlr (hz.later hB1)).mono ?_
    rintro e w2 ⟨⟨bo1, bc1, so1, sc1, ro1, rc1, rfl, hF⟩, hb2⟩
    have hB2 := hB1.trans (hb2.mono hB1.size)
    have hs2 : w.heap.size + 1 + 1 + 1 ≤ w2.heap.size := Nat.le_trans hs1 hb2.size
    have hz2 : w1.heap.size ≤ w2.heap.size := hb2.size
    have XA2 := hid (XA1.out.later hb2)
    have XI2 := hid (XI1.out.later hb2)
    have XR2 := hid (XR1.out.later hb2)
    clear XA1 XI1 XR1
    have F2 := hid (hF)
    clear hb2 hF
    have a0 := XA2.out.c 0 rfl
    have af0 := XA2.out.f 0 rfl
    have a1 := XA2.out.c 1 rfl
    have af1 := XA2.out.f 1 rfl
    have a2 := XA2.out.c 2 rfl
    have af2 := XA2.out.f 2 rfl
    have a3 := XA2.out.c 3 rfl
    have af3 := XA2.out.f 3 rfl
    have a4 := XA2.out.c 4 rfl
    have af4 := XA2.out.f 4 rfl
    have az := XA2.out.size
    have i0 := XI2.out.c 0 rfl
    have if0 := XI2.out.f 0 rfl
    have iz := XI2.out.size
    have r0 := XR2.out.c 0 rfl
    have rf0 := XR2.out.f 0 rfl
    have r1 := XR2.out.c 1 rfl
    have rf1 := XR2.out.f 1 rfl
    have r2 := XR2.out.c 2 rfl
    have rf2 := XR2.out.f 2 rfl
    have r3 := XR2.out.c 3 rfl
    have rf3 := XR2.out.f 3 rfl
    have r4 := XR2.out.c 4 rfl
    have rf4 := XR2.out.f 4 rfl
    have rz := XR2.out.size
    obtain ⟨w3, hV⟩ : ∃ V, V = w2.alloc (.cells #[.int .i64 kap, .bool cl, .slice bo1 b.length bc1, .slice so1 s.length sc1, .slice ro1 r.length rc1] 26) := ⟨_, rfl⟩
    have hz3 : w2.heap.size ≤ w3.heap.size := by rw [hV]; simp
    have hs3 : w.heap.size + 1 + 1 + 1 ≤ w3.heap.size := Nat.le_trans hs2 hz3
    have hB3 : Below w.heap.size w w3 := by rw [hV]; exact Below.allocS hB2 _
    have XA3 := hid (XA2.out.alloc (.cells #[.int .i64 kap, .bool cl, .slice bo1 b.length bc1, .slice so1 s.length sc1, .slice ro1 r.length rc1] 26))
    rw [← hV] at XA3
    have XI3 := hid (XI2.out.alloc (.cells #[.int .i64 kap, .bool cl, .slice bo1 b.length bc1, .slice so1 s.length sc1, .slice ro1 r.length rc1] 26))
    rw [← hV] at XI3
    have XR3 := hid (XR2.out.alloc (.cells #[.int .i64 kap, .bool cl, .slice bo1 b.length bc1, .slice so1 s.length sc1, .slice ro1 r.length rc1] 26))
    rw [← hV] at XR3
    have F3 := hid (F2.out.later (below1 w2 (.cells #[.int .i64 kap, .bool cl, .slice bo1 b.length bc1, .slice so1 s.length sc1, .slice ro1 r.length rc1] 26)))
    rw [← hV] at F3
    have H3 : Hid (w3 = w2.alloc (.cells #[.int .i64 kap, .bool cl, .slice bo1 b.length bc1, .slice so1 s.length sc1, .slice ro1 r.length rc1] 26)) := hV
    clear hV XA2 XI2 XR2 F2
    have XN3 : Hid (Bx w3 w2.heap.size [.int .i64 kap, .bool cl, .slice bo1 b.length bc1, .slice so1 s.length sc1, .slice ro1 r.length rc1]) := by rw [H3.out]; exact Bx.new [.int .i64 kap, .bool cl, .slice bo1 b.length bc1, .slice so1 s.length sc1, .slice ro1 r.length rc1] _ rfl
    have hy3 : w2.heap.size < w3.heap.size := XN3.out.size
    go_wp2_with fail
    clear a0 af0 a1 af1 a2 af2 a3 af3 a4 af4 az i0 if0 iz r0 rf0 r1 rf1 r2 rf2 r3 rf3 r4 rf4 rz
    rw [← H3.out]
    refine (indexFunc_is ro rc r iv (w.heap.size + 1) w3 (-1) hlr (hz.2.2.later hB3) XI3.out HI.out).mono ?_
    rintro e w4 ⟨rfl, hb4⟩
    have hB4 := hB3.trans (hb4.mono hB3.size)
    have hs4 : w.heap.size + 1 + 1 + 1 ≤ w4.heap.size := Nat.le_trans hs3 hb4.size
    have hz4 : w3.heap.size ≤ w4.heap.size := hb4.size
    have XA4 := hid (XA3.out.later hb4)
    have XI4 := hid (XI3.out.later hb4)
    have XR4 := hid (XR3.out.later hb4)
    have XN4 := hid (XN3.out.later hb4)
    have F4 := hid (F3.out.later hb4)
    clear XA3 XI3 XR3 XN3 F3
    clear hb4
    have a0 := XA4.out.c 0 rfl
    have af0 := XA4.out.f 0 rfl
    have a1 := XA4.out.c 1 rfl
    have af1 := XA4.out.f 1 rfl
    have a2 := XA4.out.c 2 rfl
    have af2 := XA4.out.f 2 rfl
    have a3 := XA4.out.c 3 rfl
    have af3 := XA4.out.f 3 rfl
    have a4 := XA4.out.c 4 rfl
    have af4 := XA4.out.f 4 rfl
    have az := XA4.out.size
    have i0 := XI4.out.c 0 rfl
    have if0 := XI4.out.f 0 rfl
    have iz := XI4.out.size
    have r0 := XR4.out.c 0 rfl
    have rf0 := XR4.out.f 0 rfl
    have r1 := XR4.out.c 1 rfl
    have rf1 := XR4.out.f 1 rfl
    have r2 := XR4.out.c 2 rfl
    have rf2 := XR4.out.f 2 rfl
    have r3 := XR4.out.c 3 rfl
    have rf3 := XR4.out.f 3 rfl
    have r4 := XR4.out.c 4 rfl
    have rf4 := XR4.out.f 4 rfl
    have rz := XR4.out.size
    have n0 := XN4.out.c 0 rfl
    have nf0 := XN4.out.f 0 rfl
    have n1 := XN4.out.c 1 rfl
    have nf1 := XN4.out.f 1 rfl
    have n2 := XN4.out.c 2 rfl
    have nf2 := XN4.out.f 2 rfl
    have n3 := XN4.out.c 3 rfl
    have nf3 := XN4.out.f 3 rfl
    have n4 := XN4.out.c 4 rfl
    have nf4 := XN4.out.f 4 rfl
    have nz := XN4.out.size
    go_wp2
    refine bodyPost_ret (v := .tuple #[.agg #[.int .i64 kap, .bool cl, .slice bo1 b.length bc1, .slice so1 s.length sc1, .slice ro1 r.length rc1], .int .i64 4]) (by simp [results, Try.results11, go_sem, r0, r1, r2, r3, r4]) rfl ?_
    rw [HR.out]
    exact ⟨⟨_, _, _, _, _, _, rfl, (FrBox.wide (((((F4.out.setOff (a := ⟨w.heap.size + 1 + 1, 0, none⟩) (by dsimp only; omega) _).setOff (a := ⟨w.heap.size + 1 + 1, 1, none⟩) (by dsimp only; omega) _).setOff (a := ⟨w.heap.size + 1 + 1, 2, none⟩) (by dsimp only; omega) _).setOff (a := ⟨w.heap.size + 1 + 1, 3, none⟩) (by dsimp only; omega) _).setOff (a := ⟨w.heap.size + 1 + 1, 4, none⟩) (by dsimp only; omega) _) (by omega) (Nat.le_refl _)).low (Nat.le_refl _)⟩, (((((hB4.setCell (p := ⟨w.heap.size + 1 + 1, 0, none⟩) (by dsimp only; omega) _).setCell (p := ⟨w.heap.size + 1 + 1, 1, none⟩) (by dsimp only; omega) _).setCell (p := ⟨w.heap.size + 1 + 1, 2, none⟩) (by dsimp only; omega) _).setCell (p := ⟨w.heap.size + 1 + 1, 3, none⟩) (by dsimp only; omega) _).setCell (p := ⟨w.heap.size + 1 + 1, 4, none⟩) (by dsimp only; omega) _)⟩
  · obtain ⟨p, hp1, hp2, hp4⟩ := hasB_at hh
    have hpr : p < r.length := by rw [idsOf_len] at hp1; exact hp1
    have hnd : (idsOf r).Nodup := (List.nodup_append.1 (goodX_good hg).2.2.2.2.1).2.1
    have hfl1 : r.filter (fun t => t.1 != iv) = r.take p ++ r.drop (p + 1) := by rw [← hp2, idsOf_el hpr]; exact filter_one r p hpr hnd
    have HR : Hid (doneR kap cl b s r iv = (kap, cl, b, s, r.take p ++ r.drop (p + 1), 0)) := by rw [Hid, doneR, if_pos hg, if_pos hh, hfl1]
    have HI : Hid (idxI (idsOf r) iv = (p : Int)) := hp4
    have HKE : Hid (r.take p ++ r.drop (p + 1) = keepE r (p : Int) (List.range r.length)) := (keepE_range r p hpr).symm
    have hfl : ∀ (a : Option Addr) (n c : Nat) (W : World), (Instr.field 54 (.agg #[.slice a n c]) 0).run Try.prog W = .ok (.slice a n c) W := run_field54
    obtain ⟨Rk, hRk⟩ : ∃ l, l = r.take p ++ r.drop (p + 1) := ⟨_, rfl⟩
    rw [← hRk] at HR HKE
    have hpn : decide ((p : Int) < 0) = false := by simp
    clear hg hh hp1 hp2 hp4 hnd hfl1 hRk
    obtain ⟨w0, hw0⟩ : ∃ w0, w0 = (((w.alloc (.cells #[.int .i64 kap, .bool cl, .slice bo b.length bc, .slice so s.length sc, .slice ro r.length rc] 26)).alloc (.cells #[.int .i64 iv] 3)).alloc (.cells #[.int .i64 0, .bool false, .slice none 0 0, .slice none 0 0, .slice none 0 0] 26)) := ⟨_, rfl⟩
    have hB0 : Below w.heap.size w w0 := by rw [hw0]; exact Below.allocS (Below.allocS (Below.allocS (Below.refl _ _) _) _) _
    have XA0 : Hid (Bx w0 (w.heap.size) [.int .i64 kap, .bool cl, .slice bo b.length bc, .slice so s.length sc, .slice ro r.length rc]) := by rw [hw0]; exact Bx.alloc (Bx.alloc (Bx.new [.int .i64 kap, .bool cl, .slice bo b.length bc, .slice so s.length sc, .slice ro r.length rc] _ rfl) _) _
    have XI0 : Hid (Bx w0 (w.heap.size + 1) [.int .i64 iv]) := by rw [hw0]; exact Bx.alloc (Bx.new [.int .i64 iv] _ (by simp)) _
    have XR0 : Hid (Bx w0 (w.heap.size + 1 + 1) [.int .i64 0, .bool false, .slice none 0 0, .slice none 0 0, .slice none 0 0]) := by rw [hw0]; exact Bx.new [.int .i64 0, .bool false, .slice none 0 0, .slice none 0 0, .slice none 0 0] _ (by simp)
    have H0 : Hid (w0 = (((w.alloc (.cells #[.int .i64 kap, .bool cl, .slice bo b.length bc, .slice so s.length sc, .slice ro r.length rc] 26)).alloc (.cells #[.int .i64 iv] 3)).alloc (.cells #[.int .i64 0, .bool false, .slice none 0 0, .slice none 0 0, .slice none 0 0] 26))) := hw0
    have hs0 : w.heap.size + 1 + 1 + 1 ≤ w0.heap.size := by rw [hw0]; simp
    clear hw0
    go_enter Try.func11, Try.ntmps11
    go_wp2_with fail
    rw [← H0.out]
    refine (implGood_is kap cl bo bc b so sc s ro rc r w0 true hlb hls hlr (hz.later hB0) HG.out).mono ?_
    rintro e w1 ⟨rfl, hb1⟩
    have hB1 := hB0.trans (hb1.mono hB0.size)
    have hs1 : w.heap.size + 1 + 1 + 1 ≤ w1.heap.size := Nat.le_trans hs0 hb1.size
    have hz1 : w0.heap.size ≤ w1.heap.size := hb1.size
    have XA1 := hid (XA0.out.later hb1)
    have XI1 := hid (XI0.out.later hb1)
    have XR1 := hid (XR0.out.later hb1)
    clear XA0 XI0 XR0
    clear hb1
    have a0 := XA1.out.c 0 rfl
    have af0 := XA1.out.f 0 rfl
    have a1 := XA1.out.c 1 rfl
    have af1 := XA1.out.f 1 rfl
    have a2 := XA1.out.c 2 rfl
    have af2 := XA1.out.f 2 rfl
    have a3 := XA1.out.c 3 rfl
    have af3 := XA1.out.f 3 rfl
    have a4 := XA1.out.c 4 rfl
    have af4 := XA1.out.f 4 rfl
    have az := XA1.out.size
    have i0 := XI1.out.c 0 rfl
    have if0 := XI1.out.f 0 rfl
    have iz := XI1.out.size
    have r0 := XR1.out.c 0 rfl
    have rf0 := XR1.out.f 0 rfl
    have r1 := XR1.out.c 1 rfl
    have rf1 := XR1.out.f 1 rfl
    have r2 := XR1.out.c 2 rfl
    have rf2 := XR1.out.f 2 rfl
    have r3 := XR1.out.c 3 rfl
    have rf3 := XR1.out.f 3 rfl
    have r4 := XR1.out.c 4 rfl
    have rf4 := XR1.out.f 4 rfl
    have rz := XR1.out.size
    go_wp2_with fail
    clear a0 af0 a1 af1 a2 af2 a3 af3 a4 af4 az i0 if0 iz r0 rf0 r1 rf1 r2 rf2 r3 rf3 r4 rf4 rz
    refine (copyBox_any kap cl bo bc b so sc s ro rc r w1 hlb hls hlr (hz.later hB1)).mono ?_
    rintro e w2 ⟨⟨bo1, bc1, so1, sc1, ro1, rc1, rfl, hF⟩, hb2⟩
    have hB2 := hB1.trans (hb2.mono hB1.size)
    have hs2 : w.heap.size + 1 + 1 + 1 ≤ w2.heap.size := Nat.le_trans hs1 hb2.size
    have hz2 : w1.heap.size ≤ w2.heap.size := hb2.size
    have XA2 := hid (XA1.out.later hb2)
    have XI2 := hid (XI1.out.later hb2)
    have XR2 := hid (XR1.out.later hb2)
    clear XA1 XI1 XR1
    have F2 := hid (hF)
    clear hb2 hF
    have a0 := XA2.out.c 0 rfl
    have af0 := XA2.out.f 0 rfl
    have a1 := XA2.out.c 1 rfl
    have af1 := XA2.out.f 1 rfl
    have a2 := XA2.out.c 2 rfl
    have af2 := XA2.out.f 2 rfl
    have a3 := XA2.out.c 3 rfl
    have af3 := XA2.out.f 3 rfl
    have a4 := XA2.out.c 4 rfl
    have af4 := XA2.out.f 4 rfl
    have az := XA2.out.size
    have i0 := XI2.out.c 0 rfl
    have if0 := XI2.out.f 0 rfl
    have iz := XI2.out.size
    have r0 := XR2.out.c 0 rfl
    have rf0 := XR2.out.f 0 rfl
    have r1 := XR2.out.c 1 rfl
    have rf1 := XR2.out.f 1 rfl
    have r2 := XR2.out.c 2 rfl
    have rf2 := XR2.out.f 2 rfl
    have r3 := XR2.out.c 3 rfl
    have rf3 := XR2.out.f 3 rfl
    have r4 := XR2.out.c 4 rfl
    have rf4 := XR2.out.f 4 rfl
    have rz := XR2.out.size
    obtain ⟨w3, hV⟩ : ∃ V, V = w2.alloc (.cells #[.int .i64 kap, .bool cl, .slice bo1 b.length bc1, .slice so1 s.length sc1, .slice ro1 r.length rc1] 26) := ⟨_, rfl⟩
    have hz3 : w2.heap.size ≤ w3.heap.size := by rw [hV]; simp
    have hs3 : w.heap.size + 1 + 1 + 1 ≤ w3.heap.size := Nat.le_trans hs2 hz3
    have hB3 : Below w.heap.size w w3 := by rw [hV]; exact Below.allocS hB2 _
    have XA3 := hid (XA2.out.alloc (.cells #[.int .i64 kap, .bool cl, .slice bo1 b.length bc1, .slice so1 s.length sc1, .slice ro1 r.length rc1] 26))
    rw [← hV] at XA3
    have XI3 := hid (XI2.out.alloc (.cells #[.int .i64 kap, .bool cl, .slice bo1 b.length bc1, .slice so1 s.length sc1, .slice ro1 r.length rc1] 26))
    rw [← hV] at XI3
    have XR3 := hid (XR2.out.alloc (.cells #[.int .i64 kap, .bool cl, .slice bo1 b.length bc1, .slice so1 s.length sc1, .slice ro1 r.length rc1] 26))
    rw [← hV] at XR3
    have F3 := hid (F2.out.later (below1 w2 (.cells #[.int .i64 kap, .bool cl, .slice bo1 b.length bc1, .slice so1 s.length sc1, .slice ro1 r.length rc1] 26)))
    rw [← hV] at F3
    have H3 : Hid (w3 = w2.alloc (.cells #[.int .i64 kap, .bool cl, .slice bo1 b.length bc1, .slice so1 s.length sc1, .slice ro1 r.length rc1] 26)) := hV
    clear hV XA2 XI2 XR2 F2
    have XN3 : Hid (Bx w3 w2.heap.size [.int .i64 kap, .bool cl, .slice bo1 b.length bc1, .slice so1 s.length sc1, .slice ro1 r.length rc1]) := by rw [H3.out]; exact Bx.new [.int .i64 kap, .bool cl, .slice bo1 b.length bc1, .slice so1 s.length sc1, .slice ro1 r.length rc1] _ rfl
    have hy3 : w2.heap.size < w3.heap.size := XN3.out.size
    go_wp2_with fail
    clear a0 af0 a1 af1 a2 af2 a3 af3 a4 af4 az i0 if0 iz r0 rf0 r1 rf1 r2 rf2 r3 rf3 r4 rf4 rz
    rw [← H3.out]
    refine (indexFunc_is ro rc r iv (w.heap.size + 1) w3 (p : Int) hlr (hz.2.2.later hB3) XI3.out HI.out).mono ?_
    rintro e w4 ⟨rfl, hb4⟩
    have hB4 := hB3.trans (hb4.mono hB3.size)
    have hs4 : w.heap.size + 1 + 1 + 1 ≤ w4.heap.size := Nat.le_trans hs3 hb4.size
    have hz4 : w3.heap.size ≤ w4.heap.size := hb4.size
    have XA4 := hid (XA3.out.later hb4)
    have XI4 := hid (XI3.out.later hb4)
    have XR4 := hid (XR3.out.later hb4)
    have XN4 := hid (XN3.out.later hb4)
    have F4 := hid (F3.out.later hb4)
    clear XA3 XI3 XR3 XN3 F3
    clear hb4
    have a0 := XA4.out.c 0 rfl
    have af0 := XA4.out.f 0 rfl
    have a1 := XA4.out.c 1 rfl
    have af1 := XA4.out.f 1 rfl
    have a2 := XA4.out.c 2 rfl
    have af2 := XA4.out.f 2 rfl
    have a3 := XA4.out.c 3 rfl
    have af3 := XA4.out.f 3 rfl
    have a4 := XA4.out.c 4 rfl
    have af4 := XA4.out.f 4 rfl
    have az := XA4.out.size
    have i0 := XI4.out.c 0 rfl
    have if0 := XI4.out.f 0 rfl
    have iz := XI4.out.size
    have r0 := XR4.out.c 0 rfl
    have rf0 := XR4.out.f 0 rfl
    have r1 := XR4.out.c 1 rfl
    have rf1 := XR4.out.f 1 rfl
    have r2 := XR4.out.c 2 rfl
    have rf2 := XR4.out.f 2 rfl
    have r3 := XR4.out.c 3 rfl
    have rf3 := XR4.out.f 3 rfl
    have r4 := XR4.out.c 4 rfl
    have rf4 := XR4.out.f 4 rfl
    have rz := XR4.out.size
    have n0 := XN4.out.c 0 rfl
    have nf0 := XN4.out.f 0 rfl
    have n1 := XN4.out.c 1 rfl
    have nf1 := XN4.out.f 1 rfl
    have n2 := XN4.out.c 2 rfl
    have nf2 := XN4.out.f 2 rfl
    have n3 := XN4.out.c 3 rfl
    have nf3 := XN4.out.f 3 rfl
    have n4 := XN4.out.c 4 rfl
    have nf4 := XN4.out.f 4 rfl
    have nz := XN4.out.size
    go_wp2_with fail
    clear a0 af0 a1 af1 a2 af2 a3 af3 a4 af4 az i0 if0 iz r0 rf0 r1 rf1 r2 rf2 r3 rf3 r4 rf4 rz n0 nf0 n1 nf1 n2 nf2 n3 nf3 n4 nf4 nz
    refine (queueOfL_any ro rc r w4 hlr (hz.2.2.later hB4)).mono ?_
    rintro e w5 ⟨⟨qo, rfl, hQ⟩, hb5⟩
    have hB5 := hB4.trans (hb5.mono hB4.size)
    have hs5 : w.heap.size + 1 + 1 + 1 ≤ w5.heap.size := Nat.le_trans hs4 hb5.size
    have hz5 : w4.heap.size ≤ w5.heap.size := hb5.size
    have XA5 := hid (XA4.out.later hb5)
    have XI5 := hid (XI4.out.later hb5)
    have XR5 := hid (XR4.out.later hb5)
    have XN5 := hid (XN4.out.later hb5)
    have F5 := hid (F4.out.later hb5)
    clear XA4 XI4 XR4 XN4 F4
    have Q5 := hid (hQ)
    clear hb5 hQ
    have a0 := XA5.out.c 0 rfl
    have af0 := XA5.out.f 0 rfl
    have a1 := XA5.out.c 1 rfl
    have af1 := XA5.out.f 1 rfl
    have a2 := XA5.out.c 2 rfl
    have af2 := XA5.out.f 2 rfl
    have a3 := XA5.out.c 3 rfl
    have af3 := XA5.out.f 3 rfl
    have a4 := XA5.out.c 4 rfl
    have af4 := XA5.out.f 4 rfl
    have az := XA5.out.size
    have i0 := XI5.out.c 0 rfl
    have if0 := XI5.out.f 0 rfl
    have iz := XI5.out.size
    have r0 := XR5.out.c 0 rfl
    have rf0 := XR5.out.f 0 rfl
    have r1 := XR5.out.c 1 rfl
    have rf1 := XR5.out.f 1 rfl
    have r2 := XR5.out.c 2 rfl
    have rf2 := XR5.out.f 2 rfl
    have r3 := XR5.out.c 3 rfl
    have rf3 := XR5.out.f 3 rfl
    have r4 := XR5.out.c 4 rfl
    have rf4 := XR5.out.f 4 rfl
    have rz := XR5.out.size
    have n0 := XN5.out.c 0 rfl
    have nf0 := XN5.out.f 0 rfl
    have n1 := XN5.out.c 1 rfl
    have nf1 := XN5.out.f 1 rfl
    have n2 := XN5.out.c 2 rfl
    have nf2 := XN5.out.f 2 rfl
    have n3 := XN5.out.c 3 rfl
    have nf3 := XN5.out.f 3 rfl
    have n4 := XN5.out.c 4 rfl
    have nf4 := XN5.out.f 4 rfl
    have nz := XN5.out.size
    go_wp2_with fail
    clear a0 af0 a1 af1 a2 af2 a3 af3 a4 af4 az i0 if0 iz r0 rf0 r1 rf1 r2 rf2 r3 rf3 r4 rf4 rz n0 nf0 n1 nf1 n2 nf2 n3 nf3 n4 nf4 nz
    refine (withoutL_any qo r.length r (p : Int) w5 hlr Q5.out.in Rk HKE.out).mono ?_
    rintro e w6 ⟨⟨po, pc, rfl, hQ⟩, hb6⟩
    have hB6 := hB5.trans (hb6.mono hB5.size)
    have hs6 : w.heap.size + 1 + 1 + 1 ≤ w6.heap.size := Nat.le_trans hs5 hb6.size
    have hz6 : w5.heap.size ≤ w6.heap.size := hb6.size
    have XA6 := hid (XA5.out.later hb6)
    have XI6 := hid (XI5.out.later hb6)
    have XR6 := hid (XR5.out.later hb6)
    have XN6 := hid (XN5.out.later hb6)
    have F6 := hid (F5.out.later hb6)
    have Q6 := hid (Q5.out.later hb6)
    clear XA5 XI5 XR5 XN5 F5 Q5
    have K6 := hid (hQ)
    clear hb6 hQ
    have a0 := XA6.out.c 0 rfl
    have af0 := XA6.out.f 0 rfl
    have a1 := XA6.out.c 1 rfl
    have af1 := XA6.out.f 1 rfl
    have a2 := XA6.out.c 2 rfl
    have af2 := XA6.out.f 2 rfl
    have a3 := XA6.out.c 3 rfl
    have af3 := XA6.out.f 3 rfl
    have a4 := XA6.out.c 4 rfl
    have af4 := XA6.out.f 4 rfl
    have az := XA6.out.size
    have i0 := XI6.out.c 0 rfl
    have if0 := XI6.out.f 0 rfl
    have iz := XI6.out.size
    have r0 := XR6.out.c 0 rfl
    have rf0 := XR6.out.f 0 rfl
    have r1 := XR6.out.c 1 rfl
    have rf1 := XR6.out.f 1 rfl
    have r2 := XR6.out.c 2 rfl
    have rf2 := XR6.out.f 2 rfl
    have r3 := XR6.out.c 3 rfl
    have rf3 := XR6.out.f 3 rfl
    have r4 := XR6.out.c 4 rfl
    have rf4 := XR6.out.f 4 rfl
    have rz := XR6.out.size
    have n0 := XN6.out.c 0 rfl
    have nf0 := XN6.out.f 0 rfl
    have n1 := XN6.out.c 1 rfl
    have nf1 := XN6.out.f 1 rfl
    have n2 := XN6.out.c 2 rfl
    have nf2 := XN6.out.f 2 rfl
    have n3 := XN6.out.c 3 rfl
    have nf3 := XN6.out.f 3 rfl
    have n4 := XN6.out.c 4 rfl
    have nf4 := XN6.out.f 4 rfl
    have nz := XN6.out.size
    go_upto_region 8 with fail
    clear a0 af0 a1 af1 a2 af2 a3 af3 a4 af4 az i0 if0 iz r0 rf0 r1 rf1 r2 rf2 r3 rf3 r4 rf4 rz n0 nf0 n1 nf1 n2 nf2 n3 nf3 n4 nf4 nz
    obtain ⟨w7, hV⟩ : ∃ V, V = (w6.setCell ⟨w2.heap.size, 4, none⟩ (.slice po Rk.length pc)) := ⟨_, rfl⟩
    have hz7 : w6.heap.size ≤ w7.heap.size := by rw [hV]; simp [World.setCell]
    have hs7 : w.heap.size + 1 + 1 + 1 ≤ w7.heap.size := Nat.le_trans hs6 hz7
    have hB7 : Below w.heap.size w w7 := by rw [hV]; exact (hB6.setCell (p := ⟨w2.heap.size, 4, none⟩) (by dsimp only; omega) _)
    have XA7 := hid ((XA6.out.other (a := ⟨w2.heap.size, 4, none⟩) (by dsimp only; omega) (.slice po Rk.length pc)))
    rw [← hV] at XA7
    have XI7 := hid ((XI6.out.other (a := ⟨w2.heap.size, 4, none⟩) (by dsimp only; omega) (.slice po Rk.length pc)))
    rw [← hV] at XI7
    have XR7 := hid ((XR6.out.other (a := ⟨w2.heap.size, 4, none⟩) (by dsimp only; omega) (.slice po Rk.length pc)))
    rw [← hV] at XR7
    have XN7 := hid ((XN6.out.set 4 (.slice po Rk.length pc)))
    rw [← hV] at XN7
    have F7 := hid ((F6.out.setOff (a := ⟨w2.heap.size, 4, none⟩) (by dsimp only; omega) (.slice po Rk.length pc)))
    rw [← hV] at F7
    have Q7 := hid ((Q6.out.setOff (a := ⟨w2.heap.size, 4, none⟩) (by dsimp only; omega) (.slice po Rk.length pc)))
    rw [← hV] at Q7
    have K7 := hid ((K6.out.setOff (a := ⟨w2.heap.size, 4, none⟩) (by dsimp only; omega) (.slice po Rk.length pc)))
    rw [← hV] at K7
    have H7 : Hid (w7 = (w6.setCell ⟨w2.heap.size, 4, none⟩ (.slice po Rk.length pc))) := hV
    clear hV XA6 XI6 XR6 XN6 F6 Q6 K6
    rw [← H7.out]
    clear H7
    have a0 := XA7.out.c 0 rfl
    have af0 := XA7.out.f 0 rfl
    have a1 := XA7.out.c 1 rfl
    have af1 := XA7.out.f 1 rfl
    have a2 := XA7.out.c 2 rfl
    have af2 := XA7.out.f 2 rfl
    have a3 := XA7.out.c 3 rfl
    have af3 := XA7.out.f 3 rfl
    have a4 := XA7.out.c 4 rfl
    have af4 := XA7.out.f 4 rfl
    have az := XA7.out.size
    have i0 := XI7.out.c 0 rfl
    have if0 := XI7.out.f 0 rfl
    have iz := XI7.out.size
    have r0 := XR7.out.c 0 rfl
    have rf0 := XR7.out.f 0 rfl
    have r1 := XR7.out.c 1 rfl
    have rf1 := XR7.out.f 1 rfl
    have r2 := XR7.out.c 2 rfl
    have rf2 := XR7.out.f 2 rfl
    have r3 := XR7.out.c 3 rfl
    have rf3 := XR7.out.f 3 rfl
    have r4 := XR7.out.c 4 rfl
    have rf4 := XR7.out.f 4 rfl
    have rz := XR7.out.size
    have n0 := XN7.out.c 0 rfl
    have nf0 := XN7.out.f 0 rfl
    have n1 := XN7.out.c 1 rfl
    have nf1 := XN7.out.f 1 rfl
    have n2 := XN7.out.c 2 rfl
    have nf2 := XN7.out.f 2 rfl
    have n3 := XN7.out.c 3 rfl
    have nf3 := XN7.out.f 3 rfl
    have n4 := XN7.out.c 4 rfl
    have nf4 := XN7.out.f 4 rfl
    have nz := XN7.out.size
    go_wp2
    refine bodyPost_ret (v := .tuple #[.agg #[.int .i64 kap, .bool cl, .slice bo1 b.length bc1, .slice so1 s.length sc1, .slice po Rk.length pc], .int .i64 0]) (by simp [results, Try.results11, go_sem, r0, r1, r2, r3, r4]) rfl ?_
    rw [HR.out]
    exact ⟨⟨_, _, _, _, _, _, rfl, (((((((F7.out.setOff (a := ⟨w.heap.size + 1 + 1, 0, none⟩) (by dsimp only; omega) _).setOff (a := ⟨w.heap.size + 1 + 1, 1, none⟩) (by dsimp only; omega) _).setOff (a := ⟨w.heap.size + 1 + 1, 2, none⟩) (by dsimp only; omega) _).setOff (a := ⟨w.heap.size + 1 + 1, 3, none⟩) (by dsimp only; omega) _).setOff (a := ⟨w.heap.size + 1 + 1, 4, none⟩) (by dsimp only; omega) _).1.wide (by omega) (Nat.le_refl _)).low (Nat.le_refl _)), (((((((F7.out.setOff (a := ⟨w.heap.size + 1 + 1, 0, none⟩) (by dsimp only; omega) _).setOff (a := ⟨w.heap.size + 1 + 1, 1, none⟩) (by dsimp only; omega) _).setOff (a := ⟨w.heap.size + 1 + 1, 2, none⟩) (by dsimp only; omega) _).setOff (a := ⟨w.heap.size + 1 + 1, 3, none⟩) (by dsimp only; omega) _).setOff (a := ⟨w.heap.size + 1 + 1, 4, none⟩) (by dsimp only; omega) _).2.1.wide (by omega) (Nat.le_refl _)).low (Nat.le_refl _)), (((((((K7.out.setOff (a := ⟨w.heap.size + 1 + 1, 0, none⟩) (by dsimp only; omega) _).setOff (a := ⟨w.heap.size + 1 + 1, 1, none⟩) (by dsimp only; omega) _).setOff (a := ⟨w.heap.size + 1 + 1, 2, none⟩) (by dsimp only; omega) _).setOff (a := ⟨w.heap.size + 1 + 1, 3, none⟩) (by dsimp only; omega) _).setOff (a := ⟨w.heap.size + 1 + 1, 4, none⟩) (by dsimp only; omega) _).wide (by omega) (Nat.le_refl _)).low (Nat.le_refl _)), Kind.Fresh.apart F7.out.2.1 K7.out (by omega)⟩, (((((hB7.setCell (p := ⟨w.heap.size + 1 + 1, 0, none⟩) (by dsimp only; omega) _).setCell (p := ⟨w.heap.size + 1 + 1, 1, none⟩) (by dsimp only; omega) _).setCell (p := ⟨w.heap.size + 1 + 1, 2, none⟩) (by dsimp only; omega) _).setCell (p := ⟨w.heap.size + 1 + 1, 3, none⟩) (by dsimp only; omega) _).setCell (p := ⟨w.heap.size + 1 + 1, 4, none⟩) (by dsimp only; omega) _)⟩
end Go.Proofs.Ytnnlbnbamhkcaaa
