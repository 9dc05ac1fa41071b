
/- KillIn: the specification and the program. No conditions but those written. -/
import Derived.Test.YtlnjhajdbofhlaaVe
import Derived.Test.YtlnjhajdbofhlaaVf
import Derived.Test.YtlnjhajdbofhlaaKi
import Derived.Test.YtlnjhajdbofhlaaLgh
namespace Go.Proofs.Ytlnjhajdbofhlaa
open Go.RowKit Go.Maps

/-- What KillIn answers. -/
def killR (ps : List PChan) (t : Int) : List PChan × Int := if goodHB ps = true ∧ taskB t = true then (ps.map (keepP (offT t)), ((stands t (wts ps)).length : Int)) else ([], -1)
theorem killR_bad {ps : List PChan} {t : Int} (h : goodHB ps = false) : killR ps t = ([], -1) := by rw [killR, if_neg]; rw [h]; simp
theorem killR_task {ps : List PChan} {t : Int} (h : taskB t = false) : killR ps t = ([], -1) := by rw [killR, if_neg]; rw [h]; simp
theorem killR_ok {ps : List PChan} {t : Int} (h : goodHB ps = true) (h2 : taskB t = true) : killR ps t = (ps.map (keepP (offT t)), ((stands t (wts ps)).length : Int)) := by rw [killR, if_pos ⟨h, h2⟩]
/-- A hub of its own memory and a number, as an ending. -/
def AnsK (w : World) (R : List PChan × Int) (e : Ending) (w' : World) : Prop := (∃ o c us, e = .returned (.tuple #[.agg #[.slice o R.1.length c], .int .i64 R.2]) ∧ us.map valChan = R.1 ∧ DFr dChan w.heap.size w'.heap.size w' o c us) ∧ Below w.heap.size w w'
theorem DFr.nothing (lo hi : Nat) (W : World) : DFr dChan lo hi W none 0 [] := ⟨.inl rfl, fun j hj => absurd hj (by simp), fun i j _ hj => absurd hj (by simp)⟩
/-- Those that wait anywhere but the task. -/
theorem keepP_off {ps : List PChan} (t : Int) : ps.map (keepP fun j => if j = t then 0 else oft (wts ps) j) = ps.map (keepP (offT t)) := by
  refine List.map_congr_left fun c hc => ?_
  have key : ∀ l : List (Int × Int × Int), (∀ x ∈ l, x ∈ wts ps) → keptW (fun j => if j = t then 0 else oft (wts ps) j) l = keptW (offT t) l := fun l hl => by
    unfold keptW
    refine List.filter_congr fun x hx => ?_
    have h1 := oft_pos (hl x hx)
    by_cases e : x.1 = t
    · simp [e, offT]
    · simp [e, offT, h1]
  unfold keepP
  rw [key _ fun x hx => List.mem_flatMap.2 ⟨c, hc, List.mem_append_left _ hx⟩, key _ fun x hx => List.mem_flatMap.2 ⟨c, hc, List.mem_append_right _ hx⟩]
set_option maxRecDepth 100000 in
set_option maxHeartbeats 16000000 in
theorem specKill_any (ao : Option Addr) (cap : Nat) (ts : List LChan) (t : Int) (w : World) (hl : ts.length ≤ 1048576) (ht : totChan ts ≤ 1048576) (hz : DIn dChan w.heap.size w ao ts) :
    Calls Try.prog 48 #[.agg #[.slice ao ts.length cap], .int .i64 t] w fun e w' => AnsK w (killR (ts.map valChan) t) e w' := by
  have HZ := hid hz
  have HTT := hid ht
  clear hz ht
  obtain ⟨V0, hV0⟩ : ∃ V0, V0 = (w.alloc (.cells #[.slice ao ts.length cap] 56)).alloc (.cells #[.slice none 0 0] 56) := ⟨_, rfl⟩
  have hB0 : Below w.heap.size w V0 := by rw [hV0]; exact below2 _ _ _
  have A0 : Hid (Bx V0 w.heap.size [.slice ao ts.length cap]) := by rw [hV0]; exact (Bx.new [.slice ao ts.length cap] _ rfl).alloc _
  have R0 : Hid (Bx V0 (w.heap.size + 1) [.slice none 0 0]) := by rw [hV0]; exact Bx.new [.slice none 0 0] _ (by simp)
  have hs0 : w.heap.size + 1 + 1 ≤ V0.heap.size := by rw [hV0]; simp
  have HV0 := hid hV0
  clear hV0
  rcases hg : goodHB (ts.map valChan) with _ | _
  · have HR := hid (killR_bad (t := t) hg)
    have HG := hid hg
    clear hg
    go_enter Try.func48, Try.ntmps48
    go_wp2_with fail
    rw [← HV0.out]
    refine (specGoodH_is ao cap ts V0 false hl HTT.out (HZ.out.later dChan_ok hB0) HG.out).mono ?_
    rintro e w1 ⟨rfl, hb1⟩
    have hB1 := hB0.trans (hb1.mono hB0.size)
    have A1 := hid (A0.out.later hb1)
    have R1 := hid (R0.out.later hb1)
    have hs1 : w.heap.size + 1 + 1 ≤ w1.heap.size := Nat.le_trans hs0 hb1.size
    have a0 := A1.out.c 0 rfl
    have af0 := A1.out.f 0 rfl
    have az := A1.out.size
    have r0 := R1.out.c 0 rfl
    have rf0 := R1.out.f 0 rfl
    have rz := R1.out.size
    clear hb1 HV0 A0 R0 hB0 hs0
    go_wp2
    refine bodyPost_ret (v := .tuple #[.agg #[.slice none 0 0], .int .i64 (-1)]) (by simp [results, Try.results48, go_sem, r0]) rfl ?_
    rw [HR.out]
    exact ⟨⟨none, 0, [], rfl, rfl, DFr.nothing _ _ _⟩, hB1.setCell (p := ⟨w.heap.size + 1, 0, none⟩) (by dsimp only; omega) _⟩
  have HG := hid hg
  rcases hk : taskB t with _ | _
  · have HR := hid (killR_task (ps := ts.map valChan) hk)
    have HK := hid hk
    clear hg hk
    go_enter Try.func48, Try.ntmps48
    go_wp2_with fail
    rw [← HV0.out]
    refine (specGoodH_is ao cap ts V0 true hl HTT.out (HZ.out.later dChan_ok hB0) HG.out).mono ?_
    rintro e w1 ⟨rfl, hb1⟩
    have hB1 := hB0.trans (hb1.mono hB0.size)
    have A1 := hid (A0.out.later hb1)
    have R1 := hid (R0.out.later hb1)
    have hs1 : w.heap.size + 1 + 1 ≤ w1.heap.size := Nat.le_trans hs0 hb1.size
    have a0 := A1.out.c 0 rfl
    have af0 := A1.out.f 0 rfl
    have az := A1.out.size
    have r0 := R1.out.c 0 rfl
    have rf0 := R1.out.f 0 rfl
    have rz := R1.out.size
    clear hb1 HV0 A0 R0 hB0 hs0
    go_wp2_with fail
    refine (l3Task_is t _ false HK.out).mono ?_
    rintro e wx ⟨rfl, hwx⟩
    rw [hwx]; clear hwx wx
    go_wp2
    refine bodyPost_ret (v := .tuple #[.agg #[.slice none 0 0], .int .i64 (-1)]) (by simp [results, Try.results48, go_sem, r0]) rfl ?_
    rw [HR.out]
    exact ⟨⟨none, 0, [], rfl, rfl, DFr.nothing _ _ _⟩, hB1.setCell (p := ⟨w.heap.size + 1, 0, none⟩) (by dsimp only; omega) _⟩
  have HR := hid (killR_ok hg hk)
  have HK := hid hk
  clear hg hk
  go_enter Try.func48, Try.ntmps48
  go_wp2_with fail
  rw [← HV0.out]
  refine (specGoodH_is ao cap ts V0 true hl HTT.out (HZ.out.later dChan_ok hB0) HG.out).mono ?_
  rintro e w1 ⟨rfl, hb1⟩
  have hB1 := hB0.trans (hb1.mono hB0.size)
  have A1 := hid (A0.out.later hb1)
  have R1 := hid (R0.out.later hb1)
  have hs1 : w.heap.size + 1 + 1 ≤ w1.heap.size := Nat.le_trans hs0 hb1.size
  have a0 := A1.out.c 0 rfl
  have af0 := A1.out.f 0 rfl
  have az := A1.out.size
  have r0 := R1.out.c 0 rfl
  have rf0 := R1.out.f 0 rfl
  have rz := R1.out.size
  clear hb1 HV0 A0 R0 hB0 hs0
  go_wp2_with fail
  refine (l3Task_is t _ true HK.out).mono ?_
  rintro e wx ⟨rfl, hwx⟩
  rw [hwx]; clear hwx wx
  go_wp2_with fail
  clear a0 af0 az r0 rf0 rz
  refine (stands_any ao cap ts t w1 hl HTT.out (HZ.out.later dChan_ok hB1)).mono ?_
  rintro e w2 ⟨⟨zo, zc, rfl, _, hF⟩, hb2⟩
  have hB2 := hB1.trans (hb2.mono hB1.size)
  have A2 := hid (A1.out.later hb2)
  have R2 := hid (R1.out.later hb2)
  have hs2 : w.heap.size + 1 + 1 ≤ w2.heap.size := Nat.le_trans hs1 hb2.size
  clear hF hb2 A1 R1 hB1 hs1
  have a0 := A2.out.c 0 rfl
  have az := A2.out.size
  go_wp2_with fail
  clear a0 az
  refine (l4Own_any ao cap ts w2 hl HTT.out (HZ.out.later dChan_ok hB2)).mono ?_
  rintro e w3 ⟨⟨o, c, us0, rfl, hv0, hF0⟩, hb3⟩
  have hB3 := hB2.trans (hb3.mono hB2.size)
  have A3 := hid (A2.out.later hb3)
  have R3 := hid (R2.out.later hb3)
  have hz3 := hb3.size
  have hu0 : us0.length = ts.length := by have := congrArg List.length hv0; simpa using this
  rw [List.length_map]
  obtain ⟨W4, hW4⟩ : ∃ W4, W4 = w3.setCell ⟨w.heap.size, 0, none⟩ (.slice o ts.length c) := ⟨_, rfl⟩
  have hz4 : W4.heap.size = w3.heap.size := by rw [hW4]; simp [World.setCell]
  have hB4 : Below w.heap.size w W4 := by rw [hW4]; exact hB3.setCell (p := ⟨w.heap.size, 0, none⟩) (by dsimp only; omega) _
  have A4 : Hid (Bx W4 w.heap.size [.slice o ts.length c]) := by rw [hW4]; exact A3.out.set 0 _
  have R4 : Hid (Bx W4 (w.heap.size + 1) [.slice none 0 0]) := by rw [hW4]; exact R3.out.other (a := ⟨w.heap.size, 0, none⟩) (by dsimp only; omega) _
  have F4 : Hid (DFr dChan w2.heap.size W4.heap.size W4 o c us0) := by
    rw [Hid, hz4, hW4]; exact DFr.keep dChan_ok hF0 fun q h1 _ _ => Below.heap_setCell w3 _ _ q (by dsimp only; omega)
  have hL := l4Leave_any w2.heap.size o c us0 (ts.map valChan) t W4 (by omega) hv0 (by omega) (by rw [tot_val hv0]; exact HTT.out) F4.out
  rw [hu0] at hL
  have HW4 := hid hW4
  have HL := hid hL
  have a0 := A3.out.c 0 rfl
  have af0 := A3.out.f 0 rfl
  have az := A3.out.size
  have a4 := A4.out.c 0 rfl
  have az4 := A4.out.size
  rw [hW4] at a4
  clear hb3 A2 R2 hB2 hF0 hW4 hL F4 hB3
  go_wp2_with fail
  rw [← HW4.out]
  clear a0 af0 az a4 az4 HW4 A3 R3
  refine HL.out.mono ?_
  rintro e w5 ⟨⟨u, rfl⟩, ⟨us, hul, hv5, hF5⟩, hb5⟩
  have hB5 := hB4.trans (hb5.mono (by omega))
  have A5 := hid (A4.out.below hb5 (by omega))
  have R5 := hid (R4.out.below hb5 (by omega))
  have a0 := A5.out.c 0 rfl
  have az := A5.out.size
  have r0 := R5.out.c 0 rfl
  have rf0 := R5.out.f 0 rfl
  have rz := R5.out.size
  have HV5 := hid hv5
  have F5 := hid hF5
  clear hb5 A4 R4 hv5 hF5 HL
  go_wp2
  refine bodyPost_ret (v := .tuple #[.agg #[.slice o ts.length c], .int .i64 ((stands t (wts (ts.map valChan))).length : Int)]) (by simp [results, Try.results48, go_sem, r0]) rfl ?_
  rw [HR.out]
  refine ⟨⟨o, c, us, by simp, HV5.out, ?_⟩, hB5.setCell (p := ⟨w.heap.size + 1, 0, none⟩) (by dsimp only; omega) _⟩
  exact DFr.wide (lo := w2.heap.size) (hi := w5.heap.size) dChan_ok (DFr.keep dChan_ok F5.out fun q h1 _ _ => Below.heap_setCell w5 _ _ q (by dsimp only; omega)) (by omega) (by simp [World.setCell])
set_option maxRecDepth 100000 in
set_option maxHeartbeats 16000000 in
theorem implKill_any (ao : Option Addr) (cap : Nat) (ts : List LChan) (t : Int) (w : World) (hl : ts.length ≤ 1048576) (ht : totChan ts ≤ 1048576) (hz : DIn dChan w.heap.size w ao ts) :
    Calls Try.prog 49 #[.agg #[.slice ao ts.length cap], .int .i64 t] w fun e w' => AnsK w (killR (ts.map valChan) t) e w' := by
  have HZ := hid hz
  have HTT := hid ht
  clear hz ht
  obtain ⟨V0, hV0⟩ : ∃ V0, V0 = (w.alloc (.cells #[.slice ao ts.length cap] 56)).alloc (.cells #[.slice none 0 0] 56) := ⟨_, rfl⟩
  have hB0 : Below w.heap.size w V0 := by rw [hV0]; exact below2 _ _ _
  have A0 : Hid (Bx V0 w.heap.size [.slice ao ts.length cap]) := by rw [hV0]; exact (Bx.new [.slice ao ts.length cap] _ rfl).alloc _
  have R0 : Hid (Bx V0 (w.heap.size + 1) [.slice none 0 0]) := by rw [hV0]; exact Bx.new [.slice none 0 0] _ (by simp)
  have hs0 : w.heap.size + 1 + 1 ≤ V0.heap.size := by rw [hV0]; simp
  have HV0 := hid hV0
  clear hV0
  have htn : taskB t = true → TaskN t := fun h => by
    have : 0 ≤ t ∧ t ≤ 29 := by simpa [taskB] using h
    exact this
  rcases hg : goodHB (ts.map valChan) with _ | _
  · have HR := hid (killR_bad (t := t) hg)
    have HG := hid hg
    clear hg
    go_enter Try.func49, Try.ntmps49
    go_wp2_with fail
    rw [← HV0.out]
    refine (implGoodH_is ao cap ts V0 false hl HTT.out (HZ.out.later dChan_ok hB0) HG.out).mono ?_
    rintro e w1 ⟨rfl, hb1⟩
    have hB1 := hB0.trans (hb1.mono hB0.size)
    have A1 := hid (A0.out.later hb1)
    have R1 := hid (R0.out.later hb1)
    have hs1 : w.heap.size + 1 + 1 ≤ w1.heap.size := Nat.le_trans hs0 hb1.size
    have a0 := A1.out.c 0 rfl
    have af0 := A1.out.f 0 rfl
    have az := A1.out.size
    have r0 := R1.out.c 0 rfl
    have rf0 := R1.out.f 0 rfl
    have rz := R1.out.size
    clear hb1 HV0 A0 R0 hB0 hs0
    go_wp2
    refine bodyPost_ret (v := .tuple #[.agg #[.slice none 0 0], .int .i64 (-1)]) (by simp [results, Try.results49, go_sem, r0]) rfl ?_
    rw [HR.out]
    exact ⟨⟨none, 0, [], rfl, rfl, DFr.nothing _ _ _⟩, hB1.setCell (p := ⟨w.heap.size + 1, 0, none⟩) (by dsimp only; omega) _⟩
  have HG := hid hg
  rcases hk : taskB t with _ | _
  · have HR := hid (killR_task (ps := ts.map valChan) hk)
    have HK := hid hk
    clear hg hk
    go_enter Try.func49, Try.ntmps49
    go_wp2_with fail
    rw [← HV0.out]
    refine (implGoodH_is ao cap ts V0 true hl HTT.out (HZ.out.later dChan_ok hB0) HG.out).mono ?_
    rintro e w1 ⟨rfl, hb1⟩
    have hB1 := hB0.trans (hb1.mono hB0.size)
    have A1 := hid (A0.out.later hb1)
    have R1 := hid (R0.out.later hb1)
    have hs1 : w.heap.size + 1 + 1 ≤ w1.heap.size := Nat.le_trans hs0 hb1.size
    have a0 := A1.out.c 0 rfl
    have af0 := A1.out.f 0 rfl
    have az := A1.out.size
    have r0 := R1.out.c 0 rfl
    have rf0 := R1.out.f 0 rfl
    have rz := R1.out.size
    clear hb1 HV0 A0 R0 hB0 hs0
    go_wp2_with fail
    refine (isTask_is t _ false HK.out).mono ?_
    rintro e wx ⟨rfl, hwx⟩
    rw [hwx]; clear hwx wx
    go_wp2
    refine bodyPost_ret (v := .tuple #[.agg #[.slice none 0 0], .int .i64 (-1)]) (by simp [results, Try.results49, go_sem, r0]) rfl ?_
    rw [HR.out]
    exact ⟨⟨none, 0, [], rfl, rfl, DFr.nothing _ _ _⟩, hB1.setCell (p := ⟨w.heap.size + 1, 0, none⟩) (by dsimp only; omega) _⟩
  have HR := hid (killR_ok hg hk)
  have HK := hid hk
  clear hg hk
  go_enter Try.func49, Try.ntmps49
  go_wp2_with fail
  rw [← HV0.out]
  refine (implGoodH_is ao cap ts V0 true hl HTT.out (HZ.out.later dChan_ok hB0) HG.out).mono ?_
  rintro e w1 ⟨rfl, hb1⟩
  have hB1 := hB0.trans (hb1.mono hB0.size)
  have A1 := hid (A0.out.later hb1)
  have R1 := hid (R0.out.later hb1)
  have hs1 : w.heap.size + 1 + 1 ≤ w1.heap.size := Nat.le_trans hs0 hb1.size
  have a0 := A1.out.c 0 rfl
  have af0 := A1.out.f 0 rfl
  have az := A1.out.size
  have r0 := R1.out.c 0 rfl
  have rf0 := R1.out.f 0 rfl
  have rz := R1.out.size
  clear hb1 HV0 A0 R0 hB0 hs0
  go_wp2_with fail
  refine (isTask_is t _ true HK.out).mono ?_
  rintro e wx ⟨rfl, hwx⟩
  rw [hwx]; clear hwx wx
  go_wp2_with fail
  clear a0 af0 az r0 rf0 rz
  have hgp := (goodHB_all HG.out).2.1
  have hwt := wts_ok hgp
  refine (placesOf_any ao cap ts w1 hl HTT.out (HZ.out.later dChan_ok hB1) hgp).mono ?_
  rintro e w2 ⟨⟨g, n, rfl, hg2, hn2, hM2⟩, hb2⟩
  have hB2 := hB1.trans (hb2.mono hB1.size)
  have A2 := hid (A1.out.later hb2)
  have R2 := hid (R1.out.later hb2)
  have hs2 : w.heap.size + 1 + 1 ≤ w2.heap.size := Nat.le_trans hs1 hb2.size
  have M2 := hid hM2
  have HTN := hid (htn HK.out)
  have HOK : Hid (∀ x ∈ wts (ts.map valChan), TaskN x.1) := fun x hx => ⟨(hwt x hx).1, (hwt x hx).2.1⟩
  have a0 := A2.out.c 0 rfl
  have az := A2.out.size
  clear hM2 hb2 A1 R1 hB1 hgp hwt htn
  go_wp2_with (first
    | (at_lookup; refine wpl_look _ rfl _ _ rfl g n (oft (wts (ts.map valChan))) rfl M2.out t rfl HTN.out ?_)
    | (at_delete; refine wpl_del _ rfl _ _ rfl g n (oft (wts (ts.map valChan))) rfl M2.out t rfl HTN.out ?_; intro w3 hM3 hO3; have hB3 : Below w.heap.size w w3 := hB2.trans (hO3.below (by omega)); have A3 := hid (A2.out.only hO3 (by intro q hq; simp at hq; omega)); have R3 := hid (R2.out.only hO3 (by intro q hq; simp at hq; omega)); have hs3 : w.heap.size + 1 + 1 ≤ w3.heap.size := (by have := hO3.size; omega); have M3 := hid hM3; clear a0 az; have a0 := A3.out.c 0 rfl; have az := A3.out.size; clear hM3 hO3 M2 A2 R2 hB2))
  clear a0 az
  refine (withOnly_any ao cap ts g n _ w3 hl HTT.out (HZ.out.later dChan_ok hB3) M3.out HOK.out).mono ?_
  rintro e w4 ⟨⟨o, c, us, rfl, hv4, hF4⟩, hb4⟩
  have hB4 := hB3.trans (hb4.mono hB3.size)
  have R4 := hid (R3.out.later hb4)
  rw [keepP_off] at hv4
  have HV4 := hid hv4
  have F4 := hid hF4
  have r0 := R4.out.c 0 rfl
  have rf0 := R4.out.f 0 rfl
  have rz := R4.out.size
  clear hb4 hv4 hF4 hB3 A3 R3 M3
  go_wp2
  refine bodyPost_ret (v := .tuple #[.agg #[.slice o ts.length c], .int .i64 (oft (wts (ts.map valChan)) t)]) (by simp [results, Try.results49, go_sem, r0]) rfl ?_
  rw [HR.out]
  refine ⟨⟨o, c, us, by simp [oft_stands], HV4.out, ?_⟩, hB4.setCell (p := ⟨w.heap.size + 1, 0, none⟩) (by dsimp only; omega) _⟩
  exact DFr.wide (lo := w3.heap.size) (hi := w4.heap.size) dChan_ok (DFr.keep dChan_ok F4.out fun q h1 _ _ => Below.heap_setCell w4 _ _ q (by dsimp only; omega)) (by omega) (by simp [World.setCell])
end Go.Proofs.Ytlnjhajdbofhlaa
