
/- How many nodes lead to each; the sources: the specification. No conditions but those written. -/
import Derived.Test.YteamcpcjooglaaaDoorRo
namespace Go.Proofs.YteamcpcjooglaaaDoor
open Go.RowKit

/-- How many of the first nodes lead to it. -/
def ledC (gs : List PNode) (k : Nat) (x : Nat) : Nat := ((gs.take k).map fun a => a.2.2.2.2.2.count (x : Int)).sum
theorem ledC_succ {gs : List PNode} {k : Nat} (hk : k < gs.length) (x : Nat) : ledC gs (k + 1) x = ledC gs k x + (nxP gs k).count (x : Int) := by
  rw [ledC, take_succ_el hk]; simp [ledC, nxP]
theorem ledC_le {gs : List PNode} (hE : EdgesIn gs) (x : Nat) : ∀ k, k ≤ gs.length → ledC gs k x ≤ 10 * k
  | 0, _ => by simp [ledC]
  | k + 1, hk => by
    have h1 := ledC_le hE x k (by omega)
    have h2 := hE.few k (by omega)
    have h3 : (nxP gs k).count (x : Int) ≤ (nxP gs k).length := List.count_le_length
    rw [ledC_succ (by omega)]; omega
/-- The counts, some of one node's being counted. -/
def ledL (gs : List PNode) (k : Nat) (nx : List Int) : List Int := (List.range gs.length).map fun x : Nat => ((ledC gs k x + nx.count (x : Int) : Nat) : Int)
theorem ledL_len (gs : List PNode) (k : Nat) (nx : List Int) : (ledL gs k nx).length = gs.length := by simp [ledL]
theorem ledL_el {gs : List PNode} {x : Nat} (hx : x < gs.length) (k : Nat) (nx : List Int) : el (ledL gs k nx) x = ((ledC gs k x + nx.count (x : Int) : Nat) : Int) := by simp [ledL, el, hx]
theorem ledL_step {gs : List PNode} {j : Nat} (_hj : j < gs.length) (k : Nat) (nx : List Int) : (ledL gs k nx).set j (((ledC gs k j + nx.count (j : Int) : Nat) : Int) + 1) = ledL gs k (nx ++ [(j : Int)]) := by
  refine List.ext_getElem (by simp [ledL]) fun i h1 h2 => ?_
  have hi : i < gs.length := by simpa [ledL] using h2
  rw [List.getElem_set]
  by_cases e : j = i
  · subst e; simp [ledL, List.count_append]; omega
  · rw [if_neg e]
    have hne : ((j : Nat) : Int) ≠ ((i : Nat) : Int) := by omega
    simp [ledL, List.count_append, List.count_singleton, hne]
theorem ledL_next {gs : List PNode} {k : Nat} (hk : k < gs.length) : ledL gs k (nxP gs k) = ledL gs (k + 1) [] := by
  simp only [ledL, ledC_succ hk]; simp
theorem ledL_zero (gs : List PNode) : ledL gs 0 [] = List.replicate gs.length 0 := by
  refine List.ext_getElem (by simp [ledL]) fun i h1 h2 => ?_
  simp [ledL, ledC]
theorem map_setI (l : List Int) (k : Nat) (x : Int) : (l.set k x).map (Value.int .i64) = (l.map (Value.int .i64)).set k (.int .i64 x) := by rw [List.map_set]
theorem map_elI {l : List Int} {k : Nat} (hk : k < l.length) : (l.map (Value.int .i64))[k]? = some (.int .i64 (el l k)) := by rw [List.getElem?_map, List.getElem?_eq_getElem hk, el_at hk]; rfl
theorem rep_mapI (n : Nat) : (List.replicate n (0 : Int)).map (Value.int .i64) = List.replicate n (Value.int .i64 0) := by simp
/-- The cells of a row of ints. -/
theorem bx_in {W : World} {g : Nat} {l : List Int} (h : Bx W g (l.map (Value.int .i64))) : kI.In W.heap.size W (some ⟨g, 0, none⟩) l :=
  ints_mk h.size fun j hj => by rw [Nat.zero_add]; exact h.c j (map_elI hj)
set_option maxRecDepth 10000 in
set_option maxHeartbeats 8000000 in
theorem l11Led_is (ao : Option Addr) (cap : Nat) (ts : List LNode) (w : World) (hE : EdgesIn (ts.map valNode)) (hz : DIn dNode w.heap.size w ao ts) :
    Calls Tryd.prog 35 #[.slice ao ts.length cap] w fun e w' => e = .returned (.slice (some ⟨w.heap.size, 0, none⟩) ts.length ts.length) ∧ Bx w' w.heap.size ((ledL (ts.map valNode) ts.length []).map (Value.int .i64)) ∧ Below w.heap.size w w' := by
  obtain ⟨i0, hi, hz0, hz1, hz2⟩ := info_parts Tryd.info3
  have h10 : ts.length ≤ 10 := by have := hE.many; simpa using this
  have HE := hid hE
  have HZ := hid hz
  clear hz hE
  go_enter Tryd.func35, Tryd.ntmps35
  go_wp2_with (at_make; refine wpList_make_full _ rfl _ _ 33 rfl w.heap.size 3 i0 (.int .i64 0) 1 Tryd.underlying33 hi hz0 hz1 .i64 .i64 _ _ ts.length rfl rfl rfl rfl (by rw [hz2]; omega) (by unfold maxLen; omega) (Nat.le_refl _) ?_; intro w1 hown hgrow; have hB1 : Below w.heap.size w w1 := (Below.refl _ _).grown hgrow (Nat.le_refl _) (fun k e => by cases e); have HO := hid (made_box hown); clear hown hgrow)
  have HO1 : Hid (Bx w1 w.heap.size ((ledL (ts.map valNode) 0 []).map (Value.int .i64))) := by
    have h : Bx w1 w.heap.size (madeCells #[Value.int .i64 0] (ts.length * 1)).toList := HO.out
    rw [toList_madeCells_one, Nat.mul_one] at h
    rw [Hid, ledL_zero, rep_mapI, val_len]; exact h
  clear HO
  go_loopw [13] (fun i wr => ∃ k : Nat, i = .int .i64 (k : Int) ∧ k ≤ ts.length ∧ Hid (Bx wr w.heap.size ((ledL (ts.map valNode) k []).map (Value.int .i64))) ∧ Below w.heap.size w wr) (fun i _ => ts.length - (intOf i).toNat)
  case atStart => exact ⟨0, rfl, Nat.zero_le _, HO1, hB1⟩
  case round =>
    clear hB1 HO1
    obtain ⟨k, rfl, hk, hO, hB⟩ := hrel
    by_cases hlt : k < ts.length
    · obtain ⟨b, off, rfl, hb, hc⟩ := hNode_at HZ.out.1 hlt
      have d1 := (hB.cell (p := ⟨b, off + k * 6, none⟩) hb).trans (hc k hlt).1
      have d2 := (hB.cell (p := ⟨b, off + k * 6 + 1, none⟩) hb).trans (hc k hlt).2.1
      have d3 := (hB.cell (p := ⟨b, off + k * 6 + 2, none⟩) hb).trans (hc k hlt).2.2.1
      have d4 := (hB.cell (p := ⟨b, off + k * 6 + 3, none⟩) hb).trans (hc k hlt).2.2.2.1
      have d5 := (hB.cell (p := ⟨b, off + k * 6 + 4, none⟩) hb).trans (hc k hlt).2.2.2.2.1
      have d6 := (hB.cell (p := ⟨b, off + k * 6 + 5, none⟩) hb).trans (hc k hlt).2.2.2.2.2
      have hev := el_val hlt
      have hin := HZ.out.2 k hlt
      obtain ⟨⟨nm, kd, sa, sb, cp, ⟨nxo, nxc, nx⟩⟩, ex⟩ : ∃ v, v = el ts k := ⟨_, rfl⟩
      rw [← ex] at d1 d2 d3 d4 d5 d6 hev hin
      have HX : Hid (nxP (ts.map valNode) k = nx) := by rw [Hid, nxP, hev]; rfl
      have HI : Hid (kI.In w.heap.size w nxo nx) := hin
      have hnl : nx.length ≤ 10 := by rw [← HX.out]; exact HE.out.few k (by rw [val_len]; exact hlt)
      have hki : (k : Int) < (ts.length : Int) := by omega
      clear ex hev hin hc
      dsimp only at d1 d2 d3 d4 d5 d6
      obtain ⟨V, hV⟩ : ∃ V, V = wr.alloc (.cells #[.string nm, .int .i64 kd, .int .i64 sa, .int .i64 sb, .int .i64 cp, .slice nxo nx.length nxc] 39) := ⟨_, rfl⟩
      have hbV : Below wr.heap.size wr V := by rw [hV]; exact below1 _ _
      have XV := hid (hO.out.later hbV)
      have hBV : Below w.heap.size w V := hB.trans (hbV.mono hB.size)
      have HV := hid hV
      clear hV hbV
      go_wp2
      rw [← HV.out]
      obtain ⟨pb, hpb⟩ : ∃ pb, pb = wr.heap.size := ⟨_, rfl⟩
      rw [← hpb]
      clear hpb HV d1 d2 d3 d4 d5 d6 hO
      go_loopw [20] (fun i wr => ∃ m : Nat, i = .int .i64 (m : Int) ∧ m ≤ nx.length ∧ Hid (Bx wr w.heap.size ((ledL (ts.map valNode) k (nx.take m)).map (Value.int .i64))) ∧ Below w.heap.size w wr) (fun i _ => nx.length - (intOf i).toNat)
      case atStart => exact ⟨0, rfl, Nat.zero_le _, by rw [List.take_zero]; exact XV, hBV⟩
      case round =>
        clear hBV XV hB
        obtain ⟨m, rfl, hm, hX, hB⟩ := hrel
        by_cases hmk : m < nx.length
        · obtain ⟨nb, noff, rfl, hnb, hnc⟩ := ints_at HI.out hmk
          have cm := (hB.cell (p := ⟨nb, noff + m, none⟩) hnb).trans (hnc m hmk)
          obtain ⟨j, hj, hx⟩ := HE.out.rng k (by rw [val_len]; exact hlt) (el nx m) (by rw [HX.out]; exact el_mem hmk)
          rw [val_len] at hj
          rw [hx] at cm
          have HXJ := hid hx
          clear hx hnc
          have hmi : (m : Int) < (nx.length : Int) := by omega
          have hji : (j : Int) < (ts.length : Int) := by omega
          have hjv : j < (ts.map valNode).length := by rw [val_len]; exact hj
          have cj := hX.out.c j (map_elI (by rw [ledL_len]; exact hjv))
          have fj := hX.out.f j (map_elI (by rw [ledL_len]; exact hjv))
          rw [ledL_el hjv] at cj
          have hq1 := ledC_le HE.out j k (by rw [val_len]; omega)
          have hq2 : (nx.take m).count (j : Int) ≤ m := Nat.le_trans List.count_le_length (by simp; omega)
          have HST := hid (ledL_step hjv k (nx.take m))
          rw [← HXJ.out, ← take_succ_el hmk] at HST
          obtain ⟨q, hq⟩ : ∃ q, q = ledC (ts.map valNode) k j + (nx.take m).count (j : Int) := ⟨_, rfl⟩
          rw [HXJ.out, ← hq] at HST
          rw [← hq] at cj
          have hq3 : q ≤ 1000 := by omega
          clear hq hq1 hq2
          have HS := hid (hX.out.set j (.int .i64 ((q : Int) + 1)))
          rw [← map_setI, HST.out] at HS
          have hB2 := hB.setCell (p := ⟨w.heap.size, j, none⟩) (Nat.le_refl _) (.int .i64 ((q : Int) + 1))
          go_wp2
          go_roundw
          case rel => exact ⟨m + 1, by go_num, by omega, HS, hB2⟩
          case measure => simp [intOf]; omega
        · obtain rfl : m = nx.length := by omega
          have HS : Hid (Bx wr w.heap.size ((ledL (ts.map valNode) (k + 1) []).map (Value.int .i64))) := by
            have h := hX.out
            rw [List.take_length, ← HX.out, ledL_next (by rw [val_len]; exact hlt)] at h
            exact h
          go_wp2
          go_roundw
          case rel => exact ⟨k + 1, by go_num, by omega, HS, hB⟩
          case measure => simp [intOf]; omega
    · obtain rfl : k = ts.length := by omega
      go_wp2
      go_ret
      exact ⟨rfl, hO.out, hB⟩
/-- The nodes to which none leads, of the first ones. -/
def srcP (gs : List PNode) (k : Nat) : List Int := (numsI k).filter fun x => decide (ledC gs gs.length x.toNat = 0)
theorem srcP_succ (gs : List PNode) (k : Nat) : srcP gs (k + 1) = if ledC gs gs.length k = 0 then srcP gs k ++ [(k : Int)] else srcP gs k := by
  rw [srcP, numsI_succ, List.filter_append]
  by_cases h : ledC gs gs.length k = 0
  · rw [if_pos h]; simp [srcP, h]
  · rw [if_neg h]; simp [srcP, h]
theorem srcP_len (gs : List PNode) (k : Nat) : (srcP gs k).length ≤ k := Nat.le_trans (List.length_filter_le _ _) (by rw [numsI_len]; exact Nat.le_refl _)
end Go.Proofs.YteamcpcjooglaaaDoor
