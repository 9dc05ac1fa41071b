
/- Emits sorted by the program. No conditions but those written. -/
import Derived.Test.YtiaahgpkeboobaaEi
import Derived.Test.YtiaahgpkeboobaaEs
import Derived.Shelf.SlSortCmp.NoneTotal
import Derived.Shelf.Lay
import Derived.Ground.SlsfProg
namespace Go.Proofs.Ytiaahgpkeboobaa
open Go.RowKit Go.Sort Go.Shelf Go.Lib

shelf_lay_g SlLaysF0.n6 Slsf 6 at Try 19 as Try.sortEm

theorem cmpE_neg (x y : Int × Int) : ltOf cmpE x y = ltE x y := by
  unfold ltOf cmpE cmpI ltE
  rcases (show x.1 < y.1 ∨ y.1 < x.1 ∨ x.1 = y.1 from by omega) with h | h | h
  · simp [h]
  · have h1 : ¬ x.1 < y.1 := by omega
    have h2 : ¬ x.1 = y.1 := by omega
    simp [h, h1, h2]
  · rcases (show x.2 < y.2 ∨ y.2 < x.2 ∨ x.2 = y.2 from by omega) with k | k | k
    · simp [h, k]
    · have k1 : ¬ x.2 < y.2 := by omega
      simp [h, k, k1]
    · have k1 : ¬ x.2 < y.2 := by omega
      have k2 : ¬ y.2 < x.2 := by omega
      simp [h, k1, k2]
theorem cmpE_swo : SWO (ltOf cmpE) where
  irrefl x := by rw [cmpE_neg, ltE_no]; omega
  trans x y z h1 h2 := by rw [cmpE_neg, ltE_yes] at *; omega
  ntrans x y z h1 h2 := by rw [cmpE_neg, ltE_no] at *; omega
theorem cmpE_total : ∀ x y, (ltOf cmpE) x y = false → (ltOf cmpE) y x = false → x = y := fun x y h1 h2 => by
  rw [cmpE_neg] at h1 h2; exact ltE_eq h2 h1
theorem flatK_kE (ts : List (Int × Int)) : (flatK kE.enc 2 ts.toArray).toList = kE.flat ts := by
  refine kE.flat_of _ ts (by simp [kE]) fun j hj i hi => ?_
  have hi' : i < 2 := hi
  have hsz : kE.sz = 2 := rfl
  rw [hsz]
  have ht : j * 2 + i < ts.toArray.size * 2 := by simp; omega
  have hg := get_flatK kE.enc 2 ts.toArray (j * 2 + i) ht
  have e1 : (j * 2 + i) / 2 = j := by omega
  have e2 : (j * 2 + i) % 2 = i := by omega
  rw [e1, e2] at hg
  have ht' : j * 2 + i < (flatK kE.enc 2 ts.toArray).size := by rw [size_flatK]; exact ht
  rw [getElem!_pos (flatK kE.enc 2 ts.toArray) (j * 2 + i) ht'] at hg
  have hj' : j < ts.toArray.size := by simpa using hj
  rw [getElem!_pos ts.toArray j hj'] at hg
  rw [Array.getElem?_toList, Array.getElem?_eq_getElem ht', hg, el_at hj]
  have hl : i < (kE.enc ts[j]).length := by rw [kE.len]; exact hi
  simp only [List.getElem_toArray]
  rw [getElem!_pos (kE.enc ts[j]) i hl, List.getElem?_eq_getElem hl]
/-- A row that the library sorts. -/
theorem kE_holds {lo hi : Nat} {W : World} {g c : Nat} {ts : List (Int × Int)} (h : kE.Fresh lo hi W (some ⟨g, 0, none⟩) c ts) (hn : 0 < ts.length) : HoldsK kE.enc 2 W g 0 ts.toArray := by
  obtain ⟨g2, e2, _, _, _, ho⟩ := h.at hn
  obtain rfl : g = g2 := by simp at e2; exact e2
  intro j hj
  rw [Nat.zero_add]
  refine ⟨?_, ho.frozenAt j⟩
  rw [ho.cellAt j (by simpa [kE] using hj)]
  rw [← flatK_kE, Array.getElem?_toList, Array.getElem?_eq_getElem hj, getElem!_pos (flatK kE.enc 2 ts.toArray) j hj]; rfl
theorem kE_sorted {lo hi : Nat} {W : World} {g c n : Nat} {os : Array Obj} {ts us : List (Int × Int)} (h : kE.Fresh lo hi W (some ⟨g, 0, none⟩) c ts) (hn : 0 < ts.length) (hl : us.length = ts.length) :
    kE.Fresh lo hi (sortWorldK kE.enc 2 W g 0 n us.toArray os) (some ⟨g, 0, none⟩) c us ∧ Below lo W (sortWorldK kE.enc 2 W g 0 n us.toArray os) := by
  obtain ⟨g2, e2, hg1, hg2, hg3, ho⟩ := h.at hn
  obtain rfl : g = g2 := by simp at e2; exact e2
  have hoth : ∀ k, k < W.heap.size → k ≠ g → (sortWorldK kE.enc 2 W g 0 n us.toArray os).heap[k]? = W.heap[k]? := fun k hk hne => by
    simp only [sortWorldK, grow, putRowK, putRow, mapBlock]
    rw [Array.getElem?_append_left (by simpa [ahead] using hk), Array.getElem?_modify, if_neg (Ne.symm hne)]; rfl
  refine ⟨?_, rfl, rfl, rfl, size_sortWorldK_c _ _ _ _ _ _ _ _, fun k hk => hoth k (by omega) (by omega)⟩
  obtain ⟨hfl, h2⟩ := ho
  rcases h2 with ⟨h', _⟩ | ⟨g', cap', cur, h', hb, hg, k1, k2, k3, k4⟩
  · simp at h'
  simp only [Value.slice.injEq, Option.some.injEq, Addr.mk.injEq, and_true, true_and] at h'
  obtain ⟨rfl, rfl⟩ := h'
  have hF : (flatK kE.enc 2 us.toArray).size = ts.length * 2 := by rw [size_flatK]; simp [hl]
  have hblk : (sortWorldK kE.enc 2 W g 0 n us.toArray os).heap[g]? = some (.cells (putCells id 0 (flatK kE.enc 2 us.toArray) cur) kE.ty (0, 0)) := by
    simp only [sortWorldK, grow, putRowK, putRow, mapBlock]
    rw [Array.getElem?_append_left (by simpa [ahead] using hg3), Array.getElem?_modify, if_pos rfl, show (Sort.ahead W n).heap[g]? = W.heap[g]? from rfl, hg]; rfl
  refine .inr ⟨g, rfl, hg2, kE.flat_len us, .inr ⟨g, c, _, by rw [hl], hb, hblk, by rw [hl]; exact k1, k2, by simpa [putCells] using k3, ?_⟩⟩
  rw [← flatK_kE us]
  refine List.ext_getElem? fun t => ?_
  have hcs : ts.length * 2 ≤ cur.size := by rw [k3]; exact Nat.mul_le_mul_right _ k1
  have hsz : us.length * kE.sz = ts.length * 2 := by rw [hl]; rfl
  rw [hsz]
  by_cases ht : t < ts.length * 2
  · have htF : t < (flatK kE.enc 2 us.toArray).size := by rw [hF]; exact ht
    rw [List.getElem?_take_of_lt ht, Array.getElem?_toList, Array.getElem?_toList, putCells, Array.getElem?_mapIdx, Array.getElem?_eq_getElem (show t < cur.size by omega), Option.map_some, if_pos ⟨Nat.zero_le _, by omega⟩, Array.getElem?_eq_getElem htF, Nat.sub_zero, getElem!_pos (flatK kE.enc 2 us.toArray) t htF]; rfl
  · rw [List.getElem?_eq_none (by simp; omega), List.getElem?_eq_none (by simp [hl]; omega)]
set_option maxHeartbeats 2000000 in
theorem sortedBy_any (ao : Option Addr) (cap : Nat) (ts : List (Int × Int)) (kr : Nat) (w : World) (hl : ts.length ≤ 1048576) (hz : kE.In w.heap.size w ao ts) (hr : kr < w.heap.size) (h0 : w.cell? ⟨kr, 0, none⟩ = some (.func (.func 13) #[] #[])) (h1 : w.cell? ⟨kr, 1, none⟩ = some (.func (.func 14) #[] #[])) :
    Calls Try.prog 15 #[.slice ao ts.length cap, .slice (some ⟨kr, 0, none⟩) 2 2] w fun e w' => AnsE w (sortE ts) e w' := by
  obtain ⟨V, hV⟩ : ∃ V, V = w.alloc (.cells #[.slice (some ⟨kr, 0, none⟩) 2 2] 39) := ⟨_, rfl⟩
  have hb : Below w.heap.size w V := by rw [hV]; exact below1 _ _
  have XK : Hid (Bx V w.heap.size [.slice (some ⟨kr, 0, none⟩) 2 2]) := by rw [hV]; exact Bx.new [.slice (some ⟨kr, 0, none⟩) 2 2] _ rfl
  have hs : V.heap.size = w.heap.size + 1 := by rw [hV]; simp
  have c0 := (hb.cell (p := ⟨kr, 0, none⟩) hr).trans h0
  have c1 := (hb.cell (p := ⟨kr, 1, none⟩) hr).trans h1
  have hzV := hz.later hb
  have HV := hid hV
  have HC := hid (And.intro c0 c1)
  clear hV h0 h1 hz c0 c1
  go_enter Try.func15, Try.ntmps15
  go_wp2_with fail
  rw [← HV.out]
  refine (copyListE_any ao cap ts V hl hzV).mono ?_
  rintro e w1 ⟨⟨to, rfl, hF⟩, hB1⟩
  have hBw : Below w.heap.size w w1 := hb.trans (hB1.mono hb.size)
  rcases Nat.eq_zero_or_pos ts.length with hn | hn
  · obtain rfl : ts = [] := List.length_eq_zero_iff.1 hn
    have hcon := AnyF.slices_SortFunc_none (P := Try.prog) { Try.sortEm with } to 0 (.func (.func 20) #[] #[.pointer (some ⟨w.heap.size, 0, none⟩)]) w1
    change Calls Try.prog 19 _ _ _ at hcon
    have HB := hid hBw
    clear hn hF hB1 hBw XK HC hzV hl hs hr HV hb
    go_wp2_with (go_at_call 19; refine hcon.mono ?_; rintro e w' ⟨rfl, rfl⟩)
    go_ret
    exact ⟨_, _, by rw [show sortE [] = [] from by simp [sortE]]; rfl, by rw [show sortE [] = [] from by simp [sortE]]; exact Kind.Fresh.nil _ _ _ _ _ _, HB.out⟩
  · obtain ⟨g, rfl, hg1, hg2, hg3, _⟩ := hF.at hn
    have hsz1 := hB1.size
    have hcmp : CmpLays Try.prog 20 #[.pointer (some ⟨w.heap.size, 0, none⟩)] kE.enc 2 cmpE g 0 ts.toArray.size w1 := by
      intro m os dk hdk x y
      have hcell : ∀ a : Addr, a.block < V.heap.size → ∀ v, V.cell? a = some v → (sortWorldK kE.enc 2 w1 g 0 m dk os).cell? a = some v := fun a ha v hv => by
        unfold sortWorldK
        rw [cell?_grow _ _ _ (by rw [size_putRowK]; exact Nat.lt_of_lt_of_le ha hsz1), cell?_putRowK_other _ _ _ _ _ _ a (by omega)]
        exact (hB1.cell ha).trans hv
      have hsw := size_sortWorldK_c kE.enc 2 w1 g 0 m dk os
      exact cmpCl_any x.1 x.2 y.1 y.2 w.heap.size kr _ (by omega) (by omega) (hcell ⟨w.heap.size, 0, none⟩ (by simp only [hs]; omega) _ (XK.out.c 0 rfl)) (hcell ⟨kr, 0, none⟩ (by simp only [hs]; omega) _ HC.out.1) (hcell ⟨kr, 1, none⟩ (by simp only [hs]; omega) _ HC.out.2)
    have eg : ∀ args w, (callFunc 20 args).run Try.prog w = .ok (.enter 20 args) w := enters_of Try.func20 (by kernel_rfl) rfl
    have hcon := AnyQ.slices_SortFunc_total Try.sortEm 2 Try.isAgg33 Try.sizeOf33 kE.enc kE.len kE.one cmpE cmpE_swo 20 #[.pointer (some ⟨w.heap.size, 0, none⟩)] g 0 ts.length ts.toArray w1 eg hcmp (kE_holds hF hn) hg3 (by simp; omega) cmpE_total
    change Calls Try.prog 19 _ _ _ at hcon
    rw [show (ts.toArray.toList.mergeSort fun x y => !(ltOf cmpE) y x) = sortE ts from by simp only [cmpE_neg, sortE], show ts.toArray.size = ts.length from by simp] at hcon
    have HF := hid (fun n os => kE_sorted (n := n) (os := os) hF hn (sortE_len ts))
    have HB := hid hBw
    have HS := hid hsz1
    have HVS := hid hs
    clear hn hF hB1 hBw XK HC hzV hs hr HV hb hcmp eg hsz1
    go_wp2_with (go_at_call 19; refine hcon.mono ?_; rintro e w2 ⟨rfl, n, os, rfl⟩)
    go_ret
    have h := HF.out n os
    have hv := HVS.out
    refine ⟨_, _, by rw [sortE_len]; rfl, (h.1.wide (by omega) (size_sortWorldK_c _ _ _ _ _ _ _ _)), HB.out.trans (h.2.mono (by omega))⟩
end Go.Proofs.Ytiaahgpkeboobaa
