/- Emits sorted by the program. No conditions but those written. SortEmits, the program's and the specification's. No conditions but those written. A region that draws its order in a round of a range over a function: walked as one outside. No conditions but those written. The widest of a graph: the program. No conditions but those written. What a value means: both sides. No conditions but those written. Plain facts of an order's places. No conditions but those written. errors.Is at the program's own errors. No conditions but those written. -/
import Derived.Test.YtebnapgcobcilaaGreatDoorPMlEs
import Derived.Shelf.SlSortCmp.NoneTotal
import Derived.Shelf.Lay
import Derived.Ground.SlsfProg
import Derived.Test.YtebnapgcobcilaaGreatDoorPGenSg
import Derived.OrdersHeld
import Derived.OrdersIn
import Derived.Deep.RegionHeld3
import Derived.RangeFuncCalls
import Derived.Test.YtebnapgcobcilaaGreatDoorPCkOd
import Derived.Test.YtebnapgcobcilaaGreatDoorPId11Rc
import Derived.Test.YtebnapgcobcilaaGreatDoorPOrTr3
import Derived.LaidEql
import Derived.Stop.Asserts
import Derived.RowKitTokens
namespace Go.Proofs.YtebnapgcobcilaaGreatDoor
section
open Go.RowKit Go.Sort Go.Shelf Go.Lib

shelf_lay_g SlLaysF0.n6 Slsf 6 at Tryz 83 as Tryz.sortEm

theorem cmpE_neg (x y : Int × Int) : ltOf cmpE x y = ltE x y := by
  unfold ltOf cmpE cmpI ltE
  rcases (show x.1 < y.1 ∨ y.1 < x.1 ∨ x.1 = y.1 from by omega) with h | h | h
  · simp [h]
  · have h1 : ¬ x.1 < y.1 := by omega
    have h2 : ¬ x.1 = y.1 := by omega
    simp [h, h1, h2]
  · rcases (show x.2 < y.2 ∨ y.2 < x.2 ∨ x.2 = y.2 from by omega) with k | k | k
    · simp [h, k]
    · have k1 : ¬ x.2 < y.2 := by omega
      simp [h, k, k1]
    · have k1 : ¬ x.2 < y.2 := by omega
      have k2 : ¬ y.2 < x.2 := by omega
      simp [h, k1, k2]
theorem cmpE_swo : SWO (ltOf cmpE) where
  irrefl x := by rw [cmpE_neg, ltE_no]; omega
  trans x y z h1 h2 := by rw [cmpE_neg, ltE_yes] at *; omega
  ntrans x y z h1 h2 := by rw [cmpE_neg, ltE_no] at *; omega
theorem cmpE_total : ∀ x y, (ltOf cmpE) x y = false → (ltOf cmpE) y x = false → x = y := fun x y h1 h2 => by
  rw [cmpE_neg] at h1 h2; exact ltE_eq h2 h1
theorem flatK_kE (ts : List (Int × Int)) : (flatK kE.enc 2 ts.toArray).toList = kE.flat ts := by
  refine kE.flat_of _ ts (by simp [kE]) fun j hj i hi => ?_
  have hi' : i < 2 := hi
  have hsz : kE.sz = 2 := rfl
  rw [hsz]
  have ht : j * 2 + i < ts.toArray.size * 2 := by simp; omega
  have hg := get_flatK kE.enc 2 ts.toArray (j * 2 + i) ht
  have e1 : (j * 2 + i) / 2 = j := by omega
  have e2 : (j * 2 + i) % 2 = i := by omega
  rw [e1, e2] at hg
  have ht' : j * 2 + i < (flatK kE.enc 2 ts.toArray).size := by rw [size_flatK]; exact ht
  rw [getElem!_pos (flatK kE.enc 2 ts.toArray) (j * 2 + i) ht'] at hg
  have hj' : j < ts.toArray.size := by simpa using hj
  rw [getElem!_pos ts.toArray j hj'] at hg
  rw [Array.getElem?_toList, Array.getElem?_eq_getElem ht', hg, el_at hj]
  have hl : i < (kE.enc ts[j]).length := by rw [kE.len]; exact hi
  simp only [List.getElem_toArray]
  rw [getElem!_pos (kE.enc ts[j]) i hl, List.getElem?_eq_getElem hl]
/-- A row that the library sorts. -/
theorem kE_holds {lo hi : Nat} {W : World} {g c : Nat} {ts : List (Int × Int)} (h : kE.Fresh lo hi W (some ⟨g, 0, none⟩) c ts) (hn : 0 < ts.length) : HoldsK kE.enc 2 W g 0 ts.toArray := by
  obtain ⟨g2, e2, _, _, _, ho⟩ := h.at hn
  obtain rfl : g = g2 := by simp at e2; exact e2
  intro j hj
  rw [Nat.zero_add]
  refine ⟨?_, ho.frozenAt j⟩
  rw [ho.cellAt j (by simpa [kE] using hj)]
  rw [← flatK_kE, Array.getElem?_toList, Array.getElem?_eq_getElem hj, getElem!_pos (flatK kE.enc 2 ts.toArray) j hj]; rfl
theorem kE_sorted {lo hi : Nat} {W : World} {g c n : Nat} {os : Array Obj} {ts us : List (Int × Int)} (h : kE.Fresh lo hi W (some ⟨g, 0, none⟩) c ts) (hn : 0 < ts.length) (hl : us.length = ts.length) :
    kE.Fresh lo hi (sortWorldK kE.enc 2 W g 0 n us.toArray os) (some ⟨g, 0, none⟩) c us ∧ Below lo W (sortWorldK kE.enc 2 W g 0 n us.toArray os) := by
  obtain ⟨g2, e2, hg1, hg2, hg3, ho⟩ := h.at hn
  obtain rfl : g = g2 := by simp at e2; exact e2
  have hoth : ∀ k, k < W.heap.size → k ≠ g → (sortWorldK kE.enc 2 W g 0 n us.toArray os).heap[k]? = W.heap[k]? := fun k hk hne => by
    simp only [sortWorldK, grow, putRowK, putRow, mapBlock]
    rw [Array.getElem?_append_left (by simpa [ahead] using hk), Array.getElem?_modify, if_neg (Ne.symm hne)]; rfl
  refine ⟨?_, rfl, rfl, rfl, size_sortWorldK_c _ _ _ _ _ _ _ _, fun k hk => hoth k (by omega) (by omega)⟩
  obtain ⟨hfl, h2⟩ := ho
  rcases h2 with ⟨h', _⟩ | ⟨g', cap', cur, h', hb, hg, k1, k2, k3, k4⟩
  · simp at h'
  simp only [Value.slice.injEq, Option.some.injEq, Addr.mk.injEq, and_true, true_and] at h'
  obtain ⟨rfl, rfl⟩ := h'
  have hF : (flatK kE.enc 2 us.toArray).size = ts.length * 2 := by rw [size_flatK]; simp [hl]
  have hblk : (sortWorldK kE.enc 2 W g 0 n us.toArray os).heap[g]? = some (.cells (putCells id 0 (flatK kE.enc 2 us.toArray) cur) kE.ty (0, 0)) := by
    simp only [sortWorldK, grow, putRowK, putRow, mapBlock]
    rw [Array.getElem?_append_left (by simpa [ahead] using hg3), Array.getElem?_modify, if_pos rfl, show (Sort.ahead W n).heap[g]? = W.heap[g]? from rfl, hg]; rfl
  refine .inr ⟨g, rfl, hg2, kE.flat_len us, .inr ⟨g, c, _, by rw [hl], hb, hblk, by rw [hl]; exact k1, k2, by simpa [putCells] using k3, ?_⟩⟩
  rw [← flatK_kE us]
  refine List.ext_getElem? fun t => ?_
  have hcs : ts.length * 2 ≤ cur.size := by rw [k3]; exact Nat.mul_le_mul_right _ k1
  have hsz : us.length * kE.sz = ts.length * 2 := by rw [hl]; rfl
  rw [hsz]
  by_cases ht : t < ts.length * 2
  · have htF : t < (flatK kE.enc 2 us.toArray).size := by rw [hF]; exact ht
    rw [List.getElem?_take_of_lt ht, Array.getElem?_toList, Array.getElem?_toList, putCells, Array.getElem?_mapIdx, Array.getElem?_eq_getElem (show t < cur.size by omega), Option.map_some, if_pos ⟨Nat.zero_le _, by omega⟩, Array.getElem?_eq_getElem htF, Nat.sub_zero, getElem!_pos (flatK kE.enc 2 us.toArray) t htF]; rfl
  · rw [List.getElem?_eq_none (by simp; omega), List.getElem?_eq_none (by simp [hl]; omega)]
set_option maxHeartbeats 2000000 in
theorem sortedBy_any (ao : Option Addr) (cap : Nat) (ts : List (Int × Int)) (kr : Nat) (w : World) (hl : ts.length ≤ 1048576) (hz : kE.In w.heap.size w ao ts) (hr : kr < w.heap.size) (h0 : w.cell? ⟨kr, 0, none⟩ = some (.func (.func 53) #[] #[])) (h1 : w.cell? ⟨kr, 1, none⟩ = some (.func (.func 54) #[] #[])) :
    Calls Tryz.prog 55 #[.slice ao ts.length cap, .slice (some ⟨kr, 0, none⟩) 2 2] w fun e w' => AnsE w (sortE ts) e w' := by
  obtain ⟨V, hV⟩ : ∃ V, V = w.alloc (.cells #[.slice (some ⟨kr, 0, none⟩) 2 2] 110) := ⟨_, rfl⟩
  have hb : Below w.heap.size w V := by rw [hV]; exact below1 _ _
  have XK : Hid (Bx V w.heap.size [.slice (some ⟨kr, 0, none⟩) 2 2]) := by rw [hV]; exact Bx.new [.slice (some ⟨kr, 0, none⟩) 2 2] _ rfl
  have hs : V.heap.size = w.heap.size + 1 := by rw [hV]; simp
  have c0 := (hb.cell (p := ⟨kr, 0, none⟩) hr).trans h0
  have c1 := (hb.cell (p := ⟨kr, 1, none⟩) hr).trans h1
  have hzV := hz.later hb
  have HV := hid hV
  have HC := hid (And.intro c0 c1)
  clear hV h0 h1 hz c0 c1
  go_enter Tryz.func55, Tryz.ntmps55
  go_wp2_with fail
  rw [← HV.out]
  refine (copyListE_any ao cap ts V hl hzV).mono ?_
  rintro e w1 ⟨⟨t9, rfl, hF⟩, hB1⟩
  have hBw : Below w.heap.size w w1 := hb.trans (hB1.mono hb.size)
  rcases Nat.eq_zero_or_pos ts.length with hn | hn
  · obtain rfl : ts = [] := List.length_eq_zero_iff.1 hn
    have hcon := AnyF.slices_SortFunc_none (P := Tryz.prog) { Tryz.sortEm with } t9 0 (.func (.func 84) #[] #[.pointer (some ⟨w.heap.size, 0, none⟩)]) w1
    change Calls Tryz.prog 83 _ _ _ at hcon
    have HB := hid hBw
    clear hn hF hB1 hBw XK HC hzV hl hs hr HV hb
    go_wp2_with (go_at_call 83; refine hcon.mono ?_; rintro e w' ⟨rfl, rfl⟩)
    go_ret
    exact ⟨_, _, by rw [show sortE [] = [] from by simp [sortE]]; rfl, by rw [show sortE [] = [] from by simp [sortE]]; exact Kind.Fresh.nil _ _ _ _ _ _, HB.out⟩
  · obtain ⟨g, rfl, hg1, hg2, hg3, _⟩ := hF.at hn
    have hsz1 := hB1.size
    have hcmp : CmpLays Tryz.prog 84 #[.pointer (some ⟨w.heap.size, 0, none⟩)] kE.enc 2 cmpE g 0 ts.toArray.size w1 := by
      intro m os dk hdk x y
      have hcell : ∀ a : Addr, a.block < V.heap.size → ∀ v, V.cell? a = some v → (sortWorldK kE.enc 2 w1 g 0 m dk os).cell? a = some v := fun a ha v hv => by
        unfold sortWorldK
        rw [cell?_grow _ _ _ (by rw [size_putRowK]; exact Nat.lt_of_lt_of_le ha hsz1), cell?_putRowK_other _ _ _ _ _ _ a (by omega)]
        exact (hB1.cell ha).trans hv
      have hsw := size_sortWorldK_c kE.enc 2 w1 g 0 m dk os
      exact cmpCl_any x.1 x.2 y.1 y.2 w.heap.size kr _ (by omega) (by omega) (hcell ⟨w.heap.size, 0, none⟩ (by simp only [hs]; omega) _ (XK.out.c 0 rfl)) (hcell ⟨kr, 0, none⟩ (by simp only [hs]; omega) _ HC.out.1) (hcell ⟨kr, 1, none⟩ (by simp only [hs]; omega) _ HC.out.2)
    have eg : ∀ args w, (callFunc 84 args).run Tryz.prog w = .ok (.enter 84 args) w := enters_of Tryz.func84 (by kernel_rfl) rfl
    have hcon := AnyQ.slices_SortFunc_total Tryz.sortEm 2 Tryz.isAgg84 Tryz.sizeOf84 kE.enc kE.len kE.one cmpE cmpE_swo 84 #[.pointer (some ⟨w.heap.size, 0, none⟩)] g 0 ts.length ts.toArray w1 eg hcmp (kE_holds hF hn) hg3 (by simp; omega) cmpE_total
    change Calls Tryz.prog 83 _ _ _ at hcon
    rw [show (ts.toArray.toList.mergeSort fun x y => !(ltOf cmpE) y x) = sortE ts from by simp only [cmpE_neg, sortE], show ts.toArray.size = ts.length from by simp] at hcon
    have HF := hid (fun n os => kE_sorted (n := n) (os := os) hF hn (sortE_len ts))
    have HB := hid hBw
    have HS := hid hsz1
    have HVS := hid hs
    clear hn hF hB1 hBw XK HC hzV hs hr HV hb hcmp eg hsz1
    go_wp2_with (go_at_call 83; refine hcon.mono ?_; rintro e w2 ⟨rfl, n, os, rfl⟩)
    go_ret
    have h := HF.out n os
    have hv := HVS.out
    refine ⟨_, _, by rw [sortE_len]; rfl, (h.1.wide (by omega) (size_sortWorldK_c _ _ _ _ _ _ _ _)), HB.out.trans (h.2.mono (by omega))⟩
end
section
open Go.RowKit

/-- What SortEmits answers. -/
def sortR (ts : List (Int × Int)) : List (Int × Int) × Bool := if 400 < ts.length then ([], false) else (sortE ts, true)
theorem sortR_len {ts : List (Int × Int)} (hl : ts.length ≤ 1048576) : (sortR ts).1.length ≤ 1048576 := by
  unfold sortR
  split
  · simp
  · rw [sortE_len]; exact hl
/-- A row of emits of its own, and whether. -/
def AnsEB (w : World) (R : List (Int × Int) × Bool) (e : Ending) (w' : World) : Prop :=
  (∃ o c, e = .returned (.tuple #[.slice o R.1.length c, .bool R.2]) ∧ kE.Fresh w.heap.size w'.heap.size w' o c R.1) ∧ Below w.heap.size w w'
set_option maxHeartbeats 1000000 in
theorem implSort_any (ao : Option Addr) (cap : Nat) (ts : List (Int × Int)) (w : World) (hl : ts.length ≤ 1048576) (hz : kE.In w.heap.size w ao ts) :
    Calls Tryz.prog 24 #[.slice ao ts.length cap] w fun e w' => AnsEB w (sortR ts) e w' := by
  by_cases h : 400 < ts.length
  · have e : sortR ts = ([], false) := if_pos h
    rw [e]
    have h' : decide ((400 : Int) < (ts.length : Int)) = true := by simp; omega
    clear e h
    go_enter Tryz.func24, Tryz.ntmps24
    go_wp2
    refine bodyPost_ret (v := .tuple #[.slice none 0 0, .bool false]) (by simp [results, Tryz.results24, go_sem]) rfl ?_
    exact ⟨⟨none, 0, rfl, Kind.Fresh.nil _ _ _ _ _ _⟩, Below.refl _ _⟩
  · have e : sortR ts = (sortE ts, true) := if_neg h
    rw [e]
    have h' : decide ((400 : Int) < (ts.length : Int)) = false := by simp; omega
    clear e h
    obtain ⟨V, hV⟩ : ∃ V, V = w.alloc (.cells #[.func (.func 53) #[] #[], .func (.func 54) #[] #[]] 85) := ⟨_, rfl⟩
    have hb : Below w.heap.size w V := by rw [hV]; exact below1 _ _
    have XK : Hid (Bx V w.heap.size [.func (.func 53) #[] #[], .func (.func 54) #[] #[]]) := by rw [hV]; exact Bx.new [.func (.func 53) #[] #[], .func (.func 54) #[] #[]] _ rfl
    have hs : w.heap.size < V.heap.size := by rw [hV]; simp
    have hcon := sortedBy_any ao cap ts w.heap.size V hl (hz.later hb) hs (XK.out.c 0 rfl) (XK.out.c 1 rfl)
    have HV := hid hV
    have HB := hid hb
    clear hV XK hz hs hb
    go_enter Tryz.func24, Tryz.ntmps24
    go_wp2_with fail
    rw [← HV.out]
    refine hcon.mono ?_
    rintro e w1 ⟨o, c, rfl, hF, hB⟩
    have H := hid (And.intro (hF.wide HB.out.size (Nat.le_refl _)) (HB.out.trans (hB.mono HB.out.size)))
    clear hF hB
    go_wp2
    refine bodyPost_ret (v := .tuple #[.slice o (sortE ts).length c, .bool true]) (by simp [results, Tryz.results24, go_sem]) rfl ?_
    exact ⟨⟨o, c, rfl, H.out.1⟩, H.out.2⟩
end
section
open Go Go.RowKit

/-- Q, but nothing lets out. -/
def NoOut (Q : Exit → Act → World → Prop) : Exit → Act → World → Prop
  | .outgrown, _, _ => False
  | e, a, w => Q e a w
theorem NoOut.imp {Q : Exit → Act → World → Prop} : ∀ (e : Exit) (a : Act) (w : World), NoOut Q e a w → Q e a w := fun e a w h => by
  cases e <;> first | exact h | exact (h : False).elim
theorem NoOut.normal {Q : Exit → Act → World → Prop} {a : Act} {w : World} (h : Q .normal a w) : NoOut Q .normal a w := h
theorem noOut_lets {Q : Exit → Act → World → Prop} : ¬ LetsOut (NoOut Q) := fun ⟨_, _, h⟩ => h
theorem rowsIn_wide {n : Nat} {P : Program} {row : String} {args : Array Value} {w : World} {R : Value → World → Prop} (h : Rows P row args w R) : RowsIn Fence.wide n P row args w R :=
  fun c cs _ => let ⟨v, w', r, s⟩ := h c cs; ⟨v, w', r, stepsIn_wide.2 s⟩
theorem wpOpIn_of_plain {n : Nat} {P : Program} {ops : Array Oper} {Q : Exit → Act → World → Prop} (l : Nat) (hnd : ∀ (i : Nat) (o : Oper) (c : _), ops[i]? = some o → o.op ≠ .defer c) {i : Nat} {K : Act → World → Prop} {a : Act} {w : World} (h : wpOp P ops (NoOut Q) i K a w) : wpOpIn (Fence.wide.inRound l) n P ops Q i K a w := by
  unfold wpOp at h
  unfold wpOpIn
  cases ho : ops[i]? with
  | none => rw [ho] at h; exact h
  | some o =>
    rw [ho] at h
    dsimp only at h ⊢
    by_cases hw : Region.wanted o (yielded ops a.tmps) = true
    · rw [if_pos hw] at h ⊢
      rcases h with h | ⟨_, h⟩
      · unfold Oper.wpIn
        rw [Oper.semAt_eq _ _ _ (fun c => hnd i o c ho)]
        refine ⟨fun _ _ => trivial, ?_⟩
        unfold Oper.wp at h
        generalize (execOp a.eval o).run P w = r at h ⊢
        cases r with
        | ok x w' =>
          cases x <;> simp only [Oper.upon, Oper.uponIn] at h ⊢
          case enter f args =>
            refine ⟨fun hh => by simp [Fence.wide, Fence.inRound] at hh, CallsIn.inRound l (callsIn_wide.2 (h.mono fun e w'' he => ?_))⟩
            cases e with
            | returned v => exact he
            | panicked c => exact he
            | outgrown => exact (noOut_lets he).elim
          all_goals first | exact h | exact ⟨fun hh => by simp [Fence.wide, Fence.inRound] at hh, (rowsIn_wide (n := n - 1) h : RowsIn Fence.wide (n - 1) P _ _ _ _)⟩
        | halt x w' => cases x <;> simp only [Oper.upon, Oper.uponIn] at h ⊢ <;> exact h
      · exact (noOut_lets h).elim
    · rw [if_neg hw] at h ⊢
      exact ⟨fun _ _ => trivial, h⟩
theorem wpAnyIn_of_held {n : Nat} {P : Program} {md : Region.Mode} {ops : Array Oper} {Q : Exit → Act → World → Prop} {S : World → Prop} (l : Nat) (hnd : ∀ (i : Nat) (o : Oper) (c : _), ops[i]? = some o → o.op ≠ .defer c) :
    ∀ (fuel : Nat) (listed : Array Bool) (a : Act) (w : World), wpAnyH P md ops (NoOut Q) S fuel listed a w → wpAnyIn (Fence.wide.inRound l) n P md ops Q fuel listed a w
  | 0, _, _, _, h => ⟨h.1, h.2⟩
  | fuel + 1, _, _, _, h => ⟨h.1, fun i hi => wpOpIn_of_plain l hnd (wpOp_mono (fun a' w' h' => wpAnyIn_of_held l hnd fuel _ a' w' h'.2) (h.2 i hi))⟩
def noDefer (ops : Array Oper) : Bool := ops.toList.all fun o => match o.op with | .defer _ => false | _ => true
theorem noDefer_spec {ops : Array Oper} (h : noDefer ops = true) : ∀ (i : Nat) (o : Oper) (c : _), ops[i]? = some o → o.op ≠ .defer c := fun i o c hi e => by
  have hm : o ∈ ops.toList := by rw [Array.mem_toList_iff]; exact Array.mem_of_getElem? hi
  have := List.all_eq_true.1 h o hm
  rw [e] at this
  exact absurd this (by simp)
/-- A region that draws, in a round of a range over a function: as one outside, S held. -/
theorem wpIn_round_held {n : Nat} {P : Program} {id : Nat} {ops : Array Oper} {Q : Exit → Act → World → Prop} {S : World → Prop} {l : Nat} {a : Act} {w : World} (hm : P.follows .mixedOrders = true) (hnd : noDefer ops = true) (hS : S w.drew)
    (h : S w.drew → wpAnyH P .any ops (NoOut Q) S ops.size (Array.replicate ops.size false) a w.drew) : (Code.region id ops true).wpIn (Fence.wide.inRound l) n P Q a w :=
  wpIn_region_any hm (wpAnyIn_of_held l (noDefer_spec hnd) _ _ _ _ (h hS))
end
section
open Go.RowKit Go.Shelf

attribute [local go_sem] Oper.semAt_some

theorem Bx.kept {W W' : World} {p : Nat} {us : List Value} {row : Option Nat} (h : Bx W p us) (hg : W.grownBy W' row) (hr : ∀ r, row = some r → ∃ o : Obj, W.heap[r]? = some o ∧ o.isCells = false) : Bx W' p us :=
  ⟨Nat.lt_of_lt_of_le h.1 hg.size, fun i v hv => ⟨cell_kept (h.2 i v hv).1 hg hr, (frozen_kept (h.2 i v hv).1 hg hr).trans (h.2 i v hv).2⟩⟩
theorem keeps_below {W W' : World} (h : Below W.heap.size W W') : KeepsOthers W W' := ⟨h.size, fun k _ hk _ => (h.block k (Array.getElem?_eq_some_iff.1 hk).1).trans hk⟩
/-- The rows that came, by their places. -/
def rowOf (R : List Int) (pre : List Nat) : List Int := pre.map (el R.reverse)
/-- Between two rounds: the boxes, and the counts. -/
structure WInv (gs : List PNode) (R : List Int) (B P S : Nat) (gv pv : Value) (pre : List Nat) (W : World) : Prop where
  len : pre.length ≤ R.length
  box : Bx W B [gv]
  wid : Bx W P [pv]
  cnt : Bx W (B + 1) ((wdOf gs (rowOf R pre)).map (Value.int .i64))
  siz : S ≤ W.heap.size
theorem WInv.kept {gs : List PNode} {R : List Int} {B P S : Nat} {gv pv : Value} {pre : List Nat} {W W' : World} {row : Option Nat} (h : WInv gs R B P S gv pv pre W) (hg : W.grownBy W' row) (hr : ∀ r, row = some r → ∃ o : Obj, W.heap[r]? = some o ∧ o.isCells = false) : WInv gs R B P S gv pv pre W' :=
  ⟨h.len, h.box.kept hg hr, h.wid.kept hg hr, h.cnt.kept hg hr, Nat.le_trans h.siz hg.size⟩
theorem el_rng {gs : List PNode} {R : List Int} (hr : ∀ x ∈ R.reverse, ∃ j : Nat, j < gs.length ∧ x = (j : Int)) (h1 : 1 ≤ gs.length) (x : Nat) : ∃ j : Nat, j < gs.length ∧ el R.reverse x = (j : Int) := by
  by_cases hx : x < R.reverse.length
  · exact hr _ (el_mem hx)
  · refine ⟨0, by omega, ?_⟩
    rw [el, List.getElem?_eq_none (by omega)]; rfl
theorem rowOf_rng {gs : List PNode} {R : List Int} (hr : ∀ x ∈ R.reverse, ∃ j : Nat, j < gs.length ∧ x = (j : Int)) (h1 : 1 ≤ gs.length) (pre : List Nat) : ∀ x ∈ rowOf R pre, ∃ j : Nat, j < gs.length ∧ x = (j : Int) := fun x hx => by
  obtain ⟨i, _, rfl⟩ := List.mem_map.1 hx
  exact el_rng hr h1 i
theorem rowOf_all (R : List Int) : rowOf R (List.range R.length) = R.reverse := by
  refine List.ext_getElem (by simp [rowOf]) fun i h2 h3 => ?_
  have hi : i < R.reverse.length := h3
  simp only [rowOf, List.getElem_map, List.getElem_range]
  rw [el_at hi]
set_option maxRecDepth 100000 in
set_option maxHeartbeats 8000000 in
theorem widestIn_is (ao : Option Addr) (cap : Nat) (ts : List LNode) (w : World) (hF : FitN ts) (h1 : 1 ≤ ts.length) (hE : EdgesIn (ts.map valNode)) (hz : DIn dNode w.heap.size w ao ts) :
    Calls Tryz.prog 23 #[.slice ao ts.length cap] w fun e w' => e = .returned (.int .i64 (widP (ts.map valNode))) ∧ Below w.heap.size w w' := by
  have h10 : ts.length ≤ 10 := by have := hE.many; simpa using this
  have HRO := hid (orderP_ro (gs := ts.map valNode) (by rw [val_len]; exact h10))
  have HE := hid hE
  have HZ := hid hz
  have HFi := hid hF
  clear hz hE hF
  refine (callsIn_wide (n := 6)).1 ?_
  have hro : Fence.wide.round = none := rfl
  refine callsIn_of_wp_marks Tryz.func23 rfl trivial ?_ hro
  simp only [Tryz.ntmps23, List.size_toArray, List.length_cons, List.length_nil, Nat.reduceAdd, Nat.reduceSub, Array.replicate_succ, Array.replicate_zero, List.push_toArray, List.append_toArray, List.nil_append, List.cons_append]
  have HG : Hid (Bx (w.alloc (.cells #[.slice ao ts.length cap] 23)) w.heap.size [.slice ao ts.length cap]) := Bx.new [.slice ao ts.length cap] _ rfl
  have HBa := hid (below1 w (.cells #[.slice ao ts.length cap] 23))
  gi_wp2_with (gi_at_make; refine make_in (w.alloc (.cells #[.slice ao ts.length cap] 23)) rfl _ _ rfl ts.length rfl rfl (by omega) ?_; intro w1 hX1 hB1; have hX1' : Bx w1 (w.heap.size + 1) ((List.replicate ts.length (0 : Int)).map (Value.int .i64)) := (by simpa using hX1); have X1 := hid hX1'; have G1 := hid (HG.out.later hB1); have g0 := G1.out.c 0 rfl; have B1 := hid (HBa.out.trans (hB1.mono (by simp))); have hs1 := hX1'.size; have hs0 := G1.out.size; clear hX1 hX1' hB1)
  obtain ⟨W2, hW2⟩ : ∃ W2, W2 = w1.alloc (.cells #[.slice (some ⟨w.heap.size + 1, 0, none⟩) ts.length ts.length] 26) := ⟨_, rfl⟩
  rw [← hW2]
  have hb2 : Below w1.heap.size w1 W2 := by rw [hW2]; exact below1 _ _
  have P2 : Hid (Bx W2 w1.heap.size [.slice (some ⟨w.heap.size + 1, 0, none⟩) ts.length ts.length]) := by rw [Hid, hW2]; exact Bx.new [.slice (some ⟨w.heap.size + 1, 0, none⟩) ts.length ts.length] _ rfl
  have X2 := hid (X1.out.later hb2)
  have G2 := hid (G1.out.later hb2)
  have B2 := hid (B1.out.trans (hb2.mono B1.out.size))
  clear hW2 hb2 X1 G1 B1 g0 HG HBa
  refine ⟨trivial, ?_⟩
  refine (callsIn_wide.2 (orderIn_any ao cap ts W2 (by omega) HFi.out (HZ.out.later dNode_ok B2.out))).mono ?_
  rintro e w3 ⟨⟨go, qc, rfl, hF3⟩, hb3⟩
  have P3 := hid (P2.out.later hb3)
  have X3 := hid (X2.out.later hb3)
  have G3 := hid (G2.out.later hb3)
  have B3 := hid (B2.out.trans (hb3.mono B2.out.size))
  have FR := hid hF3
  obtain ⟨R, hRR⟩ : ∃ R, R = orderP (ts.map valNode) := ⟨_, rfl⟩
  have HW : Hid (widP (ts.map valNode) = maxL (wdAt (ts.map valNode) R.reverse R.length)) := by rw [Hid, hRR]; rfl
  rw [← hRR] at HRO FR ⊢
  have hRl : R.length ≤ 10 := by have := HRO.out.len; simpa using this
  have hs2 := P2.out.size
  clear hb3 hF3 P2 X2 G2 B2 hRR
  gi_wp2_with fail
  refine ⟨trivial, ?_⟩
  refine (callsIn_wide.2 (backward_any go R.length qc w3)).mono ?_
  rintro e w4 ⟨rfl, rfl⟩
  gi_wp2_with fail
  obtain ⟨W4, hW4⟩ : ∃ W4, W4 = w3.alloc (.cells #[.slice go R.length qc] 26) := ⟨_, rfl⟩
  rw [← hW4]
  have hb4 : Below w3.heap.size w3 W4 := by rw [hW4]; exact below1 _ _
  have C4 : W4.cell? ⟨w3.heap.size, 0, none⟩ = some (.slice go R.length qc) := by rw [hW4]; exact (Bx.new [.slice go R.length qc] _ rfl).c 0 rfl
  have S4 : W4.heap.size = w3.heap.size + 1 := by rw [hW4]; simp
  have P4 := hid (P3.out.later hb4)
  have X4 := hid (X3.out.later hb4)
  have G4 := hid (G3.out.later hb4)
  have B4 := hid (B3.out.trans (hb4.mono B3.out.size))
  have hp1 := P3.out.size
  obtain ⟨b, hbne, hbW, hbI⟩ : ∃ b, b ≠ w.heap.size + 1 ∧ b < W4.heap.size ∧ (R = [] ∨ ∃ off, go = some ⟨b, off, none⟩ ∧ b < W4.heap.size ∧ ∀ j, j < R.length → W4.cell? ⟨b, off + j, none⟩ = some (.int .i64 (el R j))) := by
    rcases Nat.eq_zero_or_pos R.length with h | h
    · exact ⟨w3.heap.size, by omega, by omega, .inl (List.length_eq_zero_iff.1 h)⟩
    · obtain ⟨b, e, hlow, _, hlt, _⟩ := FR.out.at h
      have hIn := FR.out.in.later hb4
      obtain ⟨b2, off, e2, hb2, hc⟩ := ints_at hIn h
      obtain ⟨rfl, e0⟩ : b = b2 ∧ 0 = off := by rw [e] at e2; simp at e2; exact ⟨e2.1, e2.2⟩
      subst e0
      exact ⟨b, by omega, hb2, .inr ⟨0, e, hb2, hc⟩⟩
  obtain ⟨gs, hgs⟩ : ∃ gs, gs = ts.map valNode := ⟨_, rfl⟩
  have hgl : gs.length = ts.length := by rw [hgs, val_len]
  have hnode : Hid (∀ k, k < ts.length → ∃ b off nm cp nxo nxc, ao = some ⟨b, off, none⟩ ∧ b < w.heap.size ∧ w.cell? ⟨b, off + k * 6 + 5, none⟩ = some (.slice nxo (nxP gs k).length nxc) ∧ kI.In w.heap.size w nxo (nxP gs k) ∧ w.cell? ⟨b, off + k * 6 + 1, none⟩ = some (.int .i64 (el gs k).2.1) ∧ w.cell? ⟨b, off + k * 6 + 2, none⟩ = some (.int .i64 (el gs k).2.2.1) ∧ w.cell? ⟨b, off + k * 6 + 3, none⟩ = some (.int .i64 (el gs k).2.2.2.1) ∧ w.cell? ⟨b, off + k * 6, none⟩ = some (.string nm) ∧ w.cell? ⟨b, off + k * 6 + 4, none⟩ = some (.int .i64 cp)) := fun k hk => by
    obtain ⟨b, off, e, hb, hc⟩ := hNode_at HZ.out.1 hk
    have d := hc k hk
    have hin := HZ.out.2 k hk
    have hev : nxP gs k = (el ts k).2.2.2.2.2.2.2 := by rw [hgs, nxP, el_val hk]; rfl
    rw [hev, hgs, el_val hk]
    exact ⟨b, off, _, _, _, _, e, hb, d.2.2.2.2.2, hin, d.2.1, d.2.2.1, d.2.2.2.1, d.1, d.2.2.2.2.1⟩
  rw [← hgs] at HRO HE HW
  have HGS := hid hgs
  have hinv0 : WInv gs R w.heap.size w1.heap.size W4.heap.size (.slice ao ts.length cap) (.slice (some ⟨w.heap.size + 1, 0, none⟩) ts.length ts.length) [] W4 := ⟨by simp, G4.out, P4.out, by have h := X4.out; rw [← hgl] at h; exact h, Nat.le_refl _⟩
  have hB40 : w.heap.size ≤ W4.heap.size := B4.out.size
  have hP1 : w.heap.size + 1 < w1.heap.size := hs1
  have hP4 : w1.heap.size < W4.heap.size := P4.out.size
  clear hW4 hb4 P3 X3 G3 B3 P4 X4 G4 hgs
  refine wpIn_rangeFunc_ownG hro (by omega) (gf := 80) (lb := #[.pointer (some ⟨w3.heap.size, 0, none⟩)]) rfl trivial (enters_of Tryz.func80 (by kernel_rfl) rfl)
    (back_stops Fence.wide (6 - 1) trivial hro (by omega) w3.heap.size b go qc R (by omega) W4 (by omega) C4 hbI) Same2.trans (fun W l o o' h1 h2 h3 h4 => ⟨sameB_put hbW W l o o' h1 h2 h3 h4, sameB_put (by omega) W l o o' h1 h2 h3 h4⟩) (Below.refl _ _) (fun _ => rfl)
    (fun pre W => WInv gs R w.heap.size w1.heap.size W4.heap.size (.slice ao ts.length cap) (.slice (some ⟨w.heap.size + 1, 0, none⟩) ts.length ts.length) pre W ∧ Below w.heap.size w W)
    (fun _ _ _ => False)
    (OwnFrom.and (Own.from (fun s A B row hs hg hr => hs.kept hg hr) _) (ownFrom_below (Nat.le_refl _) (by omega)))
    (fun _ _ _ _ _ hs _ _ => hs)
    ⟨hinv0, B4.out⟩
    (fun x => { tmps := #[.slice ao ts.length cap, .pointer (some ⟨w.heap.size, 0, none⟩), .int .i64 0, .pointer (some ⟨w1.heap.size, 0, none⟩), undef, .int .i64 (el R.reverse x), undef, undef, undef, .slice ao ts.length cap, .int .i64 (ts.length : Int), .slice (some ⟨w.heap.size + 1, 0, none⟩) ts.length ts.length, .slice ao ts.length cap, .slice go R.length qc, .func (.func 80) #[] #[.pointer (some ⟨w3.heap.size, 0, none⟩)], .int .i64 ((R.length : Int) - 1 - (x : Int)), .int .i64 (el R.reverse x), undef, undef, undef, undef, undef, undef, undef, undef, undef, undef, undef, undef, undef, undef, undef, undef, undef, undef, undef, undef, undef, undef, undef, undef, undef, undef, undef, undef, undef, undef, undef, undef, undef, undef, undef], defers := [] }) ?assign ?body ?done ?stop
  case assign =>
    intro l x W K hK
    simp only [bkA, tvI]
    gi_wp2
    exact hK
  case body =>
    rintro l pre x W ⟨hI, hB⟩ hlen
    have hmx : Tryz.prog.follows .mixedOrders = true := by kernel_rfl
    obtain ⟨k, hk, ek⟩ := el_rng HRO.out.rng (by omega) x
    have hBG := wdAt_big HE.out (rowOf_rng HRO.out.rng (by omega) pre) (by simp only [rowOf, List.length_map]; omega) (t := (rowOf R pre).length) (Nat.le_refl _)
    have hWl := wdAt_len gs (rowOf R pre) (rowOf R pre).length
    rw [wdOf_all] at hBG hWl
    have HSC : Hid (wdOf gs (rowOf R (pre ++ [x])) = (wdOf gs (rowOf R pre)).set k (wNew gs (wdOf gs (rowOf R pre)) k)) := by
      rw [Hid, show rowOf R (pre ++ [x]) = rowOf R pre ++ [(k : Int)] from by simp [rowOf, ek], wdOf_snoc, Int.toNat_natCast]
    have HNB := hid (wNew_bnd HE.out hWl hBG (by omega) hk)
    have HL : Hid ((pre ++ [x]).length ≤ R.length) := by simp [Hid]; omega
    have hX := hid hI.cnt
    have hG := hid hI.box
    have hP := hid hI.wid
    have hS := hI.siz
    have g0 := hI.box.c 0 rfl
    have p0 := hI.wid.c 0 rfl
    obtain ⟨wd, hwd⟩ : ∃ wd, wd = wdOf gs (rowOf R pre) := ⟨_, rfl⟩
    rw [← hwd] at HSC HNB hBG hWl hX
    have HBG := hid hBG
    clear hwd hBG hI
    rw [ek]
    clear ek
    have hkt : k < ts.length := by rw [← hgl]; exact hk
    obtain ⟨b7, off, nm, cp, nxo, nxc, rfl, hb7, c6, hI, c1, c2, c3, c0, c4⟩ := hnode.out k hkt
    have d6 := (hB.cell (p := ⟨b7, off + k * 6 + 5, none⟩) hb7).trans c6
    have d1 := (hB.cell (p := ⟨b7, off + k * 6 + 1, none⟩) hb7).trans c1
    have d2 := (hB.cell (p := ⟨b7, off + k * 6 + 2, none⟩) hb7).trans c2
    have d3 := (hB.cell (p := ⟨b7, off + k * 6 + 3, none⟩) hb7).trans c3
    have d0 := (hB.cell (p := ⟨b7, off + k * 6, none⟩) hb7).trans c0
    have d4 := (hB.cell (p := ⟨b7, off + k * 6 + 4, none⟩) hb7).trans c4
    have hrg := HE.out.rng k hk
    have hfew := HE.out.few k hk
    have hwn : wNew gs wd k = factI (el gs k).2.1 (el gs k).2.2.1 (el gs k).2.2.2.1 * (if (nxP gs k).length = 0 then 1 else sumW wd (nxP gs k)) := rfl
    obtain ⟨nx, hnx⟩ : ∃ nx, nx = nxP gs k := ⟨_, rfl⟩
    rw [← hnx] at d6 hI hrg hfew hwn
    generalize (el gs k).2.1 = kd at d1 hwn
    generalize (el gs k).2.2.1 = sa at d2 hwn
    generalize (el gs k).2.2.2.1 = sb at d3 hwn
    obtain ⟨v, hv⟩ : ∃ v, v = wNew gs wd k := ⟨_, rfl⟩
    rw [← hv] at HSC HNB hwn
    have HWN := hid hwn
    have HI := hid (hI.later hB)
    have HRG := hid hrg
    have hki : (k : Int) < (ts.length : Int) := by omega
    have hv0 := HNB.out
    clear hnx c6 c1 c2 c3 c0 c4 hI hrg hwn hv
    gi_wp2
    gi_loopw [6, 23] (fun u j wr2 => ∃ (m : Nat) (s : Int), j = .int .i64 (m : Int) ∧ u = .int .i64 s ∧ m ≤ nx.length ∧ s = sumW wd (nx.take m) ∧ wr2 = W) (fun _ j _ => nx.length - (intOf j).toNat)
    case atStart => exact ⟨0, 0, rfl, rfl, Nat.zero_le _, by rw [List.take_zero, sumW_nil], rfl⟩
    case round =>
      rename_i wr3
      obtain ⟨m, s, rfl, rfl, hm, hs, rfl⟩ := hrel
      have hsb := sumW_bnd HBG.out (by omega) (nx.take m) (fun x hx => by rw [hWl]; exact HRG.out x (List.mem_of_mem_take hx))
      rw [← hs] at hsb
      have hlm : (nx.take m).length = m := by simp; omega
      rw [hlm] at hsb
      by_cases hmk : m < nx.length
      · have HSS := hid (sumW_succ (wd := wd) hmk)
        obtain ⟨nb, noff, rfl, hnb, hnc⟩ := ints_at HI.out hmk
        have cm := hnc m hmk
        obtain ⟨j, hj, hx⟩ := HRG.out (el nx m) (el_mem hmk)
        rw [hx] at cm HSS
        rw [Int.toNat_natCast] at HSS
        have hji : (j : Int) < (ts.length : Int) := by omega
        have cj := hX.out.c j (map_elI (by omega))
        have hjb := HBG.out j (by omega)
        generalize el wd j = y at cj HSS hjb
        have hmi : (m : Int) < (nx.length : Int) := by omega
        have hs2 : s + y = sumW wd (nx.take (m + 1)) := by rw [HSS.out, hs]
        have HS2 := hid hs2
        clear hx hnc hs2 hs hlm
        gi_wp2
        go_roundw
        case rel => exact ⟨m + 1, s + y, by go_num, rfl, by omega, HS2.out, trivial⟩
        case measure => simp [intOf]; omega
      · obtain rfl : m = nx.length := by omega
        rw [List.take_length] at hs
        have HS := hid hs
        clear hs hlm hmk
        have hfr := factI_rng kd sa sb
        obtain ⟨f, hf⟩ : ∃ f, f = factI kd sa sb := ⟨_, rfl⟩
        rw [← hf] at hfr HWN
        have HF := hid hf
        clear hf
        have X := hX
        have G := hG
        have P := hP
        have hb7_ : b7 < wr.heap.size := Nat.lt_of_lt_of_le hb7 hB.size
        by_cases h0 : nx.length = 0
        · have h0' : ((nx.length : Int) == 0) = true := by simp [h0]
          have hvf : v = f := by rw [HWN.out, if_pos h0, Int.mul_one]
          subst hvf
          have hie := isEnd_is nm kd sa sb cp nxo nx.length nxc wr
          rw [h0'] at hie
          clear HWN h0
          gi_wp2_with fail
          refine ⟨trivial, ?_⟩
          refine (CallsIn.inRound l (callsIn_wide.2 hie)).mono ?_
          rintro e w5 ⟨rfl, hb5⟩
          have d1w5 : w5.cell? ⟨b7, off + k * 6 + 1, none⟩ = some (.int .i64 kd) := (hb5.cell (p := ⟨b7, off + k * 6 + 1, none⟩) (by exact hb7_)).trans d1
          have d2w5 : w5.cell? ⟨b7, off + k * 6 + 2, none⟩ = some (.int .i64 sa) := (hb5.cell (p := ⟨b7, off + k * 6 + 2, none⟩) (by exact hb7_)).trans d2
          have d3w5 : w5.cell? ⟨b7, off + k * 6 + 3, none⟩ = some (.int .i64 sb) := (hb5.cell (p := ⟨b7, off + k * 6 + 3, none⟩) (by exact hb7_)).trans d3
          have Xw5 : Hid (Bx w5 (w.heap.size + 1) (wd.map (Value.int .i64))) := X.out.later hb5
          have Gw5 : Hid (Bx w5 w.heap.size [.slice (some ⟨b7, off, none⟩) ts.length cap]) := G.out.later hb5
          have Pw5 : Hid (Bx w5 w1.heap.size [.slice (some ⟨w.heap.size + 1, 0, none⟩) ts.length ts.length]) := P.out.later hb5
          have g0w5 := Gw5.out.c 0 rfl
          have p0w5 := Pw5.out.c 0 rfl
          have ckw5 := Xw5.out.c k (map_elI (by omega))
          have fkw5 := Xw5.out.f k (map_elI (by omega))
          have hb7w5 : b7 < w5.heap.size := Nat.lt_of_lt_of_le hb7_ hb5.size
          have hB5 : Below w.heap.size w w5 := hB.trans (hb5.mono hB.size)
          have K5 := hid (keeps_below hb5)
          have S5 : Hid (Same2 b w3.heap.size wr w5) := ⟨hb5.block _ (by omega), hb5.block _ (by omega)⟩
          have Z5 := hb5.size
          clear hb5 hie d1 d2 d3 d0 d4 d6 g0 p0
          gi_wp2
          have hwv : IntKind.i64.wrap (v) = v := by rw [IntKind.wrap_i64]; omega
          refine wpIn_round_held (S := fun Y => Y.cell? ⟨w.heap.size, 0, none⟩ = some (.slice (some ⟨b7, off, none⟩) ts.length cap) ∧ Y.cell? ⟨w1.heap.size, 0, none⟩ = some (.slice (some ⟨w.heap.size + 1, 0, none⟩) ts.length ts.length) ∧ Y.cell? ⟨b7, off + k * 6 + 1, none⟩ = some (.int .i64 kd) ∧ Y.cell? ⟨b7, off + k * 6 + 2, none⟩ = some (.int .i64 sa) ∧ Y.cell? ⟨b7, off + k * 6 + 3, none⟩ = some (.int .i64 sb)) (by kernel_rfl) (by kernel_rfl) ⟨g0w5, p0w5, d1w5, d2w5, d3w5⟩ (fun hHeld => ?_)
          refine wpAnyH_take (i := 0) (v := ?va0) rfl (by kernel_rfl) (by kernel_rfl) (by kernel_rfl) (fun _ _ _ h => h) (Or.inl ⟨by rfl, ?hya0⟩) hHeld ?resta0
          case hya0 => (intro w' hSw; (try dsimp only at hSw); go_simp <;> with_reducible rfl)
          refine wpAnyH_take (i := 1) (v := ?va1) rfl (by kernel_rfl) (by kernel_rfl) (by kernel_rfl) (fun _ _ _ h => h) (Or.inl ⟨by rfl, ?hya1⟩) hHeld ?resta1
          case hya1 => (intro w' hSw; (try dsimp only at hSw); go_simp <;> with_reducible rfl)
          refine wpAnyH_take (i := 2) (v := ?va2) rfl (by kernel_rfl) (by kernel_rfl) (by kernel_rfl) (fun _ _ _ h => h) (Or.inl ⟨by rfl, ?hya2⟩) hHeld ?resta2
          case hya2 => (intro w' hSw; (try dsimp only at hSw); go_simp <;> with_reducible rfl)
          refine wpAnyH_take (i := 3) (v := ?va3) rfl (by kernel_rfl) (by kernel_rfl) (by kernel_rfl) (fun _ _ _ h => h) (Or.inl ⟨by rfl, ?hya3⟩) hHeld ?resta3
          case hya3 => (intro w' hSw; (try dsimp only at hSw); go_simp <;> with_reducible rfl)
          refine wpAnyH_take (i := 4) (v := ?va4) rfl (by kernel_rfl) (by kernel_rfl) (by kernel_rfl) (fun _ _ _ h => h) (Or.inl ⟨by rfl, ?hya4⟩) hHeld ?resta4
          case hya4 => (intro w' hSw; (try dsimp only at hSw); go_simp <;> with_reducible rfl)
          refine wpAnyH_take (i := 5) (v := ?va5) rfl (by kernel_rfl) (by kernel_rfl) (by kernel_rfl) (fun _ _ _ h => h) (Or.inl ⟨by rfl, ?hya5⟩) hHeld ?resta5
          case hya5 => (intro w' hSw; (try dsimp only at hSw); go_simp <;> with_reducible rfl)
          refine wpAnyH_take (i := 6) (v := ?va6) rfl (by kernel_rfl) (by kernel_rfl) (by kernel_rfl) (fun _ _ _ h => h) (Or.inl ⟨by rfl, ?hya6⟩) hHeld ?resta6
          case hya6 => (intro w' hSw; (try dsimp only at hSw); go_simp <;> with_reducible rfl)
          refine wpAnyH_take (i := 8) (v := ?va8) rfl (by kernel_rfl) (by kernel_rfl) (by kernel_rfl) (fun _ _ _ h => h) (Or.inl ⟨by rfl, ?hya8⟩) hHeld ?resta8
          case hya8 => (intro w' hSw; (try dsimp only at hSw); go_simp <;> with_reducible rfl)
          refine wpAnyH_ready (rs := [7]) (by kernel_rfl) (by simp) ?_
          refine AllReadyH.cons (o := _) rfl (fun K hK => ?_) AllReadyH.nil
          go_simp
          refine (implFact_is kd sa sb _ v HF.out.symm).mono ?_
          rintro e w6 ⟨rfl, hb60⟩
          have hb6 : Below w5.heap.size w5 w6 := (Below.refl w5.heap.size w5).drew.trans hb60
          clear hb60
          refine hK.out _ _ ⟨(hb6.cell (p := ⟨w.heap.size, 0, none⟩) Gw5.out.size).trans g0w5, (hb6.cell (p := ⟨w1.heap.size, 0, none⟩) Pw5.out.size).trans p0w5, (hb6.cell (p := ⟨b7, off + k * 6 + 1, none⟩) hb7w5).trans d1w5, (hb6.cell (p := ⟨b7, off + k * 6 + 2, none⟩) hb7w5).trans d2w5, (hb6.cell (p := ⟨b7, off + k * 6 + 3, none⟩) hb7w5).trans d3w5⟩ (fun hHeld6 => ?_)
          clear hK K hHeld
          refine wpAnyH_take (i := 9) (v := ?va9) rfl (by kernel_rfl) (by kernel_rfl) (by kernel_rfl) (fun _ _ _ h => h) (Or.inl ⟨by rfl, ?hya9⟩) hHeld6 ?resta9
          case hya9 => (intro w' hSw; (try dsimp only at hSw); go_simp <;> with_reducible rfl)
          refine wpAnyH_take (i := 10) (v := ?va10) rfl (by kernel_rfl) (by kernel_rfl) (by kernel_rfl) (fun _ _ _ h => h) (Or.inl ⟨by rfl, ?hya10⟩) hHeld6 ?resta10
          case hya10 => (intro w' hSw; (try dsimp only at hSw); go_simp <;> with_reducible rfl)
          have ckw6 := (hb6.cell (p := ⟨w.heap.size + 1, k, none⟩) Xw5.out.size).trans ckw5
          have fkw6 := (hb6.frozen (p := ⟨w.heap.size + 1, k, none⟩) Xw5.out.size).trans fkw5
          refine wpAnyH_ready (rs := [11]) (by kernel_rfl) (by simp) ?_
          refine AllReadyH.cons (o := _) rfl (fun K hK => ?_) AllReadyH.nil
          go_simp
          refine hK.out _ _ ⟨(World.cell?_setCell_far _ _ _ _ (by simp only; omega)).trans hHeld6.1, (World.cell?_setCell_far _ _ _ _ (by simp only; omega)).trans hHeld6.2.1, (World.cell?_setCell_far _ _ _ _ (by simp only; omega)).trans hHeld6.2.2.1, (World.cell?_setCell_far _ _ _ _ (by simp only; omega)).trans hHeld6.2.2.2.1, (World.cell?_setCell_far _ _ _ _ (by simp only; omega)).trans hHeld6.2.2.2.2⟩ (fun hHeld7 => ?_)
          refine wpAnyH_done (by kernel_rfl) ?_ _
          refine NoOut.normal ?_
          clear hHeld6 hHeld7 hK K
          gi_wp2
          have hB6 : Below w.heap.size w w6 := hB5.trans (hb6.mono hB5.size)
          have Z6 := hb6.size
          refine ⟨((K5.out.trans (keeps_below hb6)).trans (KeepsOthers.setCell _ _ _)).from _, S5.out.trans (Same2.trans (B := w6) ⟨hb6.block _ (by omega), hb6.block _ (by omega)⟩ ⟨sameB_set (by simp only; omega), sameB_set (by simp only; omega)⟩), ⟨HL.out, (Gw5.out.later hb6).other (a := ⟨w.heap.size + 1, k, none⟩) (by simp only; omega) _, (Pw5.out.later hb6).other (a := ⟨w.heap.size + 1, k, none⟩) (by simp only; omega) _, ?_, by have h : ∀ (W : World) a u, (W.setCell a u).heap.size = W.heap.size := fun W a u => (by simp [World.setCell]); rw [h]; omega⟩, hB6.setCell (p := ⟨w.heap.size + 1, k, none⟩) (by simp only; omega) _⟩
          rw [HSC.out, List.map_set]
          exact (Xw5.out.later hb6).set k _
        · have h0' : ((nx.length : Int) == 0) = false := by simp [h0]
          have hvf : v = f * s := by rw [HWN.out, if_neg h0, HS.out]
          subst hvf
          have hie := isEnd_is nm kd sa sb cp nxo nx.length nxc wr
          rw [h0'] at hie
          clear HWN h0
          gi_wp2_with fail
          refine ⟨trivial, ?_⟩
          refine (CallsIn.inRound l (callsIn_wide.2 hie)).mono ?_
          rintro e w5 ⟨rfl, hb5⟩
          have d1w5 : w5.cell? ⟨b7, off + k * 6 + 1, none⟩ = some (.int .i64 kd) := (hb5.cell (p := ⟨b7, off + k * 6 + 1, none⟩) (by exact hb7_)).trans d1
          have d2w5 : w5.cell? ⟨b7, off + k * 6 + 2, none⟩ = some (.int .i64 sa) := (hb5.cell (p := ⟨b7, off + k * 6 + 2, none⟩) (by exact hb7_)).trans d2
          have d3w5 : w5.cell? ⟨b7, off + k * 6 + 3, none⟩ = some (.int .i64 sb) := (hb5.cell (p := ⟨b7, off + k * 6 + 3, none⟩) (by exact hb7_)).trans d3
          have Xw5 : Hid (Bx w5 (w.heap.size + 1) (wd.map (Value.int .i64))) := X.out.later hb5
          have Gw5 : Hid (Bx w5 w.heap.size [.slice (some ⟨b7, off, none⟩) ts.length cap]) := G.out.later hb5
          have Pw5 : Hid (Bx w5 w1.heap.size [.slice (some ⟨w.heap.size + 1, 0, none⟩) ts.length ts.length]) := P.out.later hb5
          have g0w5 := Gw5.out.c 0 rfl
          have p0w5 := Pw5.out.c 0 rfl
          have ckw5 := Xw5.out.c k (map_elI (by omega))
          have fkw5 := Xw5.out.f k (map_elI (by omega))
          have hb7w5 : b7 < w5.heap.size := Nat.lt_of_lt_of_le hb7_ hb5.size
          have hB5 : Below w.heap.size w w5 := hB.trans (hb5.mono hB.size)
          have K5 := hid (keeps_below hb5)
          have S5 : Hid (Same2 b w3.heap.size wr w5) := ⟨hb5.block _ (by omega), hb5.block _ (by omega)⟩
          have Z5 := hb5.size
          clear hb5 hie d1 d2 d3 d0 d4 d6 g0 p0
          gi_wp2
          have hwv : IntKind.i64.wrap (f * s) = f * s := by rw [IntKind.wrap_i64]; omega
          refine wpIn_round_held (S := fun Y => Y.cell? ⟨w.heap.size, 0, none⟩ = some (.slice (some ⟨b7, off, none⟩) ts.length cap) ∧ Y.cell? ⟨w1.heap.size, 0, none⟩ = some (.slice (some ⟨w.heap.size + 1, 0, none⟩) ts.length ts.length) ∧ Y.cell? ⟨b7, off + k * 6 + 1, none⟩ = some (.int .i64 kd) ∧ Y.cell? ⟨b7, off + k * 6 + 2, none⟩ = some (.int .i64 sa) ∧ Y.cell? ⟨b7, off + k * 6 + 3, none⟩ = some (.int .i64 sb)) (by kernel_rfl) (by kernel_rfl) ⟨g0w5, p0w5, d1w5, d2w5, d3w5⟩ (fun hHeld => ?_)
          refine wpAnyH_take (i := 0) (v := ?vb0) rfl (by kernel_rfl) (by kernel_rfl) (by kernel_rfl) (fun _ _ _ h => h) (Or.inl ⟨by rfl, ?hyb0⟩) hHeld ?restb0
          case hyb0 => (intro w' hSw; (try dsimp only at hSw); go_simp <;> with_reducible rfl)
          refine wpAnyH_take (i := 1) (v := ?vb1) rfl (by kernel_rfl) (by kernel_rfl) (by kernel_rfl) (fun _ _ _ h => h) (Or.inl ⟨by rfl, ?hyb1⟩) hHeld ?restb1
          case hyb1 => (intro w' hSw; (try dsimp only at hSw); go_simp <;> with_reducible rfl)
          refine wpAnyH_take (i := 2) (v := ?vb2) rfl (by kernel_rfl) (by kernel_rfl) (by kernel_rfl) (fun _ _ _ h => h) (Or.inl ⟨by rfl, ?hyb2⟩) hHeld ?restb2
          case hyb2 => (intro w' hSw; (try dsimp only at hSw); go_simp <;> with_reducible rfl)
          refine wpAnyH_take (i := 3) (v := ?vb3) rfl (by kernel_rfl) (by kernel_rfl) (by kernel_rfl) (fun _ _ _ h => h) (Or.inl ⟨by rfl, ?hyb3⟩) hHeld ?restb3
          case hyb3 => (intro w' hSw; (try dsimp only at hSw); go_simp <;> with_reducible rfl)
          refine wpAnyH_take (i := 4) (v := ?vb4) rfl (by kernel_rfl) (by kernel_rfl) (by kernel_rfl) (fun _ _ _ h => h) (Or.inl ⟨by rfl, ?hyb4⟩) hHeld ?restb4
          case hyb4 => (intro w' hSw; (try dsimp only at hSw); go_simp <;> with_reducible rfl)
          refine wpAnyH_take (i := 5) (v := ?vb5) rfl (by kernel_rfl) (by kernel_rfl) (by kernel_rfl) (fun _ _ _ h => h) (Or.inl ⟨by rfl, ?hyb5⟩) hHeld ?restb5
          case hyb5 => (intro w' hSw; (try dsimp only at hSw); go_simp <;> with_reducible rfl)
          refine wpAnyH_take (i := 6) (v := ?vb6) rfl (by kernel_rfl) (by kernel_rfl) (by kernel_rfl) (fun _ _ _ h => h) (Or.inl ⟨by rfl, ?hyb6⟩) hHeld ?restb6
          case hyb6 => (intro w' hSw; (try dsimp only at hSw); go_simp <;> with_reducible rfl)
          refine wpAnyH_take (i := 8) (v := ?vb8) rfl (by kernel_rfl) (by kernel_rfl) (by kernel_rfl) (fun _ _ _ h => h) (Or.inl ⟨by rfl, ?hyb8⟩) hHeld ?restb8
          case hyb8 => (intro w' hSw; (try dsimp only at hSw); go_simp <;> with_reducible rfl)
          refine wpAnyH_ready (rs := [7]) (by kernel_rfl) (by simp) ?_
          refine AllReadyH.cons (o := _) rfl (fun K hK => ?_) AllReadyH.nil
          go_simp
          refine (implFact_is kd sa sb _ f HF.out.symm).mono ?_
          rintro e w6 ⟨rfl, hb60⟩
          have hb6 : Below w5.heap.size w5 w6 := (Below.refl w5.heap.size w5).drew.trans hb60
          clear hb60
          refine hK.out _ _ ⟨(hb6.cell (p := ⟨w.heap.size, 0, none⟩) Gw5.out.size).trans g0w5, (hb6.cell (p := ⟨w1.heap.size, 0, none⟩) Pw5.out.size).trans p0w5, (hb6.cell (p := ⟨b7, off + k * 6 + 1, none⟩) hb7w5).trans d1w5, (hb6.cell (p := ⟨b7, off + k * 6 + 2, none⟩) hb7w5).trans d2w5, (hb6.cell (p := ⟨b7, off + k * 6 + 3, none⟩) hb7w5).trans d3w5⟩ (fun hHeld6 => ?_)
          clear hK K hHeld
          refine wpAnyH_take (i := 9) (v := ?vb9) rfl (by kernel_rfl) (by kernel_rfl) (by kernel_rfl) (fun _ _ _ h => h) (Or.inl ⟨by rfl, ?hyb9⟩) hHeld6 ?restb9
          case hyb9 => (intro w' hSw; (try dsimp only at hSw); go_simp <;> with_reducible rfl)
          refine wpAnyH_take (i := 10) (v := ?vb10) rfl (by kernel_rfl) (by kernel_rfl) (by kernel_rfl) (fun _ _ _ h => h) (Or.inl ⟨by rfl, ?hyb10⟩) hHeld6 ?restb10
          case hyb10 => (intro w' hSw; (try dsimp only at hSw); go_simp <;> with_reducible rfl)
          have ckw6 := (hb6.cell (p := ⟨w.heap.size + 1, k, none⟩) Xw5.out.size).trans ckw5
          have fkw6 := (hb6.frozen (p := ⟨w.heap.size + 1, k, none⟩) Xw5.out.size).trans fkw5
          refine wpAnyH_ready (rs := [11]) (by kernel_rfl) (by simp) ?_
          refine AllReadyH.cons (o := _) rfl (fun K hK => ?_) AllReadyH.nil
          go_simp
          refine hK.out _ _ ⟨(World.cell?_setCell_far _ _ _ _ (by simp only; omega)).trans hHeld6.1, (World.cell?_setCell_far _ _ _ _ (by simp only; omega)).trans hHeld6.2.1, (World.cell?_setCell_far _ _ _ _ (by simp only; omega)).trans hHeld6.2.2.1, (World.cell?_setCell_far _ _ _ _ (by simp only; omega)).trans hHeld6.2.2.2.1, (World.cell?_setCell_far _ _ _ _ (by simp only; omega)).trans hHeld6.2.2.2.2⟩ (fun hHeld7 => ?_)
          refine wpAnyH_done (by kernel_rfl) ?_ _
          refine NoOut.normal ?_
          clear hHeld6 hHeld7 hK K
          gi_wp2
          have hB6 : Below w.heap.size w w6 := hB5.trans (hb6.mono hB5.size)
          have Z6 := hb6.size
          refine ⟨((K5.out.trans (keeps_below hb6)).trans (KeepsOthers.setCell _ _ _)).from _, S5.out.trans (Same2.trans (B := w6) ⟨hb6.block _ (by omega), hb6.block _ (by omega)⟩ ⟨sameB_set (by simp only; omega), sameB_set (by simp only; omega)⟩), ⟨HL.out, (Gw5.out.later hb6).other (a := ⟨w.heap.size + 1, k, none⟩) (by simp only; omega) _, (Pw5.out.later hb6).other (a := ⟨w.heap.size + 1, k, none⟩) (by simp only; omega) _, ?_, by have h : ∀ (W : World) a u, (W.setCell a u).heap.size = W.heap.size := fun W a u => (by simp [World.setCell]); rw [h]; omega⟩, hB6.setCell (p := ⟨w.heap.size + 1, k, none⟩) (by simp only; omega) _⟩
          rw [HSC.out, List.map_set]
          exact (Xw5.out.later hb6).set k _
  case done =>
    rintro D ys W hD rfl ⟨hI, hB⟩ hK
    have p0 := hI.wid.c 0 rfl
    have hW0 := hI.cnt
    rw [rowOf_all, ← wdOf_all, List.length_reverse] at hW0
    have hbg := wdAt_big HE.out HRO.out.rng (by rw [List.length_reverse]; exact hRl) (t := R.length) (by rw [List.length_reverse]; exact Nat.le_refl _)
    have hwl := wdAt_len gs R.reverse R.length
    have HWW := HW
    generalize wdAt gs R.reverse R.length = wd at hW0 hbg hwl HWW
    have hM := maxI_any (some ⟨w.heap.size + 1, 0, none⟩) ts.length wd W (by omega) (by omega) (fun j hj => (hbg j hj).1) (bx_in hW0)
    rw [show wd.length = ts.length by omega] at hM
    have HM := hid hM
    clear hM hwl hbg hW0
    gi_wp2_with fail
    refine ⟨trivial, ?_⟩
    refine (callsIn_wide.2 HM.out).mono ?_
    rintro e w9 ⟨rfl, hw9⟩
    rw [hw9]
    clear hw9 w9
    gi_wp2
    refine ⟨by simp, .inl ⟨_, _, rfl, run_takeDeferred hK, ?_⟩⟩
    refine ⟨.int .i64 (maxL wd), ?_, by rw [HGS.out.symm, HWW.out], hB.trans (belowK_b (w := W4) (by omega) _ D _ _ hD hK rfl rfl)⟩
    simp [results, Tryz.f23, go_sem]
  case stop =>
    rintro D c pre W _ _ h _
    exact h.elim
end
section
open Go.RowKit

/-- What MeaningOf answers. -/
def meanR (gs : List PNode) (k v : Int) : List (Int × Int) × Bool :=
  if codeG gs = 0 ∧ 0 ≤ k ∧ k < (gs.length : Int) ∧ valB v = true ∧ widP gs ≤ 100000 then sortR (meanG gs k.toNat v) else ([], false)
theorem sortE_perm (l : List (Int × Int)) : (sortE l).Perm l := List.mergeSort_perm _ _
theorem sortE_same {l r : List (Int × Int)} (h : l.Perm r) : sortE l = sortE r := sorted_one _ _ ((sortE_perm l).trans (h.trans (sortE_perm r).symm)) (sortE_pair l) (sortE_pair r)
theorem sortR_same {l r : List (Int × Int)} (h : l.Perm r) : sortR l = sortR r := by unfold sortR; rw [h.length_eq, sortE_same h]
theorem good_sts {gs : List PNode} (h : brk gs 2 = false) : GoodSts gs := fun k hk => by
  have := brk_at h hk
  simp only [prule, Int.toNat_natCast] at this
  simpa using this
set_option maxRecDepth 10000 in
set_option maxHeartbeats 4000000 in
theorem implMean_is (ao : Option Addr) (cap : Nat) (ts : List LNode) (k v : Int) (ea : Nat → Addr) (w : World) (hC : Roomy ts cap) (hE : Errs w ea) (hz : DIn dNode w.heap.size w ao ts) :
    Calls Tryz.prog 10 #[.slice ao ts.length cap, .int .i64 k, .int .i64 v] w (AnsEB w (meanR (ts.map valNode) k v)) := by
  have hcon := goodGraph_is ao cap ts ea w hC hE hz
  have HZ := hid hz
  have HFi := hid hC.fitN
  have hgl : (ts.map valNode).length = ts.length := val_len ts
  clear hz hE hC
  by_cases h0 : codeG (ts.map valNode) = 0
  · obtain ⟨hm, hbk, hor⟩ := codeG_zero h0
    have HED := hid (edges_of (by omega) (hbk 4 (by omega)))
    have HOR := hid hor
    have HGS := hid (good_sts (hbk 2 (by omega)))
    have h1 : 1 ≤ ts.length := by rw [val_len] at hm; omega
    rw [decide_eq_true h0] at hcon
    have H0 := hid h0
    have HGL := hid hgl
    clear h0 hm hbk hor hgl
    by_cases hk1 : k < 0
    · have HV : Hid (meanR (ts.map valNode) k v = ([], false)) := if_neg (by omega)
      go_enter Tryz.func10, Tryz.ntmps10
      go_wp2_with fail
      refine hcon.mono ?_
      rintro e w1 ⟨rfl, hb1⟩
      have hB1 : Below w.heap.size w w1 := hb1
      clear hb1
      go_wp2
      rw [HV.out]
      refine bodyPost_ret (v := .tuple #[.slice none 0 0, .bool false]) (by simp [results, Tryz.results10, go_sem]) rfl ?_
      exact ⟨⟨none, 0, rfl, Kind.Fresh.nil _ _ _ _ _ _⟩, hB1⟩
    · have hk1' : 0 ≤ k := by omega
      by_cases hk2 : (ts.length : Int) ≤ k
      · have HV : Hid (meanR (ts.map valNode) k v = ([], false)) := if_neg (by have := HGL.out; omega)
        go_enter Tryz.func10, Tryz.ntmps10
        go_wp2_with fail
        refine hcon.mono ?_
        rintro e w1 ⟨rfl, hb1⟩
        have hB1 : Below w.heap.size w w1 := hb1
        clear hb1
        go_wp2
        rw [HV.out]
        refine bodyPost_ret (v := .tuple #[.slice none 0 0, .bool false]) (by simp [results, Tryz.results10, go_sem]) rfl ?_
        exact ⟨⟨none, 0, rfl, Kind.Fresh.nil _ _ _ _ _ _⟩, hB1⟩
      · have hk2' : k < (ts.length : Int) := by omega
        cases hv : valB v with
        | false =>
          have HV : Hid (meanR (ts.map valNode) k v = ([], false)) := if_neg (by rw [hv]; simp)
          go_enter Tryz.func10, Tryz.ntmps10
          go_wp2_with fail
          refine hcon.mono ?_
          rintro e w1 ⟨rfl, hb1⟩
          have hB1 : Below w.heap.size w w1 := hb1
          clear hb1
          go_wp2_with fail
          refine (isValue_is v _ false hv).mono ?_
          rintro e w2 ⟨rfl, rfl⟩
          dsimp only
          go_wp2
          rw [HV.out]
          refine bodyPost_ret (v := .tuple #[.slice none 0 0, .bool false]) (by simp [results, Tryz.results10, go_sem]) rfl ?_
          exact ⟨⟨none, 0, rfl, Kind.Fresh.nil _ _ _ _ _ _⟩, hB1⟩
        | true =>
          by_cases hw : 100000 < widP (ts.map valNode)
          · have HV : Hid (meanR (ts.map valNode) k v = ([], false)) := if_neg (by omega)
            have hw' : decide (100000 < widP (ts.map valNode)) = true := by simpa using hw
            have HVV := hid hv
            go_enter Tryz.func10, Tryz.ntmps10
            go_wp2_with fail
            refine hcon.mono ?_
            rintro e w1 ⟨rfl, hb1⟩
            have hB1 : Below w.heap.size w w1 := hb1
            clear hb1
            go_wp2_with fail
            refine (isValue_is v _ true HVV.out).mono ?_
            rintro e w2 ⟨rfl, rfl⟩
            dsimp only
            go_wp2_with fail
            refine (widestIn_is ao cap ts w2 HFi.out (by omega) HED.out (HZ.out.later dNode_ok hB1)).mono ?_
            rintro e w3 ⟨rfl, hb3⟩
            have hB3 := hB1.trans (hb3.mono hB1.size)
            clear hb3
            dsimp only
            go_wp2
            rw [HV.out]
            refine bodyPost_ret (v := .tuple #[.slice none 0 0, .bool false]) (by simp [results, Tryz.results10, go_sem]) rfl ?_
            exact ⟨⟨none, 0, rfl, Kind.Fresh.nil _ _ _ _ _ _⟩, hB3⟩
          · have HV : Hid (meanR (ts.map valNode) k v = sortR (meanG (ts.map valNode) k.toNat v)) := if_pos ⟨H0.out, hk1', by rw [HGL.out]; exact hk2', hv, by omega⟩
            have hw' : decide (100000 < widP (ts.map valNode)) = false := by simpa using hw
            have HVV := hid hv
            obtain ⟨n, rfl⟩ : ∃ n : Nat, k = (n : Int) := ⟨k.toNat, by omega⟩
            rw [Int.toNat_natCast] at HV
            have HWW : Hid (widP (ts.map valNode) ≤ 100000) := by rw [Hid]; omega
            have hnl : n < ts.length := by omega
            have HPM := hid (sortR_same (emit_perm (orderP_ordd HOR.out) HED.out (k := n) (by rw [HGL.out]; exact hnl) v))
            have HML := hid (Int.le_trans (mean_len (orderP_ordd HOR.out) HED.out HGS.out _ n v (by rw [HGL.out]; exact hnl) (Nat.le_refl _)) (Int.le_trans (wdP_le (by rw [HGL.out]; exact hnl)) HWW.out))
            have HPL := hid ((emit_perm (orderP_ordd HOR.out) HED.out (k := n) (by rw [HGL.out]; exact hnl) v).length_eq)
            rw [← HPM.out] at HV
            go_enter Tryz.func10, Tryz.ntmps10
            go_wp2_with fail
            refine hcon.mono ?_
            rintro e w1 ⟨rfl, hb1⟩
            have hB1 : Below w.heap.size w w1 := hb1
            clear hb1
            go_wp2_with fail
            refine (isValue_is v _ true HVV.out).mono ?_
            rintro e w2 ⟨rfl, rfl⟩
            dsimp only
            go_wp2_with fail
            refine (widestIn_is ao cap ts w2 HFi.out (by omega) HED.out (HZ.out.later dNode_ok hB1)).mono ?_
            rintro e w3 ⟨rfl, hb3⟩
            have hB3 := hB1.trans (hb3.mono hB1.size)
            clear hb3
            dsimp only
            go_wp2_with fail
            refine (emitsOf_is ao cap ts w3 n v HED.out HOR.out HGS.out hnl HVV.out HWW.out HFi.out (HZ.out.later dNode_ok hB3)).mono ?_
            rintro e w4 ⟨⟨go4, gc4, rfl, hno4, hF4⟩, hb4⟩
            have HF4 := hid hF4.in
            have hB4 := hB3.trans (hb4.mono hB3.size)
            have hl4 : (emitP (ts.map valNode) n v).length ≤ 1048576 := by
              have h1 := HML.out
              have h2 := HPL.out
              unfold emitP
              omega
            have HV' : Hid (meanR (ts.map valNode) (n : Int) v = sortR (emitP (ts.map valNode) n v)) := HV.out
            clear hF4 hb4 HML HPL HPM HV
            generalize emitP (ts.map valNode) n v = E at HF4 hl4 HV'
            dsimp only
            go_wp2_with fail
            refine (implSort_any go4 gc4 E w4 hl4 HF4.out).mono ?_
            rw [← HV'.out]
            rintro e w5 ⟨⟨o5, c5, rfl, hF5⟩, hb5⟩
            have hB5 := hB4.trans (hb5.mono hB4.size)
            have HF5 := hid hF5
            clear hF5 hb5
            dsimp only
            go_wp2
            refine bodyPost_ret (v := .tuple #[.slice o5 (meanR (ts.map valNode) (n : Int) v).1.length c5, .bool (meanR (ts.map valNode) (n : Int) v).2]) (by simp [results, Tryz.results10, go_sem]) rfl ?_
            exact ⟨⟨o5, c5, rfl, HF5.out.wide hB4.size (Nat.le_refl _)⟩, hB5⟩
  · have HV : Hid (meanR (ts.map valNode) k v = ([], false)) := if_neg fun h => h0 h.1
    rw [decide_eq_false h0] at hcon
    clear h0
    go_enter Tryz.func10, Tryz.ntmps10
    go_wp2_with fail
    refine hcon.mono ?_
    rintro e w1 ⟨rfl, hb1⟩
    have hB1 : Below w.heap.size w w1 := hb1
    clear hb1
    go_wp2
    rw [HV.out]
    refine bodyPost_ret (v := .tuple #[.slice none 0 0, .bool false]) (by simp [results, Tryz.results10, go_sem]) rfl ?_
    exact ⟨⟨none, 0, rfl, Kind.Fresh.nil _ _ _ _ _ _⟩, hB1⟩
set_option maxRecDepth 10000 in
set_option maxHeartbeats 4000000 in
theorem specMean_is (ao : Option Addr) (cap : Nat) (ts : List LNode) (k v : Int) (w : World) (hC : Roomy ts cap) (hz : DIn dNode w.heap.size w ao ts) :
    Calls Tryz.prog 11 #[.slice ao ts.length cap, .int .i64 k, .int .i64 v] w (AnsEB w (meanR (ts.map valNode) k v)) := by
  have hcon := specCheck_is ao cap ts w hC hz
  have HZ := hid hz
  have hgl : (ts.map valNode).length = ts.length := val_len ts
  clear hz hC
  by_cases h0 : codeG (ts.map valNode) = 0
  · obtain ⟨hm, hbk, hor⟩ := codeG_zero h0
    have HED := hid (edges_of (by omega) (hbk 4 (by omega)))
    have HOR := hid hor
    have HGS := hid (good_sts (hbk 2 (by omega)))
    have h1 : 1 ≤ ts.length := by rw [val_len] at hm; omega
    have h10 : ts.length ≤ 10 := by rw [val_len] at hm; omega
    rw [h0] at hcon
    have H0 := hid h0
    have HGL := hid hgl
    clear h0 hm hbk hor hgl
    by_cases hk : 0 ≤ k ∧ k < (ts.length : Int)
    · have HIN : Hid ((decide (0 ≤ k) && decide (k ≤ (ts.length : Int) - 1)) = true) := by rw [Hid]; simp; omega
      have HK := hid hk
      clear hk
      cases hv : valB v with
      | false =>
        have HV : Hid (meanR (ts.map valNode) k v = ([], false)) := if_neg (by rw [hv]; simp)
        have HVV := hid hv
        go_enter Tryz.func11, Tryz.ntmps11
        go_wp2_with fail
        refine hcon.mono ?_
        rintro e w1 ⟨rfl, hb1⟩
        have hB1 : Below w.heap.size w w1 := hb1
        clear hb1
        go_wp2_with fail
        refine (l1In_is k 0 ((ts.length : Int) - 1) _ true HIN.out).mono ?_
        rintro e w2 ⟨rfl, rfl⟩
        dsimp only
        go_wp2_with fail
        refine (l7Value_is v _ false HVV.out).mono ?_
        rintro e w2 ⟨rfl, rfl⟩
        dsimp only
        go_wp2
        rw [HV.out]
        refine bodyPost_ret (v := .tuple #[.slice none 0 0, .bool false]) (by simp [results, Tryz.results11, go_sem]) rfl ?_
        exact ⟨⟨none, 0, rfl, Kind.Fresh.nil _ _ _ _ _ _⟩, hB1⟩
      | true =>
        have HVV := hid hv
        by_cases hw : 100000 < widP (ts.map valNode)
        · have HV : Hid (meanR (ts.map valNode) k v = ([], false)) := if_neg (by omega)
          have hw' : decide (100000 < widP (ts.map valNode)) = true := by simpa using hw
          go_enter Tryz.func11, Tryz.ntmps11
          go_wp2_with fail
          refine hcon.mono ?_
          rintro e w1 ⟨rfl, hb1⟩
          have hB1 : Below w.heap.size w w1 := hb1
          clear hb1
          go_wp2_with fail
          refine (l1In_is k 0 ((ts.length : Int) - 1) _ true HIN.out).mono ?_
          rintro e w2 ⟨rfl, rfl⟩
          dsimp only
          go_wp2_with fail
          refine (l7Value_is v _ true HVV.out).mono ?_
          rintro e w2 ⟨rfl, rfl⟩
          dsimp only
          go_wp2_with fail
          refine (l11Widest_is ao cap ts w2 HED.out HOR.out (HZ.out.later dNode_ok hB1)).mono ?_
          rintro e w3 ⟨rfl, hb3⟩
          have hB3 := hB1.trans (hb3.mono hB1.size)
          clear hb3
          dsimp only
          go_wp2
          rw [HV.out]
          refine bodyPost_ret (v := .tuple #[.slice none 0 0, .bool false]) (by simp [results, Tryz.results11, go_sem]) rfl ?_
          exact ⟨⟨none, 0, rfl, Kind.Fresh.nil _ _ _ _ _ _⟩, hB3⟩
        · have HV : Hid (meanR (ts.map valNode) k v = sortR (meanG (ts.map valNode) k.toNat v)) := if_pos ⟨H0.out, HK.out.1, by rw [HGL.out]; exact HK.out.2, hv, by omega⟩
          have hw' : decide (100000 < widP (ts.map valNode)) = false := by simpa using hw
          obtain ⟨n, rfl⟩ : ∃ n : Nat, k = (n : Int) := ⟨k.toNat, by have := HK.out; omega⟩
          rw [Int.toNat_natCast] at HV
          have hnl : n < ts.length := by have := HK.out; omega
          go_enter Tryz.func11, Tryz.ntmps11
          go_wp2_with fail
          refine hcon.mono ?_
          rintro e w1 ⟨rfl, hb1⟩
          have hB1 : Below w.heap.size w w1 := hb1
          clear hb1
          go_wp2_with fail
          refine (l1In_is (n : Int) 0 ((ts.length : Int) - 1) _ true HIN.out).mono ?_
          rintro e w2 ⟨rfl, rfl⟩
          dsimp only
          go_wp2_with fail
          refine (l7Value_is v _ true HVV.out).mono ?_
          rintro e w2 ⟨rfl, rfl⟩
          dsimp only
          go_wp2_with fail
          refine (l11Widest_is ao cap ts w2 HED.out HOR.out (HZ.out.later dNode_ok hB1)).mono ?_
          rintro e w3 ⟨rfl, hb3⟩
          have hB3 := hB1.trans (hb3.mono hB1.size)
          clear hb3
          dsimp only
          go_wp2_with fail
          refine (l11Mean_is ao cap ts _ (orderP_ordd HOR.out) HED.out HGS.out n v w3 hnl HVV.out (HZ.out.later dNode_ok hB3)).mono ?_
          rintro e w4 ⟨go4, gc4, r, rfl, hno4, hF4, hT4, hl4, hb4⟩
          have HF4 := hid hF4.in
          have hB4 := hB3.trans (hb4.mono hB3.size)
          have HT4 := hid hT4
          clear hF4 hb4 hT4
          dsimp only
          by_cases h4 : 400 < r.length
          · have HVF : Hid (meanR (ts.map valNode) (n : Int) v = ([], false)) := by
              rw [Hid, HV.out, sortR, if_pos]
              rcases HT4.out with h | ⟨_, h⟩
              · rw [List.nil_append] at h; rw [← h]; exact h4
              · simp at h; omega
            have h4' : decide ((400 : Int) < (r.length : Int)) = true := by simp; omega
            clear h4
            go_wp2
            rw [HVF.out]
            refine bodyPost_ret (v := .tuple #[.slice none 0 0, .bool false]) (by simp [results, Tryz.results11, go_sem]) rfl ?_
            exact ⟨⟨none, 0, rfl, Kind.Fresh.nil _ _ _ _ _ _⟩, hB4⟩
          · have HVF : Hid (meanR (ts.map valNode) (n : Int) v = (sortE r, true)) := by
              rcases HT4.out with h | ⟨h, _⟩
              · rw [List.nil_append] at h; rw [Hid, HV.out, sortR, ← h, if_neg h4]
              · omega
            have h4' : decide ((400 : Int) < (r.length : Int)) = false := by simp; omega
            clear h4
            go_wp2_with fail
            refine (l11Sort_any go4 gc4 r w4 (by omega) HF4.out hno4).mono ?_
            rintro e w5 ⟨o5, c5, rfl, hF5, hb5⟩
            have hB5 := hB4.trans (hb5.mono hB4.size)
            have HF5 := hid hF5
            clear hF5 hb5
            dsimp only
            go_wp2
            rw [HVF.out]
            refine bodyPost_ret (v := .tuple #[.slice o5 (sortE r).length c5, .bool true]) (by simp [results, Tryz.results11, go_sem]) rfl ?_
            exact ⟨⟨o5, c5, rfl, HF5.out.wide hB4.size (Nat.le_refl _)⟩, hB5⟩
    · have HV : Hid (meanR (ts.map valNode) k v = ([], false)) := if_neg (by have := HGL.out; omega)
      have HIN : Hid ((decide (0 ≤ k) && decide (k ≤ (ts.length : Int) - 1)) = false) := by rw [Hid]; simp; omega
      clear hk
      go_enter Tryz.func11, Tryz.ntmps11
      go_wp2_with fail
      refine hcon.mono ?_
      rintro e w1 ⟨rfl, hb1⟩
      have hB1 : Below w.heap.size w w1 := hb1
      clear hb1
      go_wp2_with fail
      refine (l1In_is k 0 ((ts.length : Int) - 1) _ false HIN.out).mono ?_
      rintro e w2 ⟨rfl, rfl⟩
      dsimp only
      go_wp2
      rw [HV.out]
      refine bodyPost_ret (v := .tuple #[.slice none 0 0, .bool false]) (by simp [results, Tryz.results11, go_sem]) rfl ?_
      exact ⟨⟨none, 0, rfl, Kind.Fresh.nil _ _ _ _ _ _⟩, hB1⟩
  · have HV : Hid (meanR (ts.map valNode) k v = ([], false)) := if_neg fun h => h0 h.1
    have hc0 : ((codeG (ts.map valNode) : Nat) : Int) ≠ 0 := by omega
    have hc1 : (((codeG (ts.map valNode) : Nat) : Int) == 0) = false := by simp; omega
    generalize codeG (ts.map valNode) = cd at hcon hc0 hc1
    clear h0
    go_enter Tryz.func11, Tryz.ntmps11
    go_wp2_with fail
    refine hcon.mono ?_
    rintro e w1 ⟨rfl, hb1⟩
    have hB1 : Below w.heap.size w w1 := hb1
    clear hb1
    go_wp2
    rw [HV.out]
    refine bodyPost_ret (v := .tuple #[.slice none 0 0, .bool false]) (by simp [results, Tryz.results11, go_sem]) rfl ?_
    exact ⟨⟨none, 0, rfl, Kind.Fresh.nil _ _ _ _ _ _⟩, hB1⟩
end
section
open Go.RowKit

/-- The places of the first t of an order are told. -/
def PlaceAt (q : List Int) (t : Nat) (P : List Int) : Prop := ∀ i, i < t → ∀ j : Nat, el q i = (j : Int) → el P j = (i : Int)
theorem PlaceAt.zero (q P : List Int) : PlaceAt q 0 P := fun i hi => by omega
theorem PlaceAt.step {q P : List Int} {t : Nat} (h : PlaceAt q t P) (hn : q.Nodup) (ht : t < q.length) {j : Nat} (hj : el q t = (j : Int)) (hl : j < P.length) : PlaceAt q (t + 1) (P.set j (t : Int)) := fun i hi j' hj' => by
  rcases Nat.lt_succ_iff_lt_or_eq.1 hi with h1 | rfl
  · have hne : j' ≠ j := fun e => by
      subst e
      rw [← hj, el_at (show i < q.length by omega), el_at ht] at hj'
      exact List.pairwise_iff_getElem.1 hn i t (by omega) ht h1 hj'
    have h2 := h i h1 j' hj'
    rw [← h2]
    simp [el, Ne.symm hne]
  · rw [hj] at hj'
    have : j = j' := by omega
    subst this
    simp [el, hl]
theorem PlaceAt.of {gs : List PNode} {q P : List Int} (hO : Ordd gs q) (h : PlaceAt q q.length P) {k : Nat} (hk : k < gs.length) : el P k = ((q.idxOf (k : Int) : Nat) : Int) := by
  obtain ⟨h1, h2⟩ := hO.at hk
  exact h _ h1 k h2
/-- Who is led to stands behind. -/
theorem place_next {gs : List PNode} {q : List Int} (hO : Ordd gs q) (hE : EdgesIn gs) {k : Nat} (hk : k < gs.length) {y : Int} (hy : y ∈ nxP gs k) : q.idxOf (k : Int) < q.idxOf y := by
  obtain ⟨h1, h2⟩ := hO.at hk
  exact idx_drop hO.nodup (hO.next hE h1 h2 y hy)
theorem order_false {gs : List PNode} {q : List Int} (h : orderR gs = (q, false)) : codeG gs ≠ 0 := by
  unfold orderR at h
  split at h
  · simp at h
  · assumption
theorem order_true {gs : List PNode} {q : List Int} (h : orderR gs = (q, true)) : codeG gs = 0 ∧ q = orderP gs := by
  unfold orderR at h
  split at h
  · rename_i h0; simp at h; exact ⟨h0, h.symm⟩
  · simp at h
theorem mean_wide {gs : List PNode} {k v : Int} {m : List (Int × Int)} (h : meanR gs k v = (m, true)) : (m.length : Int) ≤ widP gs := by
  unfold meanR at h
  split at h
  · rename_i hc
    obtain ⟨h0, hk0, hk1, _, _⟩ := hc
    obtain ⟨hm, hbk, hor⟩ := codeG_zero h0
    have hE := edges_of (by omega) (hbk 4 (by omega))
    have hS := good_sts (hbk 2 (by omega))
    have hO := orderP_ordd hor
    obtain ⟨n, rfl⟩ : ∃ n : Nat, k = (n : Int) := ⟨k.toNat, by omega⟩
    have hn : n < gs.length := by omega
    rw [Int.toNat_natCast] at h
    unfold sortR at h
    split at h
    · simp at h
    · simp at h
      rw [← h, sortE_len]
      exact Int.le_trans (mean_len hO hE hS _ n v hn (Nat.le_refl _)) (wdP_le hn)
  · simp at h
end
section
open Go.RowKit Go.Extern.Stop Go.Stop Go.Extern

theorem Tryz.isTypeOf (v : Value) (w : World) : (Extern.ReflectliteType.typeOf #[.iface 153 v]).run Tryz.prog w = .ok (.iface 119 (.agg #[.pointer (some ⟨7, 153, none⟩)])) w := by kernel_rfl
theorem Tryz.hasCmp : (Extern.find Tryz.f149).isSome = true := by kernel_rfl
/-- The entry that tells whether a type can be compared. -/
noncomputable def cmpX : Array Value → Sem Value := (Extern.find Tryz.f149).get Tryz.hasCmp
theorem cmpX_find : Extern.find Tryz.f149 = some cmpX := (Option.some_get _).symm
theorem Tryz.isComparable (w : World) : (cmpX #[.agg #[.pointer (some ⟨7, 153, none⟩)]]).run Tryz.prog w = .ok (.bool true) w := by kernel_rfl
theorem Tryz.isMethodComparable (v : Value) (w : World) : (Go.method 289 119 v "Comparable").run Tryz.prog w = .ok (149, v) w := by kernel_rfl
theorem Tryz.isComp : (Tryz.prog.info? 153).map (·.comparable) = some true := by kernel_rfl
theorem Tryz.isSize : (Tryz.prog.info? 177).map (·.size) = some 1 := by kernel_rfl
theorem Tryz.noIsE (v : Value) (xT : TypeId) (w : World) : (Instr.typeAssert (.iface 153 v) xT 121 true).run Tryz.prog w = .ok (.tuple #[.nilIface, .bool false]) w := run_typeAssert_lacksB Tryz.underlying121 (by kernel_rfl) (by kernel_rfl) v xT w
theorem Tryz.noUnwrapE (v : Value) (xT : TypeId) (w : World) : (Instr.typeAssert (.iface 153 v) xT 124 true).run Tryz.prog w = .ok (.tuple #[.nilIface, .bool false]) w := run_typeAssert_lacksB Tryz.underlying124 (by kernel_rfl) (by kernel_rfl) v xT w
theorem Tryz.noUnwrapsE (v : Value) (xT : TypeId) (w : World) : (Instr.typeAssert (.iface 153 v) xT 126 true).run Tryz.prog w = .ok (.tuple #[.nilIface, .bool false]) w := run_typeAssert_lacksB Tryz.underlying126 (by kernel_rfl) (by kernel_rfl) v xT w
theorem Tryz.noIsW (v : Value) (xT : TypeId) (w : World) : (Instr.typeAssert (.iface 77 v) xT 121 true).run Tryz.prog w = .ok (.tuple #[.nilIface, .bool false]) w := run_typeAssert_lacksB Tryz.underlying121 (by kernel_rfl) (by kernel_rfl) v xT w
theorem Tryz.hasUnwrapW (v : Value) (xT : TypeId) (w : World) : (Instr.typeAssert (.iface 77 v) xT 124 true).run Tryz.prog w = .ok (.tuple #[.iface 77 v, .bool true]) w := run_typeAssert_hasB Tryz.underlying124 (by kernel_rfl) v xT w
theorem Tryz.methodUnwrap (v : Value) (w : World) : (Go.method 289 77 v "Unwrap").run Tryz.prog w = .ok (145, v) w := by kernel_rfl
set_option maxHeartbeats 1000000 in
theorem unwrap_is (n : Int) (a : Addr) (w : World) : Calls Tryz.prog 145 #[.agg #[.int .i64 n, errV a]] w fun e w' => e = .returned (errV a) ∧ w' = w.alloc (.cells #[.int .i64 n, errV a] 77) := by
  go_enter Tryz.func145, Tryz.ntmps145
  go_wp2
  go_ret
  exact ⟨rfl, rfl⟩
set_option maxHeartbeats 4000000 in
theorem is_same (a : Addr) (w : World) :
    Calls Tryz.prog 46 #[errV a, errV a] w fun e w' => e = .returned (.bool true) ∧ Below w.heap.size w w' := by
  obtain ⟨i, hi, hcmp⟩ := Option.map_eq_some_iff.1 Tryz.isComp
  obtain ⟨j, hj, hjs⟩ := Option.map_eq_some_iff.1 Tryz.isSize
  have h8 := @run_callFunc_extern Tryz.prog 69 _ Extern.ReflectliteType.typeOf Tryz.func69 (by kernel_rfl) (by kernel_rfl) (by kernel_rfl) (by kernel_rfl)
  have h32 := @run_callFunc_extern Tryz.prog 149 _ cmpX Tryz.func149 (by kernel_rfl) (by kernel_rfl) (by kernel_rfl) cmpX_find
  have tT := Tryz.isTypeOf
  have cT := Tryz.isComparable
  have mR := Tryz.isMethodComparable
  have heq := run_eql_iface_ptr_same (P := Tryz.prog) w a Tryz.underlying53 Tryz.underlying153 hi hcmp hj
  go_enter Tryz.func46, Tryz.ntmps46
  go_wp2
  refine wp_loop_rounds 1 ?_
  rw [rounds_succ]
  go_wp2
  go_ret
  exact ⟨rfl, Below.refl _ _⟩
set_option maxHeartbeats 4000000 in
theorem is_other (a b : Addr) (ca cb : Array Value) (ta tb : TypeId) (w : World) (hne : a ≠ b) (ha : w.heap[a.block]? = some (.cells ca ta (0, 0))) (hb : w.heap[b.block]? = some (.cells cb tb (0, 0))) :
    Calls Tryz.prog 46 #[errV a, errV b] w fun e w' => e = .returned (.bool false) ∧ Below w.heap.size w w' := by
  obtain ⟨i, hi, hcmp⟩ := Option.map_eq_some_iff.1 Tryz.isComp
  obtain ⟨j, hj, hjs⟩ := Option.map_eq_some_iff.1 Tryz.isSize
  have h8 := @run_callFunc_extern Tryz.prog 69 _ Extern.ReflectliteType.typeOf Tryz.func69 (by kernel_rfl) (by kernel_rfl) (by kernel_rfl) (by kernel_rfl)
  have h32 := @run_callFunc_extern Tryz.prog 149 _ cmpX Tryz.func149 (by kernel_rfl) (by kernel_rfl) (by kernel_rfl) cmpX_find
  have tT := Tryz.isTypeOf
  have cT := Tryz.isComparable
  have mR := Tryz.isMethodComparable
  have nE := Tryz.noIsE
  have uE := Tryz.noUnwrapE
  have vE := Tryz.noUnwrapsE
  have nW := Tryz.noIsW
  have uW := Tryz.hasUnwrapW
  have mU := Tryz.methodUnwrap
  have heq := run_eql_iface_ptr_other (P := Tryz.prog) w Tryz.underlying53 Tryz.underlying153 hi hcmp hj (by rw [hjs]; decide) hne ha hb
  go_enter Tryz.func46, Tryz.ntmps46
  go_wp2
  refine wp_loop_rounds 1 ?_
  rw [rounds_succ]
  go_wp2
  go_ret
  exact ⟨rfl, Below.refl _ _⟩
set_option maxHeartbeats 4000000 in
theorem is_at_same (n : Int) (b : Addr) (w : World) :
    Calls Tryz.prog 46 #[.iface 77 (.agg #[.int .i64 n, errV b]), errV b] w fun e w' => e = .returned (.bool true) ∧ Below w.heap.size w w' := by
  obtain ⟨i, hi, hcmp⟩ := Option.map_eq_some_iff.1 Tryz.isComp
  obtain ⟨j, hj, hjs⟩ := Option.map_eq_some_iff.1 Tryz.isSize
  have h8 := @run_callFunc_extern Tryz.prog 69 _ Extern.ReflectliteType.typeOf Tryz.func69 (by kernel_rfl) (by kernel_rfl) (by kernel_rfl) (by kernel_rfl)
  have h32 := @run_callFunc_extern Tryz.prog 149 _ cmpX Tryz.func149 (by kernel_rfl) (by kernel_rfl) (by kernel_rfl) cmpX_find
  have tT := Tryz.isTypeOf
  have cT := Tryz.isComparable
  have mR := Tryz.isMethodComparable
  have nE := Tryz.noIsE
  have uE := Tryz.noUnwrapE
  have vE := Tryz.noUnwrapsE
  have nW := Tryz.noIsW
  have uW := Tryz.hasUnwrapW
  have mU := Tryz.methodUnwrap
  have heq := run_eql_iface_ptr_same (P := Tryz.prog) (w.alloc (.cells #[.int .i64 n, errV b] 77)) b Tryz.underlying53 Tryz.underlying153 hi hcmp hj
  have hty := run_eql_iface_types (P := Tryz.prog) 77 153 (.agg #[.int .i64 n, errV b]) (.pointer (some b)) Tryz.underlying53 (by decide) w
  go_enter Tryz.func46, Tryz.ntmps46
  go_wp2
  refine wp_loop_rounds 2 ?_
  rw [rounds_succ]
  go_wp2_with (go_at_call 145; refine (unwrap_is n b _).mono ?_; rintro e w' ⟨rfl, rfl⟩)
  rw [rounds_succ]
  go_wp2
  go_ret
  exact ⟨rfl, below1 _ _⟩
set_option maxHeartbeats 4000000 in
theorem is_at_other (n : Int) (b a : Addr) (ca cb : Array Value) (ta tb : TypeId) (w : World) (hne : a ≠ b) (ha : w.heap[a.block]? = some (.cells ca ta (0, 0))) (hb : w.heap[b.block]? = some (.cells cb tb (0, 0))) :
    Calls Tryz.prog 46 #[.iface 77 (.agg #[.int .i64 n, errV a]), errV b] w fun e w' => e = .returned (.bool false) ∧ Below w.heap.size w w' := by
  obtain ⟨i, hi, hcmp⟩ := Option.map_eq_some_iff.1 Tryz.isComp
  obtain ⟨j, hj, hjs⟩ := Option.map_eq_some_iff.1 Tryz.isSize
  have h8 := @run_callFunc_extern Tryz.prog 69 _ Extern.ReflectliteType.typeOf Tryz.func69 (by kernel_rfl) (by kernel_rfl) (by kernel_rfl) (by kernel_rfl)
  have h32 := @run_callFunc_extern Tryz.prog 149 _ cmpX Tryz.func149 (by kernel_rfl) (by kernel_rfl) (by kernel_rfl) cmpX_find
  have tT := Tryz.isTypeOf
  have cT := Tryz.isComparable
  have mR := Tryz.isMethodComparable
  have nE := Tryz.noIsE
  have uE := Tryz.noUnwrapE
  have vE := Tryz.noUnwrapsE
  have nW := Tryz.noIsW
  have uW := Tryz.hasUnwrapW
  have mU := Tryz.methodUnwrap
  have hlt : ∀ (x : Addr) (c : Array Value) (t : TypeId), w.heap[x.block]? = some (.cells c t (0, 0)) → (w.alloc (.cells #[.int .i64 n, errV a] 77)).heap[x.block]? = some (.cells c t (0, 0)) := fun x c t h => ((below1 w _).block x.block (Array.getElem?_eq_some_iff.1 h).1).trans h
  have heq := run_eql_iface_ptr_other (P := Tryz.prog) (w.alloc (.cells #[.int .i64 n, errV a] 77)) Tryz.underlying53 Tryz.underlying153 hi hcmp hj (by rw [hjs]; decide) hne (hlt a ca ta ha) (hlt b cb tb hb)
  have hty := run_eql_iface_types (P := Tryz.prog) 77 153 (.agg #[.int .i64 n, errV a]) (.pointer (some b)) Tryz.underlying53 (by decide) w
  clear hlt
  go_enter Tryz.func46, Tryz.ntmps46
  go_wp2
  refine wp_loop_rounds 2 ?_
  rw [rounds_succ]
  go_wp2_with (go_at_call 145; refine (unwrap_is n a _).mono ?_; rintro e w' ⟨rfl, rfl⟩)
  rw [rounds_succ]
  go_wp2
  go_ret
  exact ⟨rfl, below1 _ _⟩
end
end Go.Proofs.YtebnapgcobcilaaGreatDoor
