/- Hubs that are good: the program. No conditions but those written. The walk of the law: it returns true. No conditions but those written. KillIn: the specification and the program. No conditions but those written. Rows of those that are woken. No conditions but those written. -/
import Derived.Test.YtdjdbcfcccbhpaaKg
import Derived.Test.YtdjdbcfcccbhpaaPKeMq
import Derived.Deep.Cut
import Derived.Test.YtdjdbcfcccbhpaaPKbAo
import Derived.Test.YtdjdbcfcccbhpaaPYbVe
import Derived.Test.YtdjdbcfcccbhpaaPVdVf
import Derived.Test.YtdjdbcfcccbhpaaPKwBx
namespace Go.Proofs.Ytdjdbcfcccbhpaa
section
open Go.RowKit

/-- Which pairs of a task and a case have been seen. -/
def seenB (l : List (Int × Int)) (i : Nat) : Bool := decide ((((i / 10 : Nat) : Int), ((i % 10 : Nat) : Int)) ∈ l)
theorem seenB_at (l : List (Int × Int)) {t c : Nat} (hc : c < 10) : seenB l (t * 10 + c) = decide (((t : Int), (c : Int)) ∈ l) := by
  unfold seenB
  rw [show (t * 10 + c) / 10 = t from by omega, show (t * 10 + c) % 10 = c from by omega]
def SeenIn (W : World) (p : Nat) (l : List (Int × Int)) : Prop := p < W.heap.size ∧ ∀ i, i < 300 → W.cell? ⟨p, i, none⟩ = some (.bool (seenB l i)) ∧ W.frozen? ⟨p, i, none⟩ = false
theorem SeenIn.keep {W W' : World} {p : Nat} {l : List (Int × Int)} (h : SeenIn W p l) (hs : W.heap.size ≤ W'.heap.size) (hb : W'.heap[p]? = W.heap[p]?) : SeenIn W' p l :=
  ⟨Nat.lt_of_lt_of_le h.1 hs, fun i hi => ⟨(World.cell?_of_block (a := ⟨p, i, none⟩) hb).trans (h.2 i hi).1, (World.frozen?_of_block (a := ⟨p, i, none⟩) hb).trans (h.2 i hi).2⟩⟩
theorem SeenIn.later {W W' : World} {p : Nat} {l : List (Int × Int)} (h : SeenIn W p l) (hb : Below W.heap.size W W') : SeenIn W' p l := h.keep hb.size (hb.block p h.1)
theorem SeenIn.set {W : World} {p t c : Nat} {l : List (Int × Int)} (h : SeenIn W p l) (_ : t < 30) (hc : c < 10) : SeenIn (W.setCell ⟨p, t * 10 + c, none⟩ (.bool true)) p (l ++ [((t : Int), (c : Int))]) := by
  refine ⟨by simpa [World.setCell] using h.1, fun i hi => ⟨?_, ?_⟩⟩
  · by_cases e : i = t * 10 + c
    · subst e
      rw [World.cell?_setCell_same' _ _ _ (by rw [(h.2 (t * 10 + c) (by omega)).1]; rfl), seenB_at _ hc]
      simp
    · rw [World.cell?_setCell_other _ _ _ _ (by simp <;> omega), (h.2 i hi).1]
      congr 2
      unfold seenB
      have : ¬ ((((i / 10 : Nat) : Int), ((i % 10 : Nat) : Int)) = ((t : Int), (c : Int))) := by
        intro h2
        simp only [Prod.mk.injEq] at h2
        omega
      rw [decide_eq_decide]
      constructor
      · intro h2; exact List.mem_append.2 (.inl h2)
      · intro h2
        rcases List.mem_append.1 h2 with h2 | h2
        · exact h2
        · exact absurd (List.mem_singleton.1 h2) this
  · rw [World.frozen?_setCell]; exact (h.2 i hi).2
theorem zero300 : Try.zeroCells74 = Array.replicate 300 (.bool false) := by kernel_rfl
theorem SeenIn.new {w : World} {p : Nat} (hp : w.heap.size = p) : SeenIn (w.alloc (.cells Try.zeroCells74 74)) p [] := by
  subst hp
  refine ⟨by simp, fun i hi => ⟨?_, by simp [go_sem]⟩⟩
  rw [World.cell?_alloc_at (hn := rfl), zero300]
  simp [hi, seenB]
theorem pairs_app (a b : List (Int × Int × Int)) : pairs (a ++ b) = pairs a ++ pairs b := by simp [pairs]
theorem pairs_take {l : List (Int × Int × Int)} {j : Nat} (h : j < l.length) : pairs (l.take (j + 1)) = pairs (l.take j) ++ [((el l j).1, (el l j).2.1)] := by rw [take_succ_el h, pairs_app]; rfl
theorem nodup_left {α : Type} {a b : List α} (h : (a ++ b).Nodup) : a.Nodup := (List.nodup_append.1 h).1
theorem nodup_snoc {α : Type} {a : List α} {x : α} (h : a.Nodup) (hx : ¬ x ∈ a) : (a ++ [x]).Nodup := by
  rw [List.nodup_append]
  refine ⟨h, by simp, ?_⟩
  intro y hy z hz e
  simp at hz
  subst e; subst hz
  exact hx hy
theorem not_nodup_snoc {α : Type} {a : List α} {x : α} (hx : x ∈ a) : ¬ (a ++ [x]).Nodup := by
  intro h
  rw [List.nodup_append] at h
  exact h.2.2 x hx x (by simp) rfl
/-- What the first channels and a part of the next hold stands ahead of all. -/
theorem pairs_ahead {ts : List LChan} {k : Nat} (hk : k < ts.length) {q : List (Int × Int × Int)} (hq : q = (el ts k).2.2.2.1.2.2 ++ (el ts k).2.2.2.2.2.2) (j : Nat) (h : (pairs (wts (ts.map valChan))).Nodup) : (pairs (wts ((ts.take k).map valChan)) ++ pairs (q.take j)).Nodup := by
  have h1 : ts.map valChan = (ts.take (k + 1)).map valChan ++ (ts.drop (k + 1)).map valChan := by rw [← List.map_append, List.take_append_drop]
  rw [h1, wts_app, pairs_app] at h
  have h2 := nodup_left h
  rw [wts_take hk, ← hq, pairs_app] at h2
  rw [← List.take_append_drop j q, pairs_app, ← List.append_assoc] at h2
  exact nodup_left h2
set_option maxRecDepth 100000 in
set_option maxHeartbeats 16000000 in
theorem implGoodH_is (ao : Option Addr) (cap : Nat) (ts : List LChan) (w : World) (x : Bool) (hl : ts.length ≤ 1048576) (ht : totChan ts ≤ 1048576) (hz : DIn dChan w.heap.size w ao ts) (hx : goodHB (ts.map valChan) = x) :
    Calls Try.prog 21 #[.agg #[.slice ao ts.length cap]] w fun e w' => e = .returned (.bool x) ∧ Below w.heap.size w w' := by
  have HX := hid hx
  have HZ := hid hz
  have hft := fits_of ht
  clear hx hz
  by_cases h8 : 8 < ts.length
  · have h8' : decide ((8 : Int) < (ts.length : Int)) = true := by simp; omega
    have HN : Hid (x = false) := by rw [Hid, ← HX.out]; exact goodHB_long (by simpa using h8)
    clear h8
    go_enter Try.func21, Try.ntmps21
    go_wp2
    go_ret
    exact ⟨ret_bool HN.out.symm, below1 _ _⟩
  have h8' : decide ((8 : Int) < (ts.length : Int)) = false := by simp; omega
  have h88 : ts.length ≤ 8 := by omega
  clear h8
  obtain ⟨V, hV⟩ : ∃ V, V = (w.alloc (.cells #[.slice ao ts.length cap] 28)).alloc (.cells Try.zeroCells74 74) := ⟨_, rfl⟩
  have hB0 : Below w.heap.size w V := by rw [hV]; exact below2 _ _ _
  have X0 : Hid (Bx V w.heap.size [.slice ao ts.length cap]) := by rw [hV]; exact Bx.alloc (Bx.new [.slice ao ts.length cap] _ rfl) _
  have S0 : Hid (SeenIn V (w.heap.size + 1) []) := by rw [hV]; exact SeenIn.new (by simp)
  have HV := hid hV
  clear hV
  go_enter Try.func21, Try.ntmps21
  go_upto_region 4 with fail
  rw [← HV.out]
  clear HV
  have x0 := X0.out.c 0 rfl
  go_wp2
  clear x0
  go_loopw [15] (fun i wr => ∃ k : Nat, k ≤ ts.length ∧ i = .int .i64 k ∧ Below w.heap.size w wr ∧ Hid (SeenIn wr (w.heap.size + 1) (pairs (wts ((ts.take k).map valChan)))) ∧ Hid (∀ j, j < k → goodP (valChan (el ts j)) = true) ∧ Hid ((pairs (wts ((ts.take k).map valChan))).Nodup)) (fun i _ => ts.length - (intOf i).toNat)
  case atStart => exact ⟨0, Nat.zero_le _, rfl, hB0, S0, fun j hj => by omega, by simp [Hid, wts, pairs]⟩
  case round =>
    clear hB0 X0 S0
    obtain ⟨k, hk, rfl, hB, hS, hno, hnd⟩ := hrel
    by_cases hlt : k < ts.length
    · obtain ⟨b0, off, rfl, hb, hc⟩ := hChan_at HZ.out.1 hlt
      have d1 := (hB.cell (p := ⟨b0, off + k * 5, none⟩) hb).trans (hc k hlt).1
      have d2 := (hB.cell (p := ⟨b0, off + k * 5 + 1, none⟩) hb).trans (hc k hlt).2.1
      have d3 := (hB.cell (p := ⟨b0, off + k * 5 + 2, none⟩) hb).trans (hc k hlt).2.2.1
      have d4 := (hB.cell (p := ⟨b0, off + k * 5 + 3, none⟩) hb).trans (hc k hlt).2.2.2.1
      have d5 := (hB.cell (p := ⟨b0, off + k * 5 + 4, none⟩) hb).trans (hc k hlt).2.2.2.2
      have hI := HZ.out.2 k hlt
      have hfk := hft _ (el_mem hlt)
      have HT := hid (wts_take hlt)
      have HAH := hid (fun q hq j => pairs_ahead hlt (q := q) hq j)
      obtain ⟨⟨kap, cl, ⟨bo, bc, b⟩, ⟨so, sc, s⟩, ⟨ro, rc, r⟩⟩, ex⟩ : ∃ v, v = el ts k := ⟨_, rfl⟩
      have HE := hid ex
      rw [← ex] at d1 d2 d3 d4 d5 hI hfk HT HAH
      clear ex hc
      dsimp only at d1 d2 d3 d4 d5 hfk HT HAH
      obtain ⟨VA, hVA⟩ : ∃ VA, VA = wr.alloc (.cells #[.int .i64 kap, .bool cl, .slice bo b.length bc, .slice so s.length sc, .slice ro r.length rc] 45) := ⟨_, rfl⟩
      have hbA : Below wr.heap.size wr VA := by rw [hVA]; exact below1 _ _
      have hBA := hB.trans (hbA.mono hB.size)
      have XA : Hid (Bx VA wr.heap.size [.int .i64 kap, .bool cl, .slice bo b.length bc, .slice so s.length sc, .slice ro r.length rc]) := by rw [hVA]; exact Bx.new [.int .i64 kap, .bool cl, .slice bo b.length bc, .slice so s.length sc, .slice ro r.length rc] _ rfl
      have hSA := hid (hS.out.later hbA)
      have HI : Hid (InChan VA.heap.size VA bo b so s ro r) := InChan.up (InChan.below hI hBA) hBA.size
      have HVA := hid hVA
      clear hI hS hVA hbA
      rcases hg : goodP (kap, cl, b, s, r) with _ | _
      · have HG := hid hg
        clear hg
        go_wp2_with fail
        rw [← HVA.out]
        refine (implGoodC_is kap cl bo bc b so sc s ro rc r _ _ hfk.1 hfk.2.1 hfk.2.2 HI.out HG.out).mono ?_
        rintro e w1 ⟨rfl, hb1⟩
        have hB1 := hBA.trans (hb1.mono hBA.size)
        clear hb1
        go_wp2
        go_ret
        refine ⟨ret_bool ?_, hB1⟩
        rw [← HX.out, goodHB_bad (el_val hlt) (by rw [← HE.out]; exact HG.out)]
      · have HG := hid hg
        have HOK := hid (goodP_wts hg)
        dsimp only at HOK
        clear hg
        go_wp2_with fail
        rw [← HVA.out]
        refine (implGoodC_is kap cl bo bc b so sc s ro rc r _ _ hfk.1 hfk.2.1 hfk.2.2 HI.out HG.out).mono ?_
        rintro e w1 ⟨rfl, hb1⟩
        have hB1 := hBA.trans (hb1.mono hBA.size)
        have XA1 := hid (XA.out.later hb1)
        have hS1 := hid (hSA.out.later hb1)
        have HI1 := hid (HI.out.later hb1)
        clear hb1 HVA XA hSA HI hBA
        have a0 := XA1.out.c 0 rfl
        have a1 := XA1.out.c 1 rfl
        have a2 := XA1.out.c 2 rfl
        have a3 := XA1.out.c 3 rfl
        have a4 := XA1.out.c 4 rfl
        go_wp2_with fail
        clear a0 a1 a2 a3 a4 XA1
        refine (waitersAt_any kap cl bo bc b so sc s ro rc r w1 hfk.2.1 hfk.2.2 HI1.out).mono ?_
        rintro e w2 ⟨⟨o, c, rfl, _, hF⟩, hb2⟩
        have hB2 := hB1.trans (hb2.mono hB1.size)
        have hS2 := hid (hS1.out.later hb2)
        have hql : (s ++ r).length ≤ 2097152 := by rw [List.length_append]; omega
        obtain ⟨q, hq⟩ : ∃ q, q = s ++ r := ⟨_, rfl⟩
        rw [← hq] at hF hql HOK HT ⊢
        have HA2 := hid (HAH.out q hq)
        have HF := hid hF
        have HW1 := hid hS1.out.1
        clear hq hF hb2 HI1 hS1 hB1 HAH
        generalize hL : pairs (wts ((ts.take k).map valChan)) = L at hS2 hnd HA2
        have HL := hid hL
        clear hL
        go_wp2
        go_loopw [25] (fun i wq => ∃ j : Nat, j ≤ q.length ∧ i = .int .i64 j ∧ Below w.heap.size w wq ∧ Hid (kW.Fresh w1.heap.size w2.heap.size wq o c q) ∧ Hid (SeenIn wq (w.heap.size + 1) (L ++ pairs (q.take j))) ∧ Hid ((L ++ pairs (q.take j)).Nodup)) (fun i _ => q.length - (intOf i).toNat)
        case atStart => exact ⟨0, Nat.zero_le _, rfl, hB2, HF, by simpa [pairs] using hS2, by simpa [pairs] using hnd⟩
        case round =>
          obtain ⟨j, hj, rfl, hB3, hQ, hS3, hnd3⟩ := hrel
          by_cases hjt : j < q.length
          · obtain ⟨bb, of2, rfl, hbb, hcc⟩ := kW_at hQ.out.in hjt
            have e1 := (hcc j hjt).1
            have e2 := (hcc j hjt).2.1
            have e3 := (hcc j hjt).2.2
            have hok := HOK.out _ (el_mem hjt)
            have HPT := hid (pairs_take hjt)
            obtain ⟨⟨y1, y2, y3⟩, ey⟩ : ∃ v, v = el q j := ⟨_, rfl⟩
            rw [← ey] at e1 e2 e3 hok HPT
            clear ey hcc
            dsimp only at e1 e2 e3 hok HPT
            obtain ⟨t, rfl⟩ : ∃ t : Nat, y1 = t := ⟨y1.toNat, by omega⟩
            obtain ⟨d, rfl⟩ : ∃ d : Nat, y2 = d := ⟨y2.toNat, by omega⟩
            have ht30 : t < 30 := by omega
            have hd10 : d < 10 := by omega
            obtain ⟨VW, hVW⟩ : ∃ VW, VW = wr.alloc (.cells #[.int .i64 t, .int .i64 d, .int .i64 y3] 70) := ⟨_, rfl⟩
            have hbW : Below wr.heap.size wr VW := by rw [hVW]; exact below1 _ _
            have XW : Hid (Bx VW wr.heap.size [.int .i64 t, .int .i64 d, .int .i64 y3]) := by rw [hVW]; exact Bx.new [.int .i64 t, .int .i64 d, .int .i64 y3] _ rfl
            have hSW := hid (hS3.out.later hbW)
            have hBW := hB3.trans (hbW.mono hB3.size)
            have hQW := hid (hQ.out.later hbW)
            have hsc := (hSW.out.2 (t * 10 + d) (by omega)).1
            have hpz := hSW.out.1
            rw [seenB_at _ hd10] at hsc
            have HVW := hid hVW
            clear hbW hS3 hQ hok
            by_cases hmem : ((t : Int), (d : Int)) ∈ L ++ pairs (q.take j)
            · rw [show decide (((t : Int), (d : Int)) ∈ L ++ pairs (q.take j)) = true from by simpa using hmem] at hsc
              have HM := hid hmem
              clear hmem
              rw [HVW.out] at hsc
              go_wp2
              go_quiet (fail)
              go_wp2
              go_ret
              refine ⟨ret_bool ?_, ?_⟩
              · rw [← HX.out, goodHB_dup]
                intro hn
                have h1 := HA2.out (j + 1) hn
                rw [HPT.out, ← List.append_assoc] at h1
                exact not_nodup_snoc HM.out h1
              · rw [HVW.out] at hBW
                exact below_draws hBW _
            · rw [show decide (((t : Int), (d : Int)) ∈ L ++ pairs (q.take j)) = false from by simpa using hmem] at hsc
              have HM := hid hmem
              clear hmem
              have hsf := (hSW.out.2 (t * 10 + d) (by omega)).2
              rw [HVW.out] at hsc
              go_wp2
              go_quiet (fail)
              obtain ⟨W4, hW4⟩ : ∃ W4, W4 = (wr.alloc (.cells #[.int .i64 t, .int .i64 d, .int .i64 y3] 70)).drewN nq := ⟨_, rfl⟩
              rw [← hW4]
              have hb4 : Below VW.heap.size VW W4 := by rw [hW4, HVW.out]; exact below_draws (Below.refl _ _) _
              have X4 := XW.out.later hb4
              have S4 := hid (hSW.out.later hb4)
              have Q4 := hid (hQW.out.later hb4)
              have hB4 := hBW.trans (hb4.mono hBW.size)
              have HH4 := hid hW4
              have z0 := X4.c 0 rfl
              have z1 := X4.c 1 rfl
              have hsc4 := (S4.out.2 (t * 10 + d) (by omega)).1
              have hsf4 := (S4.out.2 (t * 10 + d) (by omega)).2
              clear hsc hsf hpz hSW hQW hBW hb4 XW hW4 e1 e2 e3
              go_wp2
              go_region
              have S5 := hid (S4.out.set ht30 hd10)
              have Q5 := hid (Q4.out.setBelow (a := ⟨w.heap.size + 1, t * 10 + d, none⟩) HW1.out (.bool true))
              have hB5 := hB4.setCell (p := ⟨w.heap.size + 1, t * 10 + d, none⟩) (Nat.le_succ _) (.bool true)
              clear z0 z1 hsc4 hsf4 hB4 HH4 HVW X4
              obtain ⟨W6, hW6⟩ : ∃ W6, W6 = (W4.setCell ⟨w.heap.size + 1, t * 10 + d, none⟩ (.bool true)).drew := ⟨_, rfl⟩
              have S6 : Hid (SeenIn W6 (w.heap.size + 1) ((L ++ pairs (q.take j)) ++ [((t : Int), (d : Int))])) := by rw [hW6]; exact S5.out.later ⟨rfl, rfl, rfl, Nat.le_refl _, fun _ _ => rfl⟩
              have Q6 : Hid (kW.Fresh w1.heap.size w2.heap.size W6 (some ⟨bb, of2, none⟩) c q) := by rw [hW6]; exact Q5.out.later ⟨rfl, rfl, rfl, Nat.le_refl _, fun _ _ => rfl⟩
              have hB6 : Below w.heap.size w W6 := by rw [hW6]; exact hB5.drew
              rw [← hW6]
              clear hW6 S5 Q5 hB5 S4 Q4
              go_wp2
              go_roundw
              case rel => exact ⟨j + 1, by omega, by go_num, hB6, Q6, by rw [HPT.out, ← List.append_assoc]; exact S6, by rw [HPT.out, ← List.append_assoc]; exact nodup_snoc hnd3.out HM.out⟩
              case measure => simp [intOf]; omega
          · obtain rfl : j = q.length := by omega
            rw [List.take_length] at hS3 hnd3
            have HE2 : Hid (pairs (wts ((ts.take (k + 1)).map valChan)) = L ++ pairs q) := by rw [Hid, HT.out, pairs_app, HL.out]
            clear hnd hS2
            go_wp2
            go_roundw
            case rel => exact ⟨k + 1, by omega, by go_num, hB3, by rw [HE2.out]; exact hS3, fun i hi => by
              rcases Nat.lt_succ_iff_lt_or_eq.1 hi with h | rfl
              · exact hno.out i h
              · rw [← HE.out]; exact HG.out, by rw [HE2.out]; exact hnd3⟩
            case measure => simp [intOf]; omega
    · obtain rfl : k = ts.length := by omega
      rw [List.take_length] at hnd
      go_wp2
      go_ret
      refine ⟨ret_bool ?_, hB⟩
      rw [← HX.out, goodHB_yes (by simpa using h88) (goodH_all hno.out) hnd.out]
end
section
open Go.RowKit

theorem tot_val {ts us : List LChan} (hv : us.map valChan = ts.map valChan) : totChan us = totChan ts := by
  have h : ∀ l : List LChan, totChan l = ((l.map valChan).map fun a : PChan => a.2.2.1.length + a.2.2.2.1.length + a.2.2.2.2.length).sum := by
    intro l
    unfold totChan
    rw [List.map_map]
    rfl
  rw [h, h, hv]
theorem len_val {ts us : List LChan} (hv : us.map valChan = ts.map valChan) : us.length = ts.length := by have := congrArg List.length hv; simpa using this
theorem eqHub_len {us vs : List LChan} {n c c' : Nat} {ao bo : Option Addr} {w : World} {Q : Ending → World → Prop} (h1 : us.length = n) (h2 : vs.length = n) (h : Calls Try.prog 8 #[.agg #[.slice ao us.length c], .agg #[.slice bo vs.length c']] w Q) : Calls Try.prog 8 #[.agg #[.slice ao n c], .agg #[.slice bo n c']] w Q := by
  rw [h1, h2] at h; exact h
end
section
open Go.RowKit Go.Maps

/-- What KillIn answers. -/
def killR (ps : List PChan) (t : Int) : List PChan × Int := if goodHB ps = true ∧ taskB t = true then (ps.map (keepP (offT t)), ((stands t (wts ps)).length : Int)) else ([], -1)
theorem killR_bad {ps : List PChan} {t : Int} (h : goodHB ps = false) : killR ps t = ([], -1) := by rw [killR, if_neg]; rw [h]; simp
theorem killR_task {ps : List PChan} {t : Int} (h : taskB t = false) : killR ps t = ([], -1) := by rw [killR, if_neg]; rw [h]; simp
theorem killR_ok {ps : List PChan} {t : Int} (h : goodHB ps = true) (h2 : taskB t = true) : killR ps t = (ps.map (keepP (offT t)), ((stands t (wts ps)).length : Int)) := by rw [killR, if_pos ⟨h, h2⟩]
/-- A hub of its own memory and a number, as an ending. -/
def AnsK (w : World) (R : List PChan × Int) (e : Ending) (w' : World) : Prop := (∃ o c us, e = .returned (.tuple #[.agg #[.slice o R.1.length c], .int .i64 R.2]) ∧ us.map valChan = R.1 ∧ DFr dChan w.heap.size w'.heap.size w' o c us) ∧ Below w.heap.size w w'
theorem DFr.nothing (lo hi : Nat) (W : World) : DFr dChan lo hi W none 0 [] := ⟨.inl rfl, fun j hj => absurd hj (by simp), fun i j _ hj => absurd hj (by simp)⟩
/-- Those that wait anywhere but the task. -/
theorem keepP_off {ps : List PChan} (t : Int) : ps.map (keepP fun j => if j = t then 0 else oft (wts ps) j) = ps.map (keepP (offT t)) := by
  refine List.map_congr_left fun c hc => ?_
  have key : ∀ l : List (Int × Int × Int), (∀ x ∈ l, x ∈ wts ps) → keptW (fun j => if j = t then 0 else oft (wts ps) j) l = keptW (offT t) l := fun l hl => by
    unfold keptW
    refine List.filter_congr fun x hx => ?_
    have h1 := oft_pos (hl x hx)
    by_cases e : x.1 = t
    · simp [e, offT]
    · simp [e, offT, h1]
  unfold keepP
  rw [key _ fun x hx => List.mem_flatMap.2 ⟨c, hc, List.mem_append_left _ hx⟩, key _ fun x hx => List.mem_flatMap.2 ⟨c, hc, List.mem_append_right _ hx⟩]
end
section
open Go.RowKit

/-- A row of Woken. -/
def kK : Kind (Int × Int × Int × Bool) := ⟨58, 29, 4, fun t => [.int .i64 t.1, .int .i64 t.2.1, .int .i64 t.2.2.1, .bool (t.2.2.2)], fun _ => rfl, fun a v h => by simp at h; rcases h with rfl | rfl | rfl | rfl <;> rfl⟩
theorem Try.info58 : (Try.prog.info? 58).map (fun i => (i.zero, i.size, i.bytes)) = some (some (.agg #[.int .i64 0, .int .i64 0, .int .i64 0, .bool false]), 4, 32) := by kernel_rfl
theorem kK_ok : kK.Ok := kind_ok (K := kK) Try.underlying29 Try.info58 rfl (by decide) (by decide)
theorem kK_at {n : Nat} {W : World} {ao : Option Addr} {ts : List (Int × Int × Int × Bool)} (h : kK.In n W ao ts) {k : Nat} (hk : k < ts.length) :
    ∃ b off, ao = some ⟨b, off, none⟩ ∧ b < n ∧ ∀ j, j < ts.length → W.cell? ⟨b, off + j * 4, none⟩ = some (.int .i64 (el ts j).1) ∧ W.cell? ⟨b, off + j * 4 + 1, none⟩ = some (.int .i64 (el ts j).2.1) ∧ W.cell? ⟨b, off + j * 4 + 2, none⟩ = some (.int .i64 (el ts j).2.2.1) ∧ W.cell? ⟨b, off + j * 4 + 3, none⟩ = some (.bool (el ts j).2.2.2) := by
  obtain ⟨b, off, e, hb, hc⟩ := h.pos hk
  exact ⟨b, off, e, hb, fun j hj => ⟨hc j hj 0 (by decide), hc j hj 1 (by decide), hc j hj 2 (by decide), hc j hj 3 (by decide)⟩⟩
theorem kK_one {n : Nat} {W : World} {p : Nat} {t : Int × Int × Int × Bool} (hp : p < n) (h0 : W.cell? ⟨p, 0, none⟩ = some (.int .i64 t.1)) (h1 : W.cell? ⟨p, 1, none⟩ = some (.int .i64 t.2.1)) (h2 : W.cell? ⟨p, 2, none⟩ = some (.int .i64 t.2.2.1)) (h3 : W.cell? ⟨p, 3, none⟩ = some (.bool t.2.2.2)) : kK.In n W (some ⟨p, 0, none⟩) [t] := by
  refine Kind.In.mk1 hp fun i hi => ?_
  rw [Nat.zero_add]
  have hi' : i < 4 := hi
  rcases (show i = 0 ∨ i = 1 ∨ i = 2 ∨ i = 3 from by omega) with rfl | rfl | rfl | rfl
  · exact h0
  · exact h1
  · exact h2
  · exact h3
set_option maxHeartbeats 1000000 in
theorem eqWoken_same (x1 : Int) (x2 : Int) (x3 : Int) (x4 : Bool) (w : World) :
    Calls Try.prog 29 #[.agg #[.int .i64 x1, .int .i64 x2, .int .i64 x3, .bool x4], .agg #[.int .i64 x1, .int .i64 x2, .int .i64 x3, .bool x4]] w fun e w' => e = .returned (.bool true) ∧ Below w.heap.size w w' := by
  have h1 : (x1 != x1) = false := by simp
  have h2 : (x2 != x2) = false := by simp
  have h3 : (x3 != x3) = false := by simp
  have h4 : (x4 != x4) = false := by simp
  go_enter Try.func29, Try.ntmps29
  go_wp2
  go_ret
  exact ⟨rfl, below2 _ _ _⟩
set_option maxHeartbeats 1000000 in
theorem eqWokenS_same (ao bo : Option Addr) (cap cap' : Nat) (ts : List (Int × Int × Int × Bool)) (w : World) (hl : ts.length ≤ 1048576) (hz : kK.In w.heap.size w ao ts) (hz' : kK.In w.heap.size w bo ts) :
    Calls Try.prog 9 #[.slice ao ts.length cap, .slice bo ts.length cap'] w fun e w' => e = .returned (.bool true) ∧ Below w.heap.size w w' := by
  have hne : ((ts.length : Int) != (ts.length : Int)) = false := by simp
  go_enter Try.func9, Try.ntmps9
  go_wp2
  go_loopw [5] (fun i wr => ∃ k : Nat, k ≤ ts.length ∧ i = .int .i64 k ∧ Below w.heap.size w wr) (fun i _ => ts.length - (intOf i).toNat)
  case atStart => exact ⟨0, Nat.zero_le _, rfl, Below.refl _ _⟩
  case round =>
    obtain ⟨k, hk, rfl, hnx⟩ := hrel
    by_cases hlt : k < ts.length
    · obtain ⟨b, off, rfl, hb, hc⟩ := kK_at hz hlt
      obtain ⟨b', off', rfl, hb', hc'⟩ := kK_at hz' hlt
      have hck1 := (hnx.cell (p := ⟨b, off + k * 4, none⟩) hb).trans (hc k hlt).1
      have hck1' := (hnx.cell (p := ⟨b', off' + k * 4, none⟩) hb').trans (hc' k hlt).1
      have hck2 := (hnx.cell (p := ⟨b, off + k * 4 + 1, none⟩) hb).trans (hc k hlt).2.1
      have hck2' := (hnx.cell (p := ⟨b', off' + k * 4 + 1, none⟩) hb').trans (hc' k hlt).2.1
      have hck3 := (hnx.cell (p := ⟨b, off + k * 4 + 2, none⟩) hb).trans (hc k hlt).2.2.1
      have hck3' := (hnx.cell (p := ⟨b', off' + k * 4 + 2, none⟩) hb').trans (hc' k hlt).2.2.1
      have hck4 := (hnx.cell (p := ⟨b, off + k * 4 + 3, none⟩) hb).trans (hc k hlt).2.2.2
      have hck4' := (hnx.cell (p := ⟨b', off' + k * 4 + 3, none⟩) hb').trans (hc' k hlt).2.2.2
      clear hc hz hc' hz'
      obtain ⟨⟨x1, x2, x3, x4⟩, ex⟩ : ∃ v, v = el ts k := ⟨_, rfl⟩
      rw [← ex] at hck1 hck1' hck2 hck2' hck3 hck3' hck4 hck4'
      clear ex
      dsimp only at hck1 hck1' hck2 hck2' hck3 hck3' hck4 hck4'
      go_wp2
      go_region_with (go_at_call 29; refine (eqWoken_same x1 x2 x3 x4 _).mono ?_; rintro e w1 ⟨rfl, hb1⟩)
      all_goals go_wp2
      all_goals
        have hb2 : Below wr.drew.heap.size wr.drew w1 := by assumption
        have hnb : Below w.heap.size w w1 := hnx.drew.trans (hb2.mono hnx.size)
        go_roundw
        case rel => exact ⟨k + 1, by omega, by go_num, hnb⟩
        case measure => simp [intOf]; omega
    · obtain rfl : k = ts.length := by omega
      go_wp2
      go_ret
      exact ⟨rfl, hnx⟩
end
end Go.Proofs.Ytdjdbcfcccbhpaa
