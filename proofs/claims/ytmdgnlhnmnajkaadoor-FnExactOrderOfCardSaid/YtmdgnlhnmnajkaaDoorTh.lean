
/- SourcesOf, the program's and the specification's. No conditions but those written. -/
import Derived.Test.YtmdgnlhnmnajkaaDoorLd
namespace Go.Proofs.YtmdgnlhnmnajkaaDoor
open Go.RowKit

theorem filter_succ {zs : List Int} {k : Nat} (hk : k < zs.length) (p : Int → Bool) : (zs.take (k + 1)).filter p = if p (el zs k) = true then (zs.take k).filter p ++ [el zs k] else (zs.take k).filter p := by
  rw [take_succ_el hk, List.filter_append]
  by_cases h : p (el zs k) = true
  · rw [if_pos h]; simp [h]
  · rw [if_neg h]; simp [h]
theorem filter_len (zs : List Int) (k : Nat) (p : Int → Bool) : ((zs.take k).filter p).length ≤ k := Nat.le_trans (List.length_filter_le _ _) (by simp; omega)
set_option maxHeartbeats 4000000 in
theorem thoseI_any (g : Nat) (cb : Array Value) (eg : ∀ args w, (callFunc g args).run Tryd.prog w = .ok (.enter g args) w) (ao : Option Addr) (cap : Nat) (zs : List Int) (p : Int → Bool) (w : World) (hl : zs.length ≤ 1048576) (hz : kI.In w.heap.size w ao zs) (hC : ∀ x W, x ∈ zs → Below w.heap.size w W → Calls Tryd.prog g (#[.int .i64 x] ++ cb) W fun e w' => e = .returned (.bool (p x)) ∧ Below W.heap.size W w') :
    Calls Tryd.prog 44 #[.slice ao zs.length cap, .func (.func g) #[] cb] w fun e w' => AnsI w (zs.filter p) e w' := by
  have HC := hid hC
  clear hC
  go_enter Tryd.func44, Tryd.ntmps44
  go_wp2
  go_loopw [5, 10] (fun u i wr => ∃ (k : Nat) (v : Value), v = u ∧ k ≤ zs.length ∧ i = .int .i64 k ∧ Hid (kI.Own w.heap.size wr v ((zs.take k).filter p)) ∧ Below w.heap.size w wr) (fun _ i _ => zs.length - (intOf i).toNat)
  case atStart => exact ⟨0, _, rfl, Nat.zero_le _, rfl, Kind.Own.nil _ _ _, Below.refl _ _⟩
  case round =>
    obtain ⟨k, v, rfl, hk, rfl, hO, hB⟩ := hrel
    by_cases hlt : k < zs.length
    · obtain ⟨b, off, rfl, hb, hc⟩ := ints_at hz hlt
      have d1 := (hB.cell (p := ⟨b, off + k, none⟩) hb).trans (hc k hlt)
      have hm := el_mem hlt
      have hcall := fun W hW => HC.out (el zs k) W hm hW
      have HSS := hid (filter_succ hlt p)
      have hll : ((zs.take k).filter p).length + 1 ≤ 4194304 := by have := filter_len zs k p; omega
      obtain ⟨x, ex⟩ : ∃ v, v = el zs k := ⟨_, rfl⟩
      rw [← ex] at d1 hcall HSS
      clear ex hc hm
      cases hy : p x
      · rw [hy] at hcall
        rw [hy, if_neg (by simp)] at HSS
        clear hy
        go_wp2_with (go_at_fn g; refine (hcall _ hB).mono ?_; rintro e w1 ⟨rfl, hb1⟩; have hB1 : Below w.heap.size w w1 := hB.trans (hb1.mono hB.size); have O1 : Hid (kI.Own w.heap.size w1 v ((zs.take (k + 1)).filter p)) := (by rw [Hid, HSS.out]; exact hO.out.below hb1); clear hb1)
        go_roundw
        case rel => exact ⟨k + 1, _, rfl, by omega, by go_num, O1, hB1⟩
        case measure => simp [intOf]; omega
      · rw [hy] at hcall
        rw [hy, if_pos rfl] at HSS
        clear hy
        go_wp2_with (first
          | (go_at_fn g; refine (hcall _ hB).mono ?_; rintro e w1 ⟨rfl, hb1⟩; have hB1 : Below w.heap.size w w1 := hB.trans (hb1.mono hB.size); have hs1 := hB1.size; have HA : Hid (kI.Own w.heap.size (w1.alloc (.cells #[.int .i64 x] 3)) v ((zs.take k).filter p)) := (hO.out.below hb1).below (below1 _ _); have HN : Hid (kI.In (w1.heap.size + 1) (w1.alloc (.cells #[.int .i64 x] 3)) (some ⟨w1.heap.size, 0, none⟩) [x]) := int_one (by omega) (by simp); have hBa : Below w.heap.size w (w1.alloc (.cells #[.int .i64 x] 3)) := Below.allocS hB1 _; clear hb1)
          | (at_builtin; refine Kind.app kI_ok (w1.alloc (.cells #[.int .i64 x] 3)) rfl (.tmp 17) (.tmp 19) rfl w.heap.size v ((zs.take k).filter p) rfl HA.out (by simp; omega) (some ⟨w1.heap.size, 0, none⟩) [x] 1 1 rfl rfl (by simp) _ HN.out hll ?_; intro v' w' hO' hB' hG' hn'; have hB2 : Below w.heap.size w w' := hBa.trans (hB'.mono (by omega)); have HO' : Hid (kI.Own w.heap.size w' v' ((zs.take (k + 1)).filter p)) := (by rw [Hid, HSS.out]; exact hO'); clear hO' hB' hG' hn'))
        go_roundw
        case rel => exact ⟨k + 1, v', rfl, by omega, by go_num, HO', hB2⟩
        case measure => simp [intOf]; omega
    · obtain rfl : k = zs.length := by omega
      rw [List.take_length] at hO
      obtain ⟨qo, qc, rfl, _, hF⟩ := hO.out.fresh
      have HF := hid hF
      clear hF hO
      go_wp2
      go_ret
      exact ⟨⟨_, _, rfl, HF.out⟩, hB⟩
/-- A node that leads to it. -/
def leadsTo (b : Int) (x : LNode) : Bool := hasB x.2.2.2.2.2.2.2 b
theorem Tryd.entersS1 : ∀ args w, (callFunc 40 args).run Tryd.prog w = .ok (.enter 40 args) w := enters_of Tryd.func40 (by kernel_rfl) rfl
theorem Tryd.entersS2 : ∀ args w, (callFunc 42 args).run Tryd.prog w = .ok (.enter 42 args) w := enters_of Tryd.func42 (by kernel_rfl) rfl
set_option maxHeartbeats 2000000 in
theorem source2_is (pt : Nat) (nm : ByteArray) (kd sa sb cp : Int) (nxo : Option Addr) (nxc : Nat) (nx : List Int) (b : Int) (w : World) (hl : nx.length ≤ 1048576) (hz : kI.In w.heap.size w nxo nx) (hT : Bx w pt [.int .i64 b]) :
    Calls Tryd.prog 42 #[.agg #[.string nm, .int .i64 kd, .int .i64 sa, .int .i64 sb, .int .i64 cp, .slice nxo nx.length nxc], .pointer (some ⟨pt, 0, none⟩)] w fun e w' => e = .returned (.bool (hasB nx b)) ∧ Below w.heap.size w w' := by
  obtain ⟨V, hV⟩ : ∃ V, V = w.alloc (.cells #[.string nm, .int .i64 kd, .int .i64 sa, .int .i64 sb, .int .i64 cp, .slice nxo nx.length nxc] 45) := ⟨_, rfl⟩
  have hb : Below w.heap.size w V := by rw [hV]; exact below1 _ _
  have HV := hid hV
  have HI := hid (hz.later hb)
  have t0 := (hT.later hb).c 0 rfl
  have t1 := hT.c 0 rfl
  have hts := hT.size
  have HB := hid hb
  clear hV hz hb hT
  go_enter Tryd.func42, Tryd.ntmps42
  go_wp2_with fail
  rw [← HV.out]
  refine (contains_is V.heap.size nxo nxc nx b V (hasB nx b) hl HI.out rfl).mono ?_
  rintro e w1 ⟨rfl, rfl⟩
  go_wp2
  go_ret
  exact ⟨rfl, HB.out⟩
set_option maxHeartbeats 2000000 in
theorem source1_is (pg : Nat) (ao : Option Addr) (cap : Nat) (ts : List LNode) (b : Int) (w : World) (hl : ts.length ≤ 1048576) (hF : FitN ts) (hG : GrIn w pg ao cap ts) :
    Calls Tryd.prog 40 #[.int .i64 b, .pointer (some ⟨pg, 0, none⟩)] w fun e w' => e = .returned (.bool (!ts.any (leadsTo b))) ∧ Below w.heap.size w w' := by
  obtain ⟨V, hV⟩ : ∃ V, V = w.alloc (.cells #[.int .i64 b] 3) := ⟨_, rfl⟩
  have hb : Below w.heap.size w V := by rw [hV]; exact below1 _ _
  have hX : Bx V w.heap.size [.int .i64 b] := by rw [hV]; exact Bx.new [.int .i64 b] _ rfl
  have hG1 := hG.later hb
  have hcon := containsFuncN_any 42 #[.pointer (some ⟨w.heap.size, 0, none⟩)] Tryd.entersS2 ao cap ts (leadsTo b) V hl hG1.rows.1 (fun x W hx hW => by
    obtain ⟨j, hj, rfl⟩ := mem_el hx
    have hin : kI.In V.heap.size V _ _ := hG1.rows.2 j hj
    exact source2_is w.heap.size _ _ _ _ _ _ _ _ b W (hF _ (el_mem hj)).2 (hin.later hW) (hX.later hW))
  have hq := hG1.box.c 0 rfl
  have q0 := hG.box.c 0 rfl
  have hqs := hG.box.size
  have HV := hid hV
  have HB := hid hb
  clear hV hX hb hG hG1
  go_enter Tryd.func40, Tryd.ntmps40
  go_wp2_with fail
  rw [← HV.out]
  refine hcon.mono ?_
  rintro e w1 ⟨rfl, hb1⟩
  have hB1 : Below w.heap.size w w1 := HB.out.trans (hb1.mono HB.out.size)
  clear hb1
  go_wp2
  go_ret
  exact ⟨rfl, hB1⟩
theorem ledC_zero (ts : List LNode) (j : Nat) : decide (ledC (ts.map valNode) (ts.map valNode).length j = 0) = !ts.any (leadsTo (j : Int)) := by
  rw [ledC, List.take_length]
  induction ts with
  | nil => simp
  | cons a r ih =>
    have e : ((r.map valNode).map fun a => a.2.2.2.2.2.count (j : Int)).sum = 0 ↔ r.any (leadsTo (j : Int)) = false := by
      have h := ih
      constructor
      · intro h0; rw [decide_eq_true h0] at h; simpa using h.symm
      · intro h0; rw [h0] at h; simpa using h
    simp only [List.map_cons, List.sum_cons, List.any_cons]
    by_cases h1 : (j : Int) ∈ (valNode a).2.2.2.2.2
    · have h2 : leadsTo (j : Int) a = true := by simp only [leadsTo, hasB, decide_eq_true_eq]; exact h1
      have h3 : 0 < (valNode a).2.2.2.2.2.count (j : Int) := List.count_pos_iff.2 h1
      rw [h2, decide_eq_false (by omega)]; rfl
    · have h2 : leadsTo (j : Int) a = false := by simp only [leadsTo, hasB, decide_eq_false_iff_not]; exact h1
      rw [h2, List.count_eq_zero_of_not_mem h1, Nat.zero_add, Bool.false_or]
      cases h4 : r.any (leadsTo (j : Int)) with
      | false => rw [decide_eq_true (e.2 h4)]; rfl
      | true => rw [decide_eq_false (fun h => by rw [e.1 h] at h4; cases h4)]; rfl
theorem src_eq (ts : List LNode) : (numsI ts.length).filter (fun b => !ts.any (leadsTo b)) = srcP (ts.map valNode) ts.length := by
  rw [srcP]
  refine List.filter_congr fun x hx => ?_
  obtain ⟨k, _, rfl⟩ := numsI_mem hx
  rw [Int.toNat_natCast, ledC_zero]
/-- What SourcesOf answers. -/
def srcR (gs : List PNode) : List Int × Bool := if codeG gs = 0 then (srcP gs gs.length, true) else ([], false)
theorem srcR_len (gs : List PNode) : (srcR gs).1.length ≤ 10 := by
  rw [srcR]
  split
  · next h => have := (codeG_zero h).1; have := srcP_len gs gs.length; show (srcP gs gs.length).length ≤ 10; omega
  · simp
/-- A row of ints in its own memory and a bool, as an ending. -/
def AnsIB (w : World) (q : List Int) (y : Bool) (e : Ending) (w' : World) : Prop := (∃ go qc, e = .returned (.tuple #[.slice go q.length qc, .bool y]) ∧ kI.Fresh w.heap.size w'.heap.size w' go qc q) ∧ Below w.heap.size w w'
theorem Roomy.fitN {ts : List LNode} {cap : Nat} (h : Roomy ts cap) : FitN ts := fun a ha => h.fit a ha
set_option maxRecDepth 10000 in
set_option maxHeartbeats 4000000 in
theorem implSources_is (ao : Option Addr) (cap : Nat) (ts : List LNode) (ea : Nat → Addr) (w : World) (hC : Roomy ts cap) (hE : Errs w ea) (hz : DIn dNode w.heap.size w ao ts) :
    Calls Tryd.prog 20 #[.slice ao ts.length cap] w fun e w' => AnsIB w (srcR (ts.map valNode)).1 (srcR (ts.map valNode)).2 e w' := by
  obtain ⟨V, hV⟩ : ∃ V, V = w.alloc (.cells #[.slice ao ts.length cap] 25) := ⟨_, rfl⟩
  have hb : Below w.heap.size w V := by rw [hV]; exact below1 _ _
  have hX : Bx V w.heap.size [.slice ao ts.length cap] := by rw [hV]; exact Bx.new [.slice ao ts.length cap] _ rfl
  have hG : GrIn V w.heap.size ao cap ts := ⟨hX, hz.later dNode_ok hb⟩
  have hcon := goodGraph_is ao cap ts ea V hC (hE.later hb) hG.rows
  have HG := hid hG
  have HV := hid hV
  have HB := hid hb
  have HFi := hid hC.fitN
  clear hz hE hV hX hb hG
  by_cases h0 : codeG (ts.map valNode) = 0
  · have h10 : ts.length ≤ 10 := by have := (codeG_zero h0).1; rw [val_len] at this; omega
    have HVV : Hid (srcR (ts.map valNode) = ((numsI ts.length).filter (fun b => !ts.any (leadsTo b)), true)) := by rw [Hid, srcR, if_pos h0, src_eq, val_len]
    rw [decide_eq_true h0] at hcon
    clear h0 hC
    go_enter Tryd.func20, Tryd.ntmps20
    go_wp2_with fail
    rw [← HV.out]
    refine hcon.mono ?_
    rintro e w1 ⟨rfl, hb1⟩
    have hB1 : Below w.heap.size w w1 := HB.out.trans (hb1.mono HB.out.size)
    have G1 := hid (HG.out.later hb1)
    have b1 := G1.out.box.c 0 rfl
    clear hb1 hcon HG HV HB
    go_wp2_with fail
    refine (numbersOf_any ao cap ts.length w1 (by omega)).mono ?_
    rintro e w2 ⟨⟨go, qc, rfl, hF2⟩, hb2⟩
    have hB2 : Below w.heap.size w w2 := hB1.trans (hb2.mono hB1.size)
    have G2 := hid (G1.out.later hb2)
    have F2 := hid hF2
    clear hb2 hF2 b1 G1
    go_wp2_with fail
    refine (thoseI_any 40 #[.pointer (some ⟨w.heap.size, 0, none⟩)] Tryd.entersS1 go qc (numsI ts.length) (fun b => !ts.any (leadsTo b)) w2 (by rw [numsI_len]; omega) F2.out.in (fun x W _ hW => source1_is w.heap.size ao cap ts x W (by omega) HFi.out (G2.out.later hW))).mono ?_
    rintro e w3 ⟨⟨g3, c3, rfl, hF3⟩, hb3⟩
    have hB3 := hB2.trans (hb3.mono hB2.size)
    have F3 := hid (hF3.wide (lo' := w.heap.size) (hi' := w3.heap.size) hB2.size (Nat.le_refl _))
    clear hb3 hF3
    go_wp2
    rw [HVV.out]
    refine bodyPost_ret (v := .tuple #[.slice g3 ((numsI ts.length).filter (fun b => !ts.any (leadsTo b))).length c3, .bool true]) (by simp [results, Tryd.results20, go_sem]) rfl ?_
    exact ⟨⟨_, _, rfl, F3.out⟩, hB3⟩
  · have HVV : Hid (srcR (ts.map valNode) = ([], false)) := by rw [Hid, srcR, if_neg h0]
    rw [decide_eq_false h0] at hcon
    clear h0 hC
    go_enter Tryd.func20, Tryd.ntmps20
    go_wp2_with fail
    rw [← HV.out]
    refine hcon.mono ?_
    rintro e w1 ⟨rfl, hb1⟩
    have hB1 : Below w.heap.size w w1 := HB.out.trans (hb1.mono HB.out.size)
    clear hb1 hcon HG HV HB
    go_wp2
    rw [HVV.out]
    refine bodyPost_ret (v := .tuple #[.slice none 0 0, .bool false]) (by simp [results, Tryd.results20, go_sem]) rfl ?_
    exact ⟨⟨_, _, rfl, .inl rfl⟩, hB1⟩
set_option maxRecDepth 10000 in
set_option maxHeartbeats 4000000 in
theorem specSources_is (ao : Option Addr) (cap : Nat) (ts : List LNode) (w : World) (hC : Roomy ts cap) (hz : DIn dNode w.heap.size w ao ts) :
    Calls Tryd.prog 19 #[.slice ao ts.length cap] w fun e w' => AnsIB w (srcR (ts.map valNode)).1 (srcR (ts.map valNode)).2 e w' := by
  have hcon := specCheck_is ao cap ts w hC hz
  have HZ := hid hz
  clear hz hC
  by_cases h0 : codeG (ts.map valNode) = 0
  · have HVV : Hid (srcR (ts.map valNode) = (srcP (ts.map valNode) ts.length, true)) := by rw [Hid, srcR, if_pos h0, val_len]
    obtain ⟨hm, hbk, _⟩ := codeG_zero h0
    have HED := hid (edges_of (by omega) (hbk 4 (by omega)))
    rw [h0] at hcon
    clear h0 hm hbk
    go_enter Tryd.func19, Tryd.ntmps19
    go_wp2_with fail
    refine hcon.mono ?_
    rintro e w1 ⟨rfl, hb1⟩
    have hB1 : Below w.heap.size w w1 := hb1
    clear hb1 hcon
    go_wp2_with fail
    refine (l11Sources_is ao cap ts w1 HED.out (HZ.out.later dNode_ok hB1)).mono ?_
    rintro e w3 ⟨⟨g3, c3, rfl, hF3⟩, hb3⟩
    have hB3 := hB1.trans (hb3.mono hB1.size)
    have F3 := hid (hF3.wide (lo' := w.heap.size) (hi' := w3.heap.size) hB1.size (Nat.le_refl _))
    clear hb3 hF3
    go_wp2
    rw [HVV.out]
    refine bodyPost_ret (v := .tuple #[.slice g3 (srcP (ts.map valNode) ts.length).length c3, .bool true]) (by simp [results, Tryd.results19, go_sem]) rfl ?_
    exact ⟨⟨_, _, rfl, F3.out⟩, hB3⟩
  · have HVV : Hid (srcR (ts.map valNode) = ([], false)) := by rw [Hid, srcR, if_neg h0]
    have hne : (((codeG (ts.map valNode) : Nat) : Int) != 0) = true := by simp; omega
    clear h0
    go_enter Tryd.func19, Tryd.ntmps19
    go_wp2_with fail
    refine hcon.mono ?_
    generalize codeG (ts.map valNode) = cg at hne ⊢
    rintro e w1 ⟨rfl, hb1⟩
    have hB1 : Below w.heap.size w w1 := hb1
    clear hb1
    go_wp2
    rw [HVV.out]
    refine bodyPost_ret (v := .tuple #[.slice none 0 0, .bool false]) (by simp [results, Tryd.results19, go_sem]) rfl ?_
    exact ⟨⟨_, _, rfl, .inl rfl⟩, hB1⟩
end Go.Proofs.YtmdgnlhnmnajkaaDoor
