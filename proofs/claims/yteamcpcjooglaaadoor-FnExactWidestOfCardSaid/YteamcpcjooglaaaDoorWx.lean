
/- The greatest of a row; a row backward: what the program's widest wants. No conditions but those written. -/
import Derived.Test.YteamcpcjooglaaaDoorWp
namespace Go.Proofs.YteamcpcjooglaaaDoor
open Go.RowKit Go.Shelf

attribute [local go_sem] Oper.semAt_some

set_option maxHeartbeats 2000000 in
theorem maxI_any (ao : Option Addr) (cap : Nat) (l : List Int) (w : World) (h1 : 1 ≤ l.length) (hl : l.length ≤ 1048576) (hb : ∀ j, j < l.length → 0 ≤ el l j) (hz : kI.In w.heap.size w ao l) :
    Calls Tryd.prog 31 #[.slice ao l.length cap] w fun e w' => e = .returned (.int .i64 (maxL l)) ∧ w' = w := by
  obtain ⟨b, off, rfl, hb0, hc⟩ := ints_at hz (k := 0) (by omega)
  have HC := hid hc
  have HB := hid hb
  have c0 := hc 0 (by omega)
  rw [Nat.add_zero] at c0
  have hx0 : Hid (el l 0 = maxL (l.take 1)) := by
    rw [Hid, take_succ_el (by omega), List.take_zero, List.nil_append]
    have := hb 0 (by omega)
    simp only [maxL]; omega
  generalize el l 0 = x0 at c0 hx0
  clear hc hz hb
  have hli : (1 : Int) ≤ (l.length : Int) := by omega
  go_enter Tryd.func31, Tryd.ntmps31
  go_wp2
  go_loop [3, 4] (fun v i => ∃ (k : Nat) (z : Int), i = .int .i64 (k : Int) ∧ v = .int .i64 z ∧ 1 ≤ k ∧ k ≤ l.length ∧ Hid (z = maxL (l.take k))) (fun _ i => l.length - (intOf i).toNat)
  case atStart => exact ⟨1, x0, rfl, rfl, Nat.le_refl _, h1, hx0⟩
  case round =>
    clear hx0 c0
    obtain ⟨k, z, rfl, rfl, hk1, hk, hz⟩ := hrel
    by_cases hlt : k < l.length
    · have ck := HC.out k hlt
      have HS : Hid (max z (el l k) = maxL (l.take (k + 1))) := by rw [Hid, take_succ_el hlt, maxL_snoc _ _ (HB.out k hlt), ← hz.out]
      generalize el l k = x at ck HS
      have hki : (k : Int) < (l.length : Int) := by omega
      go_wp2
      go_round
      case rel => exact ⟨k + 1, _, by go_num, rfl, by omega, by omega, by rw [Hid, ← HS.out]; split <;> omega⟩
      case measure => simp [intOf]; omega
    · obtain rfl : k = l.length := by omega
      have HZ : Hid (z = maxL l) := by rw [Hid, hz.out, List.take_length]
      go_wp2
      go_ret
      exact ⟨ret_int HZ.out, rfl⟩
set_option maxHeartbeats 1000000 in
theorem isEnd_is (nm : ByteArray) (kd sa sb cp : Int) (nxo : Option Addr) (n nxc : Nat) (w : World) :
    Calls Tryd.prog 29 #[.agg #[.string nm, .int .i64 kd, .int .i64 sa, .int .i64 sb, .int .i64 cp, .slice nxo n nxc]] w fun e w' => e = .returned (.bool ((n : Int) == 0)) ∧ Below w.heap.size w w' := by
  go_enter Tryd.func29, Tryd.ntmps29
  go_wp2
  go_ret
  exact ⟨rfl, below1 _ _⟩
set_option maxHeartbeats 1000000 in
theorem backward_any (a : Option Addr) (n c : Nat) (w : World) :
    Calls Tryd.prog 27 #[.slice a n c] w fun e w' => e = .returned (.func (.func 39) #[] #[.pointer (some ⟨w.heap.size, 0, none⟩)]) ∧ w' = w.alloc (.cells #[.slice a n c] 33) := by
  go_enter Tryd.func27, Tryd.ntmps27
  go_wp2
  go_ret
  exact ⟨rfl, rfl⟩
/-- Two blocks lie as they lay. -/
def Same2 (b c : Nat) (W W' : World) : Prop := SameB b W W' ∧ SameB c W W'
theorem Same2.trans {b c : Nat} {A B C : World} (h : Same2 b c A B) (k : Same2 b c B C) : Same2 b c A C := ⟨h.1.trans k.1, h.2.trans k.2⟩
/-- What comes as the t-th. -/
def bkA (ts : List Int) (t : Nat) : Array Value := #[Value.int .i64 ((ts.length : Int) - 1 - (t : Int)), tvI (el ts.reverse t)]
set_option maxRecDepth 100000 in
set_option maxHeartbeats 2000000 in
theorem back1_in (F : Fence) (n : Nat) (hAll : F.fn 39) (hro : F.round = none) (hn : 1 ≤ n) (l Bs b : Nat) (ao : Option Addr) (cap : Nat) (ts : List Int) (hreach : ts.length ≤ 1048576) (J Jx : List Nat → World → Prop) (W : World) (_ : AbidesFrom W.heap.size J)
    (hY : ∀ (pre : List Nat) (x : Nat) (W : World), J pre W → pre.length < ts.length → YieldAt F (n - 1) Tryd.prog l (bkA ts x) W fun e W' =>
      (e = .returned (.bool true) ∧ J (pre ++ [x]) W' ∧ Same2 b Bs W W') ∨ (e = .returned (.bool false) ∧ Jx (pre ++ [x]) W'))
    (hBs : W.cell? ⟨Bs, 0, none⟩ = some (.slice ao ts.length cap)) (hc : ts = [] ∨ ∃ off, ao = some ⟨b, off, none⟩ ∧ ∀ j, j < ts.length → W.cell? ⟨b, off + j, none⟩ = some (.int .i64 (el ts j))) (h0 : J [] W) :
    CallsIn F n Tryd.prog 39 #[.func (.yield l) #[] #[], .pointer (some ⟨Bs, 0, none⟩)] W fun e W' => (∃ v, e = .returned v) ∧
      ((∃ ys, ys = List.range ts.length ∧ J ys W') ∨ (∃ pre, (∃ k, k ≤ ts.length ∧ pre = List.range k) ∧ Jx pre W')) := by
  refine callsIn_of_wp Tryd.func39 rfl hAll ?_ hro
  simp only [Tryd.ntmps39, List.size_toArray, List.length_cons, List.length_nil, Nat.reduceAdd, Nat.reduceSub, Array.replicate_succ, Array.replicate_zero, List.push_toArray, List.append_toArray, List.nil_append, List.cons_append]
  gi_wp2
  gi_loopw [3] (fun i wr => ∃ k m : Nat, m + k = ts.length ∧ i = .int .i64 ((m : Int) - 1) ∧ J (List.range k) wr ∧ Hid (Same2 b Bs W wr))
    (fun i _ => (intOf i + 1).toNat)
  case atStart => exact ⟨0, ts.length, by omega, rfl, h0, ⟨rfl, rfl⟩⟩
  case round =>
    obtain ⟨k, m, hkm, rfl, hJs, hnx⟩ := hrel
    cases m with
    | succ m =>
      rcases hc with rfl | ⟨off, rfl, hc⟩
      · simp at hkm
      have c1 := hc m (by omega)
      have d1 := (hnx.out.1.cell (off + m)).trans c1
      have dB := (hnx.out.2.cell 0).trans hBs
      have hel : el ts m = el ts.reverse k := by rw [el_reverse (by omega)]; congr 1; omega
      have hJa := hJs
      obtain ⟨fn, tmps, assign, body, hy, hR⟩ := hY _ k _ hJa (by rw [List.length_range]; omega)
      have e2 : ((ts.length : Int) - 1 - (k : Int)) = (m : Int) := by omega
      simp only [bkA, tvI, ← hel, e2] at hy
      have e1 : (((m + 1 : Nat) : Int) - 1) = (m : Int) := by omega
      obtain ⟨x1, ex1⟩ : ∃ x, x = el ts m := ⟨_, rfl⟩
      rw [← ex1] at hy d1
      have hmi : (m : Int) < (ts.length : Int) := by omega
      rw [e1]
      clear c1 hc ex1 hel e1 e2 hBs
      gi_wp2
      refine hR.mono ?_
      rintro e W3 (⟨rfl, hJ3, hk3⟩ | ⟨rfl, hJx3⟩)
      · have hk4 : Same2 b Bs wr W3 := hk3
        gi_wp2
        go_roundw
        case rel => exact ⟨k + 1, m, by omega, rfl, by rw [List.range_succ]; exact hJ3, hnx.out.trans hk4⟩
        case measure => simp [intOf]
      · gi_wp2
        refine bodyPost_ret (results_none rfl _ _ _) rfl ?_
        exact ⟨⟨_, rfl⟩, .inr ⟨_, ⟨k + 1, by omega, List.range_succ.symm⟩, hJx3⟩⟩
    | zero =>
      obtain rfl : k = ts.length := by omega
      gi_wp2
      go_end0
      exact ⟨⟨_, rfl⟩, .inl ⟨_, rfl, hJs⟩⟩
theorem back_stops (F : Fence) (n : Nat) (hAll : F.fn 39) (hro : F.round = none) (hn : 1 ≤ n) (Bs b : Nat) (ao : Option Addr) (cap : Nat) (ts : List Int) (hreach : ts.length ≤ 1048576) (w : World) (hBs : Bs < w.heap.size)
    (hc : w.cell? ⟨Bs, 0, none⟩ = some (.slice ao ts.length cap)) (hI : ts = [] ∨ ∃ off, ao = some ⟨b, off, none⟩ ∧ b < w.heap.size ∧ ∀ j, j < ts.length → w.cell? ⟨b, off + j, none⟩ = some (.int .i64 (el ts j))) :
    SeqStopsK F n Tryd.prog 39 #[.pointer (some ⟨Bs, 0, none⟩)] (fun x : Nat => bkA ts x) (Same2 b Bs) (fun ys => ys = List.range ts.length)
      (fun pre => ∃ k, k ≤ ts.length ∧ pre = List.range k) ts.length w := fun l J Jx W hW hJ _ hY h0 => by
  have hc' := (hW.cell (p := ⟨Bs, 0, none⟩) hBs).trans hc
  refine back1_in F n hAll hro hn l Bs b ao cap ts hreach J Jx W hJ hY hc' ?_ h0
  rcases hI with h | ⟨off, h1, hb, hcs⟩
  · exact .inl h
  · exact .inr ⟨off, h1, fun j hj => (hW.cell (p := ⟨b, off + j, none⟩) hb).trans (hcs j hj)⟩
theorem make_in {F : Fence} {n : Nat} (w : World) {ops : Array Oper} {rest : List Oper} {o : Oper} {a : Act} {Q : Exit → Act → World → Prop}
    (hg : o.guard = none) (l c : Operand) (hop : o.op = Op.makeSlice 33 l c) (m : Nat) (hl : a.eval l = .int .i64 (m : Int)) (hc : a.eval c = .int .i64 (m : Int)) (hm : m ≤ 1048576)
    (hK : ∀ w', Bx w' w.heap.size ((List.replicate m (0 : Int)).map (Value.int .i64)) → Below w.heap.size w w' → wpListIn F n Tryd.prog ops Q rest (a.put o.dst (.slice (some ⟨w.heap.size, 0, none⟩) m m)) w') :
    wpListIn F n Tryd.prog ops Q (o :: rest) a w := by
  obtain ⟨i0, hi, hz0, hz1, hz2⟩ := info_parts Tryd.info3
  refine wpListIn_plain hg fun K hK' => ?_
  obtain ⟨w', hrun, r1, r2⟩ := run_make_full (P := Tryd.prog) w w.heap.size 33 3 i0 (.int .i64 0) 1 Tryd.underlying33 hi hz0 hz1 .i64 .i64 m (by rw [hz2]; omega) (by unfold maxLen; omega) (Nat.le_refl _)
  unfold Oper.wpIn
  refine ⟨by simp [Oper.about, hop], ?_⟩
  rw [Oper.semAt_plain F _ _ (by rw [hop]; intro c hc'; cases hc')]
  simp [execOp, hop, hl, hc, hrun, Result.andThen]
  refine hK' _ _ (hK w' ?_ ((Below.refl _ _).grown r2 (Nat.le_refl _) (fun k e => by cases e)))
  have h : Bx w' w.heap.size (madeCells #[Value.int .i64 0] (m * 1)).toList := made_box r1
  rw [toList_madeCells_one, Nat.mul_one] at h
  rw [rep_mapI]; exact h
end Go.Proofs.YteamcpcjooglaaaDoor
