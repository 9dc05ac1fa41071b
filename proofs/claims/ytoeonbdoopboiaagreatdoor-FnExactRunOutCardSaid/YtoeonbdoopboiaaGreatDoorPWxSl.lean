/- The greatest of a row; a row backward: what the program's widest wants. No conditions but those written. A value is led on. No conditions but those written. A value comes out. No conditions but those written. Whether a node is blocked: the program. No conditions but those written. Stages: what a stage makes of a value, on both sides. No conditions but those written. Stages: what a stage makes of a value: the walks. No conditions but those written. -/
import Derived.Test.YtoeonbdoopboiaaGreatDoorPThWp
import Derived.Test.YtoeonbdoopboiaaGreatDoorPZwYz
import Derived.Test.YtoeonbdoopboiaaGreatDoorPRwOs
import Derived.Test.YtoeonbdoopboiaaGreatDoorPFoRc
import Derived.Test.YtoeonbdoopboiaaGreatDoorPSiRu
namespace Go.Proofs.YtoeonbdoopboiaaGreatDoor
section
open Go.RowKit Go.Shelf

attribute [local go_sem] Oper.semAt_some

set_option maxHeartbeats 2000000 in
theorem maxI_any (ao : Option Addr) (cap : Nat) (l : List Int) (w : World) (h1 : 1 ≤ l.length) (hl : l.length ≤ 1048576) (hb : ∀ j, j < l.length → 0 ≤ el l j) (hz : kI.In w.heap.size w ao l) :
    Calls Tryz.prog 124 #[.slice ao l.length cap] w fun e w' => e = .returned (.int .i64 (maxL l)) ∧ w' = w := by
  obtain ⟨b, off, rfl, hb0, hc⟩ := ints_at hz (k := 0) (by omega)
  have HC := hid hc
  have HB := hid hb
  have c0 := hc 0 (by omega)
  rw [Nat.add_zero] at c0
  have hx0 : Hid (el l 0 = maxL (l.take 1)) := by
    rw [Hid, take_succ_el (by omega), List.take_zero, List.nil_append]
    have := hb 0 (by omega)
    simp only [maxL]; omega
  generalize el l 0 = x0 at c0 hx0
  clear hc hz hb
  have hli : (1 : Int) ≤ (l.length : Int) := by omega
  go_enter Tryz.func124, Tryz.ntmps124
  go_wp2
  go_loop [3, 4] (fun v i => ∃ (k : Nat) (z : Int), i = .int .i64 (k : Int) ∧ v = .int .i64 z ∧ 1 ≤ k ∧ k ≤ l.length ∧ Hid (z = maxL (l.take k))) (fun _ i => l.length - (intOf i).toNat)
  case atStart => exact ⟨1, x0, rfl, rfl, Nat.le_refl _, h1, hx0⟩
  case round =>
    clear hx0 c0
    obtain ⟨k, z, rfl, rfl, hk1, hk, hz⟩ := hrel
    by_cases hlt : k < l.length
    · have ck := HC.out k hlt
      have HS : Hid (max z (el l k) = maxL (l.take (k + 1))) := by rw [Hid, take_succ_el hlt, maxL_snoc _ _ (HB.out k hlt), ← hz.out]
      generalize el l k = x at ck HS
      have hki : (k : Int) < (l.length : Int) := by omega
      go_wp2
      go_round
      case rel => exact ⟨k + 1, _, by go_num, rfl, by omega, by omega, by rw [Hid, ← HS.out]; split <;> omega⟩
      case measure => simp [intOf]; omega
    · obtain rfl : k = l.length := by omega
      have HZ : Hid (z = maxL l) := by rw [Hid, hz.out, List.take_length]
      go_wp2
      go_ret
      exact ⟨ret_int HZ.out, rfl⟩
set_option maxHeartbeats 1000000 in
theorem isEnd_is (nm : ByteArray) (kd sa sb cp : Int) (nxo : Option Addr) (n nxc : Nat) (w : World) :
    Calls Tryz.prog 112 #[.agg #[.string nm, .int .i64 kd, .int .i64 sa, .int .i64 sb, .int .i64 cp, .slice nxo n nxc]] w fun e w' => e = .returned (.bool ((n : Int) == 0)) ∧ Below w.heap.size w w' := by
  go_enter Tryz.func112, Tryz.ntmps112
  go_wp2
  go_ret
  exact ⟨rfl, below1 _ _⟩
set_option maxHeartbeats 1000000 in
theorem backward_any (a : Option Addr) (n c : Nat) (w : World) :
    Calls Tryz.prog 105 #[.slice a n c] w fun e w' => e = .returned (.func (.func 143) #[] #[.pointer (some ⟨w.heap.size, 0, none⟩)]) ∧ w' = w.alloc (.cells #[.slice a n c] 29) := by
  go_enter Tryz.func105, Tryz.ntmps105
  go_wp2
  go_ret
  exact ⟨rfl, rfl⟩
/-- Two blocks lie as they lay. -/
def Same2 (b c : Nat) (W W' : World) : Prop := SameB b W W' ∧ SameB c W W'
theorem Same2.trans {b c : Nat} {A B C : World} (h : Same2 b c A B) (k : Same2 b c B C) : Same2 b c A C := ⟨h.1.trans k.1, h.2.trans k.2⟩
/-- What comes as the t-th. -/
def bkA (ts : List Int) (t : Nat) : Array Value := #[Value.int .i64 ((ts.length : Int) - 1 - (t : Int)), tvI (el ts.reverse t)]
set_option maxRecDepth 100000 in
set_option maxHeartbeats 2000000 in
theorem back1_in (F : Fence) (n : Nat) (hAll : F.fn 143) (hro : F.round = none) (hn : 1 ≤ n) (l Bs b : Nat) (ao : Option Addr) (cap : Nat) (ts : List Int) (hreach : ts.length ≤ 1048576) (J Jx : List Nat → World → Prop) (W : World) (_ : AbidesFrom W.heap.size J)
    (hY : ∀ (pre : List Nat) (x : Nat) (W : World), J pre W → pre.length < ts.length → YieldAt F (n - 1) Tryz.prog l (bkA ts x) W fun e W' =>
      (e = .returned (.bool true) ∧ J (pre ++ [x]) W' ∧ Same2 b Bs W W') ∨ (e = .returned (.bool false) ∧ Jx (pre ++ [x]) W'))
    (hBs : W.cell? ⟨Bs, 0, none⟩ = some (.slice ao ts.length cap)) (hc : ts = [] ∨ ∃ off, ao = some ⟨b, off, none⟩ ∧ ∀ j, j < ts.length → W.cell? ⟨b, off + j, none⟩ = some (.int .i64 (el ts j))) (h0 : J [] W) :
    CallsIn F n Tryz.prog 143 #[.func (.yield l) #[] #[], .pointer (some ⟨Bs, 0, none⟩)] W fun e W' => (∃ v, e = .returned v) ∧
      ((∃ ys, ys = List.range ts.length ∧ J ys W') ∨ (∃ pre, (∃ k, k ≤ ts.length ∧ pre = List.range k) ∧ Jx pre W')) := by
  refine callsIn_of_wp Tryz.func143 rfl hAll ?_ hro
  simp only [Tryz.ntmps143, List.size_toArray, List.length_cons, List.length_nil, Nat.reduceAdd, Nat.reduceSub, Array.replicate_succ, Array.replicate_zero, List.push_toArray, List.append_toArray, List.nil_append, List.cons_append]
  gi_wp2
  gi_loopw [3] (fun i wr => ∃ k m : Nat, m + k = ts.length ∧ i = .int .i64 ((m : Int) - 1) ∧ J (List.range k) wr ∧ Hid (Same2 b Bs W wr))
    (fun i _ => (intOf i + 1).toNat)
  case atStart => exact ⟨0, ts.length, by omega, rfl, h0, ⟨rfl, rfl⟩⟩
  case round =>
    obtain ⟨k, m, hkm, rfl, hJs, hnx⟩ := hrel
    cases m with
    | succ m =>
      rcases hc with rfl | ⟨off, rfl, hc⟩
      · simp at hkm
      have c1 := hc m (by omega)
      have d1 := (hnx.out.1.cell (off + m)).trans c1
      have dB := (hnx.out.2.cell 0).trans hBs
      have hel : el ts m = el ts.reverse k := by rw [el_reverse (by omega)]; congr 1; omega
      have hJa := hJs
      obtain ⟨fn, tmps, assign, body, hy, hR⟩ := hY _ k _ hJa (by rw [List.length_range]; omega)
      have e2 : ((ts.length : Int) - 1 - (k : Int)) = (m : Int) := by omega
      simp only [bkA, tvI, ← hel, e2] at hy
      have e1 : (((m + 1 : Nat) : Int) - 1) = (m : Int) := by omega
      obtain ⟨x1, ex1⟩ : ∃ x, x = el ts m := ⟨_, rfl⟩
      rw [← ex1] at hy d1
      have hmi : (m : Int) < (ts.length : Int) := by omega
      rw [e1]
      clear c1 hc ex1 hel e1 e2 hBs
      gi_wp2
      refine hR.mono ?_
      rintro e W3 (⟨rfl, hJ3, hk3⟩ | ⟨rfl, hJx3⟩)
      · have hk4 : Same2 b Bs wr W3 := hk3
        gi_wp2
        go_roundw
        case rel => exact ⟨k + 1, m, by omega, rfl, by rw [List.range_succ]; exact hJ3, hnx.out.trans hk4⟩
        case measure => simp [intOf]
      · gi_wp2
        refine bodyPost_ret (results_none rfl _ _ _) rfl ?_
        exact ⟨⟨_, rfl⟩, .inr ⟨_, ⟨k + 1, by omega, List.range_succ.symm⟩, hJx3⟩⟩
    | zero =>
      obtain rfl : k = ts.length := by omega
      gi_wp2
      go_end0
      exact ⟨⟨_, rfl⟩, .inl ⟨_, rfl, hJs⟩⟩
theorem back_stops (F : Fence) (n : Nat) (hAll : F.fn 143) (hro : F.round = none) (hn : 1 ≤ n) (Bs b : Nat) (ao : Option Addr) (cap : Nat) (ts : List Int) (hreach : ts.length ≤ 1048576) (w : World) (hBs : Bs < w.heap.size)
    (hc : w.cell? ⟨Bs, 0, none⟩ = some (.slice ao ts.length cap)) (hI : ts = [] ∨ ∃ off, ao = some ⟨b, off, none⟩ ∧ b < w.heap.size ∧ ∀ j, j < ts.length → w.cell? ⟨b, off + j, none⟩ = some (.int .i64 (el ts j))) :
    SeqStopsK F n Tryz.prog 143 #[.pointer (some ⟨Bs, 0, none⟩)] (fun x : Nat => bkA ts x) (Same2 b Bs) (fun ys => ys = List.range ts.length)
      (fun pre => ∃ k, k ≤ ts.length ∧ pre = List.range k) ts.length w := fun l J Jx W hW hJ _ hY h0 => by
  have hc' := (hW.cell (p := ⟨Bs, 0, none⟩) hBs).trans hc
  refine back1_in F n hAll hro hn l Bs b ao cap ts hreach J Jx W hJ hY hc' ?_ h0
  rcases hI with h | ⟨off, h1, hb, hcs⟩
  · exact .inl h
  · exact .inr ⟨off, h1, fun j hj => (hW.cell (p := ⟨b, off + j, none⟩) hb).trans (hcs j hj)⟩
theorem make_in {F : Fence} {n : Nat} (w : World) {ops : Array Oper} {rest : List Oper} {o : Oper} {a : Act} {Q : Exit → Act → World → Prop}
    (hg : o.guard = none) (l c : Operand) (hop : o.op = Op.makeSlice 29 l c) (m : Nat) (hl : a.eval l = .int .i64 (m : Int)) (hc : a.eval c = .int .i64 (m : Int)) (hm : m ≤ 1048576)
    (hK : ∀ w', Bx w' w.heap.size ((List.replicate m (0 : Int)).map (Value.int .i64)) → Below w.heap.size w w' → wpListIn F n Tryz.prog ops Q rest (a.put o.dst (.slice (some ⟨w.heap.size, 0, none⟩) m m)) w') :
    wpListIn F n Tryz.prog ops Q (o :: rest) a w := by
  obtain ⟨i0, hi, hz0, hz1, hz2⟩ := info_parts Tryz.info3
  refine wpListIn_plain hg fun K hK' => ?_
  obtain ⟨w', hrun, r1, r2⟩ := run_make_full (P := Tryz.prog) w w.heap.size 29 3 i0 (.int .i64 0) 1 Tryz.underlying29 hi hz0 hz1 .i64 .i64 m (by rw [hz2]; omega) (by unfold maxLen; omega) (Nat.le_refl _)
  unfold Oper.wpIn
  refine ⟨by simp [Oper.about, hop], ?_⟩
  rw [Oper.semAt_plain F _ _ (by rw [hop]; intro c hc'; cases hc')]
  simp [execOp, hop, hl, hc, hrun, Result.andThen]
  refine hK' _ _ (hK w' ?_ ((Below.refl _ _).grown r2 (Nat.le_refl _) (fun k e => by cases e)))
  have h : Bx w' w.heap.size (madeCells #[Value.int .i64 0] (m * 1)).toList := made_box r1
  rw [toList_madeCells_one, Nat.mul_one] at h
  rw [rep_mapI]; exact h
end
section
open Go.RowKit

/-- A token is put behind each of some boxes. -/
def putsTo (t : Int × Int × Int) (bx : List (List (Int × Int × Int))) : List Int → List (List (Int × Int × Int))
  | [] => bx
  | x :: r => putsTo t (bx.set x.toNat (el bx x.toNat ++ [t])) r
theorem putsTo_len (t : Int × Int × Int) : ∀ (l : List Int) (bx : List (List (Int × Int × Int))), (putsTo t bx l).length = bx.length
  | [], _ => rfl
  | x :: r, bx => by rw [putsTo, putsTo_len t r, List.length_set]
theorem putsTo_snoc (t : Int × Int × Int) : ∀ (l : List Int) (bx : List (List (Int × Int × Int))) (x : Int), putsTo t bx (l ++ [x]) = (putsTo t bx l).set x.toNat (el (putsTo t bx l) x.toNat ++ [t])
  | [], _, _ => rfl
  | y :: r, bx, x => by rw [List.cons_append, putsTo, putsTo, putsTo_snoc t r]
theorem putsTo_tot (t : Int × Int × Int) : ∀ (l : List Int) (bx : List (List (Int × Int × Int))), (∀ x ∈ l, ∃ j : Nat, j < bx.length ∧ x = (j : Int)) → totT (putsTo t bx l) = totT bx + l.length
  | [], _, _ => rfl
  | y :: r, bx, h => by
    obtain ⟨j, hj, rfl⟩ := h y (by simp)
    have h1 := totT_set (ls := bx) (k := j) (el bx j ++ [t]) hj
    rw [putsTo, putsTo_tot t r _ (fun x hx => by rw [List.length_set]; exact h x (by simp [hx])), Int.toNat_natCast]
    rw [List.length_append, List.length_singleton] at h1
    rw [List.length_cons]; omega
set_option maxRecDepth 100000 in
set_option maxHeartbeats 2000000 in
theorem leadOn_any (lo : Nat) (W : World) (p bb gb goff gn gc : Nat) (sv : Value) (xs : List Value) (ev fv uv : Value) (s : PP) (k : Nat) (it v : Int) (nm : ByteArray) (kd sa sb cp : Int) (nxo : Option Addr) (nxc : Nat) (nx : List Int)
    (h : Flow lo W p bb (.slice (some ⟨gb, goff, none⟩) gn gc) sv xs ev fv uv s) (hg : k < gn) (hgb : gb < lo) (c0 : W.cell? ⟨gb, goff + k * 6, none⟩ = some (.string nm)) (c1 : W.cell? ⟨gb, goff + k * 6 + 1, none⟩ = some (.int .i64 kd)) (c2 : W.cell? ⟨gb, goff + k * 6 + 2, none⟩ = some (.int .i64 sa)) (c3 : W.cell? ⟨gb, goff + k * 6 + 3, none⟩ = some (.int .i64 sb)) (c4 : W.cell? ⟨gb, goff + k * 6 + 4, none⟩ = some (.int .i64 cp)) (c5 : W.cell? ⟨gb, goff + k * 6 + 5, none⟩ = some (.slice nxo nx.length nxc))
    (hI : kI.In lo W nxo nx) (hne : nx.length ≠ 0) (hrg : ∀ x ∈ nx, ∃ j : Nat, j < s.bx.length ∧ x = (j : Int)) (ht : totT s.bx + nx.length ≤ 100000) :
    Calls Tryz.prog 149 #[.pointer (some ⟨p, 0, none⟩), .int .i64 (k : Int), .int .i64 it, .int .i64 v] W fun e W' => (∃ u, e = .returned u) ∧ FStep lo p (.slice (some ⟨gb, goff, none⟩) gn gc) sv (FO p bb xs ev fv uv) W W' { s with bx := putsTo (it, v, 0) s.bx nx } := by
  have b0 := h.box.c 0 rfl
  have hgi : (k : Int) < (gn : Int) := by omega
  have hie := isEnd_is nm kd sa sb cp nxo nx.length nxc W
  rw [show ((nx.length : Int) == 0) = false by simpa using hne] at hie
  have HIE := hid hie
  have hp := h.box.size
  have hlo : lo ≤ W.heap.size := Nat.le_of_lt (Nat.lt_of_le_of_lt h.lop h.box.size)
  clear hie
  go_enter Tryz.func149, Tryz.ntmps149
  go_wp2_with fail
  refine HIE.out.mono ?_
  rintro e w1 ⟨rfl, hb1⟩
  have F1 := h.later hb1
  have e0 := F1.box.c 0 rfl
  have e5 := (hb1.cell (p := ⟨gb, goff + k * 6 + 5, none⟩) (by simp only; omega)).trans c5
  have HS1 := hid (FStep.same h hb1)
  clear F1 b0 c0 c1 c2 c3 c4 c5
  go_wp2
  go_loopw [42] (fun i wr => ∃ m : Nat, m ≤ nx.length ∧ i = .int .i64 (m : Int) ∧ Hid (FStep lo p (.slice (some ⟨gb, goff, none⟩) gn gc) sv (FO p bb xs ev fv uv) W wr { s with bx := putsTo (it, v, 0) s.bx (nx.take m) })) (fun i _ => nx.length - (intOf i).toNat)
  case atStart => exact ⟨0, Nat.zero_le _, rfl, HS1⟩
  case round =>
    obtain ⟨m, hm, rfl, hS⟩ := hrel
    by_cases hlt : m < nx.length
    · obtain ⟨bb2, xs2, ev2, fv2, uv2, F2, _, hB2, _, hgo⟩ := hS.out.next
      obtain ⟨nb, noff, rfl, hnb, hnc⟩ := ints_at hI hlt
      have cm := (hB2.cell (p := ⟨nb, noff + m, none⟩) hnb).trans (hnc m hlt)
      obtain ⟨j, hj, hx⟩ := hrg (el nx m) (el_mem hlt)
      rw [hx] at cm
      have HT := hid (take_succ_el hlt)
      rw [hx] at HT
      have hpl := putsTo_len (it, v, 0) (nx.take m) s.bx
      have hpt := putsTo_tot (it, v, 0) (nx.take m) s.bx (fun x hx => hrg x (List.mem_of_mem_take hx))
      have hlm : (nx.take m).length = m := by simp; omega
      have hpu := put_any lo wr p bb2 _ sv xs2 ev2 fv2 uv2 _ j it v 0 F2 (by dsimp only; omega) (by dsimp only; omega)
      have HPU := hid hpu
      have HN : Hid (∀ w2, FStep lo p (.slice (some ⟨gb, goff, none⟩) gn gc) sv (FO p bb2 xs2 ev2 fv2 uv2) wr w2 { s with bx := (putsTo (it, v, 0) s.bx (nx.take m)).set j (el (putsTo (it, v, 0) s.bx (nx.take m)) j ++ [(it, v, 0)]) } → Hid (FStep lo p (.slice (some ⟨gb, goff, none⟩) gn gc) sv (FO p bb xs ev fv uv) W w2 { s with bx := putsTo (it, v, 0) s.bx (nx.take (m + 1)) })) := fun w2 h2 => by
        rw [HT.out, putsTo_snoc, Int.toNat_natCast]
        exact hgo _ _ _ (Below.refl _ _) h2
      clear hpu hgo F2 hS hpl hpt hlm hnc hx
      go_wp2_with fail
      refine HPU.out.mono ?_
      rintro e w2 ⟨⟨u2, rfl⟩, h2⟩
      have H2 := HN.out w2 h2
      clear h2 HN HPU
      go_wp2
      go_roundw
      case rel => exact ⟨m + 1, by omega, by go_num, H2⟩
      case measure => simp [intOf]; omega
    · obtain rfl : m = nx.length := by omega
      rw [List.take_length] at hS
      go_wp2
      first | refine bodyPost_ret (results_none rfl _ _ _) rfl ?_ | refine bodyPost_end (results_none rfl _ _ _) rfl ?_
      exact ⟨⟨_, rfl⟩, hS.out⟩
end
section
open Go.RowKit

set_option maxRecDepth 100000 in
set_option maxHeartbeats 2000000 in
theorem leadEnd_any (lo : Nat) (W : World) (p bb gb goff gn gc : Nat) (sv : Value) (xs : List Value) (ev fv uv : Value) (s : PP) (k : Nat) (it v : Int) (nm : ByteArray) (kd sa sb cp : Int) (nxo : Option Addr) (nxc : Nat)
    (h : Flow lo W p bb (.slice (some ⟨gb, goff, none⟩) gn gc) sv xs ev fv uv s) (hg : k < gn) (hgb : gb < lo) (c0 : W.cell? ⟨gb, goff + k * 6, none⟩ = some (.string nm)) (c1 : W.cell? ⟨gb, goff + k * 6 + 1, none⟩ = some (.int .i64 kd)) (c2 : W.cell? ⟨gb, goff + k * 6 + 2, none⟩ = some (.int .i64 sa)) (c3 : W.cell? ⟨gb, goff + k * 6 + 3, none⟩ = some (.int .i64 sb)) (c4 : W.cell? ⟨gb, goff + k * 6 + 4, none⟩ = some (.int .i64 cp)) (c5 : W.cell? ⟨gb, goff + k * 6 + 5, none⟩ = some (.slice nxo 0 nxc)) (hem : s.em.length ≤ 1000000) :
    Calls Tryz.prog 149 #[.pointer (some ⟨p, 0, none⟩), .int .i64 (k : Int), .int .i64 it, .int .i64 v] W fun e W' => (∃ u, e = .returned u) ∧ FStep lo p (.slice (some ⟨gb, goff, none⟩) gn gc) sv (FO p bb xs ev fv uv) W W' { s with em := s.em ++ [(it, (k : Int), v)] } := by
  have b0 := h.box.c 0 rfl
  have hgi : (k : Int) < (gn : Int) := by omega
  have hie := isEnd_is nm kd sa sb cp nxo 0 nxc W
  have HIE := hid hie
  have hp := h.box.size
  have hlo : lo ≤ W.heap.size := Nat.le_of_lt (Nat.lt_of_le_of_lt h.lop h.box.size)
  clear hie
  go_enter Tryz.func149, Tryz.ntmps149
  go_wp2_with fail
  refine HIE.out.mono ?_
  rintro e w1 ⟨rfl, hb1⟩
  have F1 := h.later hb1
  have e6 := F1.box.c 6 rfl
  obtain ⟨eo, ec, hev, _, _⟩ := F1.emo.fresh
  rw [hev] at e6
  have HB1 := hid hb1
  have hp1 := F1.box.size
  have hz1 := hb1.size
  obtain ⟨X, hX⟩ : ∃ X, X = w1.alloc (.cells #[.int .i64 it, .int .i64 (k : Int), .int .i64 v] 99) := ⟨_, rfl⟩
  have hbX : Below w1.heap.size w1 X := by rw [hX]; exact below1 _ _
  have FX := F1.later hbX
  have hN : kOu.In X.heap.size X (some ⟨w1.heap.size, 0, none⟩) [(it, (k : Int), v)] := by
    have hx : Bx X w1.heap.size [.int .i64 it, .int .i64 (k : Int), .int .i64 v] := by rw [hX]; exact Bx.new (w := w1) [.int .i64 it, .int .i64 (k : Int), .int .i64 v] 99 rfl
    exact kOu_one hx.size (hx.c 0 rfl) (hx.c 1 rfl) (hx.c 2 rfl)
  have HX := hid hX
  have HFX := hid FX
  have HN := hid hN
  have HBX := hid hbX
  have hOX : Hid (kOu.Own lo X (.slice eo s.em.length ec) s.em) := by rw [Hid, ← hev]; exact FX.emo
  have hXs := hbX.size
  have HEV := hid hev
  have e5w := (hb1.cell (p := ⟨gb, goff + k * 6 + 5, none⟩) (by simp only; omega)).trans c5
  clear hX FX hN hbX F1 b0 c0 c1 c2 c3 c4 c5 hb1
  go_wp2_with (at_builtin; rw [← HX.out]; refine Kind.appN kOu_ok X rfl (.tmp 23) (.tmp 28) rfl lo (.slice eo s.em.length ec) s.em rfl hOX.out (by omega) (some ⟨w1.heap.size, 0, none⟩) [(it, (k : Int), v)] 1 1 rfl rfl (by simp) _ HN.out (by simp; omega) ?_; intro v' w3 hO3 hB3 hG3 hw3; have kp := hG3.block p (by omega) (fun e => HFX.out.pe (by rw [HEV.out]; exact e.symm)); have p6 : w3.cell? ⟨p, 6, none⟩ = some (.slice eo s.em.length ec) := (World.cell?_of_block (a := ⟨p, 6, none⟩) kp).trans (by have h6 := HFX.out.box.c 6 rfl; rw [HEV.out] at h6; exact h6); have f6 := (World.frozen?_of_block (a := ⟨p, 6, none⟩) kp).trans (HFX.out.box.f 6 rfl); have p0 := (World.cell?_of_block (a := ⟨p, 0, none⟩) kp).trans (HFX.out.box.c 0 rfl); have n5 := (hB3.cell (p := ⟨gb, goff + k * 6 + 5, none⟩) hgb).trans ((HBX.out.cell (p := ⟨gb, goff + k * 6 + 5, none⟩) (by simp only; omega)).trans e5w); have HSS := hid (HFX.out.putEm hO3 hB3 (by rw [HEV.out]; exact hG3) (by rw [HEV.out]; exact hw3)); obtain ⟨L, hL⟩ : ∃ L, L = s.em ++ [(it, (k : Int), v)] := ⟨_, rfl⟩; rw [← hL] at HSS hO3; have HLL := hid hL; clear hL; obtain ⟨vo, vc, rfl, _, _⟩ := hO3.fresh; have hgp : gb ≠ p := (fun e => by have := h.lop; omega); clear kp hG3 hw3 hO3 hB3 e6)
  have HST : Hid (FStep lo p (.slice (some ⟨gb, goff, none⟩) gn gc) sv (FO p bb xs ev fv uv) W (w3.setCell ⟨p, 6, none⟩ (.slice vo L.length vc)) { s with em := s.em ++ [(it, (k : Int), v)] }) := by
    rw [Hid, ← HLL.out]; exact FStep.start h (HB1.out.trans (HBX.out.mono HB1.out.size)) HSS.out
  clear HSS HFX HN HX hOX HBX HB1 HEV
  go_wp2
  go_loopw [42] (fun i wr => i = .int .i64 0 ∧ Hid (FStep lo p (.slice (some ⟨gb, goff, none⟩) gn gc) sv (FO p bb xs ev fv uv) W wr { s with em := s.em ++ [(it, (k : Int), v)] })) (fun _ _ => 0)
  case atStart => exact ⟨rfl, HST⟩
  case round =>
    obtain ⟨rfl, hS⟩ := hrel
    go_wp2
    first | refine bodyPost_ret (results_none rfl _ _ _) rfl ?_ | refine bodyPost_end (results_none rfl _ _ _) rfl ?_
    exact ⟨⟨_, rfl⟩, hS.out⟩
end
section
open Go.RowKit

/-- The room that a node's box may have. -/
def capP (gs : List PNode) (k : Nat) : Int := (el gs k).2.2.2.2.1
/-- Whether some of those behind lack room. -/
def blkP (gs : List PNode) (bx : List (List (Int × Int × Int))) (k : Nat) (many : Int) : Bool := (nxP gs k).any fun x => decide (capP gs x.toNat - ((el bx x.toNat).length : Int) < many)
theorem Tryz.entersBk : ∀ args w, (callFunc 165 args).run Tryz.prog w = .ok (.enter 165 args) w := enters_of Tryz.func165 (by kernel_rfl) rfl
set_option maxRecDepth 100000 in
set_option maxHeartbeats 1000000 in
theorem blocked1_any (lo : Nat) (W : World) (p bb gb goff gn gc q r : Nat) (sv : Value) (xs : List Value) (ev fv uv : Value) (s : PP) (j : Nat) (cp many : Int) (h : Flow lo W p bb (.slice (some ⟨gb, goff, none⟩) gn gc) sv xs ev fv uv s) (hj : j < s.bx.length) (hg : j < gn) (hcp : W.cell? ⟨gb, goff + j * 6 + 4, none⟩ = some (.int .i64 cp)) (h0 : 0 ≤ cp) (h1 : cp ≤ 1000) (ht : totT s.bx ≤ 100000) (hq : Bx W q [.pointer (some ⟨p, 0, none⟩)]) (hr : Bx W r [.int .i64 many]) :
    Calls Tryz.prog 165 #[.int .i64 (j : Int), .pointer (some ⟨q, 0, none⟩), .pointer (some ⟨r, 0, none⟩)] W fun e W' => e = .returned (.bool (decide (cp - ((el s.bx j).length : Int) < many))) ∧ Below W.heap.size W W' := by
  have q0 := hq.c 0 rfl
  have r0 := hr.c 0 rfl
  have HRM : Hid (∀ n, Calls Tryz.prog 157 #[.pointer (some ⟨p, 0, none⟩), .int .i64 (j : Int)] (W.drewN n) fun e w' => e = .returned (.int .i64 (cp - (el s.bx j).length)) ∧ ∃ m, w' = (W.drewN n).drewN m) := fun n =>
    (roomAt_any lo (W.drewN n) p bb gb goff gn gc sv xs ev fv uv s j cp (h.later (below_draws (Below.refl _ _) n)) hj hg hcp h0 h1 ht).mono fun e w' hh => ⟨hh.1, 1, hh.2⟩
  generalize (el s.bx j).length = len at HRM ⊢
  go_enter Tryz.func165, Tryz.ntmps165
  go_wp2
  go_quiet (exact Calls.quiet_of (HRM.out _))
  go_wp2
  go_ret
  exact ⟨rfl, below_draws (Below.refl _ _) _⟩
set_option maxRecDepth 100000 in
set_option maxHeartbeats 2000000 in
theorem isBlocked_any (lo : Nat) (W : World) (p bb gb goff gc : Nat) (ts : List LNode) (sv : Value) (xs : List Value) (ev fv uv : Value) (s : PP) (k : Nat) (many : Int) (h : Flow lo W p bb (.slice (some ⟨gb, goff, none⟩) ts.length gc) sv xs ev fv uv s) (hn : s.bx.length = ts.length) (hk : k < ts.length) (hlo : lo ≤ W.heap.size) (hz : DIn dNode lo W (some ⟨gb, goff, none⟩) ts) (hE : EdgesIn (ts.map valNode)) (hcap : ∀ j, j < ts.length → 0 ≤ capP (ts.map valNode) j ∧ capP (ts.map valNode) j ≤ 1000) (ht : totT s.bx ≤ 100000) :
    Calls Tryz.prog 147 #[.pointer (some ⟨p, 0, none⟩), .int .i64 (k : Int), .int .i64 many] W fun e W' => e = .returned (.bool (blkP (ts.map valNode) s.bx k many)) ∧ Below W.heap.size W W' := by
  obtain ⟨V, hV⟩ : ∃ V, V = (W.alloc (.cells #[.pointer (some ⟨p, 0, none⟩)] 77)).alloc (.cells #[.int .i64 many] 3) := ⟨_, rfl⟩
  have hbV : Below W.heap.size W V := by rw [hV]; exact below2 _ _ _
  have QV : Bx V W.heap.size [.pointer (some ⟨p, 0, none⟩)] := by rw [hV]; exact (Bx.new [.pointer (some ⟨p, 0, none⟩)] _ rfl).alloc _
  have RV : Bx V (W.heap.size + 1) [.int .i64 many] := by rw [hV]; exact Bx.new [.int .i64 many] _ (by simp)
  have FV := h.later hbV
  have ZV := hz.below dNode_ok (hbV.mono hlo)
  obtain ⟨b, off, e, hb, hc⟩ := hNode_at ZV.1 hk
  obtain ⟨rfl, rfl⟩ : gb = b ∧ goff = off := by simp at e; exact e
  have c5 := (hc k hk).2.2.2.2.2
  have hin := ZV.2 k hk
  have hev : nxP (ts.map valNode) k = (el ts k).2.2.2.2.2.2.2 := by rw [nxP, el_val hk]; rfl
  obtain ⟨⟨nm, kd, sa, sb, cp, ⟨nxo, nxc, nx⟩⟩, ex⟩ : ∃ v, v = el ts k := ⟨_, rfl⟩
  rw [← ex] at c5 hin hev
  dsimp only at c5 hin hev
  have hI : kI.In lo V nxo nx := hin
  have hnl : nx.length ≤ 10 := by rw [← hev]; exact hE.few k (by rw [List.length_map]; exact hk)
  have hHI := hid (hI.up (Nat.le_trans hlo hbV.size))
  have hcb : Hid (∀ x W', x ∈ nx → Below V.heap.size V W' → Calls Tryz.prog 165 (#[.int .i64 x] ++ #[.pointer (some ⟨W.heap.size, 0, none⟩), .pointer (some ⟨W.heap.size + 1, 0, none⟩)]) W' fun e w' => e = .returned (.bool (decide (capP (ts.map valNode) x.toNat - ((el s.bx x.toNat).length : Int) < many))) ∧ Below W'.heap.size W' w') := fun x W' hx hb' => by
    obtain ⟨j, hj, rfl⟩ := hE.rng k (by rw [List.length_map]; exact hk) x (by rw [hev]; exact hx)
    rw [List.length_map] at hj
    rw [Int.toNat_natCast]
    have hcj : W'.cell? ⟨gb, goff + j * 6 + 4, none⟩ = some (.int .i64 (capP (ts.map valNode) j)) := by
      rw [hb'.cell (p := ⟨gb, goff + j * 6 + 4, none⟩) (Nat.lt_of_lt_of_le hb (Nat.le_trans hlo hbV.size)), (hc j hj).2.2.2.2.1, capP, el_val hj]; rfl
    exact blocked1_any lo W' p bb gb goff ts.length gc W.heap.size (W.heap.size + 1) sv xs ev fv uv s j _ many (FV.later hb') (by omega) hj hcj (hcap j hj).1 (hcap j hj).2 ht (QV.later hb') (RV.later hb')
  have HV := hid hV
  have f0 := FV.box.c 0 rfl
  have q0 := QV.c 0 rfl
  have hki : (k : Int) < (ts.length : Int) := by omega
  have HBV := hid hbV
  have HEV := hid hev
  rw [hV] at f0 q0 c5
  clear hV hbV QV RV FV ZV hc hin hI ex hev hz h
  have HR : blkP (ts.map valNode) s.bx k many = nx.any fun x => decide (capP (ts.map valNode) x.toNat - ((el s.bx x.toNat).length : Int) < many) := by rw [blkP, HEV.out]
  rw [HR]
  obtain ⟨y, hy⟩ : ∃ y, y = nx.any fun x => decide (capP (ts.map valNode) x.toNat - ((el s.bx x.toNat).length : Int) < many) := ⟨_, rfl⟩
  rw [← hy]
  have HY := hid hy
  clear hy HR
  go_enter Tryz.func147, Tryz.ntmps147
  go_wp2_with fail
  rw [← HV.out]
  clear f0 q0 c5 HV
  refine (containsFuncI_any 165 #[.pointer (some ⟨W.heap.size, 0, none⟩), .pointer (some ⟨W.heap.size + 1, 0, none⟩)] Tryz.entersBk nxo nxc nx (fun x => decide (capP (ts.map valNode) x.toNat - ((el s.bx x.toNat).length : Int) < many)) V (by omega) hHI.out hcb.out).mono ?_
  rintro e w2 ⟨rfl, hb2⟩
  have hB2 : Below W.heap.size W w2 := HBV.out.trans (hb2.mono HBV.out.size)
  rw [← HY.out]
  clear hb2
  go_wp2
  go_ret
  exact ⟨rfl, hB2⟩
end
section
open Go.RowKit

theorem mod_neg (a n : Int) (hn : 0 < n) (h : a.tmod n < 0) : a % n = a.tmod n + n := by
  have h2 : -n < a.tmod n := by have := Int.lt_tmod_of_pos a hn; omega
  have e : a = n * a.tdiv n + a.tmod n := (Int.mul_tdiv_add_tmod a n).symm
  have : a % n = (a.tmod n + n) % n := by
    conv => lhs; rw [e]
    rw [Int.add_emod_right, Int.mul_add_emod_self_left]
  rw [this, Int.emod_eq_of_lt (by omega) (by omega)]
theorem mod_pos (a n : Int) (hn : 0 < n) (h : ¬ a.tmod n < 0) : a % n = a.tmod n := by
  have h1 : a.tmod n < n := Int.tmod_lt_of_pos a hn
  have e : a = n * a.tdiv n + a.tmod n := (Int.mul_tdiv_add_tmod a n).symm
  have : a % n = (a.tmod n) % n := by
    conv => lhs; rw [e]
    rw [Int.mul_add_emod_self_left]
  rw [this, Int.emod_eq_of_lt (by omega) (by omega)]
set_option maxHeartbeats 1000000 in
theorem l1Mod_is (a n : Int) (w : World) (z : Int) (hz : a % n = z) (hn : 0 < n) (hn2 : n ≤ 1048576) :
    Calls Tryz.prog 135 #[.int .i64 a, .int .i64 n] w fun e w' => e = .returned (.int .i64 z) ∧ w' = w := by
  subst hz
  have h1 : a.tmod n < n := Int.tmod_lt_of_pos a hn
  have h2 : -n < a.tmod n := by have := Int.lt_tmod_of_pos a hn; omega
  have hne : n ≠ 0 := by omega
  go_enter Tryz.func135, Tryz.ntmps135
  by_cases h : a.tmod n < 0
  · rw [mod_neg a n hn h]
    go_wp2
    go_ret
    exact ⟨rfl, rfl⟩
  · rw [mod_pos a n hn h]
    go_wp2
    go_ret
    exact ⟨rfl, rfl⟩
set_option maxHeartbeats 1000000 in
theorem modulo_is (a n : Int) (w : World) (z : Int) (hz : a % n = z) (hn : 0 < n) (hn2 : n ≤ 1048576) :
    Calls Tryz.prog 209 #[.int .i64 a, .int .i64 n] w fun e w' => e = .returned (.int .i64 z) ∧ w' = w := by
  subst hz
  have h1 : a.tmod n < n := Int.tmod_lt_of_pos a hn
  have h2 : -n < a.tmod n := by have := Int.lt_tmod_of_pos a hn; omega
  have hne : n ≠ 0 := by omega
  go_enter Tryz.func209, Tryz.ntmps209
  by_cases h : a.tmod n < 0
  · rw [mod_neg a n hn h]
    go_wp2
    go_ret
    exact ⟨rfl, rfl⟩
  · rw [mod_pos a n hn h]
    go_wp2
    go_ret
    exact ⟨rfl, rfl⟩
/-- A number cut to the values. -/
def cutI (n : Int) : Int := if n > 1000000 then 1000000 else if n < -1000000 then -1000000 else n
theorem cutI_val (n : Int) : valB (cutI n) = true := by
  unfold cutI valB
  split
  · decide
  · split
    · decide
    · simp; omega
set_option maxHeartbeats 1000000 in
theorem l7Cut_is (n : Int) (w : World) (z : Int) (hz : cutI n = z) :
    Calls Tryz.prog 134 #[.int .i64 n] w fun e w' => e = .returned (.int .i64 z) ∧ w' = w := by
  subst hz
  unfold cutI
  by_cases h : n > 1000000
  · rw [if_pos h]
    have h' : decide (1000000 < n) = true := by simpa using h
    go_enter Tryz.func134, Tryz.ntmps134
    go_wp2
    go_ret
    exact ⟨rfl, rfl⟩
  · rw [if_neg h]
    by_cases h2 : n < -1000000
    · rw [if_pos h2]
      go_enter Tryz.func134, Tryz.ntmps134
      go_wp2
      go_ret
      exact ⟨rfl, rfl⟩
    · rw [if_neg h2]
      go_enter Tryz.func134, Tryz.ntmps134
      go_wp2
      go_ret
      exact ⟨rfl, rfl⟩
set_option maxHeartbeats 1000000 in
theorem cutTo_is (n : Int) (w : World) (z : Int) (hz : cutI n = z) :
    Calls Tryz.prog 208 #[.int .i64 n] w fun e w' => e = .returned (.int .i64 z) ∧ w' = w := by
  subst hz
  unfold cutI
  by_cases h : n > 1000000
  · rw [if_pos h]
    go_enter Tryz.func208, Tryz.ntmps208
    go_wp2
    all_goals go_ret
    all_goals exact ⟨ret_int (by omega), rfl⟩
  · rw [if_neg h]
    by_cases h2 : n < -1000000
    · rw [if_pos h2]
      go_enter Tryz.func208, Tryz.ntmps208
      go_wp2
      all_goals go_ret
      all_goals exact ⟨ret_int (by omega), rfl⟩
    · rw [if_neg h2]
      go_enter Tryz.func208, Tryz.ntmps208
      go_wp2
      all_goals go_ret
      all_goals exact ⟨ret_int (by omega), rfl⟩
/-- What a stage makes of a value: what comes out, and whether it fails. -/
def expI (n : Nat) (b v : Int) : List Int := (List.range n).map fun i : Nat => cutI (v + (i : Int) * b)
def appSt (k a b v : Int) : List Int × Bool :=
  if k = 1 then ([cutI (v * a + b)], false)
  else if k = 2 then (if v % a = b then [v] else [], false)
  else if k = 3 then (expI a.toNat b v, false)
  else if v % a = b then ([], true) else ([v], false)
theorem expI_len (n : Nat) (b v : Int) : (expI n b v).length = n := by simp [expI]
theorem expI_succ (n : Nat) (b v : Int) : expI (n + 1) b v = expI n b v ++ [cutI (v + (n : Int) * b)] := by simp [expI, List.range_succ]
theorem good3 {a b : Int} (h : goodSt 3 a b = true) : 1 ≤ a ∧ a ≤ 3 ∧ -1000 ≤ b ∧ b ≤ 1000 := by
  rw [goodSt3] at h; simpa [and_assoc] using h
theorem good2 {a b : Int} (h : goodSt 2 a b = true) : 1 ≤ a ∧ a ≤ 1000 ∧ 0 ≤ b ∧ b ≤ a - 1 := by
  rw [goodSt2] at h; simpa [and_assoc] using h
theorem good4 {a b : Int} (h : goodSt 4 a b = true) : 1 ≤ a ∧ a ≤ 1000 ∧ 0 ≤ b ∧ b ≤ a - 1 := by
  rw [goodSt4] at h; simpa [and_assoc] using h
theorem good1 {a b : Int} (h : goodSt 1 a b = true) : -100 ≤ a ∧ a ≤ 100 ∧ -1000000 ≤ b ∧ b ≤ 1000000 := by
  rw [goodSt1] at h; simpa [valB, and_assoc] using h
theorem val_of {v : Int} (h : valB v = true) : -1000000 ≤ v ∧ v ≤ 1000000 := by simpa [valB] using h
theorem good_kind {k a b : Int} (h : goodSt k a b = true) : k = 1 ∨ k = 2 ∨ k = 3 ∨ k = 4 := by
  rcases kinds k with h1 | h1 | h1 | h1 | ⟨h1, h2, h3, h4⟩
  · exact .inl h1
  · exact .inr (.inl h1)
  · exact .inr (.inr (.inl h1))
  · exact .inr (.inr (.inr h1))
  · rw [goodSt0 h1 h2 h3 h4] at h; cases h
theorem appSt1 (a b v : Int) : appSt 1 a b v = ([cutI (v * a + b)], false) := rfl
theorem appSt2 (a b v : Int) : appSt 2 a b v = (if v % a = b then [v] else [], false) := rfl
theorem appSt3 (a b v : Int) : appSt 3 a b v = (expI a.toNat b v, false) := rfl
theorem appSt4 (a b v : Int) : appSt 4 a b v = if v % a = b then ([], true) else ([v], false) := rfl
theorem appSt_len {k a b v : Int} (h : goodSt k a b = true) : (appSt k a b v).1.length ≤ 3 := by
  rcases good_kind h with rfl | rfl | rfl | rfl
  · simp [appSt]
  · rw [appSt2]; dsimp only; split <;> simp
  · have := good3 h
    rw [appSt3]; dsimp only; rw [expI_len]; omega
  · rw [appSt4]; split <;> simp
theorem appSt_val {k a b v : Int} (h : goodSt k a b = true) (hv : valB v = true) : ∀ x ∈ (appSt k a b v).1, valB x = true := by
  intro x hx
  rcases good_kind h with rfl | rfl | rfl | rfl
  · simp [appSt] at hx; subst hx; exact cutI_val _
  · rw [appSt2] at hx; dsimp only at hx
    split at hx <;> simp at hx; subst hx; exact hv
  · rw [appSt3] at hx; dsimp only at hx
    simp [expI] at hx; obtain ⟨i, _, rfl⟩ := hx; exact cutI_val _
  · rw [appSt4] at hx
    split at hx <;> simp at hx; subst hx; exact hv
theorem mul_le100 {v a : Int} (h1 : -1000000 ≤ v ∧ v ≤ 1000000) (h2 : -100 ≤ a ∧ a ≤ 100) : -100000000 ≤ v * a ∧ v * a ≤ 100000000 := by
  have hn : (v * a).natAbs ≤ 1000000 * 100 := by rw [Int.natAbs_mul]; exact Nat.mul_le_mul (by omega) (by omega)
  omega
end
section
open Go.RowKit

/-- A row of ints of its own and a bool are answered. -/
def AnsA (w : World) (r : List Int × Bool) (e : Ending) (w' : World) : Prop :=
  (∃ o c, e = .returned (.tuple #[.slice o r.1.length c, .bool r.2]) ∧ (o = none → c = 0) ∧ kI.Fresh w.heap.size w'.heap.size w' o c r.1) ∧ Below w.heap.size w w'
theorem fresh_one {lo : Nat} {W : World} {z : Int} (h : lo ≤ W.heap.size) : kI.Fresh lo (W.alloc (.cells #[.int .i64 z] 3)).heap.size (W.alloc (.cells #[.int .i64 z] 3)) (some ⟨W.heap.size, 0, none⟩) 1 [z] :=
  .inr ⟨W.heap.size, rfl, by simp, Kind.own_of_heap (K := kI) (cs := [.int .i64 z]) (xs := [z]) (Array.getElem?_push_size) rfl h (by simp)⟩
theorem ansA_one {w W : World} {z : Int} {p : Nat} (hB : Below w.heap.size w W) (hp : W.heap.size = p) : AnsA w ([z], false) (.returned (.tuple #[.slice (some ⟨p, 0, none⟩) 1 1, .bool false])) (W.alloc (.cells #[.int .i64 z] 3)) := by
  subst hp; exact ⟨⟨_, _, rfl, (fun h => by cases h), fresh_one hB.size⟩, Below.allocS hB _⟩
theorem ansA_nil {w W : World} {b : Bool} (hB : Below w.heap.size w W) : AnsA w ([], b) (.returned (.tuple #[.slice none 0 0, .bool b])) W :=
  ⟨⟨_, _, rfl, fun _ => rfl, .inl rfl⟩, hB⟩
set_option maxHeartbeats 4000000 in
theorem l7Apply1 (a b v : Int) (w : World) (hg : goodSt 1 a b = true) (hv : valB v = true) :
    Calls Tryz.prog 99 #[.agg #[.int .i64 1, .int .i64 a, .int .i64 b], .int .i64 v] w (AnsA w (appSt 1 a b v)) := by
  have g1 := good1 hg
  have v1 := val_of hv
  have m1 := mul_le100 v1 ⟨g1.1, g1.2.1⟩
  clear hg hv
  go_enter Tryz.func99, Tryz.ntmps99
  go_wp2_with fail
  refine (l7Cut_is (v * a + b) _ _ rfl).mono ?_
  rintro e w1 ⟨rfl, hw1⟩
  rw [hw1]; clear hw1 w1
  go_wp2
  exact bodyPost_ret (v := .tuple #[.slice (some ⟨w.heap.size + 1, 0, none⟩) 1 1, .bool false]) (by simp [results, Tryz.results99, go_sem]) rfl (ansA_one (below1 _ _) (by simp))
set_option maxHeartbeats 4000000 in
theorem mapOne_is (a b v : Int) (w : World) (hg : goodSt 1 a b = true) (hv : valB v = true) :
    Calls Tryz.prog 199 #[.agg #[.int .i64 1, .int .i64 a, .int .i64 b], .int .i64 v] w (AnsA w (appSt 1 a b v)) := by
  have g1 := good1 hg
  have v1 := val_of hv
  have m1 := mul_le100 v1 ⟨g1.1, g1.2.1⟩
  clear hg hv
  go_enter Tryz.func199, Tryz.ntmps199
  go_wp2_with fail
  refine (cutTo_is (v * a + b) _ _ rfl).mono ?_
  rintro e w1 ⟨rfl, hw1⟩
  rw [hw1]; clear hw1 w1
  go_wp2
  exact bodyPost_ret (v := .tuple #[.slice (some ⟨w.heap.size + 1, 0, none⟩) 1 1, .bool false]) (by simp [results, Tryz.results199, go_sem]) rfl (ansA_one (below1 _ _) (by simp))
set_option maxHeartbeats 4000000 in
theorem l7Apply2 (a b v : Int) (w : World) (hg : goodSt 2 a b = true) :
    Calls Tryz.prog 99 #[.agg #[.int .i64 2, .int .i64 a, .int .i64 b], .int .i64 v] w (AnsA w (appSt 2 a b v)) := by
  have g1 := good2 hg
  clear hg
  generalize hm : v % a = m
  have HM := hid hm
  clear hm
  by_cases hh : m = b
  · have ha : appSt 2 a b v = ([v], false) := by rw [appSt2, HM.out, if_pos hh]
    rw [ha]
    have hc : (m != b) = false := by simp [hh]
    clear hh ha
    go_enter Tryz.func99, Tryz.ntmps99
    go_wp2
    go_quiet (exact Calls.quiet_of_same (l1Mod_is v a _ m HM.out (by omega) (by omega)))
    go_wp2
    exact bodyPost_ret (v := .tuple #[.slice (some ⟨w.heap.size + 1, 0, none⟩) 1 1, .bool false]) (by simp [results, Tryz.results99, go_sem]) rfl (ansA_one (below_draws (below1 _ _) _) (by simp))
  · have ha : appSt 2 a b v = ([], false) := by rw [appSt2, HM.out, if_neg hh]
    rw [ha]
    have hc : (m != b) = true := by simp [hh]
    clear hh ha
    go_enter Tryz.func99, Tryz.ntmps99
    go_wp2
    go_quiet (exact Calls.quiet_of_same (l1Mod_is v a _ m HM.out (by omega) (by omega)))
    go_wp2
    exact bodyPost_ret (v := .tuple #[.slice none 0 0, .bool false]) (by simp [results, Tryz.results99, go_sem]) rfl (ansA_nil (below_draws (below1 _ _) _))
set_option maxHeartbeats 4000000 in
theorem l7Apply4 (a b v : Int) (w : World) (hg : goodSt 4 a b = true) :
    Calls Tryz.prog 99 #[.agg #[.int .i64 4, .int .i64 a, .int .i64 b], .int .i64 v] w (AnsA w (appSt 4 a b v)) := by
  have g1 := good4 hg
  clear hg
  generalize hm : v % a = m
  have HM := hid hm
  clear hm
  by_cases hh : m = b
  · have ha : appSt 4 a b v = ([], true) := by rw [appSt4, HM.out, if_pos hh]
    rw [ha]
    have hc : (m == b) = true := by simp [hh]
    clear hh ha
    go_enter Tryz.func99, Tryz.ntmps99
    go_wp2
    go_quiet (exact Calls.quiet_of_same (l1Mod_is v a _ m HM.out (by omega) (by omega)))
    go_wp2
    exact bodyPost_ret (v := .tuple #[.slice none 0 0, .bool true]) (by simp [results, Tryz.results99, go_sem]) rfl (ansA_nil (below_draws (below1 _ _) _))
  · have ha : appSt 4 a b v = ([v], false) := by rw [appSt4, HM.out, if_neg hh]
    rw [ha]
    have hc : (m == b) = false := by simp [hh]
    clear hh ha
    go_enter Tryz.func99, Tryz.ntmps99
    go_wp2
    go_quiet (exact Calls.quiet_of_same (l1Mod_is v a _ m HM.out (by omega) (by omega)))
    go_wp2
    exact bodyPost_ret (v := .tuple #[.slice (some ⟨w.heap.size + 1, 0, none⟩) 1 1, .bool false]) (by simp [results, Tryz.results99, go_sem]) rfl (ansA_one (below_draws (below1 _ _) _) (by simp))
set_option maxHeartbeats 4000000 in
theorem filterOne_is (a b v : Int) (w : World) (hg : goodSt 2 a b = true) :
    Calls Tryz.prog 202 #[.agg #[.int .i64 2, .int .i64 a, .int .i64 b], .int .i64 v] w (AnsA w (appSt 2 a b v)) := by
  have g1 := good2 hg
  clear hg
  generalize hm : v % a = m
  have HM := hid hm
  clear hm
  by_cases hh : m = b
  · have ha : appSt 2 a b v = ([v], false) := by rw [appSt2, HM.out, if_pos hh]
    rw [ha]
    have hc : (m != b) = false := by simp [hh]
    clear hh ha
    go_enter Tryz.func202, Tryz.ntmps202
    go_wp2
    go_quiet (exact Calls.quiet_of_same (modulo_is v a _ m HM.out (by omega) (by omega)))
    go_wp2
    exact bodyPost_ret (v := .tuple #[.slice (some ⟨w.heap.size + 1, 0, none⟩) 1 1, .bool false]) (by simp [results, Tryz.results202, go_sem]) rfl (ansA_one (below_draws (below1 _ _) _) (by simp))
  · have ha : appSt 2 a b v = ([], false) := by rw [appSt2, HM.out, if_neg hh]
    rw [ha]
    have hc : (m != b) = true := by simp [hh]
    clear hh ha
    go_enter Tryz.func202, Tryz.ntmps202
    go_wp2
    go_quiet (exact Calls.quiet_of_same (modulo_is v a _ m HM.out (by omega) (by omega)))
    go_wp2
    exact bodyPost_ret (v := .tuple #[.slice none 0 0, .bool false]) (by simp [results, Tryz.results202, go_sem]) rfl (ansA_nil (below_draws (below1 _ _) _))
set_option maxHeartbeats 4000000 in
theorem poisonOne_is (a b v : Int) (w : World) (hg : goodSt 4 a b = true) :
    Calls Tryz.prog 206 #[.agg #[.int .i64 4, .int .i64 a, .int .i64 b], .int .i64 v] w (AnsA w (appSt 4 a b v)) := by
  have g1 := good4 hg
  clear hg
  generalize hm : v % a = m
  have HM := hid hm
  clear hm
  by_cases hh : m = b
  · have ha : appSt 4 a b v = ([], true) := by rw [appSt4, HM.out, if_pos hh]
    rw [ha]
    have hc : (m == b) = true := by simp [hh]
    clear hh ha
    go_enter Tryz.func206, Tryz.ntmps206
    go_wp2
    go_quiet (exact Calls.quiet_of_same (modulo_is v a _ m HM.out (by omega) (by omega)))
    go_wp2
    exact bodyPost_ret (v := .tuple #[.slice none 0 0, .bool true]) (by simp [results, Tryz.results206, go_sem]) rfl (ansA_nil (below_draws (below1 _ _) _))
  · have ha : appSt 4 a b v = ([v], false) := by rw [appSt4, HM.out, if_neg hh]
    rw [ha]
    have hc : (m == b) = false := by simp [hh]
    clear hh ha
    go_enter Tryz.func206, Tryz.ntmps206
    go_wp2
    go_quiet (exact Calls.quiet_of_same (modulo_is v a _ m HM.out (by omega) (by omega)))
    go_wp2
    exact bodyPost_ret (v := .tuple #[.slice (some ⟨w.heap.size + 1, 0, none⟩) 1 1, .bool false]) (by simp [results, Tryz.results206, go_sem]) rfl (ansA_one (below_draws (below1 _ _) _) (by simp))
set_option maxHeartbeats 8000000 in
theorem l7Apply3 (a b v : Int) (w : World) (hg : goodSt 3 a b = true) (hv : valB v = true) :
    Calls Tryz.prog 99 #[.agg #[.int .i64 3, .int .i64 a, .int .i64 b], .int .i64 v] w (AnsA w (appSt 3 a b v)) := by
  have g1 := good3 hg
  have v1 := val_of hv
  rw [appSt3]
  obtain ⟨n, hn⟩ : ∃ n : Nat, a = n := ⟨a.toNat, by omega⟩
  subst hn
  have hn3 : n ≤ 3 := by omega
  have hn1 : 1 ≤ n := by omega
  have hb1 : -1000 ≤ b ∧ b ≤ 1000 := g1.2.2
  rw [show (n : Int).toNat = n from by simp]
  clear hg hv g1
  have A0 := hid (Bx.new (w := w) (p := w.heap.size) [.int .i64 3, .int .i64 n, .int .i64 b] 69 rfl)
  have hB0 := below1 w (.cells #[.int .i64 3, .int .i64 n, .int .i64 b] 69)
  go_enter Tryz.func99, Tryz.ntmps99
  go_wp2
  go_loopw [6, 7] (fun u i wr => ∃ (k : Nat) (v' : Value), v' = u ∧ k ≤ n ∧ i = .int .i64 k ∧ Hid (kI.Own (w.heap.size + 1) wr v' (expI k b v)) ∧ Hid (Bx wr w.heap.size [.int .i64 3, .int .i64 n, .int .i64 b]) ∧ Below w.heap.size w wr ∧ w.heap.size + 1 ≤ wr.heap.size) (fun _ i _ => n - (intOf i).toNat)
  case atStart => exact ⟨0, _, rfl, Nat.zero_le _, rfl, Kind.Own.nil _ _ _, A0, hB0, by simp⟩
  case round =>
    obtain ⟨k, u, rfl, hk, rfl, hO, hA, hB, hs⟩ := hrel
    have a0 := hA.out.c 0 rfl
    have a1 := hA.out.c 1 rfl
    have a2 := hA.out.c 2 rfl
    by_cases hlt : k < n
    · have hkb : -3000 ≤ (k : Int) * b ∧ (k : Int) * b ≤ 3000 := by
        have hq : ((k : Int) * b).natAbs ≤ 3 * 1000 := by rw [Int.natAbs_mul]; exact Nat.mul_le_mul (by omega) (by omega)
        omega
      obtain ⟨z, hz⟩ : ∃ z, z = cutI (v + (k : Int) * b) := ⟨_, rfl⟩
      have HZ := hid hz
      clear hz
      have HA : Hid (kI.Own (w.heap.size + 1) (wr.alloc (.cells #[.int .i64 z] 3)) u (expI k b v)) := hO.out.below (below1 _ _)
      have HN : Hid (kI.In (wr.heap.size + 1) (wr.alloc (.cells #[.int .i64 z] 3)) (some ⟨wr.heap.size, 0, none⟩) [z]) := int_one (by omega) (by simp)
      have hll : (expI k b v).length + 1 ≤ 4194304 := by rw [expI_len]; omega
      have hBa : Below w.heap.size w (wr.alloc (.cells #[.int .i64 z] 3)) := Below.allocS hB _
      have hA2 := hid (hA.out.alloc (.cells #[.int .i64 z] 3))
      go_wp2_with fail
      refine (l7Cut_is (v + (k : Int) * b) _ z HZ.out.symm).mono ?_
      rintro e w1 ⟨rfl, hw1⟩
      rw [hw1]; clear hw1 w1
      go_wp2_with (at_builtin; refine Kind.app kI_ok (wr.alloc (.cells #[.int .i64 z] 3)) rfl (.tmp 45) (.tmp 53) rfl (w.heap.size + 1) u (expI k b v) rfl HA.out (by simp; omega) (some ⟨wr.heap.size, 0, none⟩) [z] 1 1 rfl rfl (by simp) _ HN.out hll ?_; intro v' w' hO' hB' hG' hn'; have hB2 : Below w.heap.size w w' := hBa.trans (hB'.mono (by omega)); have hs2 : w.heap.size + 1 ≤ w'.heap.size := (by have := hB'.size; simp at this; omega); have HA3 := hid (hA2.out.below hB' (by omega)); have HO' : Hid (kI.Own (w.heap.size + 1) w' v' (expI (k + 1) b v)) := (by rw [Hid, expI_succ, ← HZ.out]; exact hO'); clear hO' hB' hG' hn')
      go_roundw
      case rel => exact ⟨k + 1, v', rfl, by omega, by go_num, HO', HA3, hB2, hs2⟩
      case measure => simp [intOf]; omega
    · obtain rfl : k = n := by omega
      obtain ⟨qo, qc, rfl, hq0, hF⟩ := hO.out.fresh
      have HF : Hid (kI.Fresh w.heap.size wr.heap.size wr qo qc (expI k b v)) := hF.wide (by omega) (Nat.le_refl _)
      have HQ := hid hq0
      clear hF hO hq0
      go_wp2
      exact bodyPost_ret (v := .tuple #[.slice qo (expI k b v).length qc, .bool false]) (by simp [results, Tryz.results99, go_sem]) rfl ⟨⟨_, _, rfl, HQ.out, HF.out⟩, hB⟩
set_option maxHeartbeats 8000000 in
theorem expandOne_is (a b v : Int) (w : World) (hg : goodSt 3 a b = true) (hv : valB v = true) :
    Calls Tryz.prog 204 #[.agg #[.int .i64 3, .int .i64 a, .int .i64 b], .int .i64 v] w (AnsA w (appSt 3 a b v)) := by
  have g1 := good3 hg
  have v1 := val_of hv
  rw [appSt3]
  obtain ⟨n, hn⟩ : ∃ n : Nat, a = n := ⟨a.toNat, by omega⟩
  subst hn
  have hn3 : n ≤ 3 := by omega
  have hn1 : 1 ≤ n := by omega
  have hb1 : -1000 ≤ b ∧ b ≤ 1000 := g1.2.2
  rw [show (n : Int).toNat = n from by simp]
  clear hg hv g1
  have A0 := hid (Bx.new (w := w) (p := w.heap.size) [.int .i64 3, .int .i64 n, .int .i64 b] 69 rfl)
  have hB0 := below1 w (.cells #[.int .i64 3, .int .i64 n, .int .i64 b] 69)
  go_enter Tryz.func204, Tryz.ntmps204
  go_wp2
  go_loopw [6, 10] (fun u i wr => ∃ (k : Nat) (v' : Value), v' = u ∧ k ≤ n ∧ i = .int .i64 k ∧ Hid (kI.Own (w.heap.size + 1) wr v' (expI k b v)) ∧ Hid (Bx wr w.heap.size [.int .i64 3, .int .i64 n, .int .i64 b]) ∧ Below w.heap.size w wr ∧ w.heap.size + 1 ≤ wr.heap.size) (fun _ i _ => n - (intOf i).toNat)
  case atStart => exact ⟨0, _, rfl, Nat.zero_le _, rfl, Kind.Own.nil _ _ _, A0, hB0, by simp⟩
  case round =>
    obtain ⟨k, u, rfl, hk, rfl, hO, hA, hB, hs⟩ := hrel
    have a0 := hA.out.c 0 rfl
    have a1 := hA.out.c 1 rfl
    have a2 := hA.out.c 2 rfl
    by_cases hlt : k < n
    · have hkb : -3000 ≤ (k : Int) * b ∧ (k : Int) * b ≤ 3000 := by
        have hq : ((k : Int) * b).natAbs ≤ 3 * 1000 := by rw [Int.natAbs_mul]; exact Nat.mul_le_mul (by omega) (by omega)
        omega
      obtain ⟨z, hz⟩ : ∃ z, z = cutI (v + (k : Int) * b) := ⟨_, rfl⟩
      have HZ := hid hz
      clear hz
      have HA : Hid (kI.Own (w.heap.size + 1) (wr.alloc (.cells #[.int .i64 z] 3)) u (expI k b v)) := hO.out.below (below1 _ _)
      have HN : Hid (kI.In (wr.heap.size + 1) (wr.alloc (.cells #[.int .i64 z] 3)) (some ⟨wr.heap.size, 0, none⟩) [z]) := int_one (by omega) (by simp)
      have hll : (expI k b v).length + 1 ≤ 4194304 := by rw [expI_len]; omega
      have hBa : Below w.heap.size w (wr.alloc (.cells #[.int .i64 z] 3)) := Below.allocS hB _
      have hA2 := hid (hA.out.alloc (.cells #[.int .i64 z] 3))
      go_wp2_with fail
      refine (cutTo_is (v + (k : Int) * b) _ z HZ.out.symm).mono ?_
      rintro e w1 ⟨rfl, hw1⟩
      rw [hw1]; clear hw1 w1
      go_wp2_with (at_builtin; refine Kind.app kI_ok (wr.alloc (.cells #[.int .i64 z] 3)) rfl (.tmp 13) (.tmp 21) rfl (w.heap.size + 1) u (expI k b v) rfl HA.out (by simp; omega) (some ⟨wr.heap.size, 0, none⟩) [z] 1 1 rfl rfl (by simp) _ HN.out hll ?_; intro v' w' hO' hB' hG' hn'; have hB2 : Below w.heap.size w w' := hBa.trans (hB'.mono (by omega)); have hs2 : w.heap.size + 1 ≤ w'.heap.size := (by have := hB'.size; simp at this; omega); have HA3 := hid (hA2.out.below hB' (by omega)); have HO' : Hid (kI.Own (w.heap.size + 1) w' v' (expI (k + 1) b v)) := (by rw [Hid, expI_succ, ← HZ.out]; exact hO'); clear hO' hB' hG' hn')
      go_roundw
      case rel => exact ⟨k + 1, v', rfl, by omega, by go_num, HO', HA3, hB2, hs2⟩
      case measure => simp [intOf]; omega
    · obtain rfl : k = n := by omega
      obtain ⟨qo, qc, rfl, hq0, hF⟩ := hO.out.fresh
      have HF : Hid (kI.Fresh w.heap.size wr.heap.size wr qo qc (expI k b v)) := hF.wide (by omega) (Nat.le_refl _)
      have HQ := hid hq0
      clear hF hO hq0
      go_wp2
      exact bodyPost_ret (v := .tuple #[.slice qo (expI k b v).length qc, .bool false]) (by simp [results, Tryz.results204, go_sem]) rfl ⟨⟨_, _, rfl, HQ.out, HF.out⟩, hB⟩
theorem l7Apply_any (k a b v : Int) (w : World) (hg : goodSt k a b = true) (hv : valB v = true) :
    Calls Tryz.prog 99 #[.agg #[.int .i64 k, .int .i64 a, .int .i64 b], .int .i64 v] w (AnsA w (appSt k a b v)) := by
  rcases good_kind hg with rfl | rfl | rfl | rfl
  · exact l7Apply1 a b v w hg hv
  · exact l7Apply2 a b v w hg
  · exact l7Apply3 a b v w hg hv
  · exact l7Apply4 a b v w hg
end
end Go.Proofs.YtoeonbdoopboiaaGreatDoor
