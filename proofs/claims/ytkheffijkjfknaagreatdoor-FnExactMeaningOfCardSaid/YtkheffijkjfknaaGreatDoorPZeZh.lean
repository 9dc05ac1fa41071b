
/- Hands: rows of tokens of their own behind one row of heads. No conditions but those written. Hands: rows of ints of their own behind one row of heads. No conditions but those written. The greatest of a row; a row backward: what the program's widest wants. No conditions but those written. What is emitted, as the program says it: emitsAt; how emitsOf's memory lies. No conditions but those written. A region that draws its order, walked once: what yields the same wherever S holds comes first; behind the last operations S need not hold. No conditions but those written. Pipes: sizes, copies, comparisons. No conditions but those written. A flow in memory. No conditions but those written. Counting atomically. No conditions but those written. A token is put into a box. No conditions but those written. -/
import Derived.Test.YtkheffijkjfknaaGreatDoorPSmZb
import Derived.Test.YtkheffijkjfknaaGreatDoorPRwOr
import Derived.Test.YtkheffijkjfknaaGreatDoorPThSk
import Derived.Test.YtkheffijkjfknaaGreatDoorPGenBx
import Derived.OrdersHeld
import Derived.Deep.RegionHeld3
import Derived.Laws.LoneSync
import Derived.Laws.BitsLemmas
namespace Go.Proofs.YtkheffijkjfknaaGreatDoor
section
open Go.RowKit

theorem el_set_same {α : Type} [Inhabited α] {l : List α} {k : Nat} {x : α} (h : k < l.length) : el (l.set k x) k = x := by simp [el, h]
theorem el_set_far {α : Type} [Inhabited α] {l : List α} {k j : Nat} {x : α} (h : j ≠ k) : el (l.set k x) j = el l j := by simp [el, Ne.symm h]
theorem own_block_lt {α : Type} {K : Kind α} {lo : Nat} {W : World} {v : Value} {xs : List α} (h : K.Own lo W v xs) {b : Nat} (hb : v.ownBlock = some b) : lo ≤ b ∧ b < W.heap.size := by
  rcases h.2 with ⟨e, _⟩ | ⟨g, cap, cur, e, hg, hh, _⟩
  · subst e; simp [Value.ownBlock] at hb
  · subst e; simp [Value.ownBlock] at hb; subst hb; exact ⟨hg, (Array.getElem?_eq_some_iff.1 hh).1⟩
theorem own_keep {α : Type} {K : Kind α} {lo : Nat} {W W' : World} {v : Value} {xs : List α} (h : K.Own lo W v xs) (hk : ∀ b, v.ownBlock = some b → W'.heap[b]? = W.heap[b]?) : K.Own lo W' v xs := by
  obtain ⟨h1, h2⟩ := h
  refine ⟨h1, ?_⟩
  rcases h2 with h2 | ⟨g, cap, cur, e, hg, hh, r⟩
  · exact .inl h2
  · refine .inr ⟨g, cap, cur, e, hg, ?_, r⟩
    rw [hk g (by subst e; rfl)]; exact hh
/-- Rows of other elements lie in other blocks. -/
theorem own_ty {α β : Type} {K : Kind α} {K2 : Kind β} {lo lo2 : Nat} {W : World} {v u : Value} {xs : List α} {ys : List β} (h : K.Own lo W v xs) (h2 : K2.Own lo2 W u ys) (hne : K.ty ≠ K2.ty) {b : Nat} (hb : v.ownBlock = some b) : u.ownBlock ≠ some b := fun hb2 => by
  rcases h.2 with ⟨e, _⟩ | ⟨g, cap, cur, e, _, hh, _⟩
  · subst e; simp [Value.ownBlock] at hb
  · rcases h2.2 with ⟨e2, _⟩ | ⟨g2, cap2, cur2, e2, _, hh2, _⟩
    · subst e2; simp [Value.ownBlock] at hb2
    · subst e e2
      simp [Value.ownBlock] at hb hb2
      subst hb hb2
      rw [hh] at hh2
      simp at hh2
      exact hne hh2.2
/-- The heads are read out of the values. -/
def hdr : Value → Option Addr × Nat × Nat
  | .slice o n c => (o, n, c)
  | _ => (none, 0, 0)
theorem el_map {α β : Type} [Inhabited α] [Inhabited β] (f : α → β) {l : List α} {j : Nat} (h : j < l.length) : el (l.map f) j = f (el l j) := by simp [el, h]
end
section
open Go.RowKit

/-- At g lie the heads xs of the rows ls; each row is nil or lies in a block of its own behind g. -/
structure Hands (g : Nat) (W : World) (xs : List Value) (ls : List (List Int)) : Prop where
  len : xs.length = ls.length
  head : W.ownsRow g 37 1 (.slice (some ⟨g, 0, none⟩) ls.length ls.length) ls.length xs
  row : ∀ j, j < ls.length → kI.Own (g + 1) W (el xs j) (el ls j)
  off : ∀ i j, i < j → j < ls.length → ∀ b, (el xs i).ownBlock = some b → (el xs j).ownBlock ≠ some b
theorem Hands.later {g : Nat} {W W' : World} {xs : List Value} {ls : List (List Int)} (h : Hands g W xs ls) (hb : Below W.heap.size W W') : Hands g W' xs ls :=
  ⟨h.len, ownsRow_below h.head hb, fun j hj => (h.row j hj).below hb, h.off⟩
theorem Hands.size {g : Nat} {W : World} {xs : List Value} {ls : List (List Int)} (h : Hands g W xs ls) : g < W.heap.size := (owns_lt h.head).2
/-- One row has grown; its head is written. -/
theorem Hands.put {g t : Nat} {W W' : World} {xs : List Value} {ls : List (List Int)} {v : Value} {x : List Int} (h : Hands g W xs ls) (ht : t < ls.length) (hO : kI.Own (g + 1) W' v x) (hG : W.grownBy W' (el xs t).ownBlock) (hw : ∀ b, v.ownBlock = some b → (el xs t).ownBlock = some b ∨ W.heap.size ≤ b) :
    Hands g (W'.setCell ⟨g, t, none⟩ v) (xs.set t v) (ls.set t x) := by
  have hx : t < xs.length := by rw [h.len]; exact ht
  have hkeep : ∀ b, b < W.heap.size → (el xs t).ownBlock ≠ some b → W'.heap[b]? = W.heap[b]? := fun b hb hne => hG.block b hb (fun e => hne e.symm)
  have hgne : (el xs t).ownBlock ≠ some g := fun e => by have := (own_block_lt (h.row t ht) e).1; omega
  have hset : ∀ b, b ≠ g → (W'.setCell ⟨g, t, none⟩ v).heap[b]? = W'.heap[b]? := fun b hb => Below.heap_setCell _ _ _ _ hb
  have hhead : W'.ownsRow g 37 1 (.slice (some ⟨g, 0, none⟩) ls.length ls.length) ls.length xs := owns_block h.head (hkeep g h.size hgne)
  refine ⟨by simp [h.len], ?_, ?_, ?_⟩
  · rw [List.length_set]
    exact (hhead.stored t v).1
  · intro j hj
    rw [List.length_set] at hj
    by_cases e : j = t
    · subst e
      rw [el_set_same hx, el_set_same ht]
      exact own_keep hO fun b hb => hset b (by have := (own_block_lt hO hb).1; omega)
    · rw [el_set_far e, el_set_far e]
      refine own_keep (h.row j hj) fun b hb => ?_
      have hbl := own_block_lt (h.row j hj) hb
      rw [hset b (by omega)]
      refine hkeep b hbl.2 fun e' => ?_
      rcases Nat.lt_or_ge j t with hjt | hjt
      · exact h.off j t hjt ht b hb e'
      · exact h.off t j (by omega) hj b e' hb
  · intro i j hij hj b hi
    rw [List.length_set] at hj
    by_cases e1 : i = t
    · subst e1
      rw [el_set_same hx] at hi
      rw [el_set_far (by omega)]
      intro hjb
      rcases hw b hi with h1 | h1
      · exact h.off i j hij hj b h1 hjb
      · have := (own_block_lt (h.row j hj) hjb).2; omega
    · rw [el_set_far e1] at hi
      by_cases e2 : j = t
      · subst e2
        rw [el_set_same hx]
        intro hjb
        rcases hw b hjb with h1 | h1
        · exact h.off i j hij hj b hi h1
        · have := (own_block_lt (h.row i (by omega)) hi).2; omega
      · rw [el_set_far e2]
        exact h.off i j hij hj b hi
/-- One row has grown: the heads stand. -/
theorem Hands.mid {g t : Nat} {W W' : World} {xs : List Value} {ls : List (List Int)} (h : Hands g W xs ls) (ht : t < ls.length) (hG : W.grownBy W' (el xs t).ownBlock) : W'.ownsRow g 37 1 (.slice (some ⟨g, 0, none⟩) ls.length ls.length) ls.length xs :=
  owns_block h.head (hG.block g h.size fun e => by have := (own_block_lt (h.row t ht) e.symm).1; omega)
theorem Hands.slice {g j : Nat} {W : World} {xs : List Value} {ls : List (List Int)} (h : Hands g W xs ls) (hj : j < ls.length) : ∃ o c, el xs j = .slice o (el ls j).length c ∧ (o = none → c = 0) ∧ kI.Fresh (g + 1) W.heap.size W o c (el ls j) := (h.row j hj).fresh
theorem hands_made {g n : Nat} {W : World} (h : W.ownsRow g 37 1 (.slice (some ⟨g, 0, none⟩) n n) n (madeCells (Value.slice none 0 0).cells (n * 1)).toList) : ∃ xs, Hands g W xs (List.replicate n []) := by
  have e : (madeCells (Value.slice none 0 0).cells (n * 1)).toList = List.replicate (n * 1) (.slice none 0 0) := toList_madeCells_one _ _
  rw [e, Nat.mul_one] at h
  have hel : ∀ j, j < n → el (List.replicate n (Value.slice none 0 0)) j = .slice none 0 0 := fun j hj => by simp [el, hj]
  refine ⟨List.replicate n (.slice none 0 0), by simp, by simpa using h, fun j hj => ?_, fun i j hij hj b hb => ?_⟩
  · simp at hj
    rw [hel j hj, show el (List.replicate n ([] : List Int)) j = [] from by simp [el, hj]]
    exact Kind.Own.nil _ _ _
  · simp at hj
    rw [hel i (by omega)] at hb
    simp [Value.ownBlock] at hb
end
section
open Go.RowKit Go.Shelf

attribute [local go_sem] Oper.semAt_some

set_option maxHeartbeats 2000000 in
theorem maxI_any (ao : Option Addr) (cap : Nat) (l : List Int) (w : World) (h1 : 1 ≤ l.length) (hl : l.length ≤ 1048576) (hb : ∀ j, j < l.length → 0 ≤ el l j) (hz : kI.In w.heap.size w ao l) :
    Calls Tryz.prog 46 #[.slice ao l.length cap] w fun e w' => e = .returned (.int .i64 (maxL l)) ∧ w' = w := by
  obtain ⟨b, off, rfl, hb0, hc⟩ := ints_at hz (k := 0) (by omega)
  have HC := hid hc
  have HB := hid hb
  have c0 := hc 0 (by omega)
  rw [Nat.add_zero] at c0
  have hx0 : Hid (el l 0 = maxL (l.take 1)) := by
    rw [Hid, take_succ_el (by omega), List.take_zero, List.nil_append]
    have := hb 0 (by omega)
    simp only [maxL]; omega
  generalize el l 0 = x0 at c0 hx0
  clear hc hz hb
  have hli : (1 : Int) ≤ (l.length : Int) := by omega
  go_enter Tryz.func46, Tryz.ntmps46
  go_wp2
  go_loop [3, 4] (fun v i => ∃ (k : Nat) (z : Int), i = .int .i64 (k : Int) ∧ v = .int .i64 z ∧ 1 ≤ k ∧ k ≤ l.length ∧ Hid (z = maxL (l.take k))) (fun _ i => l.length - (intOf i).toNat)
  case atStart => exact ⟨1, x0, rfl, rfl, Nat.le_refl _, h1, hx0⟩
  case round =>
    clear hx0 c0
    obtain ⟨k, z, rfl, rfl, hk1, hk, hz⟩ := hrel
    by_cases hlt : k < l.length
    · have ck := HC.out k hlt
      have HS : Hid (max z (el l k) = maxL (l.take (k + 1))) := by rw [Hid, take_succ_el hlt, maxL_snoc _ _ (HB.out k hlt), ← hz.out]
      generalize el l k = x at ck HS
      have hki : (k : Int) < (l.length : Int) := by omega
      go_wp2
      go_round
      case rel => exact ⟨k + 1, _, by go_num, rfl, by omega, by omega, by rw [Hid, ← HS.out]; split <;> omega⟩
      case measure => simp [intOf]; omega
    · obtain rfl : k = l.length := by omega
      have HZ : Hid (z = maxL l) := by rw [Hid, hz.out, List.take_length]
      go_wp2
      go_ret
      exact ⟨ret_int HZ.out, rfl⟩
set_option maxHeartbeats 1000000 in
theorem isEnd_is (nm : ByteArray) (kd sa sb cp : Int) (nxo : Option Addr) (n nxc : Nat) (w : World) :
    Calls Tryz.prog 44 #[.agg #[.string nm, .int .i64 kd, .int .i64 sa, .int .i64 sb, .int .i64 cp, .slice nxo n nxc]] w fun e w' => e = .returned (.bool ((n : Int) == 0)) ∧ Below w.heap.size w w' := by
  go_enter Tryz.func44, Tryz.ntmps44
  go_wp2
  go_ret
  exact ⟨rfl, below1 _ _⟩
set_option maxHeartbeats 1000000 in
theorem backward_any (a : Option Addr) (n c : Nat) (w : World) :
    Calls Tryz.prog 42 #[.slice a n c] w fun e w' => e = .returned (.func (.func 59) #[] #[.pointer (some ⟨w.heap.size, 0, none⟩)]) ∧ w' = w.alloc (.cells #[.slice a n c] 37) := by
  go_enter Tryz.func42, Tryz.ntmps42
  go_wp2
  go_ret
  exact ⟨rfl, rfl⟩
/-- Two blocks lie as they lay. -/
def Same2 (b c : Nat) (W W' : World) : Prop := SameB b W W' ∧ SameB c W W'
theorem Same2.trans {b c : Nat} {A B C : World} (h : Same2 b c A B) (k : Same2 b c B C) : Same2 b c A C := ⟨h.1.trans k.1, h.2.trans k.2⟩
/-- What comes as the t-th. -/
def bkA (ts : List Int) (t : Nat) : Array Value := #[Value.int .i64 ((ts.length : Int) - 1 - (t : Int)), tvI (el ts.reverse t)]
set_option maxRecDepth 100000 in
set_option maxHeartbeats 2000000 in
theorem back1_in (F : Fence) (n : Nat) (hAll : F.fn 59) (hro : F.round = none) (hn : 1 ≤ n) (l Bs b : Nat) (ao : Option Addr) (cap : Nat) (ts : List Int) (hreach : ts.length ≤ 1048576) (J Jx : List Nat → World → Prop) (W : World) (_ : AbidesFrom W.heap.size J)
    (hY : ∀ (pre : List Nat) (x : Nat) (W : World), J pre W → pre.length < ts.length → YieldAt F (n - 1) Tryz.prog l (bkA ts x) W fun e W' =>
      (e = .returned (.bool true) ∧ J (pre ++ [x]) W' ∧ Same2 b Bs W W') ∨ (e = .returned (.bool false) ∧ Jx (pre ++ [x]) W'))
    (hBs : W.cell? ⟨Bs, 0, none⟩ = some (.slice ao ts.length cap)) (hc : ts = [] ∨ ∃ off, ao = some ⟨b, off, none⟩ ∧ ∀ j, j < ts.length → W.cell? ⟨b, off + j, none⟩ = some (.int .i64 (el ts j))) (h0 : J [] W) :
    CallsIn F n Tryz.prog 59 #[.func (.yield l) #[] #[], .pointer (some ⟨Bs, 0, none⟩)] W fun e W' => (∃ v, e = .returned v) ∧
      ((∃ ys, ys = List.range ts.length ∧ J ys W') ∨ (∃ pre, (∃ k, k ≤ ts.length ∧ pre = List.range k) ∧ Jx pre W')) := by
  refine callsIn_of_wp Tryz.func59 rfl hAll ?_ hro
  simp only [Tryz.ntmps59, List.size_toArray, List.length_cons, List.length_nil, Nat.reduceAdd, Nat.reduceSub, Array.replicate_succ, Array.replicate_zero, List.push_toArray, List.append_toArray, List.nil_append, List.cons_append]
  gi_wp2
  gi_loopw [3] (fun i wr => ∃ k m : Nat, m + k = ts.length ∧ i = .int .i64 ((m : Int) - 1) ∧ J (List.range k) wr ∧ Hid (Same2 b Bs W wr))
    (fun i _ => (intOf i + 1).toNat)
  case atStart => exact ⟨0, ts.length, by omega, rfl, h0, ⟨rfl, rfl⟩⟩
  case round =>
    obtain ⟨k, m, hkm, rfl, hJs, hnx⟩ := hrel
    cases m with
    | succ m =>
      rcases hc with rfl | ⟨off, rfl, hc⟩
      · simp at hkm
      have c1 := hc m (by omega)
      have d1 := (hnx.out.1.cell (off + m)).trans c1
      have dB := (hnx.out.2.cell 0).trans hBs
      have hel : el ts m = el ts.reverse k := by rw [el_reverse (by omega)]; congr 1; omega
      have hJa := hJs
      obtain ⟨fn, tmps, assign, body, hy, hR⟩ := hY _ k _ hJa (by rw [List.length_range]; omega)
      have e2 : ((ts.length : Int) - 1 - (k : Int)) = (m : Int) := by omega
      simp only [bkA, tvI, ← hel, e2] at hy
      have e1 : (((m + 1 : Nat) : Int) - 1) = (m : Int) := by omega
      obtain ⟨x1, ex1⟩ : ∃ x, x = el ts m := ⟨_, rfl⟩
      rw [← ex1] at hy d1
      have hmi : (m : Int) < (ts.length : Int) := by omega
      rw [e1]
      clear c1 hc ex1 hel e1 e2 hBs
      gi_wp2
      refine hR.mono ?_
      rintro e W3 (⟨rfl, hJ3, hk3⟩ | ⟨rfl, hJx3⟩)
      · have hk4 : Same2 b Bs wr W3 := hk3
        gi_wp2
        go_roundw
        case rel => exact ⟨k + 1, m, by omega, rfl, by rw [List.range_succ]; exact hJ3, hnx.out.trans hk4⟩
        case measure => simp [intOf]
      · gi_wp2
        refine bodyPost_ret (results_none rfl _ _ _) rfl ?_
        exact ⟨⟨_, rfl⟩, .inr ⟨_, ⟨k + 1, by omega, List.range_succ.symm⟩, hJx3⟩⟩
    | zero =>
      obtain rfl : k = ts.length := by omega
      gi_wp2
      go_end0
      exact ⟨⟨_, rfl⟩, .inl ⟨_, rfl, hJs⟩⟩
theorem back_stops (F : Fence) (n : Nat) (hAll : F.fn 59) (hro : F.round = none) (hn : 1 ≤ n) (Bs b : Nat) (ao : Option Addr) (cap : Nat) (ts : List Int) (hreach : ts.length ≤ 1048576) (w : World) (hBs : Bs < w.heap.size)
    (hc : w.cell? ⟨Bs, 0, none⟩ = some (.slice ao ts.length cap)) (hI : ts = [] ∨ ∃ off, ao = some ⟨b, off, none⟩ ∧ b < w.heap.size ∧ ∀ j, j < ts.length → w.cell? ⟨b, off + j, none⟩ = some (.int .i64 (el ts j))) :
    SeqStopsK F n Tryz.prog 59 #[.pointer (some ⟨Bs, 0, none⟩)] (fun x : Nat => bkA ts x) (Same2 b Bs) (fun ys => ys = List.range ts.length)
      (fun pre => ∃ k, k ≤ ts.length ∧ pre = List.range k) ts.length w := fun l J Jx W hW hJ _ hY h0 => by
  have hc' := (hW.cell (p := ⟨Bs, 0, none⟩) hBs).trans hc
  refine back1_in F n hAll hro hn l Bs b ao cap ts hreach J Jx W hJ hY hc' ?_ h0
  rcases hI with h | ⟨off, h1, hb, hcs⟩
  · exact .inl h
  · exact .inr ⟨off, h1, fun j hj => (hW.cell (p := ⟨b, off + j, none⟩) hb).trans (hcs j hj)⟩
theorem make_in {F : Fence} {n : Nat} (w : World) {ops : Array Oper} {rest : List Oper} {o : Oper} {a : Act} {Q : Exit → Act → World → Prop}
    (hg : o.guard = none) (l c : Operand) (hop : o.op = Op.makeSlice 37 l c) (m : Nat) (hl : a.eval l = .int .i64 (m : Int)) (hc : a.eval c = .int .i64 (m : Int)) (hm : m ≤ 1048576)
    (hK : ∀ w', Bx w' w.heap.size ((List.replicate m (0 : Int)).map (Value.int .i64)) → Below w.heap.size w w' → wpListIn F n Tryz.prog ops Q rest (a.put o.dst (.slice (some ⟨w.heap.size, 0, none⟩) m m)) w') :
    wpListIn F n Tryz.prog ops Q (o :: rest) a w := by
  obtain ⟨i0, hi, hz0, hz1, hz2⟩ := info_parts Tryz.info3
  refine wpListIn_plain hg fun K hK' => ?_
  obtain ⟨w', hrun, r1, r2⟩ := run_make_full (P := Tryz.prog) w w.heap.size 37 3 i0 (.int .i64 0) 1 Tryz.underlying37 hi hz0 hz1 .i64 .i64 m (by rw [hz2]; omega) (by unfold maxLen; omega) (Nat.le_refl _)
  unfold Oper.wpIn
  refine ⟨by simp [Oper.about, hop], ?_⟩
  rw [Oper.semAt_plain F _ _ (by rw [hop]; intro c hc'; cases hc')]
  simp [execOp, hop, hl, hc, hrun, Result.andThen]
  refine hK' _ _ (hK w' ?_ ((Below.refl _ _).grown r2 (Nat.le_refl _) (fun k e => by cases e)))
  have h : Bx w' w.heap.size (madeCells #[Value.int .i64 0] (m * 1)).toList := made_box r1
  rw [toList_madeCells_one, Nat.mul_one] at h
  rw [rep_mapI]; exact h
end
section
open Go.RowKit

/-- What emitsAt answers. -/
def AnsEm (w : World) (em : List (Int × Int)) (e : Ending) (w' : World) : Prop := (∃ go gc, e = .returned (.slice go em.length gc) ∧ (go = none → gc = 0) ∧ kE.Fresh w.heap.size w'.heap.size w' go gc em) ∧ Below w.heap.size w w'
set_option maxHeartbeats 2000000 in
theorem emitsAt_is (k : Int) (qo : Option Addr) (qc : Nat) (q : List Int) (w : World) (hl : q.length ≤ 1000) (hz : kI.In w.heap.size w qo q) :
    Calls Tryz.prog 51 #[.int .i64 k, .slice qo q.length qc] w (AnsEm w (q.map fun x => (k, x))) := by
  have HZ := hid hz
  clear hz
  go_enter Tryz.func51, Tryz.ntmps51
  go_wp2
  go_loopw [5, 10] (fun u j wr => ∃ (m : Nat), j = .int .i64 (m : Int) ∧ m ≤ q.length ∧ Hid (kE.Own w.heap.size wr u ((q.take m).map fun x => (k, x))) ∧ Below w.heap.size w wr) (fun _ j _ => q.length - (intOf j).toNat)
  case atStart => exact ⟨0, rfl, Nat.zero_le _, (by rw [List.take_zero]; exact Kind.Own.nil _ _ _), Below.refl _ _⟩
  case round =>
    obtain ⟨m, rfl, hm, hO, hB⟩ := hrel
    by_cases hmq : m < q.length
    · obtain ⟨bq, oq, rfl, hbq, hcq⟩ := ints_at HZ.out hmq
      have cm := (hB.cell (p := ⟨bq, oq + m, none⟩) hbq).trans (hcq m hmq)
      have HT : Hid (((q.take m).map fun x => (k, x)) ++ [(k, el q m)] = (q.take (m + 1)).map fun x => (k, x)) := by rw [Hid, take_succ_el hmq, List.map_append]; rfl
      have hmi : (m : Int) < (q.length : Int) := by omega
      generalize el q m = x at cm HT
      have hlm : ((q.take m).map fun x => (k, x)).length = m := by simp; omega
      generalize ((q.take m).map fun x => (k, x)) = em at hO HT hlm
      obtain ⟨go, gc, rfl⟩ := own_sliceG hO.out
      obtain ⟨V, hVV⟩ : ∃ V, V = wr.alloc (.cells #[.int .i64 k, .int .i64 x] 54) := ⟨_, rfl⟩
      have HBV : Below wr.heap.size wr V := by rw [hVV]; exact below1 _ _
      have OV := hid (hO.out.below HBV)
      have HN : Hid (kE.In V.heap.size V (some ⟨wr.heap.size, 0, none⟩) [(k, x)]) := emits_mk (by rw [hVV]; simp) (by rw [hVV]; simp) (by rw [hVV]; simp)
      have hLV : w.heap.size ≤ V.heap.size := Nat.le_trans hB.size HBV.size
      have hBV := hid (hB.trans (HBV.mono hB.size))
      have HVV := hid hVV
      clear hVV HBV hcq
      go_wp2_with (at_builtin; rw [← HVV.out]; refine Kind.appN kE_ok V rfl (.tmp 14) (.tmp 18) rfl w.heap.size (.slice go em.length gc) em rfl OV.out hLV (some ⟨wr.heap.size, 0, none⟩) [(k, x)] 1 1 rfl rfl (by simp) _ HN.out (by simp; omega) ?_; intro v2 w2 hOa hBa hGa hna; rw [HT.out] at hOa; have OA := hid hOa; have BA := hBV.out.trans hBa; clear hOa hBa hGa hna)
      go_roundw
      case rel => exact ⟨m + 1, by go_num, by omega, OA, BA⟩
      case measure => simp [intOf]; omega
    · obtain rfl : m = q.length := by omega
      rw [List.take_length] at hO
      clear hmq
      go_wp2
      go_ret
      obtain ⟨go, gc, rfl, hno, hF⟩ := hO.out.fresh
      exact ⟨⟨go, gc, rfl, hno, hF⟩, hB⟩
/-- How emitsOf's memory lies: the rows that came in, behind g, and what was emitted. -/
structure EmI (g : Nat) (W : World) (xs : List Value) (I : List (List Int)) (ev : Value) (em : List (Int × Int)) : Prop where
  hands : Hands g W xs I
  em : kE.Own (g + 1) W ev em
  off : ∀ j, j < I.length → ∀ b, ev.ownBlock = some b → (el xs j).ownBlock ≠ some b
theorem EmI.later {g : Nat} {W W' : World} {xs : List Value} {I : List (List Int)} {ev : Value} {em : List (Int × Int)} (h : EmI g W xs I ev em) (hb : Below W.heap.size W W') : EmI g W' xs I ev em := ⟨h.hands.later hb, h.em.below hb, h.off⟩
theorem EmI.put {g t : Nat} {W W' : World} {xs : List Value} {I : List (List Int)} {ev : Value} {em : List (Int × Int)} {v : Value} {x : List Int} (h : EmI g W xs I ev em) (ht : t < I.length) (hO : kI.Own (g + 1) W' v x) (hG : W.grownBy W' (el xs t).ownBlock) (hw : ∀ b, v.ownBlock = some b → (el xs t).ownBlock = some b ∨ W.heap.size ≤ b) :
    EmI g (W'.setCell ⟨g, t, none⟩ v) (xs.set t v) (I.set t x) ev em := by
  refine ⟨h.hands.put ht hO hG hw, own_keep h.em fun b hb => ?_, fun j hj b hb => ?_⟩
  · have hl := own_block_lt h.em hb
    rw [Below.heap_setCell _ _ _ _ (by dsimp only; omega)]
    exact hG.block b hl.2 fun e => h.off t ht b hb e.symm
  · rw [List.length_set] at hj
    have hx : t < xs.length := by rw [h.hands.len]; exact ht
    by_cases e : j = t
    · subst e
      rw [el_set_same hx]
      intro hvb
      rcases hw b hvb with h1 | h1
      · exact h.off j ht b hb h1
      · have := (own_block_lt h.em hb).2; omega
    · rw [el_set_far e]
      exact h.off j hj b hb
theorem EmI.emit {g : Nat} {W W' : World} {xs : List Value} {I : List (List Int)} {ev ev' : Value} {em em' : List (Int × Int)} (h : EmI g W xs I ev em) (hO : kE.Own (g + 1) W' ev' em') (hG : W.grownBy W' ev.ownBlock) (hw : ∀ b, ev'.ownBlock = some b → ev.ownBlock = some b ∨ W.heap.size ≤ b) : EmI g W' xs I ev' em' := by
  have hgb : W'.heap[g]? = W.heap[g]? := hG.block g h.hands.size fun e => by have := (own_block_lt h.em e.symm).1; omega
  refine ⟨⟨h.hands.len, owns_block h.hands.head hgb, fun j hj => own_keep (h.hands.row j hj) fun b hb => hG.block b (own_block_lt (h.hands.row j hj) hb).2 fun e => h.off j hj b e.symm hb, h.hands.off⟩, hO, fun j hj b hb hx => ?_⟩
  rcases hw b hb with h1 | h1
  · exact h.off j hj b h1 hx
  · have := (own_block_lt (h.hands.row j hj) hx).2; omega
/-- A row of ints lies apart from the rows that came in. -/
def Apart (g : Nat) (xs : List Value) (n : Nat) (qo : Option Addr) (q : List Int) : Prop := 0 < q.length → ∀ b off, qo = some ⟨b, off, none⟩ → b ≠ g ∧ ∀ j, j < n → (el xs j).ownBlock ≠ some b
end
section
open Go Go.RowKit

section
variable {P : Program} {ops : Array Oper} {Q : Exit → Act → World → Prop} {md : Region.Mode} {S : World → Prop} {zs : Nat → Bool}
/-- In whatever order: behind each operation S holds, but behind the last ones. -/
def Walks (P : Program) (md : Region.Mode) (ops : Array Oper) (Q : Exit → Act → World → Prop) (S : World → Prop) (zs : Nat → Bool) : Nat → Array Bool → Act → World → Prop
  | 0, ls, a, w => Region.ready md ops ls = [] ∧ Q .normal a w
  | n + 1, ls, a, w => (Region.ready md ops ls = [] → Q .normal a w) ∧
      ∀ i, i ∈ Region.ready md ops ls → wpOp P ops Q i (fun b y => (zs i = false → S y) ∧ Walks P md ops Q S zs n (ls.setIfInBounds i true) b y) a w
theorem Walks.any : ∀ {n : Nat} {ls : Array Bool} {a : Act} {w : World}, Walks P md ops Q S zs n ls a w → wpAny P md ops Q n ls a w
  | 0, _, _, _, h => h
  | _ + 1, _, _, _, h => ⟨h.1, fun i hi => wpOp_mono (fun _ _ hb => hb.2.any) (h.2 i hi)⟩
/-- Whoever is last waits for i. -/
def lastWait (md : Region.Mode) (ops : Array Oper) (zs : List Nat) (i : Nat) : Bool := zs.all fun z => match ops[z]? with | some o => o.after.any fun e => Region.binds md e && e.on == i | none => true
theorem lastWait_not {zl : List Nat} {i j : Nat} {ls : Array Bool} (h : lastWait md ops zl i = true) (hi : i ∈ Region.ready md ops ls) (hj : j ∈ Region.ready md ops ls) : zl.contains j = false := by
  cases hc : zl.contains j with
  | false => rfl
  | true =>
    exfalso
    obtain ⟨_, o, ho, hall⟩ := mem_ready.1 hj
    have h1 := List.all_eq_true.1 h j (by simpa using hc)
    rw [ho] at h1
    obtain ⟨k, hk, he⟩ := Array.any_eq_true.1 h1
    simp only [Bool.and_eq_true, beq_iff_eq] at he
    have h2 := hall _ (Array.getElem_mem hk) he.1
    have h0 := (mem_ready.1 hi).1
    rw [he.2] at h2
    rcases Nat.lt_or_ge i ls.size with hl | hl
    · simp [hl] at h0 h2; rw [h0] at h2; cases h2
    · simp [Array.getElem?_eq_none hl] at h2
/-- An operation that yields the same in every world that meets S may come first. -/
theorem Walks.take {zl : List Nat} {i : Nat} {oi : Oper} {v : Value} (ho : ops[i]? = some oi) (hs : Region.noSelect ops = true) (hl : lastWait md ops zl i = true) (hQ : ∀ c a w, Q (.panic c) (a.put oi.dst v) w → Q (.panic c) a w) :
    ∀ (n : Nat) (ls : Array Bool) (a : Act) (w : World), Region.free md ops ls i = true → (Region.ready md ops ls).contains i = true → YieldsIf P ops S oi v a → S w →
      Walks P md ops Q S (zl.contains ·) n (ls.setIfInBounds i true) (a.put oi.dst v) w → Walks P md ops Q S (zl.contains ·) (n + 1) ls a w := by
  suffices H : ∀ (n : Nat) (ls : Array Bool) (a : Act) (w : World), (∀ j o, ops[j]? = some o → j ≠ i → ls.getD j true = false → (∀ e ∈ o.after, Region.binds md e = true → e.on ≠ i) → oi.apart ops o = true) → i ∈ Region.ready md ops ls → YieldsIf P ops S oi v a → S w →
      Walks P md ops Q S (zl.contains ·) n (ls.setIfInBounds i true) (a.put oi.dst v) w → Walks P md ops Q S (zl.contains ·) (n + 1) ls a w from
    fun n ls a w hf hr => H n ls a w (Region.free_spec ho hf) (by simpa using hr)
  have hsel := Region.noSelect_spec hs
  intro n
  induction n with
  | zero =>
    intro ls a w _ hr hy hS h
    refine ⟨fun e => (by rw [e] at hr; cases hr), fun j hj => ?_⟩
    rcases Decidable.em (j = i) with rfl | hne
    · exact hy.wpOp ho hS ⟨fun _ => hS, h⟩
    · have hm := ready_mono hj hne
      rw [h.1] at hm; cases hm
  | succ n ih =>
    intro ls a w hf hr hy hS h
    refine ⟨fun e => (by rw [e] at hr; cases hr), fun j hj => ?_⟩
    rcases Decidable.em (j = i) with rfl | hne
    · exact hy.wpOp ho hS ⟨fun _ => hS, h⟩
    have hz := lastWait_not hl hr hj
    obtain ⟨hun, oj, hoj, hall⟩ := mem_ready.1 hj
    have hno : ∀ e ∈ oj.after, Region.binds md e = true → e.on ≠ i := fun e he hb hon => by
      have h2 := hall e he hb
      have h0 := (mem_ready.1 hr).1
      rw [hon] at h2
      rcases Nat.lt_or_ge i ls.size with hl | hl
      · simp [hl] at h0 h2; rw [h0] at h2; cases h2
      · simp [Array.getElem?_eq_none hl] at h2
    refine wpOp_mono (fun b y hb => ?_) (wpOp_putIf hoj (hf j oj hoj hne hun hno) (fun c d => hsel i oi c d ho) (fun c d => hsel j oj c d hoj) hQ hy (h.2 j (ready_mono hj hne)))
    obtain ⟨hy2, hS2, h2⟩ := hb
    refine ⟨fun _ => hS2 hz, ih _ b y (fun k ok hk hki hku hkn => hf k ok hk hki ?_ hkn) (ready_mono hr (Ne.symm hne)) hy2 (hS2 hz) (by rw [Array.setIfInBounds_comm _ _ hne]; exact h2)⟩
    rcases Decidable.em (j = k) with rfl | hjk
    · exact hun
    · rw [getD_set_ne true hjk] at hku; exact hku
theorem Walks.one {n i : Nat} {ls : Array Bool} {a : Act} {w : World} {o : Oper} (hr : Region.ready md ops ls = [i]) (ho : ops[i]? = some o)
    (h : ∀ K : Act → World → Prop, Shut (∀ b y, (zs i = false → S y) → ((zs i = false → S y) → Walks P md ops Q S zs n (ls.setIfInBounds i true) b y) → K b y) → if Region.wanted o (yielded ops a.tmps) = true then Oper.wp P o a w K Q else K (a.put o.dst undef) w) : Walks P md ops Q S zs (n + 1) ls a w :=
  ⟨fun e => (by rw [hr] at e; cases e), fun j hj => by
    rw [hr] at hj
    obtain rfl := List.mem_singleton.1 hj
    exact wpOp_step ho fun K hK => h K fun b y h1 h2 => hK b y ⟨h1, h2 h1⟩⟩
theorem Walks.done {ls : Array Bool} {a : Act} {w : World} (hr : Region.ready md ops ls = []) (h : Q .normal a w) : ∀ n, Walks P md ops Q S zs n ls a w
  | 0 => ⟨hr, h⟩
  | _ + 1 => ⟨fun _ => h, fun i hi => by rw [hr] at hi; cases hi⟩
/-- What is held may grow on the way. -/
theorem Walks.weaken {S' : World → Prop} (hS : ∀ y, S' y → S y) : ∀ {n : Nat} {ls : Array Bool} {a : Act} {w : World}, Walks P md ops Q S' zs n ls a w → Walks P md ops Q S zs n ls a w
  | 0, _, _, _, h => h
  | _ + 1, _, _, _, h => ⟨h.1, fun i hi => wpOp_mono (fun _ _ hb => ⟨fun hz => hS _ (hb.1 hz), hb.2.weaken hS⟩) (h.2 i hi)⟩
theorem wp_walks {zl : List Nat} {id : Nat} {a : Act} {w : World} (hm : P.follows .mixedOrders = true) (hS : S w.drew)
    (h : S w.drew → Walks P .any ops Q S (zl.contains ·) ops.size (Array.replicate ops.size false) a w.drew) : (Code.region id ops true).wp P Q a w := wp_region_any hm (h hS).any
end
end
section
open Go.RowKit

section
variable {lo hi n : Nat} {W W' : World} {ao : Option Addr} {c : Nat} {ls : List (List (Int × Int × Int))}
end
end
section
open Go.RowKit

/-- What a pipe holds. -/
structure PP where
  ti : Int
  it : Int
  cl : Bool
  bx : List (List (Int × Int × Int))
  em : List (Int × Int × Int)
  fa : List (Int × Int × Int × Int)
  fu : List Int
/-- The blocks of a flow. -/
def FO (p bb : Nat) (xs : List Value) (ev fv uv : Value) (b : Nat) : Prop := b = p ∨ b = bb ∨ (∃ j, j < xs.length ∧ (el xs j).ownBlock = some b) ∨ ev.ownBlock = some b ∨ fv.ownBlock = some b ∨ uv.ownBlock = some b
theorem own_ne_head {α : Type} {K : Kind α} {lo g n lo2 : Nat} {T : TypeId} {W : World} {v : Value} {xs : List α} {cs : List Value} (h : K.Own lo W v xs) (hr : W.ownsRow lo2 T 1 (.slice (some ⟨g, 0, none⟩) n n) n cs) (hne : K.ty ≠ T) : v.ownBlock ≠ some g := fun hb => by
  rcases h.2 with ⟨e, _⟩ | ⟨g1, cap, cur, e, _, hh, _⟩
  · subst e; simp [Value.ownBlock] at hb
  · rcases hr.2 with ⟨e2, _⟩ | ⟨g2, cap2, cur2, e2, _, hh2, _⟩
    · simp at e2
    · subst e
      simp [Value.ownBlock] at hb
      simp at e2
      rw [hb] at hh
      rw [← e2.1, hh] at hh2
      simp at hh2
      exact hne hh2.2
theorem own_low {α : Type} {K : Kind α} {lo lo' : Nat} {W : World} {v : Value} {xs : List α} (h : K.Own lo W v xs) (hl : lo' ≤ lo) : K.Own lo' W v xs := by
  obtain ⟨h1, h2⟩ := h
  refine ⟨h1, ?_⟩
  rcases h2 with h2 | ⟨g, cap, cur, e, hg, r⟩
  · exact .inl h2
  · exact .inr ⟨g, cap, cur, e, Nat.le_trans hl hg, r⟩
theorem totT_cons (x : List (Int × Int × Int)) (r : List (List (Int × Int × Int))) : totT (x :: r) = x.length + totT r := by simp [totT]
theorem totT_set : ∀ {ls : List (List (Int × Int × Int))} {k : Nat} (x : List (Int × Int × Int)), k < ls.length → totT (ls.set k x) + (el ls k).length = totT ls + x.length
  | [], _, _, h => by simp at h
  | y :: r, 0, x, _ => by rw [List.set_cons_zero, totT_cons, totT_cons]; simp only [el, List.getElem?_cons_zero, Option.getD_some]; omega
  | y :: r, k + 1, x, h => by
    have ih := totT_set (ls := r) (k := k) x (by simpa using h)
    have e : el (y :: r) (k + 1) = el r k := by simp [el]
    rw [List.set_cons_succ, totT_cons, totT_cons, e]; omega
end
section
open Go.RowKit
end
section
open Go.RowKit

section
variable {α : Type} {K : Kind α}
/-- What a row's law says of one operation in a list, it says of the operation. -/
theorem wp_of_list {ops : Array Oper} {o : Oper} {a : Act} {W : World} {K' : Act → World → Prop} {Q : Exit → Act → World → Prop} {E : Prop} (hg : o.guard = none) (h : ∀ Q2 : Exit → Act → World → Prop, (∀ b y, K' b y → wpList Tryz.prog ops Q2 [] b y) → wpList Tryz.prog ops Q2 [o] a W) :
    if Region.wanted o (yielded ops a.tmps) = true then Oper.wp Tryz.prog o a W K' Q else E := by
  have hw : Region.wanted o (yielded ops a.tmps) = true := by simp [Region.wanted, hg]
  rw [if_pos hw]
  have h2 := h (fun e b y => match e with | .normal => K' b y | .panic c => Q (.panic c) b y | _ => False) (fun _ _ hk => hk)
  rw [wpList, if_pos hw] at h2
  rcases h2 with h2 | ⟨_, _, _, hf⟩
  · unfold Oper.wp at h2 ⊢
    generalize (execOp a.eval o).run Tryz.prog W = r at h2 ⊢
    cases r with
    | ok x y =>
      cases x <;> simp only [Oper.upon] at h2 ⊢
      case enter f args =>
        refine Calls.mono h2 fun e y2 he => ?_
        cases e with
        | returned v => exact he
        | panicked c => exact he
        | outgrown => obtain ⟨_, _, hf⟩ := he; exact hf.elim
      all_goals exact h2
    | halt x y => cases x <;> simp only [Oper.upon] at h2 ⊢ <;> exact h2
  · exact hf.elim
/-- Elements are put behind a row of its own, nil or not: it stays in its block, or lies in a new one: at one operation. -/
theorem Kind.appZ [Inhabited α] (hK : K.Ok) {ops : Array Oper} {o : Oper} {a : Act} {K' : Act → World → Prop} {Q : Exit → Act → World → Prop} {E : Prop} (W : World) (hg : o.guard = none) (s x : Operand) (hop : o.op = Op.call { callee := Callee.builtin Builtin.append, args := #[s, x], argTypes := #[K.st, K.st] })
    (lo : Nat) (v : Value) (xs : List α) (hs : a.eval s = v) (hown : K.Own lo W v xs) (hlo : lo ≤ W.heap.size)
    (ao : Option Addr) (ys : List α) (m c : Nat) (hx : a.eval x = .slice ao m c) (hm : ys.length = m) (hno : ao = none → c = 0) (n : Nat) (hz : K.In n W ao ys) (hl : xs.length + ys.length ≤ 4194304)
    (hk : ∀ v' w', K.Own lo w' v' (xs ++ ys) → Below lo W w' → W.grownBy w' v.ownBlock → (∀ g, v'.ownBlock = some g → v.ownBlock = some g ∨ W.heap.size ≤ g) → K' (a.put o.dst v') w') :
    if Region.wanted o (yielded ops a.tmps) = true then Oper.wp Tryz.prog o a W K' Q else E :=
  wp_of_list hg fun _ hq => Kind.appN hK W hg s x hop lo v xs hs hown hlo ao ys m c hx hm hno n hz hl fun v' w' h1 h2 h3 h4 => hq _ _ (hk v' w' h1 h2 h3 h4)
end
end
end Go.Proofs.YtkheffijkjfknaaGreatDoor
