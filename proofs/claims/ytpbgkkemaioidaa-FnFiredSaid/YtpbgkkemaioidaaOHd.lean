
/- A place is pushed upon the heap. No conditions but those written. -/
import Derived.Test.YtpbgkkemaioidaaOHc
import Derived.Maps.AppendAt
namespace Go.Proofs.Ytpbgkkemaioidaa.Old
open Go.RowKit

/-- Of what was there nothing has turned but for the blocks H and that of v. -/
structure Turn (H : Nat) (v : Value) (w w' : World) : Prop where
  os : w'.os = w.os
  tape : w'.tape = w.tape
  output : w'.output = w.output
  size : w.heap.size ≤ w'.heap.size
  block : ∀ k, k < w.heap.size → k ≠ H → v.ownBlock ≠ some k → w'.heap[k]? = w.heap[k]?
theorem Turn.refl (H : Nat) (v : Value) (w : World) : Turn H v w w := ⟨rfl, rfl, rfl, Nat.le_refl _, fun _ _ _ _ => rfl⟩
theorem Turn.below {H n : Nat} {v : Value} {w w' : World} (h : Turn H v w w') (h1 : n ≤ H) (h2 : n ≤ w.heap.size) (h3 : ∀ k, v.ownBlock = some k → n ≤ k) : Below n w w' :=
  ⟨h.os, h.tape, h.output, h.size, fun k hk => h.block k (by omega) (by omega) (fun e => by have := h3 k e; omega)⟩
theorem Turn.trans {H : Nat} {v v' : Value} {a b c : World} (h : Turn H v a b) (k : Turn H v' b c) (hv : ∀ j, v'.ownBlock = some j → v.ownBlock = some j ∨ a.heap.size ≤ j) : Turn H v a c :=
  ⟨k.os.trans h.os, k.tape.trans h.tape, k.output.trans h.output, Nat.le_trans h.size k.size, fun i hi h1 h2 => (k.block i (Nat.lt_of_lt_of_le hi h.size) h1 (fun e => by rcases hv i e with h' | h' <;> first | exact h2 h' | omega)).trans (h.block i hi h1 h2)⟩
/-- The heap lies at H: its places in a row of its own from lo on, its order fv. -/
def HeapS (lo H : Nat) (W : World) (v fv : Value) (xs : List Nat) : Prop := W.cell? ⟨H, 0, none⟩ = some v ∧ W.frozen? ⟨H, 0, none⟩ = false ∧ W.cell? ⟨H, 1, none⟩ = some fv ∧ OwnP lo W v xs ∧ v.ownBlock ≠ some H ∧ H < W.heap.size
theorem OwnP.nil (lo : Nat) (W : World) : OwnP lo W (.slice none 0 0) [] := World.ownsRow_nil _ _ _ _
theorem OwnP.form {lo : Nat} {W : World} {v : Value} {xs : List Nat} (h : OwnP lo W v xs) : (v = .slice none 0 0 ∧ xs = []) ∨ ∃ g cap, v = .slice (some ⟨g, 0, none⟩) xs.length cap ∧ lo ≤ g ∧ g < W.heap.size ∧ xs.length ≤ cap := by
  rcases h.2 with ⟨e, h0⟩ | ⟨g, cap, cur, e, hb, hh, h1, _⟩
  · exact .inl ⟨e, List.length_eq_zero_iff.1 h0⟩
  · exact .inr ⟨g, cap, e, hb, (Array.getElem?_eq_some_iff.1 hh).1, h1⟩
theorem OwnP.low {lo : Nat} {W : World} {v : Value} {xs : List Nat} (h : OwnP lo W v xs) : ∀ k, v.ownBlock = some k → lo ≤ k ∧ k < W.heap.size := by
  rcases h.form with ⟨e, _⟩ | ⟨g, cap, e, hb, hg, _⟩
  · subst e; intro k h; simp [Value.ownBlock] at h
  · subst e; intro k h; simp [Value.ownBlock] at h; omega
theorem Try.info3 : (Try.prog.info? 3).map (fun i => (i.zero, i.size, i.bytes)) = some (some (.int .i64 0), 1, 8) := by kernel_rfl
theorem pcells_len (xs : List Nat) : (pcells xs).length = xs.length := by simp [pcells]
theorem pcells_app (a b : List Nat) : pcells (a ++ b) = pcells a ++ pcells b := by simp [pcells]
theorem pl_app (xs : List Nat) (p i : Nat) (h : i < xs.length) : pl (xs ++ [p]) i = pl xs i := by simp [pl, h, List.getElem?_append_left]

theorem wpList_pushP {ops : Array Oper} {rest : List Oper} {o : Oper} {a : Act} {Q : Exit → Act → World → Prop} (W : World) (hg : o.guard = none) (s x : Operand) (hop : o.op = Op.call { callee := Callee.builtin Builtin.append, args := #[s, x], argTypes := #[28, 28] })
    (lo : Nat) (v : Value) (xs : List Nat) (hs : a.eval s = v) (hown : OwnP lo W v xs) (hlo : lo ≤ W.heap.size) (hl : xs.length ≤ 1048576)
    (b : Nat) (p : Nat) (c : Nat) (hx : a.eval x = .slice (some ⟨b, 0, none⟩) 1 c) (hc : W.cell? ⟨b, 0, none⟩ = some (.int .i64 (p : Int)))
    (hK : ∀ g cap w', OwnP lo w' (.slice (some ⟨g, 0, none⟩) (xs.length + 1) cap) (xs ++ [p]) → (v.ownBlock = some g ∨ W.heap.size ≤ g) → W.grownBy w' v.ownBlock → wpList Try.prog ops Q rest (a.put o.dst (.slice (some ⟨g, 0, none⟩) (xs.length + 1) cap)) w') :
    wpList Try.prog ops Q (o :: rest) a W := by
  obtain ⟨i0, hin, hz0, hz1, hz2⟩ := info_parts Try.info3
  have hcz : ∀ j u, ([Value.int .i64 (p : Int)] : List Value)[j]? = some u → W.cell? ((⟨b, 0, none⟩ : Addr).add j) = some u := by
    intro j u h
    match j, h with
    | 0, h => simp at h; subst h; simpa [Addr.add] using hc
  have hone : ∀ u ∈ ([Value.int .i64 (p : Int)] : List Value), u.oneCell' = true := by intro u hu; simp at hu; subst hu; rfl
  refine wpList_append_own_at W hg s x 28 hop lo 3 i0 (.int .i64 0) 1 8 Try.underlying28 hin hz0 hz1 hz2 rfl (by decide) v xs.length (pcells xs) hs hown ⟨b, 0, none⟩ 1 c [.int .i64 (p : Int)] hx rfl hcz hone (by unfold maxLen; omega) (by omega) hlo ?_
  intro v' w' ho hgr _ hat
  have ho' : OwnP lo w' v' (xs ++ [p]) := by unfold OwnP; rw [pcells_app, List.length_append]; exact ho
  rcases ho'.form with ⟨_, e⟩ | ⟨g, cap, e, _⟩
  · simp at e
  · rw [List.length_append] at e
    subst e
    refine hK g cap w' ho' ?_ hgr
    rcases hat with h | h
    · exact .inl (by rw [← h]; simp [Value.ownBlock])
    · exact .inr (by simp [Value.ownBlock] at h; omega)

theorem OwnP.cellN {lo : Nat} {W : World} {g N cap : Nat} {xs : List Nat} (h : OwnP lo W (.slice (some ⟨g, 0, none⟩) N cap) xs) (hN : xs.length = N) (i : Nat) (hi : i < N) : W.cell? ⟨g, i, none⟩ = some (.int .i64 (pl xs i : Int)) := by
  subst hN; exact h.cell i hi
theorem OwnP.keepN {lo : Nat} {W W' : World} {g N cap : Nat} {xs : List Nat} (h : OwnP lo W (.slice (some ⟨g, 0, none⟩) N cap) xs) (hN : xs.length = N) (hb : W'.heap[g]? = W.heap[g]?) : OwnP lo W' (.slice (some ⟨g, 0, none⟩) N cap) xs := by
  subst hN; exact h.keep hb
theorem swap_n (lo H g N cap : Nat) (xs : List Nat) (a b : Nat) (w : World) (hN : xs.length = N) (ha : a < N) (hb : b < N) (hH : w.cell? ⟨H, 0, none⟩ = some (.slice (some ⟨g, 0, none⟩) N cap)) (ho : OwnP lo w (.slice (some ⟨g, 0, none⟩) N cap) xs) :
    Calls Try.prog 35 #[.pointer (some ⟨H, 0, none⟩), .int .i64 (a : Int), .int .i64 (b : Int)] w fun e w' => (∃ v, e = .returned v) ∧ OwnP lo w' (.slice (some ⟨g, 0, none⟩) N cap) (swapL xs a b) ∧ Between g (g + 1) w w' := by
  subst hN; exact swap_any lo H g cap xs a b w ha hb hH ho
theorem pl_mem (xs : List Nat) (i : Nat) (h : i < xs.length) : pl xs i ∈ xs := by
  have : pl xs i = xs[i] := by simp [pl, h]
  rw [this]; exact List.getElem_mem h
theorem TimersIn.up {n m : Nat} {W : World} {ao : Option Addr} {ts : List T3} (h : TimersIn n W ao ts) (hm : n ≤ m) : TimersIn m W ao ts := by
  rcases h with h | ⟨b, off, e, hb, hc⟩
  · exact .inl h
  · exact .inr ⟨b, off, e, by omega, hc⟩
theorem heapUp_start {lt : Nat → Nat → Bool} {xs : List Nat} (p : Nat) (h : IsHeap lt xs) : HeapUp lt (xs ++ [p]) xs.length := by
  refine ⟨fun i h0 hn hne => ?_, fun _ c _ hn hc => ?_⟩
  · have hi : i < xs.length := by simp at hn; omega
    rw [pl_app xs p i hi, pl_app xs p _ (by omega)]
    exact h i h0 hi
  · simp at hn; omega
theorem Between.block1 {g : Nat} {w w' : World} (h : Between g (g + 1) w w') (k : Nat) (hk : k < w.heap.size) (hne : k ≠ g) : w'.heap[k]? = w.heap[k]? := h.block k hk (by omega)
theorem Turn.between {H g : Nat} {v : Value} {a b c : World} (h : Turn H v a b) (k : Between g (g + 1) b c) (hg : v.ownBlock = some g ∨ a.heap.size ≤ g) : Turn H v a c :=
  ⟨k.os.trans h.os, k.tape.trans h.tape, k.output.trans h.output, Nat.le_trans h.size k.size, fun i hi h1 h2 => (k.block1 i (Nat.lt_of_lt_of_le hi h.size) (fun e => by subst e; rcases hg with h' | h' <;> first | exact h2 h' | omega)).trans (h.block i hi h1 h2)⟩

set_option maxRecDepth 100000 in
set_option maxHeartbeats 8000000 in
theorem push_any (n lo H : Nat) (v : Value) (xs : List Nat) (p : Nat) (now sq : Int) (ao : Option Addr) (tcap : Nat) (ts : List T3) (w : World) (hl : xs.length ≤ 1048000) (hn : n ≤ H) (hnlo : n ≤ lo) (hlo : lo ≤ w.heap.size)
    (hS : HeapS lo H w v (.func (.func 33) #[.agg #[.int .i64 now, .int .i64 sq, .slice ao ts.length tcap]] #[]) xs) (hh : IsHeap (ltT ts) xs) (hp : ∀ i, i < xs.length → pl xs i < ts.length) (hpp : p < ts.length) (hz : TimersIn n w ao ts) :
    Calls Try.prog 34 #[.pointer (some ⟨H, 0, none⟩), .int .i64 (p : Int)] w fun e w' => (∃ r, e = .returned r) ∧ ∃ v' xs', HeapS lo H w' v' (.func (.func 33) #[.agg #[.int .i64 now, .int .i64 sq, .slice ao ts.length tcap]] #[]) xs' ∧ IsHeap (ltT ts) xs' ∧ xs'.Perm (xs ++ [p]) ∧ (v.ownBlock = v'.ownBlock ∨ ∃ k, v'.ownBlock = some k ∧ w.heap.size ≤ k) ∧ Turn H v w w' := by
  have sw := ltT_sw ts
  obtain ⟨hH, hHf, hF, ho, hvH, hHl⟩ := hS
  have HO : Hid (OwnP lo w v xs) := ho
  have HV : Hid (v.ownBlock ≠ some H) := hvH
  have hform : ∃ so sl sc, v = .slice so sl sc := by
    rcases ho.form with ⟨e, _⟩ | ⟨g, cap, e, _⟩
    · exact ⟨_, _, _, e⟩
    · exact ⟨_, _, _, e⟩
  have HH : Hid (IsHeap (ltT ts) xs ∧ ∀ i, i < xs.length → pl xs i < ts.length) := ⟨hh, hp⟩
  have hcw : (w.alloc (.cells #[.int .i64 (p : Int)] 3)).cell? ⟨w.heap.size, 0, none⟩ = some (.int .i64 (p : Int)) := by simp
  clear ho hvH hh hp
  go_enter Try.func34, Try.ntmps34
  go_wp2_with (at_builtin; refine wpList_pushP (w.alloc (.cells #[.int .i64 (p : Int)] 3)) rfl (.tmp 10) (.tmp 12) rfl lo v xs rfl (HO.out.alloc _) (by simp; omega) (by omega) w.heap.size p 1 rfl hcw ?_; intro g cap w1 hO1 hg1 hgr; have hlow := HO.out.low; have hblk : ∀ k, k < w.heap.size → v.ownBlock ≠ some k → w1.heap[k]? = w.heap[k]? := (fun k hk hk2 => (hgr.block k (by simp; omega) (fun e => hk2 e.symm)).trans (Below.heap_alloc _ _ k hk)); have hgH : g ≠ H := (fun e => by subst e; rcases hg1 with h | h <;> first | exact HV.out h | (simp at h; omega)); have c0 : w1.cell? ⟨H, 0, none⟩ = some v := (World.cell?_of_block (a := ⟨H, 0, none⟩) (hblk H hHl HV.out)).trans hH; have c1 := (World.cell?_of_block (a := ⟨H, 1, none⟩) (hblk H hHl HV.out)).trans hF; have cf : w1.frozen? ⟨H, 0, none⟩ = false := (World.frozen?_of_block (a := ⟨H, 0, none⟩) (hblk H hHl HV.out)).trans hHf; have HG : Hid (OwnP lo w1 (.slice (some ⟨g, 0, none⟩) (xs.length + 1) cap) (xs ++ [p]) ∧ (v.ownBlock = some g ∨ w.heap.size ≤ g) ∧ Turn H v w w1) := ⟨hO1, hg1.imp (fun h => h) (fun h => by simp at h; omega), hgr.os, hgr.tape, hgr.output, (by have := hgr.size; simp at this; omega), (fun k hk _ h2 => hblk k hk h2)⟩; clear hO1 hg1 hgr hlow hblk)
  obtain ⟨N, hN⟩ : ∃ N, N = xs.length + 1 := ⟨_, rfl⟩
  rw [← hN] at HG ⊢
  obtain ⟨W1, hW1⟩ : ∃ W1, W1 = w1.setCell ⟨H, 0, none⟩ (.slice (some ⟨g, 0, none⟩) N cap) := ⟨_, rfl⟩
  rw [← hW1]
  have e0 : W1.cell? ⟨H, 0, none⟩ = some (.slice (some ⟨g, 0, none⟩) N cap) := by rw [hW1]; exact World.cell?_setCell_same' _ _ _ (by rw [c0]; rfl)
  have e1 : W1.cell? ⟨H, 1, none⟩ = some (.func (.func 33) #[.agg #[.int .i64 now, .int .i64 sq, .slice ao ts.length tcap]] #[]) := by rw [hW1, World.cell?_setCell_other _ _ _ _ (by simp)]; exact c1
  have ef : W1.frozen? ⟨H, 0, none⟩ = false := by rw [hW1, World.frozen?_setCell]; exact cf
  have hNx : (xs ++ [p]).length = N := by simp [hN]
  have hT1 : Turn H v w W1 := by
    obtain ⟨_, _, h⟩ := HG.out
    rw [hW1]
    exact ⟨h.os, h.tape, h.output, by simpa using h.size, fun k hk h1 h2 => (Below.heap_setCell _ _ _ _ (by simpa using h1)).trans (h.block k hk h1 h2)⟩
  have hO1 : OwnP lo W1 (.slice (some ⟨g, 0, none⟩) N cap) (xs ++ [p]) := by rw [hW1]; exact HG.out.1.keepN hNx (Below.heap_setCell _ _ _ _ (by simpa using hgH))
  have hgl : lo ≤ g ∧ g < W1.heap.size := by have := hO1.low g (by simp [Value.ownBlock]); exact this
  have hHl1 : H < W1.heap.size := Nat.lt_of_lt_of_le hHl hT1.size
  have hgv : v.ownBlock = some g ∨ w.heap.size ≤ g := HG.out.2.1
  have HO1 : Hid (OwnP lo W1 (.slice (some ⟨g, 0, none⟩) N cap) (xs ++ [p]) ∧ HeapUp (ltT ts) (xs ++ [p]) xs.length ∧ Turn H v w W1 ∧ (v.ownBlock = some g ∨ w.heap.size ≤ g) ∧ ∀ q ∈ xs ++ [p], q < ts.length) := ⟨hO1, heapUp_start p HH.out.1, hT1, hgv, fun q hq => by
    rcases List.mem_append.1 hq with h | h
    · obtain ⟨i, hi, rfl⟩ := List.mem_iff_getElem.1 h
      have := HH.out.2 i hi
      simpa [pl, hi] using this
    · simp at h; subst h; exact hpp⟩
  have HZ : Hid (∀ X, Between g (g + 1) W1 X → TimersIn X.heap.size X ao ts) := by
    intro X hX
    have hlow := HO.out.low
    have hb1 : Below n w W1 := hT1.below hn (by omega) (fun k e => by have := hlow k e; omega)
    have hb2 : Below n W1 X := (hX.below (by omega)).mono (by omega)
    exact (hz.below (hb1.trans hb2)).up (by have := hb2.size; have := hT1.size; omega)
  have hNl : N ≤ 1048576 := by omega
  have HN : Hid (N = xs.length + 1) := hN
  have hj0 : xs.length < N := by omega
  have hxl : (xs.length : Int) + 1 - 1 = (xs.length : Int) := by omega
  clear hW1 HG c0 c1 cf hO1 hT1 hgv HH HO hN
  go_loopw [4] (fun i wr => ∃ (j : Nat) (ys : List Nat), i = .int .i64 (j : Int) ∧ j < N ∧ ys.length = N ∧ Hid (HeapUp (ltT ts) ys j ∧ ys.Perm (xs ++ [p]) ∧ OwnP lo wr (.slice (some ⟨g, 0, none⟩) N cap) ys) ∧ Between g (g + 1) W1 wr) (fun i _ => (intOf i).toNat)
  case atStart => exact ⟨xs.length, xs ++ [p], by first | rfl | go_num | (rw [HN.out]; go_num), hj0, hNx, ⟨HO1.out.2.1, List.Perm.refl _, HO1.out.1⟩, Between.refl _ _ _⟩
  case round =>
    obtain ⟨j, ys, rfl, hj, hyl, hI, hX⟩ := hrel
    have hHg : H ≠ g := fun e => hgH e.symm
    have d0 := (World.cell?_of_block (a := ⟨H, 0, none⟩) (hX.block1 H hHl1 hHg)).trans e0
    have d1 := (World.cell?_of_block (a := ⟨H, 1, none⟩) (hX.block1 H hHl1 hHg)).trans e1
    have df := (World.frozen?_of_block (a := ⟨H, 0, none⟩) (hX.block1 H hHl1 hHg)).trans ef
    have hsX := hX.size
    have fin : ∀ X zs, Between g (g + 1) W1 X → OwnP lo X (.slice (some ⟨g, 0, none⟩) N cap) zs → IsHeap (ltT ts) zs → zs.Perm (xs ++ [p]) → (∃ r, Ending.returned (.tuple #[]) = Ending.returned r) ∧ ∃ v' xs', HeapS lo H X v' (.func (.func 33) #[.agg #[.int .i64 now, .int .i64 sq, .slice ao ts.length tcap]] #[]) xs' ∧ IsHeap (ltT ts) xs' ∧ xs'.Perm (xs ++ [p]) ∧ (v.ownBlock = v'.ownBlock ∨ ∃ k, v'.ownBlock = some k ∧ w.heap.size ≤ k) ∧ Turn H v w X := by
      intro X zs hX hO hh hp
      refine ⟨⟨_, rfl⟩, .slice (some ⟨g, 0, none⟩) N cap, zs, ⟨(World.cell?_of_block (a := ⟨H, 0, none⟩) (hX.block1 H hHl1 hHg)).trans e0, (World.frozen?_of_block (a := ⟨H, 0, none⟩) (hX.block1 H hHl1 hHg)).trans ef, (World.cell?_of_block (a := ⟨H, 1, none⟩) (hX.block1 H hHl1 hHg)).trans e1, hO, by simp [Value.ownBlock]; exact hgH, Nat.lt_of_lt_of_le hHl1 hX.size⟩, hh, hp, ?_, HO1.out.2.2.1.between hX HO1.out.2.2.2.1⟩
      rcases HO1.out.2.2.2.1 with h | h
      · exact .inl (by simp [Value.ownBlock] at h ⊢; exact h)
      · exact .inr ⟨g, by simp [Value.ownBlock], h⟩
    have FIN : Hid _ := fin
    clear fin
    by_cases hj0' : j = 0
    · subst hj0'
      have hd0 : decide ((0 : Int) < ((0 : Nat) : Int)) = false := by simp
      go_wp2
      go_end0
      exact FIN.out _ ys hX hI.out.2.2 hI.out.1.done0 hI.out.2.1
    · have hd0 : (0 : Int) < (j : Int) := by omega
      obtain ⟨u, hu⟩ : ∃ u, u = (j - 1) / 2 := ⟨_, rfl⟩
      have huj : u < j := by omega
      have huN : u < N := by omega
      have q0 := hI.out.2.2.cellN hyl j hj
      have q1 := hI.out.2.2.cellN hyl u huN
      have hpj := HO1.out.2.2.2.2 (pl ys j) (hI.out.2.1.mem_iff.1 (pl_mem ys j (by omega)))
      have hpu := HO1.out.2.2.2.2 (pl ys u) (hI.out.2.1.mem_iff.1 (pl_mem ys u (by omega)))
      obtain ⟨pj, epj⟩ : ∃ q, q = pl ys j := ⟨_, rfl⟩
      obtain ⟨pu, epu⟩ : ∃ q, q = pl ys u := ⟨_, rfl⟩
      rw [← epj] at q0 hpj
      rw [← epu] at q1 hpu
      have hji : (j : Int) < (N : Int) := by omega
      have hui : (u : Int) < (N : Int) := by omega
      have HUE : Hid (((j : Int) - 1) / 2 = (u : Int)) := by unfold Hid; omega
      have HU : Hid (u = (j - 1) / 2) := hu
      clear hu
      have hzr := HZ.out wr hX
      have hltr : H < wr.drew.heap.size := Nat.lt_of_lt_of_le hHl1 hsX
      have hglr : g < wr.drew.heap.size := Nat.lt_of_lt_of_le hgl.2 hsX
      cases hl' : ltT ts pj pu
      · have HL : Hid (ltT ts pj pu = false) := hl'
        have HK : Hid (IsHeap (ltT ts) ys) := hI.out.1.done (by rw [← HU.out, ← epj, ← epu]; exact hl')
        clear hl' epj epu
        go_wp2
        rw [HUE.out]
        go_region_held3 (fun X => X.cell? ⟨H, 0, none⟩ = some (.slice (some ⟨g, 0, none⟩) N cap) ∧ X.cell? ⟨H, 1, none⟩ = some (.func (.func 33) #[.agg #[.int .i64 now, .int .i64 sq, .slice ao ts.length tcap]] #[]) ∧ X.cell? ⟨g, j, none⟩ = some (.int .i64 (pj : Int)) ∧ X.cell? ⟨g, u, none⟩ = some (.int .i64 (pu : Int))) (first | exact ⟨d0, d1, q0, q1⟩ | exact ⟨(hb2.cell (p := ⟨H, 0, none⟩) hltr).trans d0, (hb2.cell (p := ⟨H, 1, none⟩) hltr).trans d1, (hb2.cell (p := ⟨g, j, none⟩) hglr).trans q0, (hb2.cell (p := ⟨g, u, none⟩) hglr).trans q1⟩)
          (first | (go_at_call 33; refine (fires_is now sq ao tcap ts pj pu _ false hpj hpu (by exact hzr) HL.out).mono ?_; rintro e w2 ⟨rfl, hb2⟩; have hX2 : Between g (g + 1) W1 w2 := hX.drew.trans (Between.of_below hb2); have HY2 : Hid (OwnP lo w2 (.slice (some ⟨g, 0, none⟩) N cap) ys) := hI.out.2.2.drew.keepN hyl (hb2.block g hglr); have k0 : w2.cell? ⟨H, 0, none⟩ = some (.slice (some ⟨g, 0, none⟩) N cap) := (hb2.cell (p := ⟨H, 0, none⟩) hltr).trans d0))
        all_goals
          go_wp2
          refine bodyPost_ret (results_none rfl _ _ _) rfl ?_
          exact FIN.out _ ys hX2 HY2.out HK.out hI.out.2.1
      · have HL : Hid (ltT ts pj pu = true) := hl'
        have HK : Hid (HeapUp (ltT ts) (swapL ys j u) u) := by
          have := hI.out.1.up sw (by omega) (by omega) (by rw [← HU.out, ← epj, ← epu]; exact hl')
          rw [← HU.out] at this; exact this
        clear hl' epj epu
        go_wp2
        rw [HUE.out]
        go_region_held3 (fun X => X.cell? ⟨H, 0, none⟩ = some (.slice (some ⟨g, 0, none⟩) N cap) ∧ X.cell? ⟨H, 1, none⟩ = some (.func (.func 33) #[.agg #[.int .i64 now, .int .i64 sq, .slice ao ts.length tcap]] #[]) ∧ X.cell? ⟨g, j, none⟩ = some (.int .i64 (pj : Int)) ∧ X.cell? ⟨g, u, none⟩ = some (.int .i64 (pu : Int))) (first | exact ⟨d0, d1, q0, q1⟩ | exact ⟨(hb2.cell (p := ⟨H, 0, none⟩) hltr).trans d0, (hb2.cell (p := ⟨H, 1, none⟩) hltr).trans d1, (hb2.cell (p := ⟨g, j, none⟩) hglr).trans q0, (hb2.cell (p := ⟨g, u, none⟩) hglr).trans q1⟩)
          (first | (go_at_call 33; refine (fires_is now sq ao tcap ts pj pu _ true hpj hpu (by exact hzr) HL.out).mono ?_; rintro e w2 ⟨rfl, hb2⟩; have hX2 : Between g (g + 1) W1 w2 := hX.drew.trans (Between.of_below hb2); have HY2 : Hid (OwnP lo w2 (.slice (some ⟨g, 0, none⟩) N cap) ys) := hI.out.2.2.drew.keepN hyl (hb2.block g hglr); have k0 : w2.cell? ⟨H, 0, none⟩ = some (.slice (some ⟨g, 0, none⟩) N cap) := (hb2.cell (p := ⟨H, 0, none⟩) hltr).trans d0))
        all_goals
          go_wp2_with fail
          refine (swap_n lo H g N cap ys j u w2 hyl hj huN k0 HY2.out).mono ?_
          rintro e w3 ⟨⟨r, rfl⟩, hO3, hX3⟩
          have HO3 : Hid (OwnP lo w3 (.slice (some ⟨g, 0, none⟩) N cap) (swapL ys j u) ∧ (swapL ys j u).Perm (xs ++ [p]) ∧ Between g (g + 1) W1 w3) := ⟨hO3, (swapL_perm ys j u (by omega) (by omega)).trans hI.out.2.1, hX2.trans hX3⟩
          clear hO3 hX3
          go_wp2
          go_roundw
          case rel => exact ⟨u, swapL ys j u, rfl, huN, by rw [swapL_len]; exact hyl, ⟨HK.out, HO3.out.2.1, HO3.out.1⟩, HO3.out.2.2⟩
          case measure => simp [intOf]; omega
end Go.Proofs.Ytpbgkkemaioidaa.Old
