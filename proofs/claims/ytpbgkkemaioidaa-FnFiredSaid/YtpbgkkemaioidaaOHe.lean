
/- The first place is taken off the heap. No conditions but those written. -/
import Derived.Test.YtpbgkkemaioidaaOHd
import Derived.Deep.QuietTactic
import Derived.BigQuiet
namespace Go.Proofs.Ytpbgkkemaioidaa.Old
open Go.RowKit

theorem firstOf_n (lo H g N cap : Nat) (xs : List Nat) (a : Nat) (now sq : Int) (ao : Option Addr) (tcap : Nat) (ts : List T3) (w : World) (hN : xs.length = N) (hl : N ≤ 1048576) (ha : a ≤ 1048576) (hlt : H < w.heap.size) (hgl : g < w.heap.size)
    (hH : w.cell? ⟨H, 0, none⟩ = some (.slice (some ⟨g, 0, none⟩) N cap)) (hF : w.cell? ⟨H, 1, none⟩ = some (.func (.func 33) #[.agg #[.int .i64 now, .int .i64 sq, .slice ao ts.length tcap]] #[]))
    (ho : OwnP lo w (.slice (some ⟨g, 0, none⟩) N cap) xs) (hp : ∀ q ∈ xs, q < ts.length) (hz : TimersIn w.heap.size w ao ts) :
    Calls Try.prog 36 #[.pointer (some ⟨H, 0, none⟩), .int .i64 (a : Int)] w fun e w' => (∃ f B : Nat, e = .returned (.int .i64 (f : Int)) ∧ FirstOf (ltT ts) xs a f B ∧ (2 * a + 2 < B ∨ xs.length ≤ B)) ∧ Below w.heap.size w w' := by
  subst hN
  exact firstOf_any lo H g cap xs a now sq ao tcap ts w hl ha hlt hgl hH hF ho (fun i hi => hp _ (pl_mem xs i hi)) hz
theorem OwnP.shrink {lo : Nat} {W : World} {g N cap : Nat} {xs : List Nat} (h : OwnP lo W (.slice (some ⟨g, 0, none⟩) N cap) xs) (hN : xs.length = N) (M : Nat) (hM : M ≤ N) : OwnP lo W (.slice (some ⟨g, 0, none⟩) M cap) (xs.take M) := by
  subst hN
  have hl : (xs.take M).length = M := by simp; omega
  rcases h.2 with ⟨e, _⟩ | ⟨g', cap', cur, e, hb, hh, h1, h2, h3, h4⟩
  · simp at e
  · have e' := e
    simp only [Value.slice.injEq, Option.some.injEq, Addr.mk.injEq, and_true, true_and] at e'
    obtain ⟨rfl, rfl⟩ := e'
    refine ⟨by simp [pcells], .inr ⟨g, cap, cur, by rw [hl], hb, hh, by omega, h2, h3, ?_⟩⟩
    rw [hl]
    have : pcells (xs.take M) = (pcells xs).take M := by simp [pcells, List.map_take]
    rw [this, ← h4, List.take_take, Nat.mul_one, Nat.mul_one, Nat.min_eq_left hM]
/-- What is left when the first has changed places with the last, and the last is cut off. -/
def cutL (xs : List Nat) : List Nat := (swapL xs 0 (xs.length - 1)).take (xs.length - 1)
theorem cutL_len (xs : List Nat) : (cutL xs).length = xs.length - 1 := by simp [cutL, swapL_len]
theorem cutL_at (xs : List Nat) (i : Nat) (h0 : 0 < i) (hn : i < xs.length - 1) : pl (cutL xs) i = pl xs i := by
  have h1 : pl (cutL xs) i = pl (swapL xs 0 (xs.length - 1)) i := by simp [cutL, pl, hn]
  rw [h1, pl_swap xs 0 (xs.length - 1) i (by omega) (by omega), if_neg (by omega), if_neg (by omega)]
theorem cutL_but {lt : Nat → Nat → Bool} {xs : List Nat} (h : IsHeap lt xs) : HeapBut lt (cutL xs) 0 := by
  refine ⟨fun i h0 hn hp => ?_, fun h0 => by omega⟩
  rw [cutL_len] at hn
  rw [cutL_at xs i h0 hn, cutL_at xs _ (by omega) (by omega)]
  exact h i h0 (by omega)
theorem cutL_perm (xs : List Nat) (h : 0 < xs.length) : (pl xs 0 :: cutL xs).Perm xs := by
  have hp := swapL_perm xs 0 (xs.length - 1) h (by omega)
  have hl : (swapL xs 0 (xs.length - 1)).length = xs.length := swapL_len _ _ _
  have e : swapL xs 0 (xs.length - 1) = cutL xs ++ [pl xs 0] := by
    apply List.ext_getElem?
    intro i
    by_cases hi : i < xs.length - 1
    · rw [List.getElem?_append_left (by rw [cutL_len]; exact hi)]
      simp [cutL, hi]
    · by_cases hi2 : i = xs.length - 1
      · subst hi2
        have h1 := pl_swap xs 0 (xs.length - 1) (xs.length - 1) h (by omega)
        rw [if_pos rfl] at h1
        have hlt : xs.length - 1 < (swapL xs 0 (xs.length - 1)).length := by rw [hl]; omega
        rw [List.getElem?_append_right (by rw [cutL_len]; exact Nat.le_refl _), cutL_len]
        rw [Nat.sub_self, ← h1]
        simp [pl, hlt]
      · rw [List.getElem?_eq_none (by rw [hl]; omega), List.getElem?_eq_none (by simp [cutL_len]; omega)]
  rw [e] at hp
  exact (List.perm_append_comm (l₁ := [pl xs 0]) (l₂ := cutL xs)).trans hp

set_option maxHeartbeats 1000000 in
theorem pop_nil (lo H : Nat) (v fv : Value) (w : World) (hS : HeapS lo H w v fv []) :
    Calls Try.prog 28 #[.pointer (some ⟨H, 0, none⟩)] w fun e w' => e = .returned (.tuple #[.int .i64 0, .bool false]) ∧ w' = w := by
  obtain ⟨hH, hHf, hF, ho, hvH, hHl⟩ := hS
  obtain ⟨so, sc, rfl⟩ : ∃ so sc, v = .slice so 0 sc := by
    rcases ho.form with ⟨e, _⟩ | ⟨g, cap, e, _⟩
    · exact ⟨_, _, e⟩
    · exact ⟨_, _, e⟩
  clear ho hvH
  go_enter Try.func28, Try.ntmps28
  go_wp2
  exact bodyPost_ret (v := .tuple #[.int .i64 0, .bool false]) (by simp [results, Try.results28, go_sem]) rfl ⟨rfl, rfl⟩

set_option maxRecDepth 100000 in
set_option maxHeartbeats 8000000 in
theorem pop_any (n lo H : Nat) (v : Value) (xs : List Nat) (now sq : Int) (ao : Option Addr) (tcap : Nat) (ts : List T3) (w : World) (hx0 : 0 < xs.length) (hl : xs.length ≤ 1048000) (hn : n ≤ H) (hnlo : n ≤ lo) (hnw : n ≤ w.heap.size)
    (hS : HeapS lo H w v (.func (.func 33) #[.agg #[.int .i64 now, .int .i64 sq, .slice ao ts.length tcap]] #[]) xs) (hh : IsHeap (ltT ts) xs) (hp : ∀ q ∈ xs, q < ts.length) (hz : TimersIn n w ao ts) :
    Calls Try.prog 28 #[.pointer (some ⟨H, 0, none⟩)] w fun e w' => e = .returned (.tuple #[.int .i64 (pl xs 0 : Int), .bool true]) ∧ ∃ v' xs', HeapS lo H w' v' (.func (.func 33) #[.agg #[.int .i64 now, .int .i64 sq, .slice ao ts.length tcap]] #[]) xs' ∧ IsHeap (ltT ts) xs' ∧ (pl xs 0 :: xs').Perm xs ∧ v'.ownBlock = v.ownBlock ∧ Turn H v w w' := by
  have sw := ltT_sw ts
  obtain ⟨hH, hHf, hF, ho, hvH, hHl⟩ := hS
  obtain ⟨N, hN⟩ : ∃ N, N = xs.length := ⟨_, rfl⟩
  obtain ⟨g, cap, rfl, hlg, hgw, hNc⟩ : ∃ g cap, v = .slice (some ⟨g, 0, none⟩) N cap ∧ lo ≤ g ∧ g < w.heap.size ∧ N ≤ cap := by
    rcases ho.form with ⟨_, e⟩ | ⟨g, cap, e, h1, h2, h3⟩
    · subst e; simp at hx0
    · exact ⟨g, cap, by rw [hN]; exact e, h1, h2, by omega⟩
  have hgH : g ≠ H := fun e => hvH (by simp [Value.ownBlock, e])
  have hHg : H ≠ g := fun e => hgH e.symm
  have q0 := ho.cellN hN.symm 0 (by omega)
  have HO : Hid (OwnP lo w (.slice (some ⟨g, 0, none⟩) N cap) xs) := ho
  have HH : Hid (IsHeap (ltT ts) xs ∧ (∀ q ∈ xs, q < ts.length) ∧ N = xs.length) := ⟨hh, hp, hN⟩
  obtain ⟨top, htop⟩ : ∃ t, t = pl xs 0 := ⟨_, rfl⟩
  rw [← htop] at q0 ⊢
  have HTOP : Hid (top = pl xs 0) := htop
  obtain ⟨M, hM⟩ : ∃ M, M + 1 = N := ⟨N - 1, by omega⟩
  have hMN : M < N := by omega
  have hN0 : 0 < N := by omega
  have hNl : N ≤ 1048576 := by omega
  have HM : Hid (M + 1 = N) := hM
  have hMi : (N : Int) - 1 = (M : Int) := by omega
  have hN0i : (0 : Int) < (N : Int) := by omega
  have hne0 : ((N : Int) == 0) = false := by simp; omega
  have hMc : (M : Int) ≤ (cap : Int) := by omega
  clear ho hh hp htop hN hM hx0 hvH
  have HZ : Hid (∀ X, Turn H (.slice (some ⟨g, 0, none⟩) N cap) w X → TimersIn X.heap.size X ao ts) := by
    intro X hX
    exact (hz.below (hX.below hn hnw (fun k e => by simp [Value.ownBlock] at e; omega))).up (Nat.le_trans hnw hX.size)
  go_enter Try.func28, Try.ntmps28
  go_wp2
  go_quiet (fail)
  go_wp2_with fail
  refine (swap_n lo H g N cap xs 0 M _ HH.out.2.2.symm hN0 hMN (by exact hH) (by exact HO.out)).mono ?_
  rintro e w1 ⟨⟨r1, rfl⟩, hO1, hX1⟩
  have hX1' : Between g (g + 1) w w1 := ⟨hX1.os, hX1.tape, hX1.output, hX1.size, hX1.block⟩
  have hT1 : Turn H (.slice (some ⟨g, 0, none⟩) N cap) w w1 := (Turn.refl _ _ _).between hX1' (.inl (by simp [Value.ownBlock]))
  have c0 := (World.cell?_of_block (a := ⟨H, 0, none⟩) (hX1'.block1 H hHl hHg)).trans hH
  have c1 := (World.cell?_of_block (a := ⟨H, 1, none⟩) (hX1'.block1 H hHl hHg)).trans hF
  have cf := (World.frozen?_of_block (a := ⟨H, 0, none⟩) (hX1'.block1 H hHl hHg)).trans hHf
  have HO1 : Hid (OwnP lo w1 (.slice (some ⟨g, 0, none⟩) N cap) (swapL xs 0 M) ∧ Turn H (.slice (some ⟨g, 0, none⟩) N cap) w w1) := ⟨hO1, hT1⟩
  have hs1 := hX1'.size
  clear hO1 hX1 hX1' hT1
  go_wp2_with fail
  obtain ⟨W2, hW2⟩ : ∃ W2, W2 = w1.setCell ⟨H, 0, none⟩ (.slice (some ⟨g, 0, none⟩) M cap) := ⟨_, rfl⟩
  rw [← hW2]
  have hs2 : w.heap.size ≤ W2.heap.size := by rw [hW2]; simpa using hs1
  have e0 : W2.cell? ⟨H, 0, none⟩ = some (.slice (some ⟨g, 0, none⟩) M cap) := by rw [hW2]; exact World.cell?_setCell_same' _ _ _ (by rw [c0]; rfl)
  have e1 : W2.cell? ⟨H, 1, none⟩ = some (.func (.func 33) #[.agg #[.int .i64 now, .int .i64 sq, .slice ao ts.length tcap]] #[]) := by rw [hW2, World.cell?_setCell_other _ _ _ _ (by simp)]; exact c1
  have ef : W2.frozen? ⟨H, 0, none⟩ = false := by rw [hW2, World.frozen?_setCell]; exact cf
  have hT2 : Turn H (.slice (some ⟨g, 0, none⟩) N cap) w W2 := by
    have h := HO1.out.2
    rw [hW2]
    exact ⟨h.os, h.tape, h.output, by simpa using h.size, fun k hk h1 h2 => (Below.heap_setCell _ _ _ _ (by simpa using h1)).trans (h.block k hk h1 h2)⟩
  obtain ⟨zs, hzs⟩ : ∃ zs, zs = cutL xs := ⟨_, rfl⟩
  have hcut : cutL xs = (swapL xs 0 M).take M := by
    have e : xs.length - 1 = M := by have := HH.out.2.2; have := HM.out; omega
    rw [cutL, e]
  have hzl : zs.length = M := by rw [hzs, cutL_len]; have := HH.out.2.2; have := HM.out; omega
  have hO2 : OwnP lo W2 (.slice (some ⟨g, 0, none⟩) M cap) zs := by
    rw [hzs, hcut, hW2]
    exact (HO1.out.1.keepN (by rw [swapL_len]; exact HH.out.2.2.symm) (Below.heap_setCell _ _ _ _ (by simpa using hgH))).shrink (by rw [swapL_len]; exact HH.out.2.2.symm) M (by omega)
  have hper : (top :: zs).Perm xs := by rw [hzs, HTOP.out]; exact cutL_perm xs (by have := HH.out.2.2; omega)
  have HP2 : Hid (OwnP lo W2 (.slice (some ⟨g, 0, none⟩) M cap) zs ∧ HeapBut (ltT ts) zs 0 ∧ (top :: zs).Perm xs ∧ Turn H (.slice (some ⟨g, 0, none⟩) N cap) w W2 ∧ ∀ q ∈ zs, q < ts.length) := ⟨hO2, by rw [hzs]; exact cutL_but HH.out.1, hper, hT2, fun q hq => HH.out.2.1 q (hper.mem_iff.1 (List.mem_cons_of_mem _ hq))⟩
  have hMl : M ≤ 1048576 := by omega
  clear hW2 HO1 hO2 hT2 hper c0 c1 cf hzs hcut hs1
  refine (firstOf_n lo H g M cap zs 0 now sq ao tcap ts W2 hzl hMl (by omega) (by omega) (by omega) e0 e1 HP2.out.1 HP2.out.2.2.2.2 (HZ.out W2 HP2.out.2.2.2.1)).mono ?_
  rintro e w3 ⟨⟨f0, B0, rfl, hfo0, hB0⟩, hb3⟩
  have HF3 : Hid (FirstOf (ltT ts) zs 0 f0 B0 ∧ (2 * 0 + 2 < B0 ∨ zs.length ≤ B0) ∧ Between g (g + 1) W2 w3 ∧ OwnP lo w3 (.slice (some ⟨g, 0, none⟩) M cap) zs) := ⟨hfo0, hB0, Between.of_below hb3, HP2.out.1.keepN hzl (hb3.block g (by omega))⟩
  clear hfo0 hB0 hb3
  go_wp2
  go_loopw [7, 8] (fun i f wr => ∃ (a k B : Nat) (ys : List Nat), i = .int .i64 (a : Int) ∧ f = .int .i64 (k : Int) ∧ ys.length = M ∧ (a < M ∨ a = 0) ∧ Hid (HeapBut (ltT ts) ys a ∧ FirstOf (ltT ts) ys a k B ∧ (2 * a + 2 < B ∨ ys.length ≤ B) ∧ ys.Perm zs ∧ OwnP lo wr (.slice (some ⟨g, 0, none⟩) M cap) ys) ∧ Between g (g + 1) W2 wr) (fun i _ _ => M - (intOf i).toNat)
  case atStart => exact ⟨0, f0, B0, zs, rfl, rfl, hzl, .inr rfl, ⟨HP2.out.2.1, HF3.out.1, HF3.out.2.1, List.Perm.refl _, HF3.out.2.2.2⟩, HF3.out.2.2.1⟩
  case round =>
    obtain ⟨a, k, B, ys, rfl, rfl, hyl, ham, hI, hX⟩ := hrel
    have hsX := hX.size
    have hHl2 : H < W2.heap.size := by omega
    have hgl2 : g < W2.heap.size := by omega
    have d0 := (World.cell?_of_block (a := ⟨H, 0, none⟩) (hX.block1 H hHl2 hHg)).trans e0
    have d1 := (World.cell?_of_block (a := ⟨H, 1, none⟩) (hX.block1 H hHl2 hHg)).trans e1
    have df := (World.frozen?_of_block (a := ⟨H, 0, none⟩) (hX.block1 H hHl2 hHg)).trans ef
    have hTX : Turn H (.slice (some ⟨g, 0, none⟩) N cap) w wr := HP2.out.2.2.2.1.between hX (.inl (by simp [Value.ownBlock]))
    by_cases hka : k = a
    · subst hka
      have hkk : ((k : Int) != (k : Int)) = false := by simp
      have hheap : IsHeap (ltT ts) ys := hI.out.2.1.same hI.out.1 hI.out.2.2.1
      have HE : Hid (IsHeap (ltT ts) ys ∧ (top :: ys).Perm xs) := ⟨hheap, (hI.out.2.2.2.1.cons top).trans HP2.out.2.2.1⟩
      clear hheap
      go_wp2
      refine bodyPost_ret (v := .tuple #[.int .i64 (top : Int), .bool true]) (by simp [results, Try.results28, go_sem]) rfl ⟨rfl, .slice (some ⟨g, 0, none⟩) M cap, ys, ⟨d0, df, d1, hI.out.2.2.2.2, by simp [Value.ownBlock]; exact hgH, by omega⟩, HE.out.1, HE.out.2, by simp [Value.ownBlock], hTX⟩
    · have hka' : ((k : Int) != (a : Int)) = true := by simp; omega
      have haM : a < M := by
        rcases hI.out.2.1.1 with e | ⟨h1, h2, h3, _⟩
        · exact absurd e hka
        · omega
      obtain ⟨hak, hkl, hbut⟩ := hI.out.1.down sw hI.out.2.1 hI.out.2.2.1 hka (by omega)
      have hkM : k < M := by omega
      have HB : Hid (HeapBut (ltT ts) (swapL ys a k) k) := hbut
      clear hbut
      go_wp2_with fail
      refine (swap_n lo H g M cap ys a k wr hyl haM hkM d0 hI.out.2.2.2.2).mono ?_
      rintro e w4 ⟨⟨r4, rfl⟩, hO4, hX4⟩
      have hX5 := hX.trans hX4
      have hs4 := hX4.size
      have k0 := (World.cell?_of_block (a := ⟨H, 0, none⟩) (hX5.block1 H hHl2 hHg)).trans e0
      have k1 := (World.cell?_of_block (a := ⟨H, 1, none⟩) (hX5.block1 H hHl2 hHg)).trans e1
      have hsl : (swapL ys a k).length = M := by rw [swapL_len]; exact hyl
      have hpz : (swapL ys a k).Perm zs := (swapL_perm ys a k (by omega) (by omega)).trans hI.out.2.2.2.1
      have HO4 : Hid (OwnP lo w4 (.slice (some ⟨g, 0, none⟩) M cap) (swapL ys a k) ∧ (swapL ys a k).Perm zs ∧ (∀ q ∈ swapL ys a k, q < ts.length) ∧ TimersIn w4.heap.size w4 ao ts) := ⟨hO4, hpz, fun q hq => HP2.out.2.2.2.2 q (hpz.mem_iff.1 hq), HZ.out w4 (HP2.out.2.2.2.1.between hX5 (.inl (by simp [Value.ownBlock])))⟩
      clear hO4 hX4 hpz
      generalize hss : swapL ys a k = ss at *
      clear hss
      go_wp2_with fail
      refine (firstOf_n lo H g M cap ss k now sq ao tcap ts w4 hsl hMl (by omega) (by omega) (by omega) k0 k1 HO4.out.1 HO4.out.2.2.1 HO4.out.2.2.2).mono ?_
      rintro e w5 ⟨⟨f1, B1, rfl, hfo1, hB1⟩, hb5⟩
      have HF5 : Hid (FirstOf (ltT ts) ss k f1 B1 ∧ (2 * k + 2 < B1 ∨ ss.length ≤ B1) ∧ Between g (g + 1) W2 w5 ∧ OwnP lo w5 (.slice (some ⟨g, 0, none⟩) M cap) ss) := ⟨hfo1, hB1, hX5.trans (Between.of_below hb5), HO4.out.1.keepN hsl (hb5.block g (by omega))⟩
      clear hfo1 hB1 hb5
      go_wp2
      go_roundw
      case rel => exact ⟨k, f1, B1, ss, rfl, rfl, hsl, .inl hkM, ⟨HB.out, HF5.out.1, HF5.out.2.1, HO4.out.2.1, HF5.out.2.2.2⟩, HF5.out.2.2.1⟩
      case measure => simp [intOf]; omega
end Go.Proofs.Ytpbgkkemaioidaa.Old
