
/- The heap of a clock's places is made. No conditions but those written. -/
import Derived.Test.YtpbgkkemaioidaaOHe
import Derived.Laws.EntriesVeiled
namespace Go.Proofs.Ytpbgkkemaioidaa.Old
open Go.RowKit

theorem head_of {lt : Nat → Nat → Bool} (sw : SW lt) {xs : List Nat} {q : Nat} {r : List Nat} (h : IsHeap lt xs) (hp : xs.Perm (q :: r)) (hs : (q :: r).Pairwise (fun a b => lt a b = true)) : pl xs 0 = q := by
  have hl : xs.length = r.length + 1 := by have := hp.length_eq; simpa using this
  have hm := hp.mem_iff.1 (pl_mem xs 0 (by omega))
  rcases List.mem_cons.1 hm with e | hm
  · exact e
  · have h1 := (List.pairwise_cons.1 hs).1 _ hm
    obtain ⟨i, hi, e⟩ := List.mem_iff_getElem.1 (hp.mem_iff.2 (List.mem_cons_self ..) : q ∈ xs)
    have h2 := h.least sw i hi
    have e' : pl xs i = q := by simp [pl, hi, e]
    rw [e', h1] at h2; cases h2
theorem OwnP.setB {lo : Nat} {W : World} {v : Value} {xs : List Nat} (h : OwnP lo W v xs) {a : Addr} (ha : a.block < lo) (u : Value) : OwnP lo (W.setCell a u) v xs := by
  rcases h.form with ⟨e, e2⟩ | ⟨g, cap, e, hb, hg, _⟩
  · subst e e2; exact OwnP.nil _ _
  · subst e; exact h.keep (Below.heap_setCell _ _ _ _ (by omega))
theorem OwnP.lower {lo lo' : Nat} {W : World} {v : Value} {xs : List Nat} (h : OwnP lo W v xs) (hl : lo' ≤ lo) : OwnP lo' W v xs := by
  rcases h.form with ⟨e, e2⟩ | ⟨g, cap, e, hb, hg, _⟩
  · subst e e2; exact OwnP.nil _ _
  · subst e; exact ownsRow_base h (by omega)
theorem pop_cons (n lo H : Nat) (v : Value) (xs : List Nat) (q : Nat) (r : List Nat) (now sq : Int) (ao : Option Addr) (tcap : Nat) (ts : List T3) (w : World) (hl : r.length ≤ 1040000) (hn : n ≤ H) (hnlo : n ≤ lo) (hnw : n ≤ w.heap.size)
    (hS : HeapS lo H w v (.func (.func 33) #[.agg #[.int .i64 now, .int .i64 sq, .slice ao ts.length tcap]] #[]) xs) (hh : IsHeap (ltT ts) xs) (hp : xs.Perm (q :: r)) (hs : (q :: r).Pairwise (fun a b => ltT ts a b = true)) (hq : ∀ p ∈ q :: r, p < ts.length) (hz : TimersIn n w ao ts) :
    Calls Try.prog 28 #[.pointer (some ⟨H, 0, none⟩)] w fun e w' => e = .returned (.tuple #[.int .i64 (q : Int), .bool true]) ∧ ∃ v' xs', HeapS lo H w' v' (.func (.func 33) #[.agg #[.int .i64 now, .int .i64 sq, .slice ao ts.length tcap]] #[]) xs' ∧ IsHeap (ltT ts) xs' ∧ xs'.Perm r ∧ v'.ownBlock = v.ownBlock ∧ Turn H v w w' := by
  have hxl : xs.length = r.length + 1 := by have := hp.length_eq; simpa using this
  have e := head_of (ltT_sw ts) hh hp hs
  refine (pop_any n lo H v xs now sq ao tcap ts w (by omega) (by omega) hn hnlo hnw hS hh (fun p h => hq p (hp.mem_iff.1 h)) hz).mono ?_
  rintro e1 w1 ⟨rfl, v', xs', h1, h2, h3, h4, h5⟩
  rw [e] at h3 ⊢
  exact ⟨rfl, v', xs', h1, h2, List.Perm.cons_inv (h3.trans hp), h4, h5⟩

set_option maxRecDepth 100000 in
set_option maxHeartbeats 4000000 in
theorem coming_any (now sq : Int) (ao : Option Addr) (cap : Nat) (ts : List T3) (w : World) (hl : ts.length ≤ 1040000) (hz : TimersIn w.heap.size w ao ts) :
    Calls Try.prog 27 #[.agg #[.int .i64 now, .int .i64 sq, .slice ao ts.length cap]] w fun e w' => (∃ v xs, e = .returned (.agg #[v, .func (.func 33) #[.agg #[.int .i64 now, .int .i64 sq, .slice ao ts.length cap]] #[]]) ∧ OwnP w.heap.size w' v xs ∧ IsHeap (ltT ts) xs ∧ xs.Perm (List.range ts.length)) ∧ Below w.heap.size w w' := by
  obtain ⟨W0, hW0⟩ : ∃ W0, W0 = ((w.alloc (.cells #[.int .i64 now, .int .i64 sq, .slice ao ts.length cap] 25)).alloc (.cells #[.slice none 0 0, .nilFunc] 58)).alloc (.cells #[.slice none 0 0, .func (.func 33) #[.agg #[.int .i64 now, .int .i64 sq, .slice ao ts.length cap]] #[]] 58) := ⟨_, rfl⟩
  have hs0 : W0.heap.size = w.heap.size + 1 + 1 + 1 := by rw [hW0]; simp
  have hB0 : Below w.heap.size w W0 := by rw [hW0]; exact below3 _ _ _ _
  have b0 : W0.cell? ⟨w.heap.size + 1, 0, none⟩ = some (.slice none 0 0) := by rw [hW0]; simp [go_sem]
  have b1 : W0.cell? ⟨w.heap.size + 1, 1, none⟩ = some .nilFunc := by rw [hW0]; simp [go_sem]
  have bf0 : W0.frozen? ⟨w.heap.size + 1, 0, none⟩ = false := by rw [hW0]; simp [go_sem]
  have bf1 : W0.frozen? ⟨w.heap.size + 1, 1, none⟩ = false := by rw [hW0]; simp [go_sem]
  have h0 : W0.cell? ⟨w.heap.size + 1 + 1, 0, none⟩ = some (.slice none 0 0) := by rw [hW0]; simp [go_sem]
  have h1 : W0.cell? ⟨w.heap.size + 1 + 1, 1, none⟩ = some (.func (.func 33) #[.agg #[.int .i64 now, .int .i64 sq, .slice ao ts.length cap]] #[]) := by rw [hW0]; simp [go_sem]
  have hf : W0.frozen? ⟨w.heap.size + 1 + 1, 0, none⟩ = false := by rw [hW0]; simp [go_sem]
  have HW : Hid (W0 = ((w.alloc (.cells #[.int .i64 now, .int .i64 sq, .slice ao ts.length cap] 25)).alloc (.cells #[.slice none 0 0, .nilFunc] 58)).alloc (.cells #[.slice none 0 0, .func (.func 33) #[.agg #[.int .i64 now, .int .i64 sq, .slice ao ts.length cap]] #[]] 58)) := hW0
  have HS : Hid (HeapS (w.heap.size + 1 + 1 + 1) (w.heap.size + 1 + 1) W0 (.slice none 0 0) (.func (.func 33) #[.agg #[.int .i64 now, .int .i64 sq, .slice ao ts.length cap]] #[]) []) := ⟨h0, hf, h1, OwnP.nil _ _, by simp [Value.ownBlock], by omega⟩
  clear hW0 h0 h1 hf
  go_enter Try.func27, Try.ntmps27
  go_wp2
  rw [← HW.out]
  go_loopw [11] (fun i wr => ∃ (k : Nat) (v : Value) (xs : List Nat), k ≤ ts.length ∧ i = .int .i64 (k : Int) ∧ xs.length = k ∧ Hid (HeapS (w.heap.size + 1 + 1 + 1) (w.heap.size + 1 + 1) wr v (.func (.func 33) #[.agg #[.int .i64 now, .int .i64 sq, .slice ao ts.length cap]] #[]) xs ∧ IsHeap (ltT ts) xs ∧ xs.Perm (List.range k)) ∧ Below (w.heap.size + 1 + 1) W0 wr) (fun i _ => ts.length - (intOf i).toNat)
  case atStart => exact ⟨0, _, [], Nat.zero_le _, rfl, rfl, ⟨HS.out, fun i h0 hn => by simp at hn, List.Perm.refl _⟩, Below.refl _ _⟩
  case round =>
    obtain ⟨k, v, xs, hk, rfl, hxl, hI, hB⟩ := hrel
    have hsB := hB.size
    have hBw : Below w.heap.size w wr := hB0.trans (hB.mono (by omega))
    by_cases hlt : k < ts.length
    · have hki : (k : Int) < (ts.length : Int) := by omega
      go_wp2_with fail
      refine (push_any w.heap.size (w.heap.size + 1 + 1 + 1) (w.heap.size + 1 + 1) v xs k now sq ao cap ts wr (by omega) (by omega) (by omega) (by omega) hI.out.1 hI.out.2.1 (fun i hi => by have := List.mem_range.1 (hI.out.2.2.mem_iff.1 (pl_mem xs i hi)); omega) hlt (hz.below hBw)).mono ?_
      rintro e w1 ⟨⟨r, rfl⟩, v', xs', hS', hh', hp', hv', hT'⟩
      have hb1 : Below (w.heap.size + 1 + 1) wr w1 := hT'.below (Nat.le_refl _) (by omega) (fun j e => by have := (hI.out.1.2.2.2.1).low j e; omega)
      have hpr : xs'.Perm (List.range (k + 1)) := by rw [List.range_succ]; exact hp'.trans (hI.out.2.2.append_right _)
      have HI : Hid (HeapS (w.heap.size + 1 + 1 + 1) (w.heap.size + 1 + 1) w1 v' (.func (.func 33) #[.agg #[.int .i64 now, .int .i64 sq, .slice ao ts.length cap]] #[]) xs' ∧ IsHeap (ltT ts) xs' ∧ xs'.Perm (List.range (k + 1)) ∧ Below (w.heap.size + 1 + 1) W0 w1 ∧ xs'.length = k + 1) := ⟨hS', hh', hpr, hB.trans hb1, by have := hpr.length_eq; simpa using this⟩
      clear hS' hh' hp' hv' hT' hb1 hpr
      go_wp2
      go_roundw
      case rel => exact ⟨k + 1, v', xs', by omega, by go_num, HI.out.2.2.2.2, ⟨HI.out.1, HI.out.2.1, HI.out.2.2.1⟩, HI.out.2.2.2.1⟩
      case measure => simp [intOf]; omega
    · obtain rfl : k = ts.length := by omega
      obtain ⟨c0, cf, c1, ho, hvH, hHl⟩ := hI.out.1
      have d0 := (hB.cell (p := ⟨w.heap.size + 1, 0, none⟩) (by simp)).trans b0
      have d1 := (hB.cell (p := ⟨w.heap.size + 1, 1, none⟩) (by simp)).trans b1
      have df0 := (hB.frozen (p := ⟨w.heap.size + 1, 0, none⟩) (by simp)).trans bf0
      have df1 := (hB.frozen (p := ⟨w.heap.size + 1, 1, none⟩) (by simp)).trans bf1
      have HO : Hid (OwnP (w.heap.size + 1 + 1 + 1) wr v xs) := ho
      obtain ⟨so, sl, sc, rfl⟩ : ∃ so sl sc, v = .slice so sl sc := by
        rcases ho.form with ⟨e, _⟩ | ⟨g, cap, e, _⟩
        · exact ⟨_, _, _, e⟩
        · exact ⟨_, _, _, e⟩
      have hlow := ho.low
      have HL : Hid (∀ j, (Value.slice so sl sc).ownBlock = some j → w.heap.size + 1 + 1 + 1 ≤ j ∧ j < wr.heap.size) := hlow
      clear ho hvH hlow
      go_wp2
      refine bodyPost_ret (v := .agg #[.slice so sl sc, .func (.func 33) #[.agg #[.int .i64 now, .int .i64 sq, .slice ao ts.length cap]] #[]]) (by simp [results, Try.results27, go_sem, d0, d1]) rfl ⟨⟨_, xs, rfl, ?_, hI.out.2.1, hI.out.2.2⟩, ?_⟩
      · exact (HO.out.setB (a := ⟨w.heap.size + 1, 0, none⟩) (by simp) _).setB (a := ⟨w.heap.size + 1, 1, none⟩) (by simp) _ |>.lower (by omega)
      · exact (hBw.setCell (p := ⟨w.heap.size + 1, 0, none⟩) (by simp) _).setCell (p := ⟨w.heap.size + 1, 1, none⟩) (by simp) _
end Go.Proofs.Ytpbgkkemaioidaa.Old
