
/- A clock's timers, those that are due and those that are to come: out of the heap. No conditions but those written. -/
import Derived.Test.YtpbgkkemaioidaaOHf
namespace Go.Proofs.Ytpbgkkemaioidaa.Old
open Go.RowKit

def dueL (ts : List T3) (time : Int) (l : List Nat) : List T3 := (l.map (t3 ts)).filter (fun t => decide (t.2.1 ≤ time))
def latL (ts : List T3) (time : Int) (l : List Nat) : List T3 := (l.map (t3 ts)).filter (fun t => !decide (t.2.1 ≤ time))
theorem dueL_yes (ts : List T3) (time : Int) (l : List Nat) (q : Nat) (h : (t3 ts q).2.1 ≤ time) : dueL ts time (l ++ [q]) = dueL ts time l ++ [t3 ts q] ∧ latL ts time (l ++ [q]) = latL ts time l := by
  simp [dueL, latL, h]
theorem dueL_no (ts : List T3) (time : Int) (l : List Nat) (q : Nat) (h : ¬ (t3 ts q).2.1 ≤ time) : dueL ts time (l ++ [q]) = dueL ts time l ∧ latL ts time (l ++ [q]) = latL ts time l ++ [t3 ts q] := by
  simp [dueL, latL, h]
theorem dueL_len (ts : List T3) (time : Int) (l : List Nat) : (dueL ts time l).length ≤ l.length := by
  have := List.length_filter_le (fun t : T3 => decide (t.2.1 ≤ time)) (l.map (t3 ts)); simpa [dueL] using this
theorem latL_len (ts : List T3) (time : Int) (l : List Nat) : (latL ts time l).length ≤ l.length := by
  have := List.length_filter_le (fun t : T3 => !decide (t.2.1 ≤ time)) (l.map (t3 ts)); simpa [latL] using this

def lenV : Value → Nat
  | .slice _ n _ => n
  | _ => 0
theorem OwnV.lenV {lo : Nat} {W : World} {v : Value} {xs : List T3} (h : OwnV lo W v xs) : lenV v = xs.length := by
  obtain ⟨to, tc, e, _⟩ := h.fresh
  rw [e]; rfl
theorem due_lat (ts : List T3) (time : Int) (l : List Nat) : (dueL ts time l).length + (latL ts time l).length = l.length := by
  induction l with
  | nil => rfl
  | cons q r ih =>
    by_cases h : (t3 ts q).2.1 ≤ time
    · simp [dueL, latL, h] at ih ⊢; omega
    · simp [dueL, latL, h] at ih ⊢; omega
theorem dis_own {v5 vd vl : Value} {z : Nat} (hat : v5.ownBlock = vd.ownBlock ∨ v5.ownBlock = some z) (hvl : ∀ g, vl.ownBlock = some g → g < z) (hd : ∀ g, vd.ownBlock = some g → vl.ownBlock ≠ some g) : ∀ g, v5.ownBlock = some g → vl.ownBlock ≠ some g := by
  intro g e e'
  rcases hat with h | h
  · rw [h] at e; exact hd g e e'
  · rw [h] at e; simp at e; have := hvl g e'; omega
theorem HeapS.keep {lo H : Nat} {W W' : World} {v fv : Value} {xs : List Nat} (h : HeapS lo H W v fv xs) (h1 : W'.heap[H]? = W.heap[H]?) (h2 : ∀ g, v.ownBlock = some g → W'.heap[g]? = W.heap[g]?) (h3 : W.heap.size ≤ W'.heap.size) : HeapS lo H W' v fv xs := by
  obtain ⟨a, b, c, d, e, f⟩ := h
  refine ⟨(World.cell?_of_block (a := ⟨H, 0, none⟩) h1).trans a, (World.frozen?_of_block (a := ⟨H, 0, none⟩) h1).trans b, (World.cell?_of_block (a := ⟨H, 1, none⟩) h1).trans c, ?_, e, Nat.lt_of_lt_of_le f h3⟩
  rcases d.form with ⟨e1, e2⟩ | ⟨g, cap, e1, _⟩
  · subst e1 e2; exact OwnP.nil _ _
  · subst e1; exact d.keep (h2 g (by simp [Value.ownBlock]))
theorem OwnV.keepG {lo : Nat} {W W' : World} {v : Value} {xs : List T3} (h : OwnV lo W v xs) (h2 : ∀ g, v.ownBlock = some g → W'.heap[g]? = W.heap[g]?) : OwnV lo W' v xs := by
  rcases h.2 with ⟨e, h0⟩ | ⟨g, cap, cur, e, _⟩
  · have : xs = [] := List.length_eq_zero_iff.1 h0
    subst this e; exact OwnV.nil _ _
  · unfold OwnV at h ⊢
    rw [e] at h h2 ⊢; exact owns_block h (h2 g (by simp [Value.ownBlock]))
theorem OwnV.lowB {lo : Nat} {W : World} {v : Value} {xs : List T3} (h : OwnV lo W v xs) : ∀ g, v.ownBlock = some g → lo ≤ g ∧ g < W.heap.size := by
  rcases h.2 with ⟨e, _⟩ | ⟨g, cap, cur, e, hb, hh, _⟩
  · subst e; intro k h; simp [Value.ownBlock] at h
  · subst e; intro k h; simp [Value.ownBlock] at h; have := (Array.getElem?_eq_some_iff.1 hh).1; omega
theorem OwnV.lower {lo lo' : Nat} {W : World} {v : Value} {xs : List T3} (h : OwnV lo W v xs) (hl : lo' ≤ lo) : OwnV lo' W v xs := by
  rcases h.2 with ⟨e, h0⟩ | ⟨g, cap, cur, e, hb, _⟩
  · have : xs = [] := List.length_eq_zero_iff.1 h0
    subst this e; exact OwnV.nil _ _
  · unfold OwnV at h ⊢
    rw [e] at h ⊢; exact ownsRow_base h (by omega)

theorem wpList_pushC {ops : Array Oper} {rest : List Oper} {o : Oper} {a : Act} {Q : Exit → Act → World → Prop} (W : World) (hg : o.guard = none) (s x : Operand) (hop : o.op = Op.call { callee := Callee.builtin Builtin.append, args := #[s, x], argTypes := #[23, 23] })
    (lo : Nat) (v : Value) (xs : List T3) (hs : a.eval s = v) (hown : OwnV lo W v xs) (hlo : lo ≤ W.heap.size) (hl : xs.length ≤ 1048576)
    (b : Nat) (t : T3) (c : Nat) (hx : a.eval x = .slice (some ⟨b, 0, none⟩) 1 c) (hc : Item b t W)
    (hK : ∀ v' w', OwnV lo w' v' (xs ++ [t]) → (v'.ownBlock = v.ownBlock ∨ v'.ownBlock = some W.heap.size) → W.grownBy w' v.ownBlock → wpList Try.prog ops Q rest (a.put o.dst v') w') :
    wpList Try.prog ops Q (o :: rest) a W := by
  obtain ⟨i0, hin, hz0, hz1, hz2⟩ := info_parts Try.info49
  obtain ⟨t1, t2, t3'⟩ := t
  have hcz : ∀ j u, (tcells [(t1, t2, t3')])[j]? = some u → W.cell? ((⟨b, 0, none⟩ : Addr).add j) = some u := by
    intro j u h
    match j, h with
    | 0, h => simp [tcells] at h; subst h; simpa [Addr.add] using hc.1
    | 1, h => simp [tcells] at h; subst h; simpa [Addr.add] using hc.2.1
    | 2, h => simp [tcells] at h; subst h; simpa [Addr.add] using hc.2.2
  refine wpList_append_own_at W hg s x 23 hop lo 49 i0 (.agg #[.int .i64 0, .int .i64 0, .int .i64 0]) 3 24 Try.underlying23 hin hz0 hz1 hz2 rfl (by decide) v xs.length (tcells xs) hs hown ⟨b, 0, none⟩ 1 c (tcells [(t1, t2, t3')]) hx rfl hcz (tcells_one _) (by unfold maxLen; omega) (by omega) hlo ?_
  intro v' w' ho hgr _ hat
  refine hK v' w' ?_ hat hgr
  unfold OwnV
  rw [tcells_app, List.length_append]; exact ho

def hdI : List Nat → Int
  | [] => 0
  | q :: _ => (q : Int)
def neB : List Nat → Bool
  | [] => false
  | _ :: _ => true
theorem pop_rem (n lo H : Nat) (v : Value) (xs rem : List Nat) (now sq : Int) (ao : Option Addr) (tcap : Nat) (ts : List T3) (w : World) (hl : rem.length ≤ 1040000) (hn : n ≤ H) (hnlo : n ≤ lo) (hnw : n ≤ w.heap.size)
    (hS : HeapS lo H w v (.func (.func 33) #[.agg #[.int .i64 now, .int .i64 sq, .slice ao ts.length tcap]] #[]) xs) (hh : IsHeap (ltT ts) xs) (hp : xs.Perm rem) (hs : rem.Pairwise (fun a b => ltT ts a b = true)) (hq : ∀ p ∈ rem, p < ts.length) (hz : TimersIn n w ao ts) :
    Calls Try.prog 28 #[.pointer (some ⟨H, 0, none⟩)] w fun e w' => e = .returned (.tuple #[.int .i64 (hdI rem), .bool (neB rem)]) ∧ ∃ v' xs', HeapS lo H w' v' (.func (.func 33) #[.agg #[.int .i64 now, .int .i64 sq, .slice ao ts.length tcap]] #[]) xs' ∧ IsHeap (ltT ts) xs' ∧ xs'.Perm rem.tail ∧ v'.ownBlock = v.ownBlock ∧ Turn H v w w' := by
  cases rem with
  | nil =>
    have e := hp.eq_nil
    subst e
    refine (pop_nil lo H v _ w hS).mono ?_
    rintro e w' ⟨rfl, rfl⟩
    exact ⟨rfl, v, [], hS, hh, List.Perm.refl _, rfl, Turn.refl _ _ _⟩
  | cons q r =>
    refine (pop_cons n lo H v xs q r now sq ao tcap ts w (by simp at hl; omega) hn hnlo hnw hS hh hp hs hq hz).mono ?_
    rintro e w' ⟨rfl, h⟩
    exact ⟨rfl, h⟩

set_option maxRecDepth 100000 in
set_option maxHeartbeats 8000000 in
theorem split_any (now sq : Int) (ao : Option Addr) (cap : Nat) (ts : List T3) (time : Int) (S : List Nat) (w : World) (hl : ts.length ≤ 1040000) (hz : TimersIn w.heap.size w ao ts) (hp : S.Perm (List.range ts.length)) (hs : S.Pairwise (fun a b => ltT ts a b = true)) :
    Calls Try.prog 16 #[.agg #[.int .i64 now, .int .i64 sq, .slice ao ts.length cap], .int .i64 time] w fun e w' => (∃ vd vl, e = .returned (.tuple #[vd, vl]) ∧ OwnV w.heap.size w' vd (dueL ts time S) ∧ OwnV w.heap.size w' vl (latL ts time S)) ∧ Below w.heap.size w w' := by
  have hSl : S.length = ts.length := by have := hp.length_eq; simpa using this
  have HQ : Hid (∀ q ∈ S, q < ts.length) := fun q h => List.mem_range.1 (hp.mem_iff.1 h)
  have HS : Hid (S.Pairwise (fun a b => ltT ts a b = true) ∧ S.length = ts.length ∧ S.Perm (List.range ts.length)) := ⟨hs, hSl, hp⟩
  clear hp hs hSl
  go_enter Try.func16, Try.ntmps16
  go_wp2_with fail
  refine (coming_any now sq ao cap ts _ hl (hz.later (below1 _ _))).mono ?_
  rintro e w1 ⟨⟨v, xs, rfl, ho, hh, hper⟩, hb1⟩
  have hB1 := (below1 w (.cells #[.int .i64 now, .int .i64 sq, .slice ao ts.length cap] 25)).trans (hb1.mono (by simp))
  have hs1 : w.heap.size < w1.heap.size := by have := hb1.size; simp at this; omega
  have bx : w1.cell? ⟨w.heap.size, 2, none⟩ = some (.slice ao ts.length cap) := (hb1.cell (p := ⟨w.heap.size, 2, none⟩) (by simp)).trans (by simp [go_sem])
  rw [World.size_alloc] at ho
  obtain ⟨so, sl, sc, rfl⟩ : ∃ so sl sc, v = .slice so sl sc := by
    rcases ho.form with ⟨e, _⟩ | ⟨g, cap, e, _⟩
    · exact ⟨_, _, _, e⟩
    · exact ⟨_, _, _, e⟩
  have HO : Hid (OwnP (w.heap.size + 1) w1 (.slice so sl sc) xs ∧ IsHeap (ltT ts) xs ∧ xs.Perm S) := ⟨ho, hh, hper.trans HS.out.2.2.symm⟩
  clear ho hh hper hb1
  go_wp2_with fail
  obtain ⟨H, hH⟩ : ∃ H, H = w1.heap.size := ⟨_, rfl⟩
  obtain ⟨W2, hW2⟩ : ∃ W2, W2 = w1.alloc (.cells #[.slice so sl sc, .func (.func 33) #[.agg #[.int .i64 now, .int .i64 sq, .slice ao ts.length cap]] #[]] 58) := ⟨_, rfl⟩
  rw [← hW2, ← hH]
  have hs2 : W2.heap.size = H + 1 := by rw [hW2, hH]; simp
  have hbW : Below w1.heap.size w1 W2 := by rw [hW2]; exact below1 _ _
  have hlow := HO.out.1.low
  have hHS : HeapS (w.heap.size + 1) H W2 (.slice so sl sc) (.func (.func 33) #[.agg #[.int .i64 now, .int .i64 sq, .slice ao ts.length cap]] #[]) xs := by
    refine ⟨by rw [hW2, hH]; simp, by rw [hW2, hH]; simp [go_sem], by rw [hW2, hH]; simp, ?_, fun e => by have := hlow H e; omega, by omega⟩
    rcases HO.out.1.form with ⟨e1, e2⟩ | ⟨g, cp, e1, _, hg, _⟩
    · rw [e1, e2]; exact OwnP.nil _ _
    · have h := HO.out.1
      rw [e1] at h ⊢; exact h.keep (hbW.block g hg)
  have hB2 : Below w.heap.size w W2 := hB1.trans (hbW.mono (by omega))
  have bx2 : W2.cell? ⟨w.heap.size, 2, none⟩ = some (.slice ao ts.length cap) := (hbW.cell (p := ⟨w.heap.size, 2, none⟩) hs1).trans bx
  have HH : Hid (HeapS (w.heap.size + 1) H W2 (.slice so sl sc) (.func (.func 33) #[.agg #[.int .i64 now, .int .i64 sq, .slice ao ts.length cap]] #[]) xs ∧ IsHeap (ltT ts) xs ∧ xs.Perm S ∧ (∀ g, (Value.slice so sl sc).ownBlock = some g → w.heap.size + 1 ≤ g ∧ g < H)) := ⟨hHS, HO.out.2.1, HO.out.2.2, fun g e => by have := hlow g e; omega⟩
  have hwH : w.heap.size < H := by omega
  have hSc : S.length ≤ 1040000 := by have := HS.out.2.1; omega
  have hW2s : H + 1 ≤ W2.heap.size := by omega
  clear hW2 hHS hlow HO hbW bx hB1 hH hs1 hs2
  refine (pop_rem w.heap.size (w.heap.size + 1) H (.slice so sl sc) xs S now sq ao cap ts W2 hSc (by omega) (by omega) (by omega) HH.out.1 HH.out.2.1 HH.out.2.2.1 HS.out.1 HQ.out (hz.below hB2)).mono ?_
  rintro e w3 ⟨rfl, v3, xs3, h31, h32, h33, h34, h35⟩
  have HI3 : Hid (HeapS (w.heap.size + 1) H w3 v3 (.func (.func 33) #[.agg #[.int .i64 now, .int .i64 sq, .slice ao ts.length cap]] #[]) xs3 ∧ IsHeap (ltT ts) xs3 ∧ (∀ g, v3.ownBlock = some g → g < H) ∧ xs3.Perm S.tail ∧ Below (w.heap.size + 1) W2 w3) := ⟨h31, h32, fun g e => (HH.out.2.2.2 g (by rw [← h34]; exact e)).2, h33, h35.below (by omega) (by omega) (fun k e => (HH.out.2.2.2 k e).1)⟩
  clear h31 h32 h33 h34 h35
  obtain ⟨i0, hi0⟩ : ∃ i, i = hdI S := ⟨_, rfl⟩
  obtain ⟨n0, hn0⟩ : ∃ b, b = neB S := ⟨_, rfl⟩
  rw [← hi0, ← hn0]
  have HN0 : Hid (i0 = hdI S ∧ n0 = neB S) := ⟨hi0, hn0⟩
  clear hi0 hn0
  go_wp2
  go_loopw [4, 5, 7, 8] (fun d l p s wr => ∃ (don rem : List Nat) (vd vl v : Value) (ys : List Nat), vd = d ∧ vl = l ∧ p = .int .i64 (hdI rem) ∧ s = .bool (neB rem) ∧ Hid (S = don ++ rem ∧ OwnV (H + 1) wr vd (dueL ts time don) ∧ OwnV (H + 1) wr vl (latL ts time don) ∧ (∀ g, vd.ownBlock = some g → vl.ownBlock ≠ some g) ∧ HeapS (w.heap.size + 1) H wr v (.func (.func 33) #[.agg #[.int .i64 now, .int .i64 sq, .slice ao ts.length cap]] #[]) ys ∧ IsHeap (ltT ts) ys ∧ (∀ g, v.ownBlock = some g → g < H) ∧ ys.Perm rem.tail) ∧ Below (w.heap.size + 1) W2 wr) (fun d l _ _ _ => S.length - (lenV d + lenV l))
  case atStart => exact ⟨[], S, .slice none 0 0, .slice none 0 0, v3, xs3, rfl, rfl, by rw [HN0.out.1], by rw [HN0.out.2], ⟨rfl, OwnV.nil _ _, OwnV.nil _ _, fun g e => by simp [Value.ownBlock] at e, HI3.out.1, HI3.out.2.1, HI3.out.2.2.1, HI3.out.2.2.2.1⟩, HI3.out.2.2.2.2⟩
  case round =>
    obtain ⟨don, rem, vd, vl, v, ys, rfl, rfl, rfl, rfl, hI, hB⟩ := hrel
    have hsB := hB.size
    have hBw : Below w.heap.size w wr := hB2.trans (hB.mono (by omega))
    have hbx := (hB.cell (p := ⟨w.heap.size, 2, none⟩) (by simp)).trans bx2
    have hHr : H < wr.heap.size := by omega
    have hHw : w.heap.size < wr.heap.size := by omega
    cases rem with
    | nil =>
      have HE : Hid (S = don) := by have := hI.out.1; rw [Hid]; simpa using this
      simp only [hdI, neB]
      have HO : Hid (OwnV w.heap.size wr vd (dueL ts time S) ∧ OwnV w.heap.size wr vl (latL ts time S)) := by rw [HE.out]; exact ⟨hI.out.2.1.lower (by omega), hI.out.2.2.1.lower (by omega)⟩
      go_wp2
      exact bodyPost_ret (v := .tuple #[vd, vl]) (by simp [results, Try.results16, go_sem]) rfl ⟨⟨vd, vl, rfl, HO.out⟩, hBw⟩
    | cons q r =>
      simp only [hdI, neB]
      have hqS : q ∈ S := by rw [hI.out.1]; simp
      have hq := HQ.out q hqS
      have hrp : (∀ p ∈ r, p < ts.length) ∧ r.Pairwise (fun a b => ltT ts a b = true) := by
        have h1 := HS.out.1
        rw [hI.out.1] at h1
        refine ⟨fun p hp => HQ.out p (by rw [hI.out.1]; simp [hp]), ?_⟩
        exact (List.pairwise_cons.1 (List.pairwise_append.1 h1).2.1).2
      have hlen : don.length + (r.length + 1) ≤ 1040000 := by have := hSc; rw [hI.out.1] at this; simpa using this
      have hrl : r.length ≤ 1040000 := by omega
      have hdl := dueL_len ts time don
      have hll := latL_len ts time don
      obtain ⟨b, off, rfl, hb, hc⟩ := hz.pos hq
      obtain ⟨c1, c2, c3⟩ := hc q hq
      have d1 := (hBw.cell (p := ⟨b, off + q * 3, none⟩) hb).trans c1
      have d2 := (hBw.cell (p := ⟨b, off + q * 3 + 1, none⟩) hb).trans c2
      have d3 := (hBw.cell (p := ⟨b, off + q * 3 + 2, none⟩) hb).trans c3
      obtain ⟨⟨x1, x2, x3⟩, ex⟩ : ∃ x, x = t3 ts q := ⟨_, rfl⟩
      rw [← ex] at d1 d2 d3
      have HX : Hid (t3 ts q = (x1, x2, x3)) := ex.symm
      clear ex c1 c2 c3 hc
      dsimp only at d1 d2 d3
      have hqi : (q : Int) < (ts.length : Int) := by omega
      have hbr : b < wr.heap.size := by omega
      by_cases hle : (t3 ts q).2.1 ≤ time
      · have hdd := dueL_yes ts time don q hle
        have HE : Hid (dueL ts time (don ++ [q]) = dueL ts time don ++ [t3 ts q] ∧ latL ts time (don ++ [q]) = latL ts time don) := hdd
        have hle2 : x2 ≤ time := by rw [HX.out] at hle; exact hle
        clear hdd hle
        have HIT : Hid (Item (wr.heap.size + 1) (x1, x2, x3) ((wr.alloc (.cells #[.int .i64 x1, .int .i64 x2, .int .i64 x3] 49)).alloc (.cells #[.int .i64 x1, .int .i64 x2, .int .i64 x3] 49))) := ⟨by simp, by simp, by simp⟩
        have HWV : Hid (OwnV (H + 1) ((wr.alloc (.cells #[.int .i64 x1, .int .i64 x2, .int .i64 x3] 49)).alloc (.cells #[.int .i64 x1, .int .i64 x2, .int .i64 x3] 49)) vd (dueL ts time don)) := hI.out.2.1.below (below2 _ _ _)
        go_wp2_with (at_builtin; refine wpList_pushC ((wr.alloc (.cells #[.int .i64 x1, .int .i64 x2, .int .i64 x3] 49)).alloc (.cells #[.int .i64 x1, .int .i64 x2, .int .i64 x3] 49)) rfl (.tmp 30) (.tmp 32) rfl (H + 1) vd (dueL ts time don) rfl HWV.out (by simp; omega) (by omega) (wr.heap.size + 1) (x1, x2, x3) 1 rfl HIT.out ?_; intro v5 w5 hO5 hat5 hgr5; have hblk : ∀ k, k < wr.heap.size → vd.ownBlock ≠ some k → w5.heap[k]? = wr.heap[k]? := (fun k hk hk2 => (hgr5.block k (by simp; omega) (fun e => hk2 e.symm)).trans (((below2 wr _ _).block k hk))); have hsz5 : wr.heap.size ≤ w5.heap.size := (by have := hgr5.size; simp at this; omega); have hvlo := hI.out.2.1.lowB; have hvhi := hI.out.2.2.1.lowB; have hbK : Below (w.heap.size + 1) wr w5 := ⟨hgr5.os, hgr5.tape, hgr5.output, hsz5, fun k hk => hblk k (by omega) (fun e => by have := hvlo k e; omega)⟩; have hOO : OwnV (H + 1) w5 vl (latL ts time don) := hI.out.2.2.1.keepG (fun g e => hblk g (hvhi g e).2 (fun e' => hI.out.2.2.2.1 g e' e)); have hHS5 : HeapS (w.heap.size + 1) H w5 v (.func (.func 33) #[.agg #[.int .i64 now, .int .i64 sq, .slice (some ⟨b, off, none⟩) ts.length cap]] #[]) ys := hI.out.2.2.2.2.1.keep (hblk H hHr (fun e => by have := hvlo H e; omega)) (fun g e => hblk g (by have := hI.out.2.2.2.2.2.2.1 g e; omega) (fun e' => by have := hvlo g e'; have := hI.out.2.2.2.2.2.2.1 g e; omega)) hsz5; have hdis : ∀ g, v5.ownBlock = some g → vl.ownBlock ≠ some g := dis_own hat5 (fun g e => by have := hvhi g e; simp; omega) hI.out.2.2.2.1; have HI5 : Hid (OwnV (H + 1) w5 v5 (dueL ts time (don ++ [q])) ∧ OwnV (H + 1) w5 vl (latL ts time (don ++ [q])) ∧ (∀ g, v5.ownBlock = some g → vl.ownBlock ≠ some g) ∧ HeapS (w.heap.size + 1) H w5 v (.func (.func 33) #[.agg #[.int .i64 now, .int .i64 sq, .slice (some ⟨b, off, none⟩) ts.length cap]] #[]) ys ∧ Below (w.heap.size + 1) W2 w5) := ⟨by rw [HE.out.1, HX.out]; exact hO5, by rw [HE.out.2]; exact hOO, hdis, hHS5, hB.trans hbK⟩; clear hO5 hat5 hgr5 hblk hvlo hvhi hOO hHS5 hdis)
        try simp only [World.setCell] at *
        refine (pop_rem w.heap.size (w.heap.size + 1) H v ys r now sq (some ⟨b, off, none⟩) cap ts w5 hrl (by omega) (by omega) (by have := HI5.out.2.2.2.2.size; omega) HI5.out.2.2.2.1 hI.out.2.2.2.2.2.1 hI.out.2.2.2.2.2.2.2 hrp.2 hrp.1 (hz.below (hB2.trans (HI5.out.2.2.2.2.mono (by omega))))).mono ?_
        rintro e w6 ⟨rfl, v6, ys6, h61, h62, h63, h64, h65⟩
        have hvv := HI5.out.2.2.2.1.2.2.2.1.low
        have hb6 : Below (w.heap.size + 1) w5 w6 := h65.below (by omega) (by have := HI5.out.2.2.2.2.size; omega) (fun k e => (hvv k e).1)
        have hT6 : ∀ g, H + 1 ≤ g → g < w5.heap.size → w6.heap[g]? = w5.heap[g]? := fun g h1 h2 => h65.block g h2 (by omega) (fun e => by have := hI.out.2.2.2.2.2.2.1 g e; omega)
        have HI6 : Hid (S = (don ++ [q]) ++ r ∧ OwnV (H + 1) w6 v5 (dueL ts time (don ++ [q])) ∧ OwnV (H + 1) w6 vl (latL ts time (don ++ [q])) ∧ (∀ g, v5.ownBlock = some g → vl.ownBlock ≠ some g) ∧ HeapS (w.heap.size + 1) H w6 v6 (.func (.func 33) #[.agg #[.int .i64 now, .int .i64 sq, .slice (some ⟨b, off, none⟩) ts.length cap]] #[]) ys6 ∧ IsHeap (ltT ts) ys6 ∧ (∀ g, v6.ownBlock = some g → g < H) ∧ ys6.Perm r.tail ∧ Below (w.heap.size + 1) W2 w6) := ⟨by rw [hI.out.1]; simp, HI5.out.1.keepG (fun g e => by have := HI5.out.1.lowB g e; exact hT6 g this.1 this.2), HI5.out.2.1.keepG (fun g e => by have := HI5.out.2.1.lowB g e; exact hT6 g this.1 this.2), HI5.out.2.2.1, h61, h62, fun g e => hI.out.2.2.2.2.2.2.1 g (by rw [← h64]; exact e), h63, HI5.out.2.2.2.2.trans hb6⟩
        clear h61 h62 h63 h64 h65 hvv hb6 hT6
        obtain ⟨i6, hi6⟩ : ∃ i, i = hdI r := ⟨_, rfl⟩
        obtain ⟨n6, hn6⟩ : ∃ b, b = neB r := ⟨_, rfl⟩
        rw [← hi6, ← hn6]
        have HN6 : Hid (i6 = hdI r ∧ n6 = neB r) := ⟨hi6, hn6⟩
        clear hi6 hn6
        go_wp2
        go_roundw
        case rel => exact ⟨don ++ [q], r, v5, vl, v6, ys6, rfl, rfl, congrArg (Value.int .i64) HN6.out.1, congrArg Value.bool HN6.out.2, ⟨HI6.out.1, HI6.out.2.1, HI6.out.2.2.1, HI6.out.2.2.2.1, HI6.out.2.2.2.2.1, HI6.out.2.2.2.2.2.1, HI6.out.2.2.2.2.2.2.1, HI6.out.2.2.2.2.2.2.2.1⟩, HI6.out.2.2.2.2.2.2.2.2⟩
        case measure =>
          have m1 := hI.out.2.1.lenV
          have m2 := hI.out.2.2.1.lenV
          have m3 := HI6.out.2.1.lenV
          have m4 := HI6.out.2.2.1.lenV
          have m5 := due_lat ts time don
          have m6 := due_lat ts time (don ++ [q])
          have m7 : S.length = don.length + (r.length + 1) := by rw [hI.out.1]; simp
          simp only [List.length_append, List.length_cons, List.length_nil] at m6
          omega
      · have hdd := dueL_no ts time don q hle
        have HE : Hid (dueL ts time (don ++ [q]) = dueL ts time don ∧ latL ts time (don ++ [q]) = latL ts time don ++ [t3 ts q]) := hdd
        have hle2 : decide (x2 ≤ time) = false := by rw [HX.out] at hle; simpa using hle
        clear hdd hle
        have HIT : Hid (Item (wr.heap.size + 1) (x1, x2, x3) ((wr.alloc (.cells #[.int .i64 x1, .int .i64 x2, .int .i64 x3] 49)).alloc (.cells #[.int .i64 x1, .int .i64 x2, .int .i64 x3] 49))) := ⟨by simp, by simp, by simp⟩
        have HWV : Hid (OwnV (H + 1) ((wr.alloc (.cells #[.int .i64 x1, .int .i64 x2, .int .i64 x3] 49)).alloc (.cells #[.int .i64 x1, .int .i64 x2, .int .i64 x3] 49)) vl (latL ts time don)) := hI.out.2.2.1.below (below2 _ _ _)
        go_wp2_with (at_builtin; refine wpList_pushC ((wr.alloc (.cells #[.int .i64 x1, .int .i64 x2, .int .i64 x3] 49)).alloc (.cells #[.int .i64 x1, .int .i64 x2, .int .i64 x3] 49)) rfl (.tmp 34) (.tmp 36) rfl (H + 1) vl (latL ts time don) rfl HWV.out (by simp; omega) (by omega) (wr.heap.size + 1) (x1, x2, x3) 1 rfl HIT.out ?_; intro v5 w5 hO5 hat5 hgr5; have hblk : ∀ k, k < wr.heap.size → vl.ownBlock ≠ some k → w5.heap[k]? = wr.heap[k]? := (fun k hk hk2 => (hgr5.block k (by simp; omega) (fun e => hk2 e.symm)).trans (((below2 wr _ _).block k hk))); have hsz5 : wr.heap.size ≤ w5.heap.size := (by have := hgr5.size; simp at this; omega); have hvlo := hI.out.2.2.1.lowB; have hvhi := hI.out.2.1.lowB; have hbK : Below (w.heap.size + 1) wr w5 := ⟨hgr5.os, hgr5.tape, hgr5.output, hsz5, fun k hk => hblk k (by omega) (fun e => by have := hvlo k e; omega)⟩; have hOO : OwnV (H + 1) w5 vd (dueL ts time don) := hI.out.2.1.keepG (fun g e => hblk g (hvhi g e).2 (fun e' => hI.out.2.2.2.1 g e e')); have hHS5 : HeapS (w.heap.size + 1) H w5 v (.func (.func 33) #[.agg #[.int .i64 now, .int .i64 sq, .slice (some ⟨b, off, none⟩) ts.length cap]] #[]) ys := hI.out.2.2.2.2.1.keep (hblk H hHr (fun e => by have := hvlo H e; omega)) (fun g e => hblk g (by have := hI.out.2.2.2.2.2.2.1 g e; omega) (fun e' => by have := hvlo g e'; have := hI.out.2.2.2.2.2.2.1 g e; omega)) hsz5; have hdis : ∀ g, vd.ownBlock = some g → v5.ownBlock ≠ some g := (fun g e e' => dis_own hat5 (fun g e => by have := hvhi g e; simp; omega) (fun g e e' => hI.out.2.2.2.1 g e' e) g e' e); have HI5 : Hid (OwnV (H + 1) w5 v5 (latL ts time (don ++ [q])) ∧ OwnV (H + 1) w5 vd (dueL ts time (don ++ [q])) ∧ (∀ g, vd.ownBlock = some g → v5.ownBlock ≠ some g) ∧ HeapS (w.heap.size + 1) H w5 v (.func (.func 33) #[.agg #[.int .i64 now, .int .i64 sq, .slice (some ⟨b, off, none⟩) ts.length cap]] #[]) ys ∧ Below (w.heap.size + 1) W2 w5) := ⟨by rw [HE.out.2, HX.out]; exact hO5, by rw [HE.out.1]; exact hOO, hdis, hHS5, hB.trans hbK⟩; clear hO5 hat5 hgr5 hblk hvlo hvhi hOO hHS5 hdis)
        try simp only [World.setCell] at *
        refine (pop_rem w.heap.size (w.heap.size + 1) H v ys r now sq (some ⟨b, off, none⟩) cap ts w5 hrl (by omega) (by omega) (by have := HI5.out.2.2.2.2.size; omega) HI5.out.2.2.2.1 hI.out.2.2.2.2.2.1 hI.out.2.2.2.2.2.2.2 hrp.2 hrp.1 (hz.below (hB2.trans (HI5.out.2.2.2.2.mono (by omega))))).mono ?_
        rintro e w6 ⟨rfl, v6, ys6, h61, h62, h63, h64, h65⟩
        have hvv := HI5.out.2.2.2.1.2.2.2.1.low
        have hb6 : Below (w.heap.size + 1) w5 w6 := h65.below (by omega) (by have := HI5.out.2.2.2.2.size; omega) (fun k e => (hvv k e).1)
        have hT6 : ∀ g, H + 1 ≤ g → g < w5.heap.size → w6.heap[g]? = w5.heap[g]? := fun g h1 h2 => h65.block g h2 (by omega) (fun e => by have := hI.out.2.2.2.2.2.2.1 g e; omega)
        have HI6 : Hid (S = (don ++ [q]) ++ r ∧ OwnV (H + 1) w6 vd (dueL ts time (don ++ [q])) ∧ OwnV (H + 1) w6 v5 (latL ts time (don ++ [q])) ∧ (∀ g, vd.ownBlock = some g → v5.ownBlock ≠ some g) ∧ HeapS (w.heap.size + 1) H w6 v6 (.func (.func 33) #[.agg #[.int .i64 now, .int .i64 sq, .slice (some ⟨b, off, none⟩) ts.length cap]] #[]) ys6 ∧ IsHeap (ltT ts) ys6 ∧ (∀ g, v6.ownBlock = some g → g < H) ∧ ys6.Perm r.tail ∧ Below (w.heap.size + 1) W2 w6) := ⟨by rw [hI.out.1]; simp, HI5.out.2.1.keepG (fun g e => by have := HI5.out.2.1.lowB g e; exact hT6 g this.1 this.2), HI5.out.1.keepG (fun g e => by have := HI5.out.1.lowB g e; exact hT6 g this.1 this.2), HI5.out.2.2.1, h61, h62, fun g e => hI.out.2.2.2.2.2.2.1 g (by rw [← h64]; exact e), h63, HI5.out.2.2.2.2.trans hb6⟩
        clear h61 h62 h63 h64 h65 hvv hb6 hT6
        obtain ⟨i6, hi6⟩ : ∃ i, i = hdI r := ⟨_, rfl⟩
        obtain ⟨n6, hn6⟩ : ∃ b, b = neB r := ⟨_, rfl⟩
        rw [← hi6, ← hn6]
        have HN6 : Hid (i6 = hdI r ∧ n6 = neB r) := ⟨hi6, hn6⟩
        clear hi6 hn6
        go_wp2
        go_roundw
        case rel => exact ⟨don ++ [q], r, vd, v5, v6, ys6, rfl, rfl, congrArg (Value.int .i64) HN6.out.1, congrArg Value.bool HN6.out.2, ⟨HI6.out.1, HI6.out.2.1, HI6.out.2.2.1, HI6.out.2.2.2.1, HI6.out.2.2.2.2.1, HI6.out.2.2.2.2.2.1, HI6.out.2.2.2.2.2.2.1, HI6.out.2.2.2.2.2.2.2.1⟩, HI6.out.2.2.2.2.2.2.2.2⟩
        case measure =>
          have m1 := hI.out.2.1.lenV
          have m2 := hI.out.2.2.1.lenV
          have m3 := HI6.out.2.1.lenV
          have m4 := HI6.out.2.2.1.lenV
          have m5 := due_lat ts time don
          have m6 := due_lat ts time (don ++ [q])
          have m7 : S.length = don.length + (r.length + 1) := by rw [hI.out.1]; simp
          simp only [List.length_append, List.length_cons, List.length_nil] at m6
          omega
end Go.Proofs.Ytpbgkkemaioidaa.Old
