/- The draws' cursor: a number, yes or no. No conditions but those written. The draws' cursor: a waiter. No conditions but those written. A row of its own that lies between two blocks; draws among numbers. No conditions but those written. WaitFor: the specification, its row its own. No conditions but those written. Putting behind a row: where the row lies then. No conditions but those written. -/
import Derived.Test.YtdgnolpimmdgjaaPGfXa
import Derived.Test.YtdgnolpimmdgjaaPWaMc
namespace Go.Proofs.Ytdgnolpimmdgjaa
section
open Go.RowKit

/-- What a draw leaves: the cursor further on, and nothing else turned. -/
def Drawn (w : World) (p : Nat) (co : Option Addr) (cap : Nat) (bs : List Int) (k d : Nat) (w' : World) : Prop := ∃ k' sd', k' ≤ k + d ∧ Cur w' p co cap bs k' sd' ∧ OnlyAt (some ⟨p, 0, none⟩) w w'
set_option maxRecDepth 10000 in
set_option maxHeartbeats 2000000 in
theorem pick_any (n : Int) (p : Nat) (co : Option Addr) (cap : Nat) (bs : List Int) (k : Nat) (sd : Int) (w : World) (hl : bs.length ≤ 9223372036854775807) (ha : k ≤ 1099511627770) (hC : Cur w p co cap bs k sd) :
    Calls Try.prog 20 #[.pointer (some ⟨p, 0, none⟩), .int .i64 n] w fun e w' => (∃ x, e = .returned (.int .i64 x) ∧ 0 ≤ x ∧ (x < n ∨ x = 0)) ∧ Drawn w p co cap bs k 2 w' := by
  by_cases h1 : n ≤ 1
  · have h1' : decide (n ≤ 1) = true := by simpa using h1
    go_enter Try.func20, Try.ntmps20
    go_wp2
    go_ret
    exact ⟨⟨0, rfl, by omega, .inr rfl⟩, k, sd, by omega, hC, OnlyAt.refl _ _⟩
  have h1' : decide (n ≤ 1) = false := by simpa using h1
  by_cases h2 : 200 < n
  · have h2' : decide (200 < n) = true := by simpa using h2
    go_enter Try.func20, Try.ntmps20
    go_wp2_with fail
    refine (next_any p co cap bs k sd w hl (by omega) hC).mono ?_
    rintro e w1 ⟨x, sd1, rfl, ⟨x0, x1⟩, C1, O1⟩
    go_wp2_with fail
    refine (next_any p co cap bs (k + 1) sd1 w1 hl (by omega) C1).mono ?_
    rintro e w2 ⟨y, sd2, rfl, ⟨y0, y1⟩, C2, O2⟩
    have hn0 : (n == 0) = false := by simp; omega
    go_wp2
    go_ret
    exact ⟨⟨(x * 256 + y) % n, rfl, Int.emod_nonneg _ (by omega), .inl (Int.emod_lt_of_pos _ (by omega))⟩, k + 1 + 1, sd2, by omega, C2, O1.trans O2⟩
  · have h2' : decide (200 < n) = false := by simpa using h2
    go_enter Try.func20, Try.ntmps20
    go_wp2_with fail
    refine (next_any p co cap bs k sd w hl (by omega) hC).mono ?_
    rintro e w1 ⟨x, sd1, rfl, ⟨x0, x1⟩, C1, O1⟩
    have hn0 : (n == 0) = false := by simp; omega
    go_wp2
    go_ret
    exact ⟨⟨x % n, rfl, Int.emod_nonneg _ (by omega), .inl (Int.emod_lt_of_pos _ (by omega))⟩, k + 1, sd1, by omega, C1, O1⟩
set_option maxHeartbeats 2000000 in
theorem one_any (n : Int) (p : Nat) (co : Option Addr) (cap : Nat) (bs : List Int) (k : Nat) (sd : Int) (w : World) (hl : bs.length ≤ 9223372036854775807) (ha : k ≤ 1099511627770) (hC : Cur w p co cap bs k sd) :
    Calls Try.prog 19 #[.pointer (some ⟨p, 0, none⟩), .int .i64 n] w fun e w' => (∃ x, e = .returned (.bool x)) ∧ Drawn w p co cap bs k 2 w' := by
  go_enter Try.func19, Try.ntmps19
  go_wp2_with fail
  refine (pick_any n p co cap bs k sd w hl ha hC).mono ?_
  rintro e w1 ⟨⟨x, rfl, x0, x1⟩, hD⟩
  go_wp2
  go_ret
  exact ⟨⟨_, rfl⟩, hD⟩
/-- The elements of a list of ints in memory. -/
def NumsIn (n : Nat) (W : World) (b off : Nat) (zs : List Int) : Prop := b < n ∧ ∀ j, j < zs.length → W.cell? ⟨b, off + j, none⟩ = some (.int .i64 (zs[j]?.getD 0))
set_option maxHeartbeats 2000000 in
theorem among_any (b off : Nat) (zs : List Int) (lc : Nat) (p : Nat) (co : Option Addr) (cap : Nat) (bs : List Int) (k : Nat) (sd : Int) (w : World) (hl : bs.length ≤ 9223372036854775807) (ha : k ≤ 1099511627770) (hC : Cur w p co cap bs k sd) (h0 : 0 < zs.length) (h9 : zs.length ≤ 1048576) (hz : ∀ j, j < zs.length → w.cell? ⟨b, off + j, none⟩ = some (.int .i64 (zs[j]?.getD 0))) (hb : b ≠ p) :
    Calls Try.prog 21 #[.pointer (some ⟨p, 0, none⟩), .slice (some ⟨b, off, none⟩) zs.length lc] w fun e w' => (∃ j, j < zs.length ∧ e = .returned (.int .i64 (zs[j]?.getD 0))) ∧ Drawn w p co cap bs k 2 w' := by
  go_enter Try.func21, Try.ntmps21
  go_wp2_with fail
  refine (pick_any (zs.length : Int) p co cap bs k sd w hl ha hC).mono ?_
  rintro e w1 ⟨⟨x, rfl, x0, x1⟩, hD⟩
  obtain ⟨j, rfl⟩ : ∃ j : Nat, x = j := ⟨x.toNat, by omega⟩
  have hj : j < zs.length := by omega
  have hd : w1.cell? ⟨b, off + j, none⟩ = some (.int .i64 (zs[j]?.getD 0)) := by
    obtain ⟨_, _, _, _, O⟩ := hD
    exact (World.cell?_of_block (a := ⟨b, off + j, none⟩) (O.block b fun g e => by cases e; exact hb)).trans (hz j hj)
  obtain ⟨v, hv⟩ : ∃ v, zs[j]?.getD 0 = v := ⟨_, rfl⟩
  rw [hv] at hd
  go_wp2
  go_ret
  exact ⟨⟨j, hj, by rw [hv]; rfl⟩, hD⟩
end
section
open Go.RowKit

/-- Nothing that was there has turned but for the block p. -/
structure Grew (p : Nat) (w w' : World) : Prop where
  os : w'.os = w.os
  tape : w'.tape = w.tape
  output : w'.output = w.output
  size : w.heap.size ≤ w'.heap.size
  block : ∀ j, j < w.heap.size → j ≠ p → w'.heap[j]? = w.heap[j]?
theorem Grew.refl (p : Nat) (w : World) : Grew p w w := ⟨rfl, rfl, rfl, Nat.le_refl _, fun _ _ _ => rfl⟩
theorem Grew.trans {p : Nat} {a b c : World} (h : Grew p a b) (k : Grew p b c) : Grew p a c := ⟨k.os.trans h.os, k.tape.trans h.tape, k.output.trans h.output, Nat.le_trans h.size k.size, fun j hj hp => (k.block j (Nat.lt_of_lt_of_le hj h.size) hp).trans (h.block j hj hp)⟩
theorem Grew.of_only {p : Nat} {w w' : World} (h : OnlyAt (some ⟨p, 0, none⟩) w w') : Grew p w w' := ⟨h.os, h.tape, h.output, by rw [h.size]; exact Nat.le_refl _, fun j _ hp => h.block j fun g e => by cases e; exact hp⟩
theorem Grew.of_below {p : Nat} {w w' : World} (h : Below w.heap.size w w') : Grew p w w' := ⟨h.os, h.tape, h.output, h.size, fun j hj _ => h.block j hj⟩
theorem Grew.alloc (p : Nat) (w : World) (o : Obj) : Grew p w (w.alloc o) := .of_below (below1 w o)
theorem Grew.set {p : Nat} {w w' : World} (h : Grew p w w') {a : Addr} (ha : w.heap.size ≤ a.block) (u : Value) : Grew p w (w'.setCell a u) := ⟨h.os, h.tape, h.output, by simpa [World.setCell] using h.size, fun j hj hp => (Below.heap_setCell w' a u j (by omega)).trans (h.block j hj hp)⟩
theorem Cur.keep {W W' : World} {p : Nat} {co : Option Addr} {cap : Nat} {bs : List Int} {k : Nat} {sd : Int} (h : Cur W p co cap bs k sd) (hs : W.heap.size ≤ W'.heap.size) (hb : ∀ j, j ≤ p → W'.heap[j]? = W.heap[j]?) : Cur W' p co cap bs k sd := by
  obtain ⟨hp, ⟨c0, c1, c2⟩, ⟨f0, f1, f2⟩, hB⟩ := h
  have hc : ∀ i, W'.cell? ⟨p, i, none⟩ = W.cell? ⟨p, i, none⟩ := fun i => World.cell?_of_block (a := ⟨p, i, none⟩) (hb p (Nat.le_refl _))
  have hf : ∀ i, W'.frozen? ⟨p, i, none⟩ = W.frozen? ⟨p, i, none⟩ := fun i => World.frozen?_of_block (a := ⟨p, i, none⟩) (hb p (Nat.le_refl _))
  refine ⟨Nat.lt_of_lt_of_le hp hs, ⟨(hc 0).trans c0, (hc 1).trans c1, (hc 2).trans c2⟩, ⟨(hf 0).trans f0, (hf 1).trans f1, (hf 2).trans f2⟩, ?_⟩
  rcases hB with hB | ⟨b, off, e, hbp, hc⟩
  · exact .inl hB
  · exact .inr ⟨b, off, e, hbp, fun j hj => ⟨(World.cell?_of_block (a := ⟨b, off + j, none⟩) (hb b (by omega))).trans (hc j hj).1, (hc j hj).2⟩⟩
theorem Cur.later {W W' : World} {p : Nat} {co : Option Addr} {cap : Nat} {bs : List Int} {k : Nat} {sd : Int} (h : Cur W p co cap bs k sd) (hb : Below W.heap.size W W') : Cur W' p co cap bs k sd := h.keep hb.size fun j hj => hb.block j (by have := h.1; omega)
theorem Cur.other {W : World} {p : Nat} {co : Option Addr} {cap : Nat} {bs : List Int} {k : Nat} {sd : Int} (h : Cur W p co cap bs k sd) {a : Addr} (ha : p < a.block) (u : Value) : Cur (W.setCell a u) p co cap bs k sd := h.keep (by simp [World.setCell]) fun j hj => Below.heap_setCell W a u j (by omega)
/-- What a draw leaves that makes memory. -/
def DrawnG (w : World) (p : Nat) (co : Option Addr) (cap : Nat) (bs : List Int) (k d : Nat) (w' : World) : Prop := ∃ k' sd', k' ≤ k + d ∧ Cur w' p co cap bs k' sd' ∧ Grew p w w'
theorem Bx.grew {W W' : World} {q p : Nat} {us : List Value} (h : Bx W q us) (hg : Grew p W W') (hne : q ≠ p) : Bx W' q us := h.keep hg.size (hg.block q h.1 hne)
theorem Kind.Own.grew {α : Type} {K : Kind α} {lo p : Nat} {W W' : World} {v : Value} {xs : List α} (h : K.Own lo W v xs) (hg : Grew p W W') (hp : p < lo) : K.Own lo W' v xs := h.keep fun k hk hs => hg.block k hs (by omega)
theorem Grew.below {p B : Nat} {w w' : World} (h : Grew p w w') (hp : B ≤ p) (hB : B ≤ w.heap.size) : Below B w w' := ⟨h.os, h.tape, h.output, h.size, fun k hk => h.block k (by omega) (by omega)⟩
theorem Grew.drew {p : Nat} {w w' : World} (h : Grew p w w') : Grew p w w'.drew := ⟨h.os, h.tape, h.output, h.size, h.block⟩
theorem Grew.from {p : Nat} {w w' : World} (h : Grew p w.drew w') : Grew p w w' := ⟨h.os, h.tape, h.output, h.size, h.block⟩
theorem Cur.drew {W : World} {p : Nat} {co : Option Addr} {cap : Nat} {bs : List Int} {k : Nat} {sd : Int} (h : Cur W p co cap bs k sd) : Cur W.drew p co cap bs k sd := h
theorem Drawn.grew {w w' : World} {p : Nat} {co : Option Addr} {cap : Nat} {bs : List Int} {k d : Nat} (h : Drawn w p co cap bs k d w') : ∃ k' sd', k' ≤ k + d ∧ Cur w' p co cap bs k' sd' ∧ Grew p w w' ∧ w'.heap.size = w.heap.size := by
  obtain ⟨k', sd', h1, h2, h3⟩ := h
  exact ⟨k', sd', h1, h2, .of_only h3, h3.size⟩
end
section
open Go.RowKit

theorem own_keep2 {α : Type} {K : Kind α} {lo hi : Nat} {W W' : World} {ao : Option Addr} {n c : Nat} {xs : List α} (h : K.Own lo W (.slice ao n c) xs) (hh : ∀ g o, ao = some ⟨g, o, none⟩ → g < hi) (hk : ∀ k, lo ≤ k → k < hi → k < W.heap.size → W'.heap[k]? = W.heap[k]?) : K.Own lo W' (.slice ao n c) xs := by
  obtain ⟨h1, h2⟩ := h
  refine ⟨h1, ?_⟩
  rcases h2 with h2 | ⟨g, cap, cur, hv, hg, hb, r⟩
  · exact .inl h2
  · have e : ao = some ⟨g, 0, none⟩ := by simp at hv; exact hv.1
    exact .inr ⟨g, cap, cur, hv, hg, by rw [hk g hg (hh g 0 e) (Array.getElem?_eq_some_iff.1 hb).1]; exact hb, r⟩
theorem own_hi {α : Type} {K : Kind α} {lo : Nat} {W : World} {ao : Option Addr} {n c : Nat} {xs : List α} (h : K.Own lo W (.slice ao n c) xs) : ∀ g o, ao = some ⟨g, o, none⟩ → g < W.heap.size := by
  intro g o e
  rcases h.2 with ⟨h', _⟩ | ⟨g', cap, cur, hv, _, hb, _⟩
  · rw [e] at h'; simp at h'
  · rw [e] at hv; simp at hv; obtain ⟨⟨rfl, _⟩, _⟩ := hv
    exact (Array.getElem?_eq_some_iff.1 hb).1
section
variable {α : Type} {K : Kind α}
/-- A row of its own in blocks from lo to hi. -/
def Kind.RW (K : Kind α) (lo hi : Nat) (W : World) (ao : Option Addr) (c : Nat) (xs : List α) : Prop := K.Own lo W (.slice ao xs.length c) xs ∧ ∀ g o, ao = some ⟨g, o, none⟩ → g < hi
variable {lo hi : Nat} {W W' : World} {ao : Option Addr} {c : Nat} {xs : List α}
theorem Kind.RW.keep (h : K.RW lo hi W ao c xs) (hk : ∀ k, lo ≤ k → k < hi → k < W.heap.size → W'.heap[k]? = W.heap[k]?) : K.RW lo hi W' ao c xs := ⟨own_keep2 h.1 h.2 hk, h.2⟩
theorem Kind.RW.later (h : K.RW lo hi W ao c xs) (hb : Below W.heap.size W W') : K.RW lo hi W' ao c xs := h.keep fun k _ _ hk => hb.block k hk
theorem Kind.RW.grew {p : Nat} (h : K.RW lo hi W ao c xs) (hg : Grew p W W') (hp : p < lo) : K.RW lo hi W' ao c xs := h.keep fun k h1 _ hk => hg.block k hk (by omega)
theorem Kind.RW.setOff (h : K.RW lo hi W ao c xs) {a : Addr} (ha : a.block < lo ∨ hi ≤ a.block) (u : Value) : K.RW lo hi (W.setCell a u) ao c xs := h.keep fun k h1 h2 _ => Below.heap_setCell W a u k (by omega)
theorem Kind.RW.wide {lo' hi' : Nat} (h : K.RW lo hi W ao c xs) (h1 : lo' ≤ lo) (h2 : hi ≤ hi') : K.RW lo' hi' W ao c xs := ⟨own_less h.1 h1, fun g o e => Nat.lt_of_lt_of_le (h.2 g o e) h2⟩
theorem Kind.RW.of (h : K.Own lo W (.slice ao xs.length c) xs) : K.RW lo W.heap.size W ao c xs := ⟨h, own_hi h⟩
theorem Kind.RW.nil : K.RW lo hi W none 0 [] := ⟨Kind.Own.nil _ _ _, fun g o e => by cases e⟩
theorem Kind.RW.in [Inhabited α] (h : K.RW lo hi W ao c xs) : K.In W.heap.size W ao xs := by
  obtain ⟨go, qc, e, _, hz⟩ := h.1.in
  simp at e; obtain ⟨rfl, rfl⟩ := e; exact hz
theorem Kind.RW.no [Inhabited α] (h : K.RW lo hi W ao c xs) : ao = none → c = 0 := by
  obtain ⟨go, qc, e, hn, _⟩ := h.1.in
  simp at e; obtain ⟨rfl, rfl⟩ := e; exact hn
theorem Kind.RW.cap (h : K.RW lo hi W ao c xs) : xs.length ≤ c := by
  obtain ⟨go, qc, e, _, hF⟩ := h.1.fresh
  simp at e; obtain ⟨rfl, rfl⟩ := e; exact hF.cap
theorem Kind.Own.as {lo : Nat} {v : Value} (h : K.Own lo W v xs) : ∃ ao c, v = .slice ao xs.length c ∧ K.Own lo W (.slice ao xs.length c) xs := by
  obtain ⟨ao, c, rfl, _, _⟩ := h.fresh
  exact ⟨ao, c, rfl, h⟩
end
theorem Cur.below {W W' : World} {p : Nat} {co : Option Addr} {cap : Nat} {bs : List Int} {k : Nat} {sd : Int} (h : Cur W p co cap bs k sd) {n : Nat} (hb : Below n W W') (hp : p < n) : Cur W' p co cap bs k sd := h.keep hb.size fun j hj => hb.block j (by omega)
theorem Grew.of_below2 {p n : Nat} {w W W' : World} (h : Grew p w W) (hb : Below n W W') (hn : w.heap.size ≤ n) : Grew p w W' := ⟨hb.os.trans h.os, hb.tape.trans h.tape, hb.output.trans h.output, Nat.le_trans h.size hb.size, fun j hj hp => (hb.block j (by omega)).trans (h.block j hj hp)⟩
theorem bx_nums {W : World} {q : Nat} {zs : List Int} (h : Bx W q (zs.map fun z => .int .i64 z)) : ∀ j, j < zs.length → W.cell? ⟨q, 0 + j, none⟩ = some (.int .i64 (zs[j]?.getD 0)) := by
  intro j hj
  rw [Nat.zero_add]
  exact h.c j (by simp [hj])
theorem among_in (zs : List Int) (q p : Nat) (co : Option Addr) (cap : Nat) (bs : List Int) (k : Nat) (sd : Int) (w : World) (hl : bs.length ≤ 9223372036854775807) (ha : k ≤ 1099511627770) (hC : Cur w p co cap bs k sd) (h0 : 0 < zs.length) (h9 : zs.length ≤ 1048576) (hz : Bx w q (zs.map fun z => .int .i64 z)) (hb : q ≠ p) :
    Calls Try.prog 21 #[.pointer (some ⟨p, 0, none⟩), .slice (some ⟨q, 0, none⟩) zs.length zs.length] w fun e w' => (∃ z, z ∈ zs ∧ e = .returned (.int .i64 z)) ∧ Drawn w p co cap bs k 2 w' :=
  (among_any q 0 zs zs.length p co cap bs k sd w hl ha hC h0 h9 (bx_nums hz) hb).mono fun _ _ ⟨⟨j, hj, e⟩, h⟩ => ⟨⟨_, by simp [hj], e⟩, h⟩
end
section
open Go.RowKit

set_option maxHeartbeats 4000000 in
theorem specWait_own (s1 : Int) (ao : Option Addr) (cap : Nat) (q : List Int) (iv : Int) (w : World) (hl : q.length ≤ 1048576) (hc : q.length ≤ cap) (hno : ao = none → cap = 0) (hz : kI.In w.heap.size w ao q) :
    Calls Try.prog 47 #[.agg #[.int .i64 s1, .slice ao q.length cap], .int .i64 iv] w fun e w' => AnsGo w (waitR s1 q iv) e w' := by
  obtain ⟨W2, hW2⟩ : ∃ W2, W2 = (w.alloc (.cells #[.int .i64 s1, .slice ao q.length cap] 25)).alloc (.cells #[.int .i64 0, .slice none 0 0] 25) := ⟨_, rfl⟩
  have hB2 : Below w.heap.size w W2 := by rw [hW2]; exact below2 _ _ _
  have A2 : Bx W2 w.heap.size [.int .i64 s1, .slice ao q.length cap] := by rw [hW2]; exact (Bx.new [.int .i64 s1, .slice ao q.length cap] _ rfl).alloc _
  have R2 : Bx W2 (w.heap.size + 1) [.int .i64 0, .slice none 0 0] := by rw [hW2]; exact Bx.new [.int .i64 0, .slice none 0 0] _ (by simp)
  have HW : Hid (W2 = (w.alloc (.cells #[.int .i64 s1, .slice ao q.length cap] 25)).alloc (.cells #[.int .i64 0, .slice none 0 0] 25)) := hW2
  have HS : Hid (W2.heap.size = w.heap.size + 1 + 1) := by rw [hW2]; simp [Hid]
  clear hW2
  cases hg : groupB s1 q
  · have HG : Hid (groupB s1 q = false) := hg
    have HR : Hid (waitR s1 q iv = (0, [], 2)) := waitR_bad hg
    clear hg
    go_enter Try.func47, Try.ntmps47
    go_wp2_with fail
    rw [← HW.out]
    refine (specGood_is s1 ao cap q W2 false hl hc (hz.later hB2) HG.out).mono ?_
    rintro e w1 ⟨rfl, hb1⟩
    have hB1 := hB2.trans (hb1.mono hB2.size)
    have A1 := A2.later hb1
    have R1 := R2.later hb1
    have hs1 : w.heap.size + 1 + 1 ≤ w1.heap.size := by have := hb1.size; rw [HS.out] at this; exact this
    clear hb1 A2 R2
    have r0 := R1.c 0 rfl
    have rf0 := R1.f 0 rfl
    have r1 := R1.c 1 rfl
    have rf1 := R1.f 1 rfl
    go_wp2
    refine bodyPost_ret (v := .tuple #[.agg #[.int .i64 0, .slice none 0 0], .int .i64 2]) (by simp [results, Try.results47, go_sem, r0, r1]) rfl ?_
    rw [HR.out]
    exact ⟨⟨none, 0, rfl, Kind.FrO.nil⟩, ((hB1.setCell (p := ⟨w.heap.size + 1, 0, none⟩) (by simp) _).setCell (p := ⟨w.heap.size + 1, 1, none⟩) (by simp) _)⟩
  have HG : Hid (groupB s1 q = true) := hg
  obtain ⟨g1, g2, g3, g4⟩ := groupB_good hg
  have hq30 := lineB_len g3
  clear g3 g4
  cases hi : taskB iv
  · have HI : Hid (taskB iv = false) := hi
    have HR : Hid (waitR s1 q iv = (0, [], 2)) := waitR_task hi
    clear hg hi
    go_enter Try.func47, Try.ntmps47
    go_wp2_with fail
    rw [← HW.out]
    refine (specGood_is s1 ao cap q W2 true hl hc (hz.later hB2) HG.out).mono ?_
    rintro e w1 ⟨rfl, hb1⟩
    have hB1 := hB2.trans (hb1.mono hB2.size)
    have A1 := A2.later hb1
    have R1 := R2.later hb1
    have hs1 : w.heap.size + 1 + 1 ≤ w1.heap.size := by have := hb1.size; rw [HS.out] at this; exact this
    clear hb1 A2 R2
    go_wp2_with fail
    refine (l3Task_is iv _ false HI.out).mono ?_
    rintro e w1 ⟨rfl, rfl⟩
    have r0 := R1.c 0 rfl
    have rf0 := R1.f 0 rfl
    have r1 := R1.c 1 rfl
    have rf1 := R1.f 1 rfl
    go_wp2
    refine bodyPost_ret (v := .tuple #[.agg #[.int .i64 0, .slice none 0 0], .int .i64 2]) (by simp [results, Try.results47, go_sem, r0, r1]) rfl ?_
    rw [HR.out]
    exact ⟨⟨none, 0, rfl, Kind.FrO.nil⟩, ((hB1.setCell (p := ⟨w.heap.size + 1, 0, none⟩) (by simp) _).setCell (p := ⟨w.heap.size + 1, 1, none⟩) (by simp) _)⟩
  have HI : Hid (taskB iv = true) := hi
  cases hm : hasB q iv
  case true =>
    have HM : Hid (hasB q iv = true) := hm
    have HR : Hid (waitR s1 q iv = (s1, q, 4)) := waitR_busy hg hi hm
    clear hg hi hm
    go_enter Try.func47, Try.ntmps47
    go_wp2_with fail
    rw [← HW.out]
    refine (specGood_is s1 ao cap q W2 true hl hc (hz.later hB2) HG.out).mono ?_
    rintro e w1 ⟨rfl, hb1⟩
    have hB1 := hB2.trans (hb1.mono hB2.size)
    have A1 := A2.later hb1
    have R1 := R2.later hb1
    have hs1 : w.heap.size + 1 + 1 ≤ w1.heap.size := by have := hb1.size; rw [HS.out] at this; exact this
    clear hb1 A2 R2
    go_wp2_with fail
    refine (l3Task_is iv _ true HI.out).mono ?_
    rintro e w1 ⟨rfl, rfl⟩
    have HE : Hid (kI.Own (w.heap.size + 1 + 1) (w1.alloc (.cells #[] 3)) (.slice (some ⟨w1.heap.size, 0, none⟩) 0 0) []) := Kind.Own.new kI _ w1 hs1
    have HZ : Hid (kI.In w1.heap.size (w1.alloc (.cells #[] 3)) ao q) := (hz.later hB1).below (below1 _ _)
    have hA1 : w.heap.size < w1.heap.size := A1.size
    have a0 := A1.c 0 rfl
    have af0 := A1.f 0 rfl
    have a1 := A1.c 1 rfl
    have af1 := A1.f 1 rfl
    go_wp2_with (at_builtin; refine Kind.app kI_ok (w1.alloc (.cells #[] 3)) rfl (.tmp 15) (.tmp 17) rfl (w.heap.size + 1 + 1) (.slice (some ⟨w1.heap.size, 0, none⟩) 0 0) [] rfl HE.out (by simp; omega) ao q q.length cap rfl rfl hno _ HZ.out (by simp; omega) ?_; intro v3 w3 hO3 hB3 hG3 hn3; obtain ⟨g, c, rfl, hF3⟩ := hO3.someO (hn3 some_ne); rw [List.nil_append] at hF3 hO3; have HOw := hid hO3; have A3 := (A1.alloc (.cells #[] 3)).below hB3 (by omega); have R3 := (R1.alloc (.cells #[] 3)).below hB3 (by omega); have hB4 : Below w.heap.size w w3 := hB1.trans (((below1 w1 (.cells #[] 3)).mono hB1.size).trans (hB3.mono (by omega))); have hs3 : w.heap.size + 1 + 1 ≤ w3.heap.size := (by have := hB3.size; simp at this; omega); have HF : Hid (kI.FrO (w.heap.size + 1 + 1) w3.heap.size w3 (some ⟨g, 0, none⟩) c q) := hF3; clear hO3 hB3 hG3 hn3 hF3 HE HZ a0 a1 af0 af1 A1 R1; have a0 := A3.c 0 rfl; have a1 := A3.c 1 rfl; have af0 := A3.f 0 rfl; have af1 := A3.f 1 rfl; have r0 := R3.c 0 rfl; have r1 := R3.c 1 rfl; have rf0 := R3.f 0 rfl; have rf1 := R3.f 1 rfl)
    have HZ4 : Hid (kI.In w3.heap.size (w3.setCell ⟨w.heap.size, 1, none⟩ (.slice (some ⟨g, 0, none⟩) q.length c)) (some ⟨g, 0, none⟩) q) := (HF.out.setBelow (a := ⟨w.heap.size, 1, none⟩) (by simp; omega) _).in.up (by simp)
    refine (l1Has_is _ (some ⟨g, 0, none⟩) c q iv _ true hl HZ4.out HM.out).mono ?_
    rintro e w4 ⟨rfl, rfl⟩
    go_wp2
    refine bodyPost_ret (v := .tuple #[.agg #[.int .i64 s1, .slice (some ⟨g, 0, none⟩) q.length c], .int .i64 4]) (by simp [results, Try.results47, go_sem, r0, r1]) rfl ?_
    rw [HR.out]
    exact ⟨⟨_, c, rfl, (((HF.out.setBelow (a := ⟨w.heap.size, 1, none⟩) (by simp; omega) _).setBelow (a := ⟨w.heap.size + 1, 0, none⟩) (by simp) _).setBelow (a := ⟨w.heap.size + 1, 1, none⟩) (by simp) _).wide (by omega) (by simp)⟩, (((hB4.setCell (p := ⟨w.heap.size, 1, none⟩) (by simp) _).setCell (p := ⟨w.heap.size + 1, 0, none⟩) (by simp) _).setCell (p := ⟨w.heap.size + 1, 1, none⟩) (by simp) _)⟩
  have HM : Hid (hasB q iv = false) := hm
  by_cases h0 : s1 = 0
  · have h0' : (s1 == 0) = true := by simpa using h0
    have HR : Hid (waitR s1 q iv = (s1, q, 0)) := waitR_done hg hi hm h0
    clear hg hi hm h0
    go_enter Try.func47, Try.ntmps47
    go_wp2_with fail
    rw [← HW.out]
    refine (specGood_is s1 ao cap q W2 true hl hc (hz.later hB2) HG.out).mono ?_
    rintro e w1 ⟨rfl, hb1⟩
    have hB1 := hB2.trans (hb1.mono hB2.size)
    have A1 := A2.later hb1
    have R1 := R2.later hb1
    have hs1 : w.heap.size + 1 + 1 ≤ w1.heap.size := by have := hb1.size; rw [HS.out] at this; exact this
    clear hb1 A2 R2
    go_wp2_with fail
    refine (l3Task_is iv _ true HI.out).mono ?_
    rintro e w1 ⟨rfl, rfl⟩
    have HE : Hid (kI.Own (w.heap.size + 1 + 1) (w1.alloc (.cells #[] 3)) (.slice (some ⟨w1.heap.size, 0, none⟩) 0 0) []) := Kind.Own.new kI _ w1 hs1
    have HZ : Hid (kI.In w1.heap.size (w1.alloc (.cells #[] 3)) ao q) := (hz.later hB1).below (below1 _ _)
    have hA1 : w.heap.size < w1.heap.size := A1.size
    have a0 := A1.c 0 rfl
    have af0 := A1.f 0 rfl
    have a1 := A1.c 1 rfl
    have af1 := A1.f 1 rfl
    go_wp2_with (at_builtin; refine Kind.app kI_ok (w1.alloc (.cells #[] 3)) rfl (.tmp 15) (.tmp 17) rfl (w.heap.size + 1 + 1) (.slice (some ⟨w1.heap.size, 0, none⟩) 0 0) [] rfl HE.out (by simp; omega) ao q q.length cap rfl rfl hno _ HZ.out (by simp; omega) ?_; intro v3 w3 hO3 hB3 hG3 hn3; obtain ⟨g, c, rfl, hF3⟩ := hO3.someO (hn3 some_ne); rw [List.nil_append] at hF3 hO3; have HOw := hid hO3; have A3 := (A1.alloc (.cells #[] 3)).below hB3 (by omega); have R3 := (R1.alloc (.cells #[] 3)).below hB3 (by omega); have hB4 : Below w.heap.size w w3 := hB1.trans (((below1 w1 (.cells #[] 3)).mono hB1.size).trans (hB3.mono (by omega))); have hs3 : w.heap.size + 1 + 1 ≤ w3.heap.size := (by have := hB3.size; simp at this; omega); have HF : Hid (kI.FrO (w.heap.size + 1 + 1) w3.heap.size w3 (some ⟨g, 0, none⟩) c q) := hF3; clear hO3 hB3 hG3 hn3 hF3 HE HZ a0 a1 af0 af1 A1 R1; have a0 := A3.c 0 rfl; have a1 := A3.c 1 rfl; have af0 := A3.f 0 rfl; have af1 := A3.f 1 rfl; have r0 := R3.c 0 rfl; have r1 := R3.c 1 rfl; have rf0 := R3.f 0 rfl; have rf1 := R3.f 1 rfl)
    have HZ4 : Hid (kI.In w3.heap.size (w3.setCell ⟨w.heap.size, 1, none⟩ (.slice (some ⟨g, 0, none⟩) q.length c)) (some ⟨g, 0, none⟩) q) := (HF.out.setBelow (a := ⟨w.heap.size, 1, none⟩) (by simp; omega) _).in.up (by simp)
    refine (l1Has_is _ (some ⟨g, 0, none⟩) c q iv _ false hl HZ4.out HM.out).mono ?_
    rintro e w4 ⟨rfl, rfl⟩
    go_wp2
    refine bodyPost_ret (v := .tuple #[.agg #[.int .i64 s1, .slice (some ⟨g, 0, none⟩) q.length c], .int .i64 0]) (by simp [results, Try.results47, go_sem, r0, r1]) rfl ?_
    rw [HR.out]
    exact ⟨⟨_, c, rfl, (((HF.out.setBelow (a := ⟨w.heap.size, 1, none⟩) (by simp; omega) _).setBelow (a := ⟨w.heap.size + 1, 0, none⟩) (by simp) _).setBelow (a := ⟨w.heap.size + 1, 1, none⟩) (by simp) _).wide (by omega) (by simp)⟩, (((hB4.setCell (p := ⟨w.heap.size, 1, none⟩) (by simp) _).setCell (p := ⟨w.heap.size + 1, 0, none⟩) (by simp) _).setCell (p := ⟨w.heap.size + 1, 1, none⟩) (by simp) _)⟩
  · have h0' : (s1 == 0) = false := by simpa using h0
    have HR : Hid (waitR s1 q iv = (s1, q ++ [iv], 1)) := waitR_waits hg hi hm h0
    clear hg hi hm h0
    go_enter Try.func47, Try.ntmps47
    go_wp2_with fail
    rw [← HW.out]
    refine (specGood_is s1 ao cap q W2 true hl hc (hz.later hB2) HG.out).mono ?_
    rintro e w1 ⟨rfl, hb1⟩
    have hB1 := hB2.trans (hb1.mono hB2.size)
    have A1 := A2.later hb1
    have R1 := R2.later hb1
    have hs1 : w.heap.size + 1 + 1 ≤ w1.heap.size := by have := hb1.size; rw [HS.out] at this; exact this
    clear hb1 A2 R2
    go_wp2_with fail
    refine (l3Task_is iv _ true HI.out).mono ?_
    rintro e w1 ⟨rfl, rfl⟩
    have HE : Hid (kI.Own (w.heap.size + 1 + 1) (w1.alloc (.cells #[] 3)) (.slice (some ⟨w1.heap.size, 0, none⟩) 0 0) []) := Kind.Own.new kI _ w1 hs1
    have HZ : Hid (kI.In w1.heap.size (w1.alloc (.cells #[] 3)) ao q) := (hz.later hB1).below (below1 _ _)
    have hA1 : w.heap.size < w1.heap.size := A1.size
    have a0 := A1.c 0 rfl
    have af0 := A1.f 0 rfl
    have a1 := A1.c 1 rfl
    have af1 := A1.f 1 rfl
    go_wp2_with (at_builtin; refine Kind.app kI_ok (w1.alloc (.cells #[] 3)) rfl (.tmp 15) (.tmp 17) rfl (w.heap.size + 1 + 1) (.slice (some ⟨w1.heap.size, 0, none⟩) 0 0) [] rfl HE.out (by simp; omega) ao q q.length cap rfl rfl hno _ HZ.out (by simp; omega) ?_; intro v3 w3 hO3 hB3 hG3 hn3; obtain ⟨g, c, rfl, hF3⟩ := hO3.someO (hn3 some_ne); rw [List.nil_append] at hF3 hO3; have HOw := hid hO3; have A3 := (A1.alloc (.cells #[] 3)).below hB3 (by omega); have R3 := (R1.alloc (.cells #[] 3)).below hB3 (by omega); have hB4 : Below w.heap.size w w3 := hB1.trans (((below1 w1 (.cells #[] 3)).mono hB1.size).trans (hB3.mono (by omega))); have hs3 : w.heap.size + 1 + 1 ≤ w3.heap.size := (by have := hB3.size; simp at this; omega); have HF : Hid (kI.FrO (w.heap.size + 1 + 1) w3.heap.size w3 (some ⟨g, 0, none⟩) c q) := hF3; clear hO3 hB3 hG3 hn3 hF3 HE HZ a0 a1 af0 af1 A1 R1; have a0 := A3.c 0 rfl; have a1 := A3.c 1 rfl; have af0 := A3.f 0 rfl; have af1 := A3.f 1 rfl; have r0 := R3.c 0 rfl; have r1 := R3.c 1 rfl; have rf0 := R3.f 0 rfl; have rf1 := R3.f 1 rfl)
    have HZ4 : Hid (kI.In w3.heap.size (w3.setCell ⟨w.heap.size, 1, none⟩ (.slice (some ⟨g, 0, none⟩) q.length c)) (some ⟨g, 0, none⟩) q) := (HF.out.setBelow (a := ⟨w.heap.size, 1, none⟩) (by simp; omega) _).in.up (by simp)
    refine (l1Has_is _ (some ⟨g, 0, none⟩) c q iv _ false hl HZ4.out HM.out).mono ?_
    rintro e w4 ⟨rfl, rfl⟩
    obtain ⟨V, hV⟩ : ∃ V, V = (w3.setCell ⟨w.heap.size, 1, none⟩ (.slice (some ⟨g, 0, none⟩) q.length c)) := ⟨_, rfl⟩
    have HV : Hid (V = (w3.setCell ⟨w.heap.size, 1, none⟩ (.slice (some ⟨g, 0, none⟩) q.length c))) := hV
    have A5 : Bx V w.heap.size [.int .i64 s1, .slice (some ⟨g, 0, none⟩) q.length c] := by rw [hV]; exact A3.set 1 _
    have R5 : Bx V (w.heap.size + 1) [.int .i64 0, .slice none 0 0] := by rw [hV]; exact R3.other (by simp) _
    have F5 : Hid (kI.FrO (w.heap.size + 1 + 1) V.heap.size V (some ⟨g, 0, none⟩) c q) := by rw [hV]; exact (HF.out.setBelow (a := ⟨w.heap.size, 1, none⟩) (by simp; omega) _).wide (Nat.le_refl _) (by simp)
    have hBV : Below w.heap.size w V := by rw [hV]; exact (hB4.setCell (p := ⟨w.heap.size, 1, none⟩) (by simp) _)
    have hsV : w.heap.size + 1 + 1 ≤ V.heap.size := by rw [hV]; simpa using hs3
    have HO : Hid (kI.Own (w.heap.size + 1 + 1) (V.alloc (.cells #[.int .i64 iv] 3)) (.slice (some ⟨g, 0, none⟩) q.length c) q) := by
      have h : kI.Own (w.heap.size + 1 + 1) V (.slice (some ⟨g, 0, none⟩) q.length c) q := by rw [hV]; exact HOw.out.setBelow (by simp; omega) _
      exact h.below (below1 _ _)
    have HN : Hid (kI.In (V.heap.size + 1) (V.alloc (.cells #[.int .i64 iv] 3)) (some ⟨V.heap.size, 0, none⟩) [iv]) := int_one (by omega) (by simp)
    rw [← hV]
    clear hV hB4 A3 R3 a0 a1 af0 af1 r0 r1 rf0 rf1 HF HZ4
    have hA5 : w.heap.size < V.heap.size := A5.size
    have a0 := A5.c 0 rfl
    have af0 := A5.f 0 rfl
    have a1 := A5.c 1 rfl
    have af1 := A5.f 1 rfl
    have r0 := R5.c 0 rfl
    have rf0 := R5.f 0 rfl
    have r1 := R5.c 1 rfl
    have rf1 := R5.f 1 rfl
    go_wp2_with (at_builtin; refine Kind.app kI_ok (V.alloc (.cells #[.int .i64 iv] 3)) rfl (.tmp 30) (.tmp 32) rfl (w.heap.size + 1 + 1) (.slice (some ⟨g, 0, none⟩) q.length c) q rfl HO.out (by simp; omega) (some ⟨V.heap.size, 0, none⟩) [iv] 1 1 rfl rfl (by simp) _ HN.out (by simp; omega) ?_; intro v6 w6 hO6 hB6 hG6 hn6; obtain ⟨g', c', rfl, hF6⟩ := hO6.someO (hn6 some_ne); have A6 := (A5.alloc (.cells #[.int .i64 iv] 3)).below hB6 (by omega); have R6 := (R5.alloc (.cells #[.int .i64 iv] 3)).below hB6 (by omega); have hB7 : Below w.heap.size w w6 := hBV.trans (((below1 V (.cells #[.int .i64 iv] 3)).mono hBV.size).trans (hB6.mono (by omega))); have hs6 : w.heap.size + 1 + 1 ≤ w6.heap.size := (by have := hB6.size; simp at this; omega); have HF6 : Hid (kI.FrO (w.heap.size + 1 + 1) w6.heap.size w6 (some ⟨g', 0, none⟩) c' (q ++ [iv])) := hF6; clear hO6 hB6 hG6 hn6 hF6 HO HN a0 a1 af0 af1 r0 r1 rf0 rf1 A5 R5; have a0 := A6.c 0 rfl; have a1 := A6.c 1 rfl; have af0 := A6.f 0 rfl; have af1 := A6.f 1 rfl; have r0 := R6.c 0 rfl; have r1 := R6.c 1 rfl; have rf0 := R6.f 0 rfl; have rf1 := R6.f 1 rfl)
    refine bodyPost_ret (v := .tuple #[.agg #[.int .i64 s1, .slice (some ⟨g', 0, none⟩) (q ++ [iv]).length c'], .int .i64 1]) (by simp [results, Try.results47, go_sem, r0, r1]) rfl ?_
    rw [HR.out]
    exact ⟨⟨_, c', rfl, (((HF6.out.setBelow (a := ⟨w.heap.size, 1, none⟩) (by simp; omega) _).setBelow (a := ⟨w.heap.size + 1, 0, none⟩) (by simp) _).setBelow (a := ⟨w.heap.size + 1, 1, none⟩) (by simp) _).wide (by omega) (by simp)⟩, (((hB7.setCell (p := ⟨w.heap.size, 1, none⟩) (by simp) _).setCell (p := ⟨w.heap.size + 1, 0, none⟩) (by simp) _).setCell (p := ⟨w.heap.size + 1, 1, none⟩) (by simp) _)⟩
end
section
open Go.RowKit

theorem Bx.grown {W W' : World} {p g : Nat} {us : List Value} (h : Bx W p us) (hg : W.grownBy W' (some g)) (hne : p ≠ g) : Bx W' p us := h.keep hg.size (hg.block p h.1 (by simpa using hne))
section
variable {α : Type} {K : Kind α}
/-- Elements are put behind a row of its own that is not nil: it stays in its block, or lies in a new one. -/
theorem Kind.appO [Inhabited α] (hK : K.Ok) {ops : Array Oper} {rest : List Oper} {o : Oper} {a : Act} {Q : Exit → Act → World → Prop} (W : World) (hg : o.guard = none) (s x : Operand) (hop : o.op = Op.call { callee := Callee.builtin Builtin.append, args := #[s, x], argTypes := #[K.st, K.st] })
    (lo g n cap : Nat) (xs : List α) (hs : a.eval s = .slice (some ⟨g, 0, none⟩) n cap) (hown : K.Own lo W (.slice (some ⟨g, 0, none⟩) n cap) xs) (hlo : lo ≤ W.heap.size)
    (ao : Option Addr) (ys : List α) (m c : Nat) (hx : a.eval x = .slice ao m c) (hm : ys.length = m) (hno : ao = none → c = 0) (N : Nat) (hz : K.In N W ao ys) (hl : xs.length + ys.length ≤ 4194304) (zs : List α) (hzs : zs = xs ++ ys)
    (hk : ∀ g' c' w', K.Own lo w' (.slice (some ⟨g', 0, none⟩) zs.length c') zs → Below lo W w' → W.grownBy w' (some g) → (g' = g ∨ W.heap.size ≤ g') → wpList Try.prog ops Q rest (a.put o.dst (.slice (some ⟨g', 0, none⟩) zs.length c')) w') :
    wpList Try.prog ops Q (o :: rest) a W := by
  subst hzs
  obtain ⟨i0, z0, hin, hz0, hz1, hz2, hz3⟩ := hK.info
  obtain ⟨g2, c2, e2, _⟩ := Kind.Own.some hown some_ne
  simp at e2
  obtain ⟨rfl, rfl, rfl⟩ := e2
  cases ao with
  | none =>
    have hy : ys = [] := by rcases hz with h | ⟨b, off, e, _⟩; exact h; cases e
    subst hy
    have hc := hno rfl
    subst hc hm
    have hrun := run_append_owned_none (P := Try.prog) W lo K.st o.type K.ty i0 K.sz hK.und hin _ xs.length (K.flat xs) hown
    refine wpList_plain hg fun K' hK' => ?_
    unfold Oper.wp
    simp [execOp, hop, resolve, invoke, builtin, hs, hx, hrun, Result.andThen]
    have h := hk g cap W (by simpa using hown) (Below.refl _ _) ⟨rfl, rfl, rfl, Nat.le_refl _, fun _ _ _ => rfl⟩ (.inl rfl)
    simp only [List.append_nil] at h
    exact hK' _ _ h
  | some ad =>
    subst hm
    have hb : (xs.length + ys.length) * i0.bytes ≤ 140737488355328 := by
      have : (xs.length + ys.length) * i0.bytes ≤ 4194304 * 4096 := Nat.mul_le_mul hl hz3
      omega
    have hml : xs.length + ys.length ≤ maxLen := by unfold maxLen; omega
    obtain ⟨v', w', hr, h2, h3, h4⟩ := run_append_own (P := Try.prog) W lo K.st o.type K.ty i0 z0 K.sz i0.bytes hK.und hin hz0 hz1 rfl hz2 hK.pos _ xs.length (K.flat xs) hown ad ys.length c (K.flat ys) (K.flat_len ys) hz.src (K.flat_one ys) hml hb hlo
    have hwhere : ∃ g' c', v' = .slice (some ⟨g', 0, none⟩) (xs.length + ys.length) c' ∧ (g' = g ∨ W.heap.size ≤ g') := by
      by_cases hroom : xs.length + ys.length ≤ cap
      · obtain ⟨cur, hcur, hcl, _⟩ := owns_open hown
        have hr2 := run_append_room (P := Try.prog) W K.st o.type K.ty i0 hK.und hin g xs.length cap cur.toArray hcur ad ys.length c (K.flat ys) (by rw [hz1]; exact K.flat_len ys) hz.src (K.flat_one ys) hroom (by rw [hz1, K.flat_len, ← Nat.add_mul]; simp only [List.size_toArray, hcl]; exact Nat.mul_le_mul_right _ hroom)
        rw [hr] at hr2
        injection hr2 with e1 _
        exact ⟨g, cap, e1, .inl rfl⟩
      · have holds : ∀ j u, (K.flat xs)[j]? = some u → W.cell? ((⟨g, 0, none⟩ : Addr).add j) = some u := World.ownsRow.cells (g := g) hown rfl
        have hr2 := run_append_grow (P := Try.prog) W K.st o.type K.ty i0 z0 hK.und hin hz0 ⟨g, 0, none⟩ xs.length cap (K.flat xs) (by rw [hz1]; exact K.flat_len xs) holds ad ys.length c (K.flat ys) (by rw [hz1]; exact K.flat_len ys) hz.src (by omega) (by omega) (growslice_fits (by omega) hb)
        rw [hr] at hr2
        injection hr2 with e1 _
        exact ⟨_, _, e1, .inr (Nat.le_refl _)⟩
    obtain ⟨g', c', rfl, hw⟩ := hwhere
    refine wpList_plain hg fun K' hK' => ?_
    unfold Oper.wp execOp
    simp only [hop, resolve, invoke, builtin, Sem.run_bind, Sem.run_pure, Result.andThen_ok, List.map_toArray, List.map_cons, List.map_nil, hs, hx, hr]
    have ho' : K.Own lo w' (.slice (some ⟨g', 0, none⟩) (xs ++ ys).length c') (xs ++ ys) := by unfold Kind.Own; rw [K.flat_app, List.length_append]; exact h2
    have h := hk g' c' w' ho' (hown.belowG h3 hlo) h3 hw
    rw [List.length_append] at h
    exact hK' _ _ h
/-- Elements are put behind a row of its own (nil or not), at one operation. -/
theorem Kind.appW [Inhabited α] (hK : K.Ok) {o : Oper} {a : Act} {K' : Act → World → Prop} {Q : Exit → Act → World → Prop} (W : World) (s x : Operand) (hop : o.op = Op.call { callee := Callee.builtin Builtin.append, args := #[s, x], argTypes := #[K.st, K.st] })
    (lo : Nat) (v : Value) (xs : List α) (hs : a.eval s = v) (hown : K.Own lo W v xs) (hlo : lo ≤ W.heap.size)
    (ao : Option Addr) (ys : List α) (m c : Nat) (hx : a.eval x = .slice ao m c) (hm : ys.length = m) (hno : ao = none → c = 0) (n : Nat) (hz : K.In n W ao ys) (hl : xs.length + ys.length ≤ 4194304)
    (hk : ∀ v' w', K.Own lo w' v' (xs ++ ys) → Below lo W w' → W.grownBy w' v.ownBlock → (v ≠ .slice none 0 0 → v' ≠ .slice none 0 0) → K' (a.put o.dst v') w') :
    Oper.wp Try.prog o a W K' Q := by
  obtain ⟨i0, z0, hin, hz0, hz1, hz2, hz3⟩ := hK.info
  cases ao with
  | none =>
    have hy : ys = [] := by rcases hz with h | ⟨b, off, e, _⟩; exact h; cases e
    subst hy
    have hc := hno rfl
    subst hc hm
    have hrun := run_append_owned_none (P := Try.prog) W lo K.st o.type K.ty i0 K.sz hK.und hin v xs.length (K.flat xs) hown
    unfold Oper.wp
    simp [execOp, hop, resolve, invoke, builtin, hs, hx, hrun, Result.andThen]
    exact hk v W (by simpa using hown) (Below.refl _ _) ⟨rfl, rfl, rfl, Nat.le_refl _, fun _ _ _ => rfl⟩ id
  | some ad =>
    subst hm
    have hb : (xs.length + ys.length) * i0.bytes ≤ 140737488355328 := by
      have : (xs.length + ys.length) * i0.bytes ≤ 4194304 * 4096 := Nat.mul_le_mul hl hz3
      omega
    obtain ⟨v', w', hr, h2, h3, h4⟩ := run_append_own (P := Try.prog) W lo K.st o.type K.ty i0 z0 K.sz i0.bytes hK.und hin hz0 hz1 rfl hz2 hK.pos v xs.length (K.flat xs) hown ad ys.length c (K.flat ys) (K.flat_len ys) hz.src (K.flat_one ys) (by unfold maxLen; omega) hb hlo
    unfold Oper.wp execOp
    simp only [hop, resolve, invoke, builtin, Sem.run_bind, Sem.run_pure, Result.andThen_ok, List.map_toArray, List.map_cons, List.map_nil, hs, hx, hr]
    refine hk v' w' ?_ (hown.belowG h3 hlo) h3 fun hv e => hv (h4.1 e).1
    unfold Kind.Own
    rw [K.flat_app, List.length_append]; exact h2
/-- .. at a step of a region that draws its order. -/
theorem Kind.appS [Inhabited α] (hK : K.Ok) {ops : Array Oper} {o : Oper} {a : Act} {K' : Act → World → Prop} {Q : Exit → Act → World → Prop} {E : Prop} (W : World) (hg : o.guard = none) (s x : Operand) (hop : o.op = Op.call { callee := Callee.builtin Builtin.append, args := #[s, x], argTypes := #[K.st, K.st] })
    (lo : Nat) (v : Value) (xs : List α) (hs : a.eval s = v) (hown : K.Own lo W v xs) (hlo : lo ≤ W.heap.size)
    (ao : Option Addr) (ys : List α) (m c : Nat) (hx : a.eval x = .slice ao m c) (hm : ys.length = m) (hno : ao = none → c = 0) (n : Nat) (hz : K.In n W ao ys) (hl : xs.length + ys.length ≤ 4194304)
    (hk : ∀ v' w', K.Own lo w' v' (xs ++ ys) → Below lo W w' → W.grownBy w' v.ownBlock → (v ≠ .slice none 0 0 → v' ≠ .slice none 0 0) → K' (a.put o.dst v') w') :
    if Region.wanted o (yielded ops a.tmps) = true then Oper.wp Try.prog o a W K' Q else E := by
  rw [if_pos (by simp [Region.wanted, hg])]
  exact Kind.appW hK W s x hop lo v xs hs hown hlo ao ys m c hx hm hno n hz hl hk
/-- Elements are put behind a row of its own, nil or not: it stays in its block, or lies in a new one. -/
theorem Kind.appN [Inhabited α] (hK : K.Ok) {ops : Array Oper} {rest : List Oper} {o : Oper} {a : Act} {Q : Exit → Act → World → Prop} (W : World) (hg : o.guard = none) (s x : Operand) (hop : o.op = Op.call { callee := Callee.builtin Builtin.append, args := #[s, x], argTypes := #[K.st, K.st] })
    (lo : Nat) (v : Value) (xs : List α) (hs : a.eval s = v) (hown : K.Own lo W v xs) (hlo : lo ≤ W.heap.size)
    (ao : Option Addr) (ys : List α) (m c : Nat) (hx : a.eval x = .slice ao m c) (hm : ys.length = m) (hno : ao = none → c = 0) (n : Nat) (hz : K.In n W ao ys) (hl : xs.length + ys.length ≤ 4194304)
    (hk : ∀ v' w', K.Own lo w' v' (xs ++ ys) → Below lo W w' → W.grownBy w' v.ownBlock → (∀ g, v'.ownBlock = some g → v.ownBlock = some g ∨ W.heap.size ≤ g) → wpList Try.prog ops Q rest (a.put o.dst v') w') :
    wpList Try.prog ops Q (o :: rest) a W := by
  rcases hown.2 with ⟨e, h0⟩ | ⟨g, cap, cur, e, hb, hh, r⟩
  · have hxs : xs = [] := List.length_eq_zero_iff.1 h0
    subst hxs e
    refine Kind.app hK W hg s x hop W.heap.size (.slice none 0 0) [] hs (Kind.Own.nil _ _ _) (Nat.le_refl _) ao ys m c hx hm hno n hz hl fun v' w' hO hB hG _ => ?_
    refine hk v' w' ?_ (hB.mono hlo) hG fun g hg => .inr (hO.low g hg)
    rcases hO.2 with h | ⟨g, cap, cur, hv, hb, r⟩
    · exact ⟨hO.1, .inl h⟩
    · exact ⟨hO.1, .inr ⟨g, cap, cur, hv, Nat.le_trans hlo hb, r⟩⟩
  · subst e
    refine Kind.appO hK W hg s x hop lo g xs.length cap xs hs hown hlo ao ys m c hx hm hno n hz hl _ rfl fun g' c' w' hO hB hG hw => ?_
    refine hk _ w' hO hB hG fun b hb => ?_
    simp [Value.ownBlock] at hb ⊢
    subst hb
    rcases hw with h | h
    · exact .inl h.symm
    · exact .inr h
end
end
end Go.Proofs.Ytdgnolpimmdgjaa
