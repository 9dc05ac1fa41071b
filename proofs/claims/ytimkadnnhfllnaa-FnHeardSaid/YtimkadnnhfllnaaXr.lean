
/- A row of its own that lies between two blocks; draws among numbers. No conditions but those written. -/
import Derived.Test.YtimkadnnhfllnaaFq
import Derived.Test.YtimkadnnhfllnaaXb
import Derived.Test.YtimkadnnhfllnaaXg
namespace Go.Proofs.Ytimkadnnhfllnaa
open Go.RowKit

theorem own_keep2 {α : Type} {K : Kind α} {lo hi : Nat} {W W' : World} {ao : Option Addr} {n c : Nat} {xs : List α} (h : K.Own lo W (.slice ao n c) xs) (hh : ∀ g o, ao = some ⟨g, o, none⟩ → g < hi) (hk : ∀ k, lo ≤ k → k < hi → k < W.heap.size → W'.heap[k]? = W.heap[k]?) : K.Own lo W' (.slice ao n c) xs := by
  obtain ⟨h1, h2⟩ := h
  refine ⟨h1, ?_⟩
  rcases h2 with h2 | ⟨g, cap, cur, hv, hg, hb, r⟩
  · exact .inl h2
  · have e : ao = some ⟨g, 0, none⟩ := by simp at hv; exact hv.1
    exact .inr ⟨g, cap, cur, hv, hg, by rw [hk g hg (hh g 0 e) (Array.getElem?_eq_some_iff.1 hb).1]; exact hb, r⟩
theorem own_hi {α : Type} {K : Kind α} {lo : Nat} {W : World} {ao : Option Addr} {n c : Nat} {xs : List α} (h : K.Own lo W (.slice ao n c) xs) : ∀ g o, ao = some ⟨g, o, none⟩ → g < W.heap.size := by
  intro g o e
  rcases h.2 with ⟨h', _⟩ | ⟨g', cap, cur, hv, _, hb, _⟩
  · rw [e] at h'; simp at h'
  · rw [e] at hv; simp at hv; obtain ⟨⟨rfl, _⟩, _⟩ := hv
    exact (Array.getElem?_eq_some_iff.1 hb).1
section
variable {α : Type} {K : Kind α}
/-- A row of its own in blocks from lo to hi. -/
def Kind.RW (K : Kind α) (lo hi : Nat) (W : World) (ao : Option Addr) (c : Nat) (xs : List α) : Prop := K.Own lo W (.slice ao xs.length c) xs ∧ ∀ g o, ao = some ⟨g, o, none⟩ → g < hi
variable {lo hi : Nat} {W W' : World} {ao : Option Addr} {c : Nat} {xs : List α}
theorem Kind.RW.keep (h : K.RW lo hi W ao c xs) (hk : ∀ k, lo ≤ k → k < hi → k < W.heap.size → W'.heap[k]? = W.heap[k]?) : K.RW lo hi W' ao c xs := ⟨own_keep2 h.1 h.2 hk, h.2⟩
theorem Kind.RW.later (h : K.RW lo hi W ao c xs) (hb : Below W.heap.size W W') : K.RW lo hi W' ao c xs := h.keep fun k _ _ hk => hb.block k hk
theorem Kind.RW.grew {p : Nat} (h : K.RW lo hi W ao c xs) (hg : Grew p W W') (hp : p < lo) : K.RW lo hi W' ao c xs := h.keep fun k h1 _ hk => hg.block k hk (by omega)
theorem Kind.RW.setOff (h : K.RW lo hi W ao c xs) {a : Addr} (ha : a.block < lo ∨ hi ≤ a.block) (u : Value) : K.RW lo hi (W.setCell a u) ao c xs := h.keep fun k h1 h2 _ => Below.heap_setCell W a u k (by omega)
theorem Kind.RW.wide {lo' hi' : Nat} (h : K.RW lo hi W ao c xs) (h1 : lo' ≤ lo) (h2 : hi ≤ hi') : K.RW lo' hi' W ao c xs := ⟨own_less h.1 h1, fun g o e => Nat.lt_of_lt_of_le (h.2 g o e) h2⟩
theorem Kind.RW.of (h : K.Own lo W (.slice ao xs.length c) xs) : K.RW lo W.heap.size W ao c xs := ⟨h, own_hi h⟩
theorem Kind.RW.nil : K.RW lo hi W none 0 [] := ⟨Kind.Own.nil _ _ _, fun g o e => by cases e⟩
theorem Kind.RW.in [Inhabited α] (h : K.RW lo hi W ao c xs) : K.In W.heap.size W ao xs := by
  obtain ⟨go, qc, e, _, hz⟩ := h.1.in
  simp at e; obtain ⟨rfl, rfl⟩ := e; exact hz
theorem Kind.RW.no [Inhabited α] (h : K.RW lo hi W ao c xs) : ao = none → c = 0 := by
  obtain ⟨go, qc, e, hn, _⟩ := h.1.in
  simp at e; obtain ⟨rfl, rfl⟩ := e; exact hn
theorem Kind.RW.cap (h : K.RW lo hi W ao c xs) : xs.length ≤ c := by
  obtain ⟨go, qc, e, _, hF⟩ := h.1.fresh
  simp at e; obtain ⟨rfl, rfl⟩ := e; exact hF.cap
theorem Kind.Own.as {lo : Nat} {v : Value} (h : K.Own lo W v xs) : ∃ ao c, v = .slice ao xs.length c ∧ K.Own lo W (.slice ao xs.length c) xs := by
  obtain ⟨ao, c, rfl, _, _⟩ := h.fresh
  exact ⟨ao, c, rfl, h⟩
end
theorem Cur.below {W W' : World} {p : Nat} {co : Option Addr} {cap : Nat} {bs : List Int} {k : Nat} {sd : Int} (h : Cur W p co cap bs k sd) {n : Nat} (hb : Below n W W') (hp : p < n) : Cur W' p co cap bs k sd := h.keep hb.size fun j hj => hb.block j (by omega)
theorem Grew.of_below2 {p n : Nat} {w W W' : World} (h : Grew p w W) (hb : Below n W W') (hn : w.heap.size ≤ n) : Grew p w W' := ⟨hb.os.trans h.os, hb.tape.trans h.tape, hb.output.trans h.output, Nat.le_trans h.size hb.size, fun j hj hp => (hb.block j (by omega)).trans (h.block j hj hp)⟩
theorem bx_nums {W : World} {q : Nat} {zs : List Int} (h : Bx W q (zs.map fun z => .int .i64 z)) : ∀ j, j < zs.length → W.cell? ⟨q, 0 + j, none⟩ = some (.int .i64 (zs[j]?.getD 0)) := by
  intro j hj
  rw [Nat.zero_add]
  exact h.c j (by simp [hj])
theorem among_in (zs : List Int) (q p : Nat) (co : Option Addr) (cap : Nat) (bs : List Int) (k : Nat) (sd : Int) (w : World) (hl : bs.length ≤ 9223372036854775807) (ha : k ≤ 1099511627770) (hC : Cur w p co cap bs k sd) (h0 : 0 < zs.length) (h9 : zs.length ≤ 1048576) (hz : Bx w q (zs.map fun z => .int .i64 z)) (hb : q ≠ p) :
    Calls Try.prog 30 #[.pointer (some ⟨p, 0, none⟩), .slice (some ⟨q, 0, none⟩) zs.length zs.length] w fun e w' => (∃ z, z ∈ zs ∧ e = .returned (.int .i64 z)) ∧ Drawn w p co cap bs k 2 w' :=
  (among_any q 0 zs zs.length p co cap bs k sd w hl ha hC h0 h9 (bx_nums hz) hb).mono fun _ _ ⟨⟨j, hj, e⟩, h⟩ => ⟨⟨_, by simp [hj], e⟩, h⟩
end Go.Proofs.Ytimkadnnhfllnaa
