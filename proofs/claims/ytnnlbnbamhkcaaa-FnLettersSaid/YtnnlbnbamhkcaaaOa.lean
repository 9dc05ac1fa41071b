
/- Boxes whose rows are nil or their own. No conditions but those written. -/
import Derived.Test.YtnnlbnbamhkcaaaEi
import Derived.Test.YtnnlbnbamhkcaaaAp
namespace Go.Proofs.Ytnnlbnbamhkcaaa
open Go.RowKit

/-- A box's rows, nil or each a row of its own. -/
def WBox (lo : Nat) (W : World) (vb : Value) (b : List Int) (vs : Value) (s : List (Int × Int × Int)) (vr : Value) (r : List (Int × Int × Int)) : Prop := kI.Own lo W vb b ∧ kL.Own lo W vs s ∧ kL.Own lo W vr r ∧ ∀ g, vs.ownBlock = some g → vr.ownBlock ≠ some g
theorem wBox_nil (lo : Nat) (W : World) : WBox lo W (.slice none 0 0) [] (.slice none 0 0) [] (.slice none 0 0) [] := ⟨Kind.Own.nil _ _ _, Kind.Own.nil _ _ _, Kind.Own.nil _ _ _, fun g e => by simp [Value.ownBlock] at e⟩
theorem own_less {α : Type} {K : Kind α} {lo lo' : Nat} {W : World} {v : Value} {xs : List α} (h : K.Own lo W v xs) (hl : lo' ≤ lo) : K.Own lo' W v xs := by
  obtain ⟨h1, h2⟩ := h
  refine ⟨h1, ?_⟩
  rcases h2 with h2 | ⟨g, cap, cur, hv, hg, r⟩
  · exact .inl h2
  · exact .inr ⟨g, cap, cur, hv, Nat.le_trans hl hg, r⟩
theorem OBox.w {lo : Nat} {W : World} {gb bc : Nat} {b : List Int} {gs sc : Nat} {s : List (Int × Int × Int)} {gr rc : Nat} {r : List (Int × Int × Int)} (h : OBox lo W gb bc b gs sc s gr rc r) : WBox lo W (.slice (some ⟨gb, 0, none⟩) b.length bc) b (.slice (some ⟨gs, 0, none⟩) s.length sc) s (.slice (some ⟨gr, 0, none⟩) r.length rc) r := ⟨h.1, h.2.1, h.2.2.1, fun g e e2 => by simp [Value.ownBlock] at e e2; exact h.2.2.2.2.2 (e.trans e2.symm)⟩
theorem WBox.low {lo lo' : Nat} {W : World} {vb : Value} {b : List Int} {vs : Value} {s : List (Int × Int × Int)} {vr : Value} {r : List (Int × Int × Int)} (h : WBox lo W vb b vs s vr r) (hl : lo' ≤ lo) : WBox lo' W vb b vs s vr r := ⟨own_less h.1 hl, own_less h.2.1 hl, own_less h.2.2.1 hl, h.2.2.2⟩
theorem WBox.below {lo : Nat} {W W' : World} {vb : Value} {b : List Int} {vs : Value} {s : List (Int × Int × Int)} {vr : Value} {r : List (Int × Int × Int)} (h : WBox lo W vb b vs s vr r) (hb : Below W.heap.size W W') : WBox lo W' vb b vs s vr r := ⟨h.1.below hb, h.2.1.below hb, h.2.2.1.below hb, h.2.2.2⟩
theorem WBox.keep {lo : Nat} {W W' : World} {vb : Value} {b : List Int} {vs : Value} {s : List (Int × Int × Int)} {vr : Value} {r : List (Int × Int × Int)} (h : WBox lo W vb b vs s vr r) (hk : ∀ k, lo ≤ k → k < W.heap.size → W'.heap[k]? = W.heap[k]?) : WBox lo W' vb b vs s vr r := ⟨h.1.keep hk, h.2.1.keep hk, h.2.2.1.keep hk, h.2.2.2⟩
theorem WBox.in {lo : Nat} {W : World} {vb : Value} {b : List Int} {vs : Value} {s : List (Int × Int × Int)} {vr : Value} {r : List (Int × Int × Int)} (h : WBox lo W vb b vs s vr r) : ∃ bo bc so sc ro rc, vb = .slice bo b.length bc ∧ vs = .slice so s.length sc ∧ vr = .slice ro r.length rc ∧ WfBox bo bc so sc ro rc ∧ InBox W.heap.size W bo b so s ro r := by
  obtain ⟨bo, bc, rfl, wb, hb⟩ := h.1.in
  obtain ⟨so, sc, rfl, ws, hs⟩ := h.2.1.in
  obtain ⟨ro, rc, rfl, wr, hr⟩ := h.2.2.1.in
  exact ⟨bo, bc, so, sc, ro, rc, rfl, rfl, rfl, ⟨wb, ws, wr⟩, hb, hs, hr⟩
/-- A box and a number, its rows nil or its own, as an ending. -/
def AnsO (w : World) (R : Int × Bool × List Int × List (Int × Int × Int) × List (Int × Int × Int) × Int) (e : Ending) (w' : World) : Prop :=
  (∃ vb vs vr, e = .returned (.tuple #[.agg #[.int .i64 R.1, .bool R.2.1, vb, vs, vr], .int .i64 R.2.2.2.2.2]) ∧ WBox w.heap.size w' vb R.2.2.1 vs R.2.2.2.1 vr R.2.2.2.2.1) ∧ Below w.heap.size w w'
/-- A box, a word, a letter and a number, its rows nil or its own, as an ending. -/
def AnsTO (w : World) (R : Int × Bool × List Int × List (Int × Int × Int) × List (Int × Int × Int) × Int × Int × Int × Int × Int) (e : Ending) (w' : World) : Prop :=
  (∃ vb vs vr, e = .returned (.tuple #[.agg #[.int .i64 R.1, .bool R.2.1, vb, vs, vr], .int .i64 R.2.2.2.2.2.1, .agg #[.int .i64 R.2.2.2.2.2.2.1, .int .i64 R.2.2.2.2.2.2.2.1, .int .i64 R.2.2.2.2.2.2.2.2.1], .int .i64 R.2.2.2.2.2.2.2.2.2]) ∧ WBox w.heap.size w' vb R.2.2.1 vs R.2.2.2.1 vr R.2.2.2.2.1) ∧ Below w.heap.size w w'
end Go.Proofs.Ytnnlbnbamhkcaaa
