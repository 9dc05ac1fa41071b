/- A closed channel is put into a hub; what CloseIn answers. No conditions but those written. Rows of cases: the small functions over them. No conditions but those written. Cases that are good: the small functions of the program. No conditions but those written. Cases that are good: the program. No conditions but those written. Cases that are good: the program. No conditions but those written. Whether one may send or receive at once: both sides. No conditions but those written. Which cases are ready: plain facts. No conditions but those written. Which cases are ready: the specification. No conditions but those written. Which cases are ready: the program. No conditions but those written. Cases that are good: the specification. No conditions but those written. ReadyCases: both sides. No conditions but those written. The law's parts over a hub and cases. No conditions but those written. Marks over cases. No conditions but those written. A hub's copy as one fact; contracts with lengths of their own. No conditions but those written. Marks over a hub are held. No conditions but those written. -/
import Derived.Test.YtdjdbcfcccbhpaaPKiYk
import Derived.Test.YtdjdbcfcccbhpaaPYaYd
import Derived.Test.YtdjdbcfcccbhpaaPYeYf
import Derived.Test.YtdjdbcfcccbhpaaPKwBx
import Derived.Test.YtdjdbcfcccbhpaaPKbAo
import Derived.Test.YtdjdbcfcccbhpaaPVaMp
import Derived.WalkMore
import Derived.Deep.LoopGhost
import Derived.Test.YtdjdbcfcccbhpaaPKeMq
import Derived.Test.YtdjdbcfcccbhpaaPKmKn
namespace Go.Proofs.Ytdjdbcfcccbhpaa
section
open Go.RowKit Go.Maps

theorem DFr.newB {lo hi hi' : Nat} {W : World} {g c : Nat} {us : List LChan} (h : DFr dChan lo hi W (some ⟨g, 0, none⟩) c us) {i : Nat} (hi0 : i < us.length) {kap : Int} {cl : Bool} {bo : Option Addr} {bc : Nat} {b : List Int} (hn : kI.Fresh hi hi' W bo bc b) (hhi : hi ≤ hi') :
    DFr dChan lo hi' (((((W.setCell ⟨g, i * 5, none⟩ (.int .i64 kap)).setCell ⟨g, i * 5 + 1, none⟩ (.bool cl)).setCell ⟨g, i * 5 + 2, none⟩ (.slice bo b.length bc)).setCell ⟨g, i * 5 + 3, none⟩ (.slice none 0 0)).setCell ⟨g, i * 5 + 4, none⟩ (.slice none 0 0)) (some ⟨g, 0, none⟩) c (us.set i ((kap, cl, (bo, bc, b), (none, 0, []), (none, 0, [])) : LChan)) := by
  have h1 : hChan.Fresh lo hi W (some ⟨g, 0, none⟩) c us := h.1
  obtain ⟨g2, e2, hg1, hg2, hg3, ho⟩ := h1.at (show 0 < us.length by omega)
  simp at e2; subst e2
  have hblk : ∀ z, z ≠ g → (((((W.setCell ⟨g, i * 5, none⟩ (.int .i64 kap)).setCell ⟨g, i * 5 + 1, none⟩ (.bool cl)).setCell ⟨g, i * 5 + 2, none⟩ (.slice bo b.length bc)).setCell ⟨g, i * 5 + 3, none⟩ (.slice none 0 0)).setCell ⟨g, i * 5 + 4, none⟩ (.slice none 0 0)).heap[z]? = W.heap[z]? := fun z hz => by
    rw [Below.heap_setCell _ _ _ _ (by simpa using hz), Below.heap_setCell _ _ _ _ (by simpa using hz), Below.heap_setCell _ _ _ _ (by simpa using hz), Below.heap_setCell _ _ _ _ (by simpa using hz), Below.heap_setCell _ _ _ _ (by simpa using hz)]
  have hf1 := ((Kind.Fresh.keepB hn fun z hz => hblk z (by have := (hn.lt hz).1; omega)).wide (lo' := lo) (hi' := hi') (by omega) (Nat.le_refl _))
  refine DFr.put2 dChan_ok h hhi hi0 ?_ ⟨hf1, .inl rfl, .inl rfl, .inl rfl⟩ (fun z hq => ?_) fun z h1 _ => hblk z fun e => h1 ⟨by omega, by rw [e]⟩
  · show hChan.Fresh _ _ _ _ _ _
    have hs := (World.ownsRow.stored (World.ownsRow.stored (World.ownsRow.stored (World.ownsRow.stored (World.ownsRow.stored ho (i * 5) (.int .i64 kap)).1 (i * 5 + 1) (.bool cl)).1 (i * 5 + 2) (.slice bo b.length bc)).1 (i * 5 + 3) (.slice none 0 0)).1 (i * 5 + 4) (.slice none 0 0)).1
    have hal := hChan_all hi0 kap cl bo bc b none 0 [] none 0 []
    simp only [List.length_nil] at hal
    rw [hal] at hs
    exact .inr ⟨g, rfl, by omega, by simpa using hs⟩
  · rcases hq with h | h | h
    · exact .inr (hn.lt h).1
    · exact absurd h.1 (by simp)
    · exact absurd h.1 (by simp)
theorem DFr.putIn {lo hi : Nat} {W : World} {g c : Nat} {us : List LChan} (h : DFr dChan lo hi W (some ⟨g, 0, none⟩) c us) {i : Nat} (hi0 : i < us.length) {kap : Int} {cl : Bool} {bo : Option Addr} {bc : Nat} {b : List Int} {n : Nat} (hn : kI.In n W bo b) (hnl : n ≤ lo) (hlo : lo ≤ W.heap.size) :
    DIn dChan W.heap.size (((((W.setCell ⟨g, i * 5, none⟩ (.int .i64 kap)).setCell ⟨g, i * 5 + 1, none⟩ (.bool cl)).setCell ⟨g, i * 5 + 2, none⟩ (.slice bo b.length bc)).setCell ⟨g, i * 5 + 3, none⟩ (.slice none 0 0)).setCell ⟨g, i * 5 + 4, none⟩ (.slice none 0 0)) (some ⟨g, 0, none⟩) (us.set i ((kap, cl, (bo, bc, b), (none, 0, []), (none, 0, [])) : LChan)) := by
  have h1 : hChan.Fresh lo hi W (some ⟨g, 0, none⟩) c us := h.1
  obtain ⟨g2, e2, hg1, hg2, hg3, ho⟩ := h1.at (show 0 < us.length by omega)
  simp at e2; subst e2
  have hblk : ∀ z, z ≠ g → (((((W.setCell ⟨g, i * 5, none⟩ (.int .i64 kap)).setCell ⟨g, i * 5 + 1, none⟩ (.bool cl)).setCell ⟨g, i * 5 + 2, none⟩ (.slice bo b.length bc)).setCell ⟨g, i * 5 + 3, none⟩ (.slice none 0 0)).setCell ⟨g, i * 5 + 4, none⟩ (.slice none 0 0)).heap[z]? = W.heap[z]? := fun z hz => by
    rw [Below.heap_setCell _ _ _ _ (by simpa using hz), Below.heap_setCell _ _ _ _ (by simpa using hz), Below.heap_setCell _ _ _ _ (by simpa using hz), Below.heap_setCell _ _ _ _ (by simpa using hz), Below.heap_setCell _ _ _ _ (by simpa using hz)]
  have hs := (World.ownsRow.stored (World.ownsRow.stored (World.ownsRow.stored (World.ownsRow.stored (World.ownsRow.stored ho (i * 5) (.int .i64 kap)).1 (i * 5 + 1) (.bool cl)).1 (i * 5 + 2) (.slice bo b.length bc)).1 (i * 5 + 3) (.slice none 0 0)).1 (i * 5 + 4) (.slice none 0 0)).1
  have hal := hChan_all hi0 kap cl bo bc b none 0 [] none 0 []
  simp only [List.length_nil] at hal
  rw [hal] at hs
  have hK : hChan.Fresh lo hi (((((W.setCell ⟨g, i * 5, none⟩ (.int .i64 kap)).setCell ⟨g, i * 5 + 1, none⟩ (.bool cl)).setCell ⟨g, i * 5 + 2, none⟩ (.slice bo b.length bc)).setCell ⟨g, i * 5 + 3, none⟩ (.slice none 0 0)).setCell ⟨g, i * 5 + 4, none⟩ (.slice none 0 0)) (some ⟨g, 0, none⟩) c (us.set i ((kap, cl, (bo, bc, b), (none, 0, []), (none, 0, [])) : LChan)) := .inr ⟨g, rfl, by omega, by simpa using hs⟩
  have hsz : (((((W.setCell ⟨g, i * 5, none⟩ (.int .i64 kap)).setCell ⟨g, i * 5 + 1, none⟩ (.bool cl)).setCell ⟨g, i * 5 + 2, none⟩ (.slice bo b.length bc)).setCell ⟨g, i * 5 + 3, none⟩ (.slice none 0 0)).setCell ⟨g, i * 5 + 4, none⟩ (.slice none 0 0)).heap.size = W.heap.size := by simp [World.setCell]
  have hb : Below lo W (((((W.setCell ⟨g, i * 5, none⟩ (.int .i64 kap)).setCell ⟨g, i * 5 + 1, none⟩ (.bool cl)).setCell ⟨g, i * 5 + 2, none⟩ (.slice bo b.length bc)).setCell ⟨g, i * 5 + 3, none⟩ (.slice none 0 0)).setCell ⟨g, i * 5 + 4, none⟩ (.slice none 0 0)) := (((((Below.refl lo W).setCell (p := ⟨g, i * 5, none⟩) (by dsimp only; omega) _).setCell (p := ⟨g, i * 5 + 1, none⟩) (by dsimp only; omega) _).setCell (p := ⟨g, i * 5 + 2, none⟩) (by dsimp only; omega) _).setCell (p := ⟨g, i * 5 + 3, none⟩) (by dsimp only; omega) _).setCell (p := ⟨g, i * 5 + 4, none⟩) (by dsimp only; omega) _
  have hbi := (hn.below (hb.mono hnl)).up (show n ≤ W.heap.size by omega)
  refine ⟨by have := hK.in; rw [hsz] at this; exact this, fun j hj => ?_⟩
  have hj' : j < us.length := by simpa using hj
  by_cases e : j = i
  · subst e; rw [el_set_same hj']
    exact ⟨hbi, .inl rfl, .inl rfl⟩
  · rw [el_set_other e]
    have := dChan_ok.fin (dChan_ok.keep (h.2.1 j hj') fun z hob => hblk z fun e => by
      subst e; exact h.head dChan_ok hj' hob ⟨by omega, rfl⟩)
    rw [hsz] at this; exact this
/-- Told once, whether the wait counts one or more. -/
theorem tell_same (f : Int → Int) (l : List (Int × Int × Int × Bool)) (h : ∀ x ∈ l, 0 < f x.1) : (tellW f l).1 = (tellW (fun _ => 1) l).1 ∧ ∀ z, 0 < f z → (0 < (tellW f l).2 z ↔ 0 < (tellW (fun _ => 1) l).2 z) := by
  have key : ∀ (l : List (Int × Int × Int × Bool)) (s s' : List (Int × Int × Int × Bool) × (Int → Int)), (∀ x ∈ l, 0 < f x.1) → s.1 = s'.1 → (∀ z, 0 < f z → (0 < s.2 z ↔ 0 < s'.2 z)) → (l.foldl tellS s).1 = (l.foldl tellS s').1 ∧ ∀ z, 0 < f z → (0 < (l.foldl tellS s).2 z ↔ 0 < (l.foldl tellS s').2 z) := by
    intro l
    induction l with
    | nil => intro s s' _ h1 h2; exact ⟨h1, h2⟩
    | cons x r ih =>
      intro s s' h0 h1 h2
      have hx := h0 x (List.mem_cons_self ..)
      refine ih (tellS s x) (tellS s' x) (fun y hy => h0 y (List.mem_cons_of_mem _ hy)) ?_ ?_
      · unfold tellS
        by_cases e : 0 < s.2 x.1
        · rw [if_pos e, if_pos ((h2 _ hx).1 e), h1]
        · rw [if_neg e, if_neg fun e' => e ((h2 _ hx).2 e'), h1]
      · intro z hz
        unfold tellS
        by_cases e : 0 < s.2 x.1
        · rw [if_pos e, if_pos ((h2 _ hx).1 e)]
          dsimp only
          split
          · simp
          · exact h2 z hz
        · rw [if_neg e, if_neg fun e' => e ((h2 _ hx).2 e')]
          exact h2 z hz
  exact key l ([], f) ([], fun _ => 1) h rfl fun z hz => by simp [hz]
/-- Channel k closed. -/
def shutP (ps : List PChan) (k : Nat) : List PChan := ps.set k ((el ps k).1, true, (el ps k).2.2.1, [], [])
/-- Whom that wakes. -/
def wokeP (ps : List PChan) (k : Nat) : List (Int × Int × Int × Bool) := wokeL ((el ps k).2.2.2.2 ++ (el ps k).2.2.2.1)
/-- What CloseIn answers. -/
def closeR (ps : List PChan) (k : Int) : List PChan × List (Int × Int × Int × Bool) × Int :=
  if goodHB ps = true ∧ 0 ≤ k ∧ k < ps.length then
    if (el ps k.toNat).2.1 = true then (ps, [], 3)
    else ((shutP ps k.toNat).map (keepP (tellW (fun _ => 1) (wokeP ps k.toNat)).2), (tellW (fun _ => 1) (wokeP ps k.toNat)).1, 0)
  else ([], [], 2)
theorem woke_waits {ps : List PChan} {k : Nat} (h : k < ps.length) : ∀ x ∈ wokeP ps k, 0 < oft (wts ps) x.1 := by
  intro x hx
  simp only [wokeP, wokeL, List.mem_map, List.mem_append] at hx
  obtain ⟨y, hy, rfl⟩ := hx
  refine oft_pos (x := y) (List.mem_flatMap.2 ⟨el ps k, el_mem h, ?_⟩)
  exact List.mem_append.2 hy.symm
theorem keepP_shut {ps : List PChan} {k : Nat} (h : k < ps.length) : (shutP ps k).map (keepP (tellW (oft (wts ps)) (wokeP ps k)).2) = (shutP ps k).map (keepP (tellW (fun _ => 1) (wokeP ps k)).2) := by
  have hs := (tell_same _ _ (woke_waits h)).2
  refine List.map_congr_left fun c hc => ?_
  have hcw : ∀ x, x ∈ c.2.2.2.1 ∨ x ∈ c.2.2.2.2 → x ∈ wts ps := fun x hx => by
    rcases List.mem_or_eq_of_mem_set hc with h1 | h1
    · exact List.mem_flatMap.2 ⟨c, h1, List.mem_append.2 hx⟩
    · subst h1; simp at hx
  have key : ∀ l : List (Int × Int × Int), (∀ x ∈ l, x ∈ wts ps) → keptW (tellW (oft (wts ps)) (wokeP ps k)).2 l = keptW (tellW (fun _ => 1) (wokeP ps k)).2 l := fun l hl => by
    unfold keptW
    refine List.filter_congr fun x hx => ?_
    exact decide_eq_decide.2 (hs x.1 (oft_pos (hl x hx)))
  unfold keepP
  rw [key _ fun x hx => hcw x (.inl hx), key _ fun x hx => hcw x (.inr hx)]
end
section
open Go.RowKit
end
section
open Go.RowKit

/-- One case crosses another: on one channel, the other way. -/
def crossB (x o : Int × Bool × Int) : Bool := decide (x.1 ≠ -1) && (decide (o.1 = x.1) && (o.2.1 != x.2.1))
theorem any_take {α : Type} [Inhabited α] {l : List α} (p : α → Bool) {k : Nat} (h : k < l.length) : (l.take (k + 1)).any p = ((l.take k).any p || p (el l k)) := by rw [take_succ_el h, List.any_append]; simp
end
section
open Go.RowKit
end
section
open Go.RowKit

/-- A case that may be asked of so many channels. -/
def goodK (n : Nat) (x : Int × Bool × Int) : Bool := decide (-1 ≤ x.1) && decide (x.1 < (n : Int)) && (x.2.1 || decide (x.2.2 = 0))
/-- Whether the cases are good. -/
def goodQB (gs : List PChan) (l : List (Int × Bool × Int)) : Bool := goodHB gs && (decide (l.length ≤ 6) && (List.range l.length).all fun i => goodK gs.length (el l i) && !((l.take i).any (crossB (el l i))))
theorem goodQB_hub {gs : List PChan} {l : List (Int × Bool × Int)} (h : goodHB gs = false) : goodQB gs l = false := by simp [goodQB, h]
theorem goodQB_long {gs : List PChan} {l : List (Int × Bool × Int)} (h : 6 < l.length) : goodQB gs l = false := by simp [goodQB, show ¬ l.length ≤ 6 from by omega]
theorem goodQB_bad {gs : List PChan} {l : List (Int × Bool × Int)} {k : Nat} (hk : k < l.length) (h : goodK gs.length (el l k) = false) : goodQB gs l = false := by
  have : ((List.range l.length).all fun i => goodK gs.length (el l i) && !((l.take i).any (crossB (el l i)))) = false := by
    rw [List.all_eq_false]; exact ⟨k, List.mem_range.2 hk, by simp [h]⟩
  rw [goodQB, this]; simp
theorem goodQB_cross {gs : List PChan} {l : List (Int × Bool × Int)} {k : Nat} (hk : k < l.length) (h : (l.take k).any (crossB (el l k)) = true) : goodQB gs l = false := by
  have : ((List.range l.length).all fun i => goodK gs.length (el l i) && !((l.take i).any (crossB (el l i)))) = false := by
    rw [List.all_eq_false]; exact ⟨k, List.mem_range.2 hk, by rw [h]; simp⟩
  rw [goodQB, this]; simp
theorem goodQB_yes {gs : List PChan} {l : List (Int × Bool × Int)} (hg : goodHB gs = true) (h6 : l.length ≤ 6) (h : ∀ k, k < l.length → goodK gs.length (el l k) = true ∧ (l.take k).any (crossB (el l k)) = false) : goodQB gs l = true := by
  have : ((List.range l.length).all fun i => goodK gs.length (el l i) && !((l.take i).any (crossB (el l i)))) = true := by
    rw [List.all_eq_true]; intro i hi; rw [(h i (List.mem_range.1 hi)).1, (h i (List.mem_range.1 hi)).2]; rfl
  rw [goodQB, this, hg]; simp [h6]
end
section
open Go.RowKit

def maySB (kap : Int) (cl : Bool) (b : List Int) (r : List (Int × Int × Int)) : Bool := cl || (decide (r.length ≠ 0) || decide ((b.length : Int) < kap))
def mayRB (cl : Bool) (b : List Int) (s : List (Int × Int × Int)) : Bool := cl || (decide (b.length ≠ 0) || decide (s.length ≠ 0))
end
section
open Go.RowKit

/-- A channel is ready for a side. -/
def readyP (c : PChan) (snd : Bool) : Bool := if snd then maySB c.1 c.2.1 c.2.2.1 c.2.2.2.2 else mayRB c.2.1 c.2.2.1 c.2.2.2.1
/-- A case is ready. -/
def readyQ (ps : List PChan) (x : Int × Bool × Int) : Bool := decide (0 ≤ x.1) && readyP (el ps x.1.toNat) x.2.1
/-- The numbers of those that are ready among the first k. -/
def readyT (ps : List PChan) (l : List (Int × Bool × Int)) (k : Nat) : List Int := ((List.range k).filter fun i => readyQ ps (el l i)).map fun i : Nat => (i : Int)
theorem readyT_in {ps : List PChan} {l : List (Int × Bool × Int)} {k : Nat} (h : readyQ ps (el l k) = true) : readyT ps l (k + 1) = readyT ps l k ++ [(k : Int)] := by
  rw [readyT, List.range_succ, List.filter_append, List.map_append]; simp [readyT, h]
theorem readyT_out {ps : List PChan} {l : List (Int × Bool × Int)} {k : Nat} (h : readyQ ps (el l k) = false) : readyT ps l (k + 1) = readyT ps l k := by
  rw [readyT, List.range_succ, List.filter_append, List.map_append]; simp [readyT, h]
theorem readyT_len (ps : List PChan) (l : List (Int × Bool × Int)) (k : Nat) : (readyT ps l k).length ≤ k := by
  have := List.length_filter_le (fun i => readyQ ps (el l i)) (List.range k)
  simp [readyT] at this ⊢; exact this
theorem goodQB_all {ps : List PChan} {l : List (Int × Bool × Int)} (h : goodQB ps l = true) : (ps.length ≤ 8 ∧ ∀ c ∈ ps, goodP c = true) ∧ l.length ≤ 6 ∧ ∀ k, k < l.length → -1 ≤ (el l k).1 ∧ (el l k).1 < (ps.length : Int) := by
  simp only [goodQB, Bool.and_eq_true, decide_eq_true_eq, List.all_eq_true] at h
  obtain ⟨h1, h2, h3⟩ := h
  obtain ⟨g1, g2, _⟩ := goodHB_all h1
  refine ⟨⟨g1, g2⟩, h2, fun k hk => ?_⟩
  have := (h3 k (List.mem_range.2 hk)).1
  simp only [goodK, Bool.and_eq_true, decide_eq_true_eq] at this
  exact this.1
theorem el_map_val {ts : List LChan} {k : Nat} (h : k < ts.length) : el (ts.map valChan) k = valChan (el ts k) := by simp [el, h]
/-- What ReadyCases answers. -/
def readyR (ps : List PChan) (l : List (Int × Bool × Int)) : List Int × Bool := if goodQB ps l = true then (readyT ps l l.length, true) else ([], false)
theorem readyR_bad {ps : List PChan} {l : List (Int × Bool × Int)} (h : goodQB ps l = false) : readyR ps l = ([], false) := by rw [readyR, if_neg]; rw [h]; simp
theorem readyR_ok {ps : List PChan} {l : List (Int × Bool × Int)} (h : goodQB ps l = true) : readyR ps l = (readyT ps l l.length, true) := by rw [readyR, if_pos h]
theorem readyR_len {ps : List PChan} {l : List (Int × Bool × Int)} (hl : l.length ≤ 1048576) : (readyR ps l).1.length ≤ 1048576 := by
  unfold readyR
  split
  · exact Nat.le_trans (readyT_len _ _ _) hl
  · simp
/-- A row of ints and a bool, in memory of their own. -/
def AnsQ (w : World) (R : List Int × Bool) (e : Ending) (w' : World) : Prop :=
  (∃ o c, e = .returned (.tuple #[.slice o R.1.length c, .bool R.2]) ∧ kI.Fresh w.heap.size w'.heap.size w' o c R.1) ∧ Below w.heap.size w w'
end
section
open Go.RowKit
end
section
open Go.RowKit
end
section
open Go.RowKit

theorem goodK_1 {n : Nat} {a : Int} {b : Bool} {c : Int} (h : (decide (-1 ≤ a) && decide (a ≤ (n : Int) - 1)) = false) : goodK n (a, b, c) = false := by
  have : (decide (-1 ≤ a) && decide (a < (n : Int))) = false := by simp at h ⊢; omega
  rw [goodK, this]; rfl
theorem goodK_2 {n : Nat} {a c : Int} (h : (c != 0) = true) : goodK n (a, false, c) = false := by
  have : decide (c = 0) = false := by simpa using h
  simp [goodK, this]
theorem goodK_3 {n : Nat} {a : Int} {b : Bool} {c : Int} (h : (decide (-1 ≤ a) && decide (a ≤ (n : Int) - 1)) = true) (h2 : b = true ∨ (c != 0) = false) : goodK n (a, b, c) = true := by
  have : (decide (-1 ≤ a) && decide (a < (n : Int))) = true := by simp at h ⊢; omega
  rw [goodK, this]
  rcases h2 with h2 | h2
  · simp [h2]
  · simp at h2; simp [h2]
theorem any_none {l : List (Int × Bool × Int)} {p : Int × Bool × Int → Bool} {k : Nat} (hk : k ≤ l.length) (h : ∀ q, q < k → p (el l q) = false) : (l.take k).any p = false := by
  rw [List.any_eq_false]
  intro x hx
  obtain ⟨j, hj, rfl⟩ := mem_el hx
  have hj' : j < k := by simp at hj; omega
  have : el (l.take k) j = el l j := by simp [el, show j < l.length by omega, hj']
  rw [this, h j hj']; simp
theorem any_some {l : List (Int × Bool × Int)} {p : Int × Bool × Int → Bool} {k q : Nat} (hk : k ≤ l.length) (hq : q < k) (h : p (el l q) = true) : (l.take k).any p = true := by
  rw [List.any_eq_true]
  have hj : q < (l.take k).length := by simp; omega
  refine ⟨el (l.take k) q, el_mem hj, ?_⟩
  have : el (l.take k) q = el l q := by simp [el, show q < l.length by omega, hq]
  rw [this]; exact h
end
section
open Go.RowKit
end
section
open Go.RowKit

set_option maxHeartbeats 2000000 in
theorem szHub_le (ao : Option Addr) (cap : Nat) (ts : List LChan) (w : World) (hl : ts.length ≤ 9223372036854775807) (hle : ∀ a ∈ ts, (a.2.2.1).2.2.length ≤ 9223372036854775807 ∧ (a.2.2.2.1).2.2.length ≤ 9223372036854775807 ∧ (a.2.2.2.2).2.2.length ≤ 9223372036854775807) (hz : DIn dChan w.heap.size w ao ts) :
    Calls Try.prog 4 #[.agg #[.slice ao ts.length cap], .int .i64 1048576] w fun e w' => (∃ z : Int, e = .returned (.int .i64 z) ∧ z ≤ 1048576 ∧ ((z < 0) ∨ (0 ≤ z ∧ ts.length ≤ 1048576 ∧ totChan ts ≤ 1048576))) ∧ Below w.heap.size w w' := by
  have hB0 := below1 w (.cells #[.slice ao ts.length cap] 24)
  have HZ := hid (hz.later dChan_ok hB0)
  clear hz
  go_enter Try.func4, Try.ntmps4
  go_wp2_with fail
  refine (szChanS_any ao cap ts 1048576 _ (by omega) (by omega) hl hle HZ.out.1).mono ?_
  rintro e w1 ⟨⟨z, rfl, hr, hs⟩, hb1⟩
  have hB1 := hB0.trans (hb1.mono hB0.size)
  clear hb1
  by_cases h0 : z < 0
  · go_wp2
    go_ret
    exact ⟨⟨_, rfl, by omega, by omega⟩, hB1⟩
  · go_wp2
    go_ret
    exact ⟨⟨_, rfl, by omega, by omega⟩, hB1⟩
end
section
open Go.RowKit
end
section
open Go.RowKit

/-- A hub's channels in memory of their own. -/
def FrHub (lo hi : Nat) (W : World) (g n : Nat) (us : List LChan) : Prop := DFr dChan lo hi W (some ⟨g, 0, none⟩) n us
theorem FrHub.of {lo hi : Nat} {W : World} {g n : Nat} {us : List LChan} (h : DFr dChan lo hi W (some ⟨g, 0, none⟩) n us) : FrHub lo hi W g n us := h
theorem FrHub.later {lo hi : Nat} {W W' : World} {g n : Nat} {us : List LChan} (h : FrHub lo hi W g n us) (hb : Below W.heap.size W W') : FrHub lo hi W' g n us := DFr.later dChan_ok h hb
theorem FrHub.in {lo hi : Nat} {W : World} {g n : Nat} {us : List LChan} (h : FrHub lo hi W g n us) : DIn dChan W.heap.size W (some ⟨g, 0, none⟩) us := DFr.in dChan_ok h
theorem FrHub.between' {lo hi lo' hi' : Nat} {W W' : World} {g n : Nat} {us : List LChan} (h : FrHub lo hi W g n us) (hb : Between lo' hi' W W') (hd : hi ≤ lo' ∨ hi' ≤ lo) : FrHub lo hi W' g n us := DFr.between' dChan_ok h hb hd
theorem markHub_of (lo hi g n c : Nat) (us : List LChan) (k0 : Int) (w : World) (hn : us.length = n) (hl : us.length ≤ 1048576) (ht : totChan us ≤ 1048576) (hk0 : 0 ≤ k0) (hk1 : k0 ≤ 8000000) (hF : FrHub lo hi w g c us) :
    Calls Try.prog 10 #[.agg #[.slice (some ⟨g, 0, none⟩) n c], .int .i64 k0] w fun e w' => (∃ kk : Int, e = .returned (.int .i64 kk) ∧ k0 ≤ kk ∧ kk ≤ k0 + 5242880) ∧ Between lo hi w w' := by
  subst hn
  refine (markHub_any lo hi _ c us k0 w hl ht hk0 hk1 hF).mono ?_
  rintro e w' ⟨rfl, _, hb⟩
  have := endC_is k0 us
  exact ⟨⟨_, rfl, this.1, by omega⟩, hb⟩
end
section
open Go.RowKit

theorem markC_at : ∀ (k : Int) (ts : List LChan) (i : Nat), i < ts.length → el (markC k ts) i = mkC (endC k (ts.take i)) (el ts i)
  | _, [], i, h => by simp at h
  | k, a :: r, 0, _ => by rw [markC, el_zero, el_zero]; rfl
  | k, a :: r, i + 1, h => by
    rw [markC, el_cons, el_cons, markC_at (nxC k a) r i (by simpa using h)]
    rfl
set_option maxRecDepth 10000 in
set_option maxHeartbeats 8000000 in
theorem heldChanS_any (ao : Option Addr) (c : Nat) (ts : List LChan) (k0 : Int) (w : World) (hl : ts.length ≤ 1048576) (ht : totChan ts ≤ 1048576) (hk0 : 0 ≤ k0) (hk1 : k0 ≤ 8000000) (hF : DIn dChan w.heap.size w ao (markC k0 ts)) :
    Calls Try.prog 31 #[.slice ao ts.length c, .int .i64 k0] w fun e w' => e = .returned (.int .i64 (endC k0 ts)) ∧ w' = w := by
  have HF := hid hF
  have HT := hid ht
  have hml := markC_len k0 ts
  clear hF ht
  go_enter Try.func31, Try.ntmps31
  go_wp2
  go_loop [1, 5] (fun v i => ∃ (k : Nat) (kk : Int), k ≤ ts.length ∧ i = .int .i64 k ∧ v = .int .i64 kk ∧ Hid (kk = endC k0 (ts.take k))) (fun _ i => ts.length - (intOf i).toNat)
  case atStart => exact ⟨0, k0, Nat.zero_le _, rfl, rfl, rfl⟩
  case round =>
    obtain ⟨k, kk, hk, rfl, rfl, HK⟩ := hrel
    by_cases hlt : k < ts.length
    · have HLT := hid hlt
      have hbd : 0 ≤ kk ∧ kk ≤ 13242880 := by
        have h1 := endC_is k0 (ts.take k)
        have h2 := totChan_le ts k
        have h3 := HT.out
        rw [← HK.out] at h1
        simp only [List.length_take] at h1
        omega
      have hsz := totChan_el hlt
      have hsz2 : sizeChan (el ts k) ≤ 1048576 := by have := HT.out; omega
      clear hsz
      have hkm : k < (markC k0 ts).length := by rw [hml]; exact hlt
      have hat := markC_at k0 ts k hlt
      rw [← HK.out] at hat
      obtain ⟨b0, off, rfl, hb, hc⟩ := hChan_at HF.out.1 hkm
      have c0 := (hc k hkm).1
      have c1 := (hc k hkm).2.1
      have c2 := (hc k hkm).2.2.1
      have c3 := (hc k hkm).2.2.2.1
      have c4 := (hc k hkm).2.2.2.2
      have hI := HF.out.2 k hkm
      rw [hat] at c0 c1 c2 c3 c4 hI
      obtain ⟨⟨kap, cl, ⟨bo, bc, b⟩, ⟨so, sc, s⟩, ⟨ro, rc, r⟩⟩, ea⟩ : ∃ a, a = el ts k := ⟨_, rfl⟩
      rw [← ea] at c0 c1 c2 c3 c4 hI hsz2
      have HEA := hid ea
      have HI : Hid (InChan w.heap.size w bo (markI (kk + 1 + 1) b.length) so (markW (kk + 1 + 1 + b.length) s.length) ro (markW (kk + 1 + 1 + b.length + 3 * s.length) r.length)) := hI
      clear ea hat hc hI
      dsimp only [mkC] at c0 c1 c2 c3 c4
      rw [markI_len] at c2
      rw [markW_len] at c3 c4
      have hsz3 : b.length + s.length + r.length ≤ 1048576 := by simp [sizeChan] at hsz2; omega
      have n0 : (kk != kk) = false := by simp
      have n1 : ((kk + 1) % 3 == 0) = ((kk + 1) % 3 == 0) := rfl
      obtain ⟨x, hx⟩ : ∃ x, ((kk + 1) % 3 == 0) = x := ⟨_, rfl⟩
      rw [hx] at c1
      have nx : (x != x) = false := by simp
      clear hsz2 n1
      go_wp2_with fail
      refine (heldIntS_any bo bc b.length (kk + 1 + 1) w (by omega) (by omega) (by omega) HI.out.1).mono ?_
      rintro e wx ⟨rfl, hwx⟩
      rw [hwx]; clear hwx wx
      have q1 : decide (kk + 1 + 1 + (b.length : Int) < 0) = false := by simp; omega
      go_wp2_with fail
      refine (heldWaiterS_any so sc s.length (kk + 1 + 1 + b.length) w (by omega) (by omega) (by omega) HI.out.2.1).mono ?_
      rintro e wx ⟨rfl, hwx⟩
      rw [hwx]; clear hwx wx
      have q2 : decide (kk + 1 + 1 + (b.length : Int) + 3 * (s.length : Int) < 0) = false := by simp; omega
      go_wp2_with fail
      refine (heldWaiterS_any ro rc r.length (kk + 1 + 1 + b.length + 3 * s.length) w (by omega) (by omega) (by omega) HI.out.2.2).mono ?_
      rintro e wx ⟨rfl, hwx⟩
      rw [hwx]; clear hwx wx
      have q3 : decide (kk + 1 + 1 + (b.length : Int) + 3 * (s.length : Int) + 3 * (r.length : Int) < 0) = false := by simp; omega
      go_wp2
      go_round
      case rel => exact ⟨k + 1, nxC kk (kap, cl, (bo, bc, b), (so, sc, s), (ro, rc, r)), by omega, by go_num, rfl, by rw [Hid, endC_succ HLT.out, ← HK.out, ← HEA.out]⟩
      case measure => simp [intOf]; omega
    · obtain rfl : k = ts.length := by omega
      rw [List.take_length] at HK
      go_wp2
      go_ret
      exact ⟨ret_int HK.out, rfl⟩
set_option maxHeartbeats 2000000 in
theorem heldHub_any (ao : Option Addr) (c : Nat) (ts : List LChan) (k0 : Int) (w : World) (hl : ts.length ≤ 1048576) (ht : totChan ts ≤ 1048576) (hk0 : 0 ≤ k0) (hk1 : k0 ≤ 8000000) (hF : DIn dChan w.heap.size w ao (markC k0 ts)) :
    Calls Try.prog 12 #[.agg #[.slice ao ts.length c], .int .i64 k0] w fun e w' => e = .returned (.int .i64 (endC k0 ts)) ∧ Below w.heap.size w w' := by
  have hB0 := below1 w (.cells #[.slice ao ts.length c] 28)
  have HF := hid (hF.later dChan_ok hB0)
  have hq : decide (endC k0 ts < 0) = false := by have := endC_is k0 ts; simp; omega
  clear hF
  go_enter Try.func12, Try.ntmps12
  go_wp2_with fail
  refine (heldChanS_any ao c ts k0 _ hl ht hk0 hk1 HF.out).mono ?_
  rintro e w1 ⟨rfl, hw1⟩
  rw [hw1]; clear hw1 w1
  go_wp2
  go_ret
  exact ⟨rfl, hB0⟩
end
end Go.Proofs.Ytdjdbcfcccbhpaa
