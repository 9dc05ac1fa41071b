
/- Contracts for a law whose answer is a hub. No conditions but those written. -/
import Derived.Test.YtlnjhajdbofhlaaSe
import Derived.Test.YtlnjhajdbofhlaaVg
import Derived.Test.YtlnjhajdbofhlaaKo
namespace Go.Proofs.Ytlnjhajdbofhlaa
open Go.RowKit Go.Maps

/-- How many there are behind channels, by what they say. -/
def totP (ps : List PChan) : Nat := (ps.map fun c => c.2.2.1.length + c.2.2.2.1.length + c.2.2.2.2.length).sum
theorem totChan_P (us : List LChan) : totChan us = totP (us.map valChan) := by
  unfold totChan totP; rw [List.map_map]; rfl
theorem totP_keep (f : Int → Int) (ps : List PChan) : totP (ps.map (keepP f)) ≤ totP ps := by
  induction ps with
  | nil => exact Nat.le_refl _
  | cons c r ih =>
    have h1 := keptW_le f c.2.2.2.1
    have h2 := keptW_le f c.2.2.2.2
    simp only [totP, List.map_cons, List.sum_cons, keepP] at ih ⊢
    omega
theorem killR_len (ps : List PChan) (t : Int) : (killR ps t).1.length ≤ ps.length := by
  unfold killR; split <;> simp
theorem killR_tot (ps : List PChan) (t : Int) : totP (killR ps t).1 ≤ totP ps := by
  unfold killR; split
  · exact totP_keep _ _
  · exact Nat.zero_le _
/-- A hub's channels in memory of their own, wherever they begin. -/
def FrH (lo hi : Nat) (W : World) (o : Option Addr) (n : Nat) (us : List LChan) : Prop := DFr dChan lo hi W o n us
theorem FrH.of {lo hi : Nat} {W : World} {o : Option Addr} {n : Nat} {us : List LChan} (h : DFr dChan lo hi W o n us) : FrH lo hi W o n us := h
theorem FrH.later {lo hi : Nat} {W W' : World} {o : Option Addr} {n : Nat} {us : List LChan} (h : FrH lo hi W o n us) (hb : Below W.heap.size W W') : FrH lo hi W' o n us := DFr.later dChan_ok h hb
theorem FrH.in {lo hi : Nat} {W : World} {o : Option Addr} {n : Nat} {us : List LChan} (h : FrH lo hi W o n us) : DIn dChan W.heap.size W o us := DFr.in dChan_ok h
theorem FrH.between' {lo hi lo' hi' : Nat} {W W' : World} {o : Option Addr} {n : Nat} {us : List LChan} (h : FrH lo hi W o n us) (hb : Between lo' hi' W W') (hd : hi ≤ lo' ∨ hi' ≤ lo) : FrH lo hi W' o n us := DFr.between' dChan_ok h hb hd
theorem eqHub_of (o o' : Option Addr) (c c' : Nat) (us us' : List LChan) (ps : List PChan) (w : World) (hv : us.map valChan = ps) (hv' : us'.map valChan = ps) (hl : ps.length ≤ 1048576) (ht : totP ps ≤ 1048576) (hz : DIn dChan w.heap.size w o us) (hz' : DIn dChan w.heap.size w o' us') :
    Calls Try.prog 30 #[.agg #[.slice o ps.length c], .agg #[.slice o' ps.length c']] w fun e w' => e = .returned (.bool true) ∧ Below w.heap.size w w' := by
  have h1 : us.length = ps.length := by rw [← hv]; simp
  have h2 : us'.length = ps.length := by rw [← hv']; simp
  exact eqHub_len h1 h2 (eqHub_same o o' c c' us us' w (by omega) (fits_of (by rw [totChan_P, hv]; exact ht)) (hv.trans hv'.symm) hz hz')
theorem markHub_ex (lo hi : Nat) (o : Option Addr) (c : Nat) (us : List LChan) (ps : List PChan) (k0 : Int) (w : World) (hv : us.map valChan = ps) (hl : ps.length ≤ 1048576) (ht : totP ps ≤ 1048576) (hk0 : 0 ≤ k0) (hk1 : k0 ≤ 8000000) (hF : FrH lo hi w o c us) :
    Calls Try.prog 39 #[.agg #[.slice o ps.length c], .int .i64 k0] w fun e w' => e = .returned (.int .i64 (endC k0 us)) ∧ FrH lo hi w' o c (markC k0 us) ∧ Between lo hi w w' := by
  have h1 : us.length = ps.length := by rw [← hv]; simp
  rw [← h1]
  exact markHub_any lo hi o c us k0 w (by omega) (by rw [totChan_P, hv]; exact ht) hk0 hk1 hF
theorem heldHub_ex (o : Option Addr) (c : Nat) (us : List LChan) (ps : List PChan) (k0 : Int) (w : World) (hv : us.map valChan = ps) (hl : ps.length ≤ 1048576) (ht : totP ps ≤ 1048576) (hk0 : 0 ≤ k0) (hk1 : k0 ≤ 8000000) (hF : DIn dChan w.heap.size w o (markC k0 us)) :
    Calls Try.prog 47 #[.agg #[.slice o ps.length c], .int .i64 k0] w fun e w' => e = .returned (.int .i64 (endC k0 us)) ∧ Below w.heap.size w w' := by
  have h1 : us.length = ps.length := by rw [← hv]; simp
  rw [← h1]
  exact heldHub_any o c us k0 w (by omega) (by rw [totChan_P, hv]; exact ht) hk0 hk1 hF
theorem implKill_of (g n : Nat) (us ts : List LChan) (t : Int) (w : World) (hn : us.length = n) (hv : us.map valChan = ts.map valChan) (hl : ts.length ≤ 1048576) (ht : totChan ts ≤ 1048576) (hz : DIn dChan w.heap.size w (some ⟨g, 0, none⟩) us) :
    Calls Try.prog 49 #[.agg #[.slice (some ⟨g, 0, none⟩) n n], .int .i64 t] w fun e w' => AnsK w (killR (ts.map valChan) t) e w' := by
  subst hn
  rw [← hv]
  exact implKill_any _ _ us t w (by rw [len_val hv]; exact hl) (by rw [tot_val hv]; exact ht) hz
theorem specKill_of (g n : Nat) (us ts : List LChan) (t : Int) (w : World) (hn : us.length = n) (hv : us.map valChan = ts.map valChan) (hl : ts.length ≤ 1048576) (ht : totChan ts ≤ 1048576) (hz : DIn dChan w.heap.size w (some ⟨g, 0, none⟩) us) :
    Calls Try.prog 48 #[.agg #[.slice (some ⟨g, 0, none⟩) n n], .int .i64 t] w fun e w' => AnsK w (killR (ts.map valChan) t) e w' := by
  subst hn
  rw [← hv]
  exact specKill_any _ _ us t w (by rw [len_val hv]; exact hl) (by rw [tot_val hv]; exact ht) hz
end Go.Proofs.Ytlnjhajdbofhlaa
