/- The laws' marks of channels and comparisons of those that are woken; NewChan. No conditions but those written. -/
import Derived.Test.YtlnjhajdbofhlaaDa
namespace Go.Proofs.Ytlnjhajdbofhlaa
open Go.RowKit

theorem apart_mark {so ro : Option Addr} {s r : List T3} (k k' : Int) (h : Apart so s ro r) : Apart so (markC k s.length) ro (markC k' r.length) := by
  rcases h with rfl | rfl | h
  · exact .inl rfl
  · exact .inr (.inl rfl)
  · exact .inr (.inr h)
theorem offIC {lo hi lo' hi' : Nat} {W : World} {ao bo : Option Addr} {ac bc : Nat} {q : List Int} {ts : List T3} (h : FreshI lo hi W ao ac q) (h' : FreshC lo' hi' W bo bc ts) : Off ao q.length bo ts.length := h.rowAt.off h'.rowAt (by decide)
theorem offIK {lo hi lo' hi' : Nat} {W : World} {ao bo : Option Addr} {ac bc : Nat} {q : List Int} {ts : List T4} (h : FreshI lo hi W ao ac q) (h' : FreshK lo' hi' W bo bc ts) : Off ao q.length bo ts.length := h.rowAt.off h'.rowAt (by decide)
theorem offCK {lo hi lo' hi' : Nat} {W : World} {ao bo : Option Addr} {ac bc : Nat} {q : List T3} {ts : List T4} (h : FreshC lo hi W ao ac q) (h' : FreshK lo' hi' W bo bc ts) : Off ao q.length bo ts.length := h.rowAt.off h'.rowAt (by decide)

theorem offIC' {lo hi lo' hi' : Nat} {W : World} {ao bo : Option Addr} {ac bc : Nat} {q : List Int} {ts : List T3} (h : FreshI lo hi W ao ac q) (h' : FreshC lo' hi' W bo bc ts) : Off ao q.length bo ts.length := offIC h h'
theorem FreshI.notNew {lo hi : Nat} {W : World} {qo : Option Addr} {qc : Nat} {q : List Int} (h : FreshI lo hi W qo qc q) {g : Nat} (e : eff qo q.length = some ⟨g, 0, none⟩) : W.heap.size ≠ g := by
  rcases h with rfl | ⟨g2, e2, hg, ho⟩
  · simp [eff] at e
  · unfold eff at e
    split at e
    · cases e
    · rw [e2] at e; simp at e; subst e
      have := (owns_lt ho).2; omega
theorem FreshC.notNew {lo hi : Nat} {W : World} {qo : Option Addr} {qc : Nat} {q : List T3} (h : FreshC lo hi W qo qc q) {g : Nat} (e : eff qo q.length = some ⟨g, 0, none⟩) : W.heap.size ≠ g := by
  rcases h with rfl | ⟨g2, _, e2, hg, ho, _⟩
  · simp [eff] at e
  · unfold eff at e
    split at e
    · cases e
    · rw [e2] at e; simp at e; subst e
      have := (owns_lt ho).2; omega
theorem Box5.only {W W' : World} {p : Nat} {u0 u1 u2 u3 u4 : Value} {ao : Option Addr} (h : Box5 W p u0 u1 u2 u3 u4) (hb : OnlyAt ao W W') (hp : ∀ g, ao = some ⟨g, 0, none⟩ → p ≠ g) : Box5 W' p u0 u1 u2 u3 u4 := by
  have hs : SameAt p W W' := hb.block p hp
  exact ⟨by rw [hb.size]; exact h.1, (hs.cell _).trans h.2.1, (hs.cell _).trans h.2.2.1, (hs.cell _).trans h.2.2.2.1, (hs.cell _).trans h.2.2.2.2.1, (hs.cell _).trans h.2.2.2.2.2⟩

set_option maxHeartbeats 2000000 in
theorem markChan_any (lo hi : Nat) (kap : Int) (cl : Bool) (bo : Option Addr) (bc : Nat) (b : List Int) (so : Option Addr) (sc : Nat) (s : List T3) (ro : Option Addr) (rc : Nat) (r : List T3) (ko : Option Addr) (kc : Nat) (ks : List T4) (w : World) (hl : b.length ≤ 1048576) (hls : s.length ≤ 1048576) (hlr : r.length ≤ 1048576) (hF : FreshCh lo hi w bo bc b so sc s ro rc r) (hK : FreshK lo hi w ko kc ks) :
    Calls Try.prog 21 #[.agg #[.int .i64 kap, .bool cl, .slice bo b.length bc, .slice so s.length sc, .slice ro r.length rc], .int .i64 1] w fun e w' => e = .returned (.int .i64 (1 + b.length + 3 * s.length + 3 * r.length)) ∧ FreshCh lo hi w' bo bc (markI 1 b.length) so sc (markC (1 + b.length) s.length) ro rc (markC (1 + b.length + 3 * s.length) r.length) ∧ FreshK lo hi w' ko kc ks ∧ Between lo hi w w' := by
  have hB0 := below1 w (.cells #[.int .i64 kap, .bool cl, .slice bo b.length bc, .slice so s.length sc, .slice ro r.length rc] 26)
  have X0 := Box5.new w (.int .i64 kap) (.bool cl) (.slice bo b.length bc) (.slice so s.length sc) (.slice ro r.length rc) 26
  have hF0 := hF.later hB0
  have hK0 := hK.later hB0
  have hT0 : Between lo hi w (w.alloc (.cells #[.int .i64 kap, .bool cl, .slice bo b.length bc, .slice so s.length sc, .slice ro r.length rc] 26)) := Between.of_below hB0
  go_enter Try.func21, Try.ntmps21
  go_wp2_with fail
  refine (markIntS_any lo hi bo bc b 1 _ (by omega) (by omega) (by omega) hF0.1).mono ?_
  rintro e w1 ⟨rfl, hI1, hO1⟩
  have hS1 := hF0.2.1.off (offIC hF0.1 hF0.2.1).symm hO1
  have hR1 := hF0.2.2.1.off (offIC hF0.1 hF0.2.2.1).symm hO1
  have hK1 := hK0.off (offIK hF0.1 hK0).symm hO1
  have hT1 := hT0.trans (hF0.1.between hO1)
  have hX1 : Box5 w1 w.heap.size (.int .i64 kap) (.bool cl) (.slice bo b.length bc) (.slice so s.length sc) (.slice ro r.length rc) := X0.only hO1 (fun g e => hF.1.notNew e)
  obtain ⟨_, x0, x1, x2, x3, x4⟩ := id hX1
  have Q1 : Hid (FreshI lo hi w1 bo bc (markI 1 b.length) ∧ FreshC lo hi w1 so sc s ∧ FreshC lo hi w1 ro rc r ∧ FreshK lo hi w1 ko kc ks) := ⟨hI1, hS1, hR1, hK1⟩
  clear hI1 hS1 hR1 hK1 hO1 X0 hF0 hK0 hT0
  go_wp2_with fail
  refine (markWaiterS_any lo hi so sc s (1 + b.length) _ (by omega) (by omega) (by omega) Q1.out.2.1).mono ?_
  rintro e w2 ⟨rfl, hS2, hO2⟩
  have hI2 := Q1.out.1.off (by rw [markI_len]; exact offIC' hF.1 hF.2.1) hO2
  have hR2 := Q1.out.2.2.1.off hF.2.2.2.symm.off hO2
  have hK2 := Q1.out.2.2.2.off (offCK hF.2.1 hK).symm hO2
  have hT2 := hT1.trans (Q1.out.2.1.between hO2)
  have hX2 := hX1.only hO2 (fun g e => hF.2.1.notNew e)
  clear x0 x1 x2 x3 x4 hX1 hT1
  obtain ⟨_, x0, x1, x2, x3, x4⟩ := id hX2
  have Q2 : Hid (FreshI lo hi w2 bo bc (markI 1 b.length) ∧ FreshC lo hi w2 so sc (markC (1 + b.length) s.length) ∧ FreshC lo hi w2 ro rc r ∧ FreshK lo hi w2 ko kc ks) := ⟨hI2, hS2, hR2, hK2⟩
  clear hI2 hS2 hR2 hK2 hO2 Q1
  go_wp2_with fail
  refine (markWaiterS_any lo hi ro rc r (1 + b.length + 3 * s.length) _ (by omega) (by omega) (by omega) Q2.out.2.2.1).mono ?_
  rintro e w3 ⟨rfl, hR3, hO3⟩
  have hI3 := Q2.out.1.off (by rw [markI_len]; exact offIC' hF.1 hF.2.2.1) hO3
  have hS3 := Q2.out.2.1.off (by rw [markC_len]; exact hF.2.2.2.off) hO3
  have hK3 := Q2.out.2.2.2.off (offCK hF.2.2.1 hK).symm hO3
  have hT3 := hT2.trans (Q2.out.2.2.1.between hO3)
  have Q3 : Hid (FreshI lo hi w3 bo bc (markI 1 b.length) ∧ FreshC lo hi w3 so sc (markC (1 + b.length) s.length) ∧ FreshC lo hi w3 ro rc (markC (1 + b.length + 3 * s.length) r.length) ∧ FreshK lo hi w3 ko kc ks) := ⟨hI3, hS3, hR3, hK3⟩
  clear hI3 hS3 hR3 hK3 hO3 Q2 x0 x1 x2 x3 x4 hX2 hT2
  go_wp2
  go_ret
  exact ⟨rfl, ⟨Q3.out.1, Q3.out.2.1, Q3.out.2.2.1, apart_mark _ _ hF.2.2.2⟩, Q3.out.2.2.2, hT3⟩

set_option maxHeartbeats 2000000 in
theorem heldChan_any (kap : Int) (cl : Bool) (bo : Option Addr) (bc lb : Nat) (so : Option Addr) (sc ls : Nat) (ro : Option Addr) (rc lr : Nat) (w : World) (hl : lb ≤ 1048576) (hls : ls ≤ 1048576) (hlr : lr ≤ 1048576)
    (hz : ChanIn w.heap.size w bo (markI 1 lb) so (markC (1 + lb) ls) ro (markC (1 + lb + 3 * ls) lr)) :
    Calls Try.prog 23 #[.agg #[.int .i64 kap, .bool cl, .slice bo lb bc, .slice so ls sc, .slice ro lr rc], .int .i64 1] w fun e w' => e = .returned (.int .i64 (1 + lb + 3 * ls + 3 * lr)) ∧ Below w.heap.size w w' := by
  have hB0 := below1 w (.cells #[.int .i64 kap, .bool cl, .slice bo lb bc, .slice so ls sc, .slice ro lr rc] 26)
  have hz0 := hz.later hB0
  have h1 : decide ((1 : Int) + lb < 0) = false := by simp; omega
  have h2 : decide ((1 : Int) + lb + 3 * ls < 0) = false := by simp; omega
  have h3 : decide ((1 : Int) + lb + 3 * ls + 3 * lr < 0) = false := by simp; omega
  go_enter Try.func23, Try.ntmps23
  go_wp2_with fail
  refine (heldIntS_any bo bc lb 1 _ (by omega) (by omega) (by omega) hz0.1).mono ?_
  rintro e w1 ⟨rfl, rfl⟩
  go_wp2_with fail
  refine (heldWaiterS_any so sc ls (1 + lb) _ (by omega) (by omega) (by omega) hz0.2.1).mono ?_
  rintro e w1 ⟨rfl, rfl⟩
  go_wp2_with fail
  refine (heldWaiterS_any ro rc lr (1 + lb + 3 * ls) _ (by omega) (by omega) (by omega) hz0.2.2).mono ?_
  rintro e w1 ⟨rfl, rfl⟩
  go_wp2
  go_ret
  exact ⟨rfl, hB0⟩

set_option maxHeartbeats 1000000 in
theorem eqWoken_same (i a v : Int) (o : Bool) (w : World) :
    Calls Try.prog 74 #[.agg #[.int .i64 i, .int .i64 a, .int .i64 v, .bool o], .agg #[.int .i64 i, .int .i64 a, .int .i64 v, .bool o]] w fun e w' => e = .returned (.bool true) ∧ Below w.heap.size w w' := by
  have h1 : (i != i) = false := by simp
  have h2 : (a != a) = false := by simp
  have h3 : (v != v) = false := by simp
  have h4 : (o != o) = false := by simp
  go_enter Try.func74, Try.ntmps74
  go_wp2
  go_ret
  exact ⟨rfl, below2 _ _ _⟩

set_option maxHeartbeats 2000000 in
theorem eqWokenS_same (ao bo : Option Addr) (cap cap' : Nat) (ks : List T4) (w : World) (hl : ks.length ≤ 1048576) (hz : WokIn w.heap.size w ao ks) (hz' : WokIn w.heap.size w bo ks) :
    Calls Try.prog 20 #[.slice ao ks.length cap, .slice bo ks.length cap'] w fun e w' => e = .returned (.bool true) ∧ Below w.heap.size w w' := by
  have hne : ((ks.length : Int) != (ks.length : Int)) = false := by simp
  go_enter Try.func20, Try.ntmps20
  go_wp2
  go_loopw [5] (fun i wr => ∃ k : Nat, k ≤ ks.length ∧ i = .int .i64 k ∧ Below w.heap.size w wr) (fun i _ => ks.length - (intOf i).toNat)
  case atStart => exact ⟨0, Nat.zero_le _, rfl, Below.refl _ _⟩
  case round =>
    obtain ⟨k, hk, rfl, hnx⟩ := hrel
    by_cases hlt : k < ks.length
    · obtain ⟨b, off, rfl, hb, hc⟩ := hz.pos hlt
      obtain ⟨b', off', rfl, hb', hc'⟩ := hz'.pos hlt
      have hck1 := (hnx.cell (p := ⟨b, off + k * 4, none⟩) hb).trans (hc k hlt).1
      have hck2 := (hnx.cell (p := ⟨b, off + k * 4 + 1, none⟩) hb).trans (hc k hlt).2.1
      have hck3 := (hnx.cell (p := ⟨b, off + k * 4 + 2, none⟩) hb).trans (hc k hlt).2.2.1
      have hck4 := (hnx.cell (p := ⟨b, off + k * 4 + 3, none⟩) hb).trans (hc k hlt).2.2.2
      have hck1' := (hnx.cell (p := ⟨b', off' + k * 4, none⟩) hb').trans (hc' k hlt).1
      have hck2' := (hnx.cell (p := ⟨b', off' + k * 4 + 1, none⟩) hb').trans (hc' k hlt).2.1
      have hck3' := (hnx.cell (p := ⟨b', off' + k * 4 + 2, none⟩) hb').trans (hc' k hlt).2.2.1
      have hck4' := (hnx.cell (p := ⟨b', off' + k * 4 + 3, none⟩) hb').trans (hc' k hlt).2.2.2
      clear hc hz hc' hz'
      obtain ⟨⟨x1, x2, x3, x4⟩, ex⟩ : ∃ v, v = t4 ks k := ⟨_, rfl⟩
      rw [← ex] at hck1 hck1' hck2 hck2' hck3 hck3' hck4 hck4'
      clear ex
      dsimp only at hck1 hck1' hck2 hck2' hck3 hck3' hck4 hck4'
      go_wp2
      go_region_with (go_at_call 74; refine (eqWoken_same x1 x2 x3 x4 _).mono ?_; rintro e w1 ⟨rfl, hb1⟩)
      all_goals go_wp2
      all_goals
        have hb2 : Below wr.drew.heap.size wr.drew w1 := by assumption
        have hnb : Below w.heap.size w w1 := hnx.drew.trans (hb2.mono hnx.size)
        go_roundw
        case rel => exact ⟨k + 1, by omega, by go_num, hnb⟩
        case measure => simp [intOf]; omega
    · obtain rfl : k = ks.length := by omega
      go_wp2
      go_ret
      exact ⟨rfl, hnx⟩
end Go.Proofs.Ytlnjhajdbofhlaa
