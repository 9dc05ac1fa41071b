/- Of each item the account is what it means: kept by moves. Plain. No conditions but those written. Rows of emits: the small functions over them. No conditions but those written. What a node lets through, and what a value means: the specification's. No conditions but those written. What a value means, as the specification says it: l11Mean. No conditions but those written. How far emitsOf has come, plainly: its bounds. No conditions but those written. Hands: rows of ints of their own behind one row of heads. No conditions but those written. -/
import Derived.Test.YtoeonbdoopboiaaGreatDoorPMeMg
import Derived.Test.YtoeonbdoopboiaaGreatDoorPGenBx
import Derived.Test.YtoeonbdoopboiaaGreatDoorPSmRd
import Derived.Test.YtoeonbdoopboiaaGreatDoorPZaZe
import Derived.Test.YtoeonbdoopboiaaGreatDoorPRwOs
namespace Go.Proofs.YtoeonbdoopboiaaGreatDoor
section
open Go.RowKit

/-- What stands behind moves: how many items, what each weighs, and where the lost ones lie. -/
structure AccI (gs : List PNode) (of : List (Int × Int)) (s : PP) : Prop where
  it : s.it = (of.length : Int)
  off : ∀ p ∈ of, (∃ j : Nat, j < gs.length ∧ p.1 = (j : Int)) ∧ valB p.2 = true
  acc : ∀ (ψ : Int × Int → Int) (i : Int), accW (fun k v => sumI ψ (meanG gs k v)) ψ i s = if 0 ≤ i ∧ i < (of.length : Int) then sumI ψ (meanG gs (el of i.toNat).1.toNat (el of i.toNat).2) else 0
  lost : ∀ e ∈ s.fa, (∃ j : Nat, j < gs.length ∧ e.2.1 = (j : Int)) ∧ valB e.2.2.1 = true
theorem lostTo_mem {bx : List (List (Int × Int × Int))} : ∀ {j : Nat} {e : Int × Int × Int × Int}, e ∈ lostTo bx j → ∃ k t, k < j ∧ t ∈ el bx k ∧ e = (t.1, (k : Int), t.2.1, 2)
  | 0, _, h => by cases h
  | j + 1, e, h => by
    rw [lostTo] at h
    rcases List.mem_append.1 h with h1 | h1
    · obtain ⟨k, t, hk, ht, he⟩ := lostTo_mem h1
      exact ⟨k, t, by omega, ht, he⟩
    · obtain ⟨t, ht, rfl⟩ := List.mem_map.1 h1
      exact ⟨j, t, by omega, ht, rfl⟩
/-- Where the lost ones lie. -/
def LostI (gs : List PNode) (fa : List (Int × Int × Int × Int)) : Prop := ∀ e ∈ fa, (∃ j : Nat, j < gs.length ∧ e.2.1 = (j : Int)) ∧ valB e.2.2.1 = true
theorem lost_abort {gs : List PNode} {s : PP} (h : LostI gs s.fa) (hI : InvS gs s) (hn : s.bx.length = gs.length) : LostI gs (abortP s).fa := fun e he => by
  rcases List.mem_append.1 (show e ∈ s.fa ++ lostTo s.bx s.bx.length from he) with h1 | h1
  · exact h e h1
  · obtain ⟨k, t, hk, ht, rfl⟩ := lostTo_mem h1
    exact ⟨⟨k, by omega, rfl⟩, hI.val k t ht⟩
theorem lost_failT {gs : List PNode} {s : PP} (h : LostI gs s.fa) (hI : InvS gs s) (hn : s.bx.length = gs.length) : LostI gs (failT s).fa := by
  unfold failT
  split
  · exact lost_abort h hI hn
  · exact h
theorem lost_fail {gs : List PNode} {s : PP} (h : LostI gs s.fa) (hI : InvS gs s) (hn : s.bx.length = gs.length) {k : Nat} {t1 t2 t3 : Int} {r : List (Int × Int × Int)} (hk : k < gs.length) (hr : el s.bx k = (t1, t2, t3) :: r) : LostI gs (failP s k t1 t2 t3 r).fa := by
  have hv := hI.val k (t1, t2, t3) (by rw [hr]; simp)
  have hrr : ∀ t ∈ r, valB t.2.1 = true := fun t ht => hI.val k t (by rw [hr]; exact List.mem_cons_of_mem _ ht)
  have hc := hI.cap k hk
  rw [hr] at hc
  simp only [List.length_cons] at hc
  unfold failP
  split
  · refine lost_failT (fun e he => ?_) ⟨hI.cap.set k (by omega), hI.val.set k hrr⟩ ((List.length_set ..).trans hn)
    rcases List.mem_append.1 he with h1 | h1
    · exact h e h1
    · rw [List.mem_singleton.1 h1]; exact ⟨⟨k, hk, rfl⟩, hv⟩
  · refine lost_failT h ⟨hI.cap.set k (by simp only [List.length_cons]; exact hc), hI.val.set k fun t ht => ?_⟩ ((List.length_set ..).trans hn)
    rcases List.mem_cons.1 ht with rfl | h1
    · exact hv
    · exact hrr t h1
theorem lost_move {gs : List PNode} {src : List Int} {s : PP} (h : LostI gs s.fa) (hI : InvS gs s) (hn : s.bx.length = gs.length) (m1 m2 m3 : Int) : LostI gs (doR gs src s m1 m2 m3).2.fa := by
  unfold doR
  split
  · unfold offerR
    repeat' split
    all_goals exact h
  · split
    · unfold stepR
      split
      · rename_i hin
        split
        · exact h
        · rename_i t r hr
          obtain ⟨t1, t2, t3⟩ := t
          split
          · exact lost_fail h hI hn (by omega) hr
          · split
            · exact h
            · dsimp only
              rw [(leadAll_same gs m2.toNat t1 _ _).1]
              exact h
      · exact h
    · split
      · unfold faultR
        split
        · rename_i hin
          split
          · exact h
          · rename_i t r hr
            exact lost_fail h hI hn (by omega) hr
        · exact h
      · split
        · unfold tickR
          repeat' split
          all_goals exact h
        · split
          · unfold drainR
            split <;> exact h
          · split
            · unfold abortR
              split
              · exact h
              · exact lost_abort h hI hn
            · exact h
theorem failT_it (s : PP) : (failT s).it = s.it := by unfold failT; split <;> rfl
theorem failP_it (s : PP) (k : Nat) (t1 t2 t3 : Int) (r : List (Int × Int × Int)) : (failP s k t1 t2 t3 r).it = s.it := by unfold failP; rw [failT_it]; split <;> rfl
theorem it_move {gs : List PNode} {src : List Int} (s : PP) (m1 m2 m3 : Int) : (doR gs src s m1 m2 m3).2.it = if m1 = 1 ∧ (doR gs src s m1 m2 m3).1 = 0 then s.it + 1 else s.it := by
  by_cases k1 : m1 = 1
  · have e : doR gs src s m1 m2 m3 = offerR gs src s m2 m3 := by rw [doR, if_pos k1]
    rw [e]
    by_cases hc : (offerR gs src s m2 m3).1 = 0
    · rw [if_pos ⟨k1, hc⟩, (took_it hc).2.2]
    · rw [if_neg (fun h => hc h.2), offer_no hc]
  · rw [if_neg (fun h => k1 h.1), doR, if_neg k1]
    split
    · unfold stepR
      split
      · split
        · rfl
        · split
          · exact failP_it _ _ _ _ _ _
          · split
            · rfl
            · exact (leadAll_same gs _ _ _ _).2.2.2.1
      · rfl
    · split
      · unfold faultR
        split
        · split
          · rfl
          · exact failP_it _ _ _ _ _ _
        · rfl
      · split
        · unfold tickR
          repeat' split
          all_goals rfl
        · split
          · unfold drainR
            split <;> rfl
          · split
            · unfold abortR
              split <;> rfl
            · rfl
/-- The offers that were taken, behind one more move. -/
def offMore (of : List (Int × Int)) (m1 c m2 m3 : Int) : List (Int × Int) := if m1 = 1 ∧ c = 0 then of ++ [(m2, m3)] else of
theorem AccI.move {gs : List PNode} {src : List Int} {of : List (Int × Int)} {s : PP} (hG : GoodE gs) (hR : Ordd gs (orderP gs)) (hsrc : ∀ x ∈ src, ∃ j : Nat, j < gs.length ∧ x = (j : Int)) (h : AccI gs of s) (hI : InvS gs s) (hn : s.bx.length = gs.length) (m1 m2 m3 : Int) :
    AccI gs (offMore of m1 (doR gs src s m1 m2 m3).1 m2 m3) (doR gs src s m1 m2 m3).2 := by
  have hit := it_move (gs := gs) (src := src) s m1 m2 m3
  have hl := lost_move (src := src) h.lost hI hn m1 m2 m3
  have hacc := fun (ψ : Int × Int → Int) (i : Int) => acc_move (φ := fun k v => sumI ψ (meanG gs k v)) (ψ := ψ) (i := i) hG (fun k v hk => mean_weight hR hG.edg ψ hk v) hsrc hI hn m1 m2 m3
  unfold offMore
  by_cases hc : m1 = 1 ∧ (doR gs src s m1 m2 m3).1 = 0
  · rw [if_pos hc] at hit ⊢
    have e : doR gs src s m1 m2 m3 = offerR gs src s m2 m3 := by rw [doR, if_pos hc.1]
    have hc2 : (offerR gs src s m2 m3).1 = 0 := by rw [← e]; exact hc.2
    obtain ⟨h1, h2, _⟩ := took_it hc2
    refine ⟨by rw [hit, h.it, List.length_append, List.length_singleton]; omega, fun p hp => ?_, fun ψ i => ?_, hl⟩
    · rcases List.mem_append.1 hp with hp | hp
      · exact h.off p hp
      · rw [List.mem_singleton.1 hp]; exact ⟨hsrc m2 (by simpa [hasB] using h1), h2⟩
    · rw [hacc, if_pos hc, h.acc, h.it, List.length_append, List.length_singleton]
      by_cases hi : 0 ≤ i ∧ i < (of.length : Int)
      · rw [if_pos hi, if_neg (by omega), if_pos (by omega), el_app_left (by omega)]; omega
      · rw [if_neg hi]
        by_cases hi2 : (of.length : Int) = i
        · rw [if_pos hi2, if_pos (by omega)]
          have e2 : i.toNat = of.length + 0 := by omega
          rw [e2, el_app_right, el_zero]
          dsimp only
          omega
        · rw [if_neg hi2, if_neg (by omega)]; omega
  · rw [if_neg hc] at hit ⊢
    refine ⟨hit.trans h.it, h.off, fun ψ i => ?_, hl⟩
    rw [hacc, if_neg hc, h.acc]; omega
theorem pp0_acc (gs : List PNode) : AccI gs [] (pp0 gs.length) := by
  have e : ∀ k, el (List.replicate gs.length ([] : List (Int × Int × Int))) k = [] := fun k => by
    by_cases hk : k < gs.length
    · simp [el, hk]
    · simp [el, hk]; rfl
  refine ⟨rfl, (fun p hp => by cases hp), (fun ψ i => ?_), (fun e he => by cases he)⟩
  rw [if_neg (by simp)]
  show 0 + sumI (fun k => boxW _ i k (el (List.replicate gs.length ([] : List (Int × Int × Int))) k)) _ + 0 = 0
  rw [sumI_congr (g := fun _ => 0) (fun k _ => by show boxW _ i k (el (List.replicate gs.length ([] : List (Int × Int × Int))) k) = 0; rw [e]; rfl), sumI_zero]
  rfl
/-- The offers that were taken among the first moves: where and what. -/
def offQ (ms : List (Int × Int × Int)) (cs : List Int) : Nat → List (Int × Int)
  | 0 => []
  | m + 1 => offMore (offQ ms cs m) (el ms m).1 (el cs m) (el ms m).2.1 (el ms m).2.2
theorem playP_code {gs : List PNode} {src : List Int} (l : List (Int × Int × Int)) (s : PP) {n : Nat} : ∀ {k : Nat}, n < k → k ≤ l.length → el (playP gs src (l.take k) s).1 n = (doR gs src (playP gs src (l.take n) s).2 (el l n).1 (el l n).2.1 (el l n).2.2).1
  | 0, h, _ => by omega
  | k + 1, h, hk => by
    rw [take_succ_el (by omega), playP_snoc]
    dsimp only
    have hl := playP_len gs src l s k (by omega)
    by_cases e : n = k
    · subst e
      have h0 := el_app_right (playP gs src (l.take n) s).1 [(doR gs src (playP gs src (l.take n) s).2 (el l n).1 (el l n).2.1 (el l n).2.2).1] 0
      rw [hl, Nat.add_zero, el_zero] at h0
      exact h0
    · rw [el_app_left (by omega)]
      exact playP_code l s (by omega) (by omega)
theorem playP_acc {gs : List PNode} {src : List Int} (hG : GoodE gs) (hR : Ordd gs (orderP gs)) (hsrc : ∀ x ∈ src, ∃ j : Nat, j < gs.length ∧ x = (j : Int)) (l : List (Int × Int × Int)) : ∀ n, n ≤ l.length → AccI gs (offQ l (playP gs src l (pp0 gs.length)).1 n) (playP gs src (l.take n) (pp0 gs.length)).2
  | 0, _ => pp0_acc gs
  | n + 1, hn => by
    have hc := playP_code (gs := gs) (src := src) l (pp0 gs.length) (n := n) (k := l.length) (by omega) (Nat.le_refl _)
    rw [List.take_length] at hc
    rw [take_succ_el (by omega), playP_snoc, offQ, hc]
    exact (playP_acc hG hR hsrc l n (by omega)).move hG hR hsrc (playP_inv src hG l (pp0_inv hG) (pp0_bnd _) n (by omega)) ((playP_bnd src hG.edg l (pp0_bnd _) n (by omega)).len) _ _ _
section
variable {E : Nat → Int → List (Int × Int)} {i : Int}
/-- The account of an item: what was emitted, then what those that live and those that were lost mean by E. -/
def emL (i : Int) (em : List (Int × Int × Int)) : List (Int × Int) := em.flatMap fun e => if e.1 = i then [(e.2.1, e.2.2)] else []
def boxL (E : Nat → Int → List (Int × Int)) (i : Int) (k : Nat) (l : List (Int × Int × Int)) : List (Int × Int) := l.flatMap fun t => if t.1 = i then E k t.2.1 else []
def bxsL (E : Nat → Int → List (Int × Int)) (i : Int) (bx : List (List (Int × Int × Int))) (n : Nat) : List (Int × Int) := (List.range n).flatMap fun k => boxL E i k (el bx k)
def faL (E : Nat → Int → List (Int × Int)) (i : Int) (fa : List (Int × Int × Int × Int)) : List (Int × Int) := fa.flatMap fun e => if e.1 = i then E e.2.1.toNat e.2.2.1 else []
def accL (E : Nat → Int → List (Int × Int)) (i : Int) (s : PP) : List (Int × Int) := emL i s.em ++ bxsL E i s.bx s.bx.length ++ faL E i s.fa
theorem accL_sum (ψ : Int × Int → Int) (s : PP) : sumI ψ (accL E i s) = accW (fun k v => sumI ψ (E k v)) ψ i s := by
  unfold accL accW
  rw [sumI_app, sumI_app]
  congr 1
  · congr 1
    · rw [emL, sumI_flat]
      refine sumI_congr fun e _ => ?_
      split
      · exact sumI_one _ _
      · rfl
    · rw [bxsL, sumI_flat]
      refine sumI_congr fun k _ => ?_
      rw [boxL, sumI_flat]
      refine sumI_congr fun t _ => ?_
      show _ = if t.1 = i then sumI ψ (E k t.2.1) else 0
      split <;> rfl
  · rw [faL, sumI_flat]
    refine sumI_congr fun e _ => ?_
    split <;> rfl
theorem accW_congr {φ φ' : Nat → Int → Int} {ψ : Int × Int → Int} {gs : List PNode} {s : PP} (hn : s.bx.length = gs.length) (hl : LostI gs s.fa) (h : ∀ k v, k < gs.length → φ k v = φ' k v) : accW φ ψ i s = accW φ' ψ i s := by
  unfold accW
  congr 1
  · congr 1
    refine sumI_congr fun k hk => ?_
    have hk2 := List.mem_range.1 hk
    refine sumI_congr fun t _ => ?_
    unfold tokW
    rw [h k _ (by omega)]
  · refine sumI_congr fun e he => ?_
    obtain ⟨⟨j, hj, e2⟩, _⟩ := hl e he
    rw [e2, Int.toNat_natCast, h j _ hj]
end
/-- The account is what the item means, whichever way it is told. -/
theorem account_perm {gs : List PNode} {of : List (Int × Int)} {s : PP} (h : AccI gs of s) (hn : s.bx.length = gs.length) {E : Nat → Int → List (Int × Int)} (hE : ∀ ψ k v, k < gs.length → sumI ψ (E k v) = sumI ψ (meanG gs k v)) {i : Int} (h0 : 0 ≤ i) (h1 : i < s.it) :
    (accL E i s).Perm (meanG gs (el of i.toNat).1.toNat (el of i.toNat).2) := perm_of_sums fun ψ => by
  rw [accL_sum, accW_congr hn h.lost (fun k v hk => hE ψ k v hk), h.acc, if_pos ⟨h0, by rw [← h.it]; exact h1⟩]
theorem account_len {gs : List PNode} (hG : GoodE gs) (hR : Ordd gs (orderP gs)) (hw : widP gs ≤ 400) {of : List (Int × Int)} {s : PP} (h : AccI gs of s) (hn : s.bx.length = gs.length) {E : Nat → Int → List (Int × Int)} (hE : ∀ ψ k v, k < gs.length → sumI ψ (E k v) = sumI ψ (meanG gs k v)) {i : Int} (h0 : 0 ≤ i) (h1 : i < s.it) :
    (accL E i s).length ≤ 400 := by
  have hp := (account_perm h hn hE h0 h1).length_eq
  have hit := h.it
  have hm : el of i.toNat ∈ of := el_mem (by omega)
  obtain ⟨⟨j, hj, e⟩, _⟩ := h.off _ hm
  rw [e, Int.toNat_natCast] at hp
  have h2 := mean_len hR hG.edg hG.st _ j (el of i.toNat).2 hj (Nat.le_refl _)
  have h3 := wdP_le (gs := gs) hj
  omega
end
section
open Go.RowKit

/-- A row of Emit. -/
def kE : Kind (Int × Int) := ⟨101, 49, 2, fun t => [.int .i64 t.1, .int .i64 t.2], fun _ => rfl, fun a v h => by simp at h; rcases h with rfl | rfl <;> rfl⟩
theorem Tryz.info101 : (Tryz.prog.info? 101).map (fun i => (i.zero, i.size, i.bytes)) = some (some (.agg #[.int .i64 0, .int .i64 0]), 2, 16) := by kernel_rfl
theorem kE_ok : kE.Ok := kind_ok (K := kE) Tryz.underlying49 Tryz.info101 rfl (by decide) (by decide)
theorem kE_at {n : Nat} {W : World} {ao : Option Addr} {ts : List (Int × Int)} (h : kE.In n W ao ts) {k : Nat} (hk : k < ts.length) :
    ∃ b off, ao = some ⟨b, off, none⟩ ∧ b < n ∧ ∀ j, j < ts.length → W.cell? ⟨b, off + j * 2, none⟩ = some (.int .i64 (el ts j).1) ∧ W.cell? ⟨b, off + j * 2 + 1, none⟩ = some (.int .i64 (el ts j).2) := by
  obtain ⟨b, off, e, hb, hc⟩ := h.pos hk
  exact ⟨b, off, e, hb, fun j hj => ⟨hc j hj 0 (by decide), hc j hj 1 (by decide)⟩⟩
theorem kE_one {n : Nat} {W : World} {p : Nat} {t : Int × Int} (hp : p < n) (h0 : W.cell? ⟨p, 0, none⟩ = some (.int .i64 t.1)) (h1 : W.cell? ⟨p, 1, none⟩ = some (.int .i64 t.2)) : kE.In n W (some ⟨p, 0, none⟩) [t] := by
  refine Kind.In.mk1 hp fun i hi => ?_
  rw [Nat.zero_add]
  have hi' : i < 2 := hi
  rcases (show i = 0 ∨ i = 1 from by omega) with rfl | rfl
  · exact h0
  · exact h1
set_option maxHeartbeats 1000000 in
theorem eqEmit_same (x1 : Int) (x2 : Int) (w : World) :
    Calls Tryz.prog 60 #[.agg #[.int .i64 x1, .int .i64 x2], .agg #[.int .i64 x1, .int .i64 x2]] w fun e w' => e = .returned (.bool true) ∧ Below w.heap.size w w' := by
  have h1 : (x1 != x1) = false := by simp
  have h2 : (x2 != x2) = false := by simp
  go_enter Tryz.func60, Tryz.ntmps60
  go_wp2
  go_ret
  exact ⟨rfl, below2 _ _ _⟩
set_option maxHeartbeats 1000000 in
theorem eqEmitS_same (ao bo : Option Addr) (cap cap' : Nat) (ts : List (Int × Int)) (w : World) (hl : ts.length ≤ 1048576) (hz : kE.In w.heap.size w ao ts) (hz' : kE.In w.heap.size w bo ts) :
    Calls Tryz.prog 28 #[.slice ao ts.length cap, .slice bo ts.length cap'] w fun e w' => e = .returned (.bool true) ∧ Below w.heap.size w w' := by
  have hne : ((ts.length : Int) != (ts.length : Int)) = false := by simp
  go_enter Tryz.func28, Tryz.ntmps28
  go_wp2
  go_loopw [5] (fun i wr => ∃ k : Nat, k ≤ ts.length ∧ i = .int .i64 k ∧ Below w.heap.size w wr) (fun i _ => ts.length - (intOf i).toNat)
  case atStart => exact ⟨0, Nat.zero_le _, rfl, Below.refl _ _⟩
  case round =>
    obtain ⟨k, hk, rfl, hnx⟩ := hrel
    by_cases hlt : k < ts.length
    · obtain ⟨b, off, rfl, hb, hc⟩ := kE_at hz hlt
      obtain ⟨b', off', rfl, hb', hc'⟩ := kE_at hz' hlt
      have hck1 := (hnx.cell (p := ⟨b, off + k * 2, none⟩) hb).trans (hc k hlt).1
      have hck1' := (hnx.cell (p := ⟨b', off' + k * 2, none⟩) hb').trans (hc' k hlt).1
      have hck2 := (hnx.cell (p := ⟨b, off + k * 2 + 1, none⟩) hb).trans (hc k hlt).2
      have hck2' := (hnx.cell (p := ⟨b', off' + k * 2 + 1, none⟩) hb').trans (hc' k hlt).2
      clear hc hz hc' hz'
      obtain ⟨⟨x1, x2⟩, ex⟩ : ∃ v, v = el ts k := ⟨_, rfl⟩
      rw [← ex] at hck1 hck1' hck2 hck2'
      clear ex
      dsimp only at hck1 hck1' hck2 hck2'
      go_wp2
      go_region_with (go_at_call 60; refine (eqEmit_same x1 x2 _).mono ?_; rintro e w1 ⟨rfl, hb1⟩)
      all_goals go_wp2
      all_goals
        have hb2 : Below wr.drew.heap.size wr.drew w1 := by assumption
        have hnb : Below w.heap.size w w1 := hnx.drew.trans (hb2.mono hnx.size)
        go_roundw
        case rel => exact ⟨k + 1, by omega, by go_num, hnb⟩
        case measure => simp [intOf]; omega
    · obtain rfl : k = ts.length := by omega
      go_wp2
      go_ret
      exact ⟨rfl, hnx⟩
/-- The marks of a row of Emit. -/
def markE (k : Int) (n : Nat) : List (Int × Int) := (List.range n).map (fun i : Nat => (k + 2 * (i : Int), k + 2 * (i : Int) + 1))
theorem markE_len (k : Int) (n : Nat) : (markE k n).length = n := by simp [markE]
theorem markE_at (k : Int) (n j : Nat) (h : j < n) : el (markE k n) j = (k + 2 * (j : Int), k + 2 * (j : Int) + 1) := by simp [markE, el, h]
set_option maxHeartbeats 2000000 in
theorem markEmitS_any (lo hi : Nat) (t9 : Option Addr) (tc : Nat) (ts : List (Int × Int)) (k0 : Int) (w : World) (hl : ts.length ≤ 2097152) (hk0 : 0 ≤ k0) (hk1 : k0 ≤ 16777216) (hF : kE.Fresh lo hi w t9 tc ts) :
    Calls Tryz.prog 29 #[.slice t9 ts.length tc, .int .i64 k0] w fun e w' => e = .returned (.int .i64 (k0 + 2 * ts.length)) ∧ kE.Fresh lo hi w' t9 tc (markE k0 ts.length) ∧ OnlyAt (eff t9 ts.length) w w' := by
  rcases Nat.eq_zero_or_pos ts.length with h0 | h0
  · obtain rfl : ts = [] := List.length_eq_zero_iff.1 h0
    go_enter Tryz.func29, Tryz.ntmps29
    go_wp2
    go_loop [1, 5] (fun v i => v = .int .i64 k0 ∧ i = .int .i64 0) (fun _ _ => 0)
    case atStart => exact ⟨rfl, rfl⟩
    case round =>
      obtain ⟨rfl, rfl⟩ := hrel
      go_wp2
      go_ret
      exact ⟨by simp, .inl (by simp [markE]), OnlyAt.refl _ _⟩
  · rw [eff_pos h0]
    obtain ⟨g, rfl, _, hg, _, ho⟩ := hF.at h0
    have HO : Hid (w.ownsRow lo 101 2 (.slice (some ⟨g, 0, none⟩) ts.length tc) ts.length (kE.flat ts)) := ho
    clear ho
    go_enter Tryz.func29, Tryz.ntmps29
    go_wp2
    go_loopw [1, 5] (fun v i wr => ∃ (k : Nat) (xs : List Value), k ≤ ts.length ∧ i = .int .i64 k ∧ v = .int .i64 (k0 + 2 * k) ∧ Hid (wr.ownsRow lo 101 2 (.slice (some ⟨g, 0, none⟩) ts.length tc) ts.length xs ∧ ∀ j : Nat, j < k → xs[j * 2]? = some (.int .i64 (k0 + 2 * j)) ∧ xs[j * 2 + 1]? = some (.int .i64 (k0 + 2 * j + 1))) ∧ OnlyAt (some ⟨g, 0, none⟩) w wr) (fun _ i _ => ts.length - (intOf i).toNat)
    case atStart => exact ⟨0, _, Nat.zero_le _, rfl, by simp, ⟨HO.out, fun j hj => by omega⟩, OnlyAt.refl _ _⟩
    case round =>
      obtain ⟨k, xs, hk, rfl, rfl, ho, hnx⟩ := hrel
      by_cases hlt : k < ts.length
      · have hxl : k * 2 + 1 < xs.length := by rw [ho.out.1.1]; omega
        have hst1 : wr.cell? ⟨g, k * 2, none⟩ = some xs[k * 2] := (ho.out.1.cellAt (k * 2) (by omega)).trans (by simp)
        have hfr1 : wr.frozen? ⟨g, k * 2, none⟩ = false := ho.out.1.frozenAt (k * 2)
        have hst2 : wr.cell? ⟨g, k * 2 + 1, none⟩ = some xs[k * 2 + 1] := (ho.out.1.cellAt (k * 2 + 1) (by omega)).trans (by simp)
        have hfr2 : wr.frozen? ⟨g, k * 2 + 1, none⟩ = false := ho.out.1.frozenAt (k * 2 + 1)
        go_wp2
        go_roundw
        case rel => exact ⟨k + 1, ((xs.set (k * 2) (.int .i64 (k0 + 2 * k))).set (k * 2 + 1) (.int .i64 (k0 + 2 * k + 1))), by omega, by go_num, by go_num, ⟨by
            have h := ((World.ownsRow.stored ho.out.1 (k * 2) (.int .i64 (k0 + 2 * k))).1.stored (k * 2 + 1) (.int .i64 (k0 + 2 * k + 1))).1
            simpa [Int.add_assoc] using h, fun j hj => by
          rcases Nat.lt_succ_iff_lt_or_eq.1 hj with h | rfl
          · refine ⟨?_, ?_⟩
            · rw [set_far (by omega), set_far (by omega)]; exact (ho.out.2 j h).1
            · rw [set_far (by omega), set_far (by omega)]; exact (ho.out.2 j h).2
          · refine ⟨?_, ?_⟩
            · rw [set_far (by omega), set_at (by first | omega | (simp only [List.length_set]; omega))]
            · rw [set_at (by first | omega | (simp only [List.length_set]; omega))]⟩, ((hnx.trans (OnlyAt.set g (k * 2) _ _)).trans (OnlyAt.set g (k * 2 + 1) _ _))⟩
        case measure => simp [intOf]; omega
      · obtain rfl : k = ts.length := by omega
        have hxs : xs = kE.flat (markE k0 ts.length) := by
          refine kE.flat_of xs _ (by rw [markE_len]; exact ho.out.1.1) fun j hj i hi => ?_
          rw [markE_len] at hj
          rw [markE_at _ _ _ hj]
          have hi' : i < 2 := hi
          rcases (show i = 0 ∨ i = 1 from by omega) with rfl | rfl
          · exact (ho.out.2 j hj).1
          · exact (ho.out.2 j hj).2
        subst hxs
        go_wp2
        go_ret
        refine ⟨rfl, .inr ⟨g, rfl, hg, ?_⟩, hnx⟩
        rw [markE_len]; exact ho.out.1
set_option maxHeartbeats 1000000 in
theorem heldEmitS_any (t9 : Option Addr) (tc : Nat) (n : Nat) (k0 : Int) (w : World) (hl : n ≤ 2097152) (hk0 : 0 ≤ k0) (hk1 : k0 ≤ 16777216) (hF : kE.In w.heap.size w t9 (markE k0 n)) :
    Calls Tryz.prog 30 #[.slice t9 n tc, .int .i64 k0] w fun e w' => e = .returned (.int .i64 (k0 + 2 * n)) ∧ w' = w := by
  go_enter Tryz.func30, Tryz.ntmps30
  go_wp2
  go_loop [1, 5] (fun v i => ∃ k : Nat, k ≤ n ∧ i = .int .i64 k ∧ v = .int .i64 (k0 + 2 * k)) (fun _ i => n - (intOf i).toNat)
  case atStart => exact ⟨0, Nat.zero_le _, rfl, by simp⟩
  case round =>
    obtain ⟨k, hk, rfl, rfl⟩ := hrel
    by_cases hlt : k < n
    · obtain ⟨b, off, rfl, hb, hc⟩ := kE_at hF (k := k) (by rw [markE_len]; exact hlt)
      have hck := hc k (by rw [markE_len]; exact hlt)
      rw [markE_at _ _ _ hlt] at hck
      obtain ⟨hck1, hck2⟩ := hck
      clear hc hF
      have hne0_0 : (k0 + 2 * (k : Int) != k0 + 2 * (k : Int)) = false := by simp <;> omega
      have hne1_0 : (k0 + 2 * (k : Int) + 1 != k0 + 2 * (k : Int) + 1) = false := by simp <;> omega
      dsimp only at hck1 hck2
      go_wp2
      go_round
      case rel => exact ⟨k + 1, by omega, by go_num, by go_num⟩
      case measure => simp [intOf]; omega
    · obtain rfl : k = n := by omega
      go_wp2
      go_ret
      exact ⟨rfl, rfl⟩
set_option maxHeartbeats 1000000 in
theorem copyListE_any (ao : Option Addr) (cap : Nat) (ts : List (Int × Int)) (w : World) (hl : ts.length ≤ 1048576) (hz : kE.In w.heap.size w ao ts) :
    Calls Tryz.prog 107 #[.slice ao ts.length cap] w fun e w' => (∃ t9, e = .returned (.slice t9 ts.length ts.length) ∧ kE.Fresh w.heap.size w'.heap.size w' t9 ts.length ts) ∧ Below w.heap.size w w' := by
  by_cases h0 : ts.length = 0
  · obtain rfl : ts = [] := List.length_eq_zero_iff.1 h0
    go_enter Tryz.func107, Tryz.ntmps107
    go_wp2
    go_ret
    exact ⟨⟨none, rfl, .inl rfl⟩, Below.refl _ _⟩
  · have h0' : ((ts.length : Int) == 0) = false := (len1 h0).1
    obtain ⟨i0, z0, hi, hz0, hz1, hz2, hz3⟩ := kE_ok.info
    have HZ : Hid (kE.In w.heap.size w ao ts) := hz
    have hby : i0.bytes * ts.length ≤ 281474976710656 := by have : i0.bytes * ts.length ≤ 4096 * 1048576 := Nat.mul_le_mul hz3 hl; omega
    clear hz
    go_enter Tryz.func107, Tryz.ntmps107
    go_wp2_with (at_make; refine wpList_make_full _ rfl _ _ kE.st rfl w.heap.size kE.ty i0 z0 kE.sz kE_ok.und hi hz0 hz1 .i64 .i64 _ _ ts.length rfl rfl rfl rfl hby (by unfold maxLen; omega) (Nat.le_refl _) ?_; intro w1 hown hgrow; obtain ⟨cur, hcur, hcl, _⟩ := owns_open hown; have hB1 : Below w.heap.size w w1 := (Below.refl _ _).grown hgrow (Nat.le_refl _) (fun k e => by cases e); obtain ⟨w2, hrun, hh, hO⟩ := Kind.run_copy (n := ts.length) (cap := cap) (ty := 3) kE_ok hcur hcl (Nat.le_refl _) HZ.out hB1; have hB2 : Below w.heap.size w w2 := hB1.trans (hO.below (Nat.le_refl _)); have HH := show Hid (_ ∧ _) from And.intro hcl hh; unfold kE at hrun; dsimp only at hrun; clear hown hgrow hcur hh hO hcl)
    go_ret
    have e : cur.drop (ts.length * kE.sz) = [] := List.drop_eq_nil_of_le (by rw [HH.out.1]; exact Nat.le_refl _)
    have hh := HH.out.2
    rw [e, List.append_nil] at hh
    exact ⟨⟨_, rfl, .inr ⟨w.heap.size, rfl, (Array.getElem?_eq_some_iff.1 hh).1, Kind.own_of_heap hh rfl (Nat.le_refl _) (by omega)⟩⟩, hB2⟩
end
section
open Go.RowKit

/-- What a stage lets through. -/
def outS (k a b v : Int) : List Int := if (appSt k a b v).2 = true then [v] else (appSt k a b v).1
theorem outM_S (gs : List PNode) (k : Nat) (v : Int) : outM gs k v = outS (el gs k).2.1 (el gs k).2.2.1 (el gs k).2.2.2.1 v := rfl
/-- A row of ints of its own, or nil, is answered. -/
def AnsJ (w : World) (q : List Int) (e : Ending) (w' : World) : Prop := (∃ go qc, e = .returned (.slice go q.length qc) ∧ (go = none → qc = 0) ∧ kI.Fresh w.heap.size w'.heap.size w' go qc q) ∧ Below w.heap.size w w'
set_option maxHeartbeats 1000000 in
theorem l11Out_is (k a b v : Int) (w : World) (hg : goodSt k a b = true) (hv : valB v = true) :
    Calls Tryz.prog 80 #[.agg #[.int .i64 k, .int .i64 a, .int .i64 b], .int .i64 v] w (AnsJ w (outS k a b v)) := by
  have hB0 := below1 w (.cells #[.int .i64 k, .int .i64 a, .int .i64 b] 69)
  have HA := hid (l7Apply_any k a b v (w.alloc (.cells #[.int .i64 k, .int .i64 a, .int .i64 b] 69)) hg hv)
  unfold outS
  generalize appSt k a b v = r at HA
  obtain ⟨l, f⟩ := r
  dsimp only at HA ⊢
  clear hg hv
  cases f
  · rw [if_neg (by simp)]
    go_enter Tryz.func80, Tryz.ntmps80
    go_wp2_with fail
    refine HA.out.mono ?_
    rintro e w1 ⟨⟨o, c, rfl, hno, hF⟩, hb1⟩
    have hB1 := hB0.trans (hb1.mono hB0.size)
    dsimp only at hF ⊢
    have HF := hid (hF.wide hB0.size (Nat.le_refl _))
    clear hF
    go_wp2
    go_ret
    exact ⟨⟨o, c, rfl, hno, HF.out⟩, hB1⟩
  · rw [if_pos rfl]
    go_enter Tryz.func80, Tryz.ntmps80
    go_wp2_with fail
    refine HA.out.mono ?_
    rintro e w1 ⟨⟨o, c, rfl, hno, hF⟩, hb1⟩
    have hB1 := hB0.trans (hb1.mono hB0.size)
    dsimp only at hF ⊢
    clear hF
    go_wp2
    go_ret
    exact ⟨⟨_, _, rfl, (fun h => by cases h), fresh_one hB1.size⟩, Below.allocS hB1 _⟩
set_option maxHeartbeats 1000000 in
theorem letThrough_is (k a b v : Int) (w : World) (hg : goodSt k a b = true) (hv : valB v = true) :
    Calls Tryz.prog 111 #[.agg #[.int .i64 k, .int .i64 a, .int .i64 b], .int .i64 v] w (AnsJ w (outS k a b v)) := by
  have hB0 := below1 w (.cells #[.int .i64 k, .int .i64 a, .int .i64 b] 69)
  have HA := hid (implApp_any k a b v (w.alloc (.cells #[.int .i64 k, .int .i64 a, .int .i64 b] 69)))
  rw [appR_yes hg hv] at HA
  unfold outS
  generalize appSt k a b v = r at HA
  obtain ⟨l, f⟩ := r
  dsimp only at HA ⊢
  clear hg hv
  cases f
  · rw [if_neg (by simp)]
    go_enter Tryz.func111, Tryz.ntmps111
    go_wp2_with fail
    refine HA.out.mono ?_
    rintro e w1 ⟨⟨o, c, rfl, hno, hF⟩, hb1⟩
    have hB1 := hB0.trans (hb1.mono hB0.size)
    dsimp only at hF ⊢
    have HF := hid (hF.wide hB0.size (Nat.le_refl _))
    clear hF
    go_wp2
    go_ret
    exact ⟨⟨o, c, rfl, hno, HF.out⟩, hB1⟩
  · rw [if_pos rfl]
    go_enter Tryz.func111, Tryz.ntmps111
    go_wp2_with fail
    refine HA.out.mono ?_
    rintro e w1 ⟨⟨o, c, rfl, hno, hF⟩, hb1⟩
    have hB1 := hB0.trans (hb1.mono hB0.size)
    dsimp only at hF ⊢
    clear hF
    go_wp2
    go_ret
    exact ⟨⟨_, _, rfl, (fun h => by cases h), fresh_one hB1.size⟩, Below.allocS hB1 _⟩
/-- What was there and what came to it; or a part of it that is too much already. -/
def Tr (out m r : List (Int × Int)) : Prop := r = out ++ m ∨ (400 < r.length ∧ r.length ≤ out.length + m.length)
theorem Tr.trans {out m1 r1 m2 r2 : List (Int × Int)} (h1 : Tr out m1 r1) (h2 : Tr r1 m2 r2) : Tr out (m1 ++ m2) r2 := by
  rcases h1 with rfl | ⟨h1, h1'⟩
  · rcases h2 with rfl | ⟨h2, h2'⟩
    · exact .inl (by simp)
    · exact .inr ⟨h2, by simp at h2' ⊢; omega⟩
  · rcases h2 with rfl | ⟨h2, h2'⟩
    · exact .inr ⟨by simp; omega, by simp; omega⟩
    · exact .inr ⟨h2, by simp; omega⟩
theorem Tr.refl (out : List (Int × Int)) : Tr out [] out := .inl (by simp)
theorem Tr.stop {out : List (Int × Int)} (h : 400 < out.length) (m : List (Int × Int)) : Tr out m out := .inr ⟨h, by omega⟩
theorem Tr.len {out m r : List (Int × Int)} (h : Tr out m r) : r.length ≤ out.length + m.length := by
  rcases h with rfl | ⟨_, h⟩
  · simp
  · exact h
theorem emits_mk {n : Nat} {W : World} {p : Nat} {x y : Int} (hp : p < n) (h0 : W.cell? ⟨p, 0, none⟩ = some (.int .i64 x)) (h1 : W.cell? ⟨p, 1, none⟩ = some (.int .i64 y)) : kE.In n W (some ⟨p, 0, none⟩) [(x, y)] := by
  refine .inr ⟨p, 0, rfl, hp, fun j hj i hi => ?_⟩
  have hj0 : j = 0 := by simp at hj; exact hj
  subst hj0
  have hi2 : i < 2 := hi
  rcases (show i = 0 ∨ i = 1 from by omega) with rfl | rfl
  · simpa [kE, el] using h0
  · simpa [kE, el] using h1
end
section
open Go.RowKit

/-- How a graph is read. -/
def NV (n : Nat) (W : World) (ao : Option Addr) (gs : List PNode) : Prop := ∀ k, k < gs.length → ∃ b off nxo nxc, ao = some ⟨b, off, none⟩ ∧ b < n ∧ W.cell? ⟨b, off + k * 6 + 5, none⟩ = some (.slice nxo (nxP gs k).length nxc) ∧ kI.In n W nxo (nxP gs k) ∧ W.cell? ⟨b, off + k * 6 + 1, none⟩ = some (.int .i64 (el gs k).2.1) ∧ W.cell? ⟨b, off + k * 6 + 2, none⟩ = some (.int .i64 (el gs k).2.2.1) ∧ W.cell? ⟨b, off + k * 6 + 3, none⟩ = some (.int .i64 (el gs k).2.2.2.1)
theorem nv_of {n : Nat} {W : World} {ao : Option Addr} {ts : List LNode} (hz : DIn dNode n W ao ts) : NV n W ao (ts.map valNode) := fun k hk => by
  rw [val_len] at hk
  obtain ⟨b, off, e, hb, hc⟩ := hNode_at hz.1 hk
  have d := hc k hk
  have hin := hz.2 k hk
  have hev : nxP (ts.map valNode) k = (el ts k).2.2.2.2.2.2.2 := by rw [nxP, el_val hk]; rfl
  rw [hev, el_val hk]
  exact ⟨b, off, _, _, e, hb, d.2.2.2.2.2, hin, d.2.1, d.2.2.1, d.2.2.2.1⟩
theorem NV.below {n : Nat} {W W' : World} {ao : Option Addr} {gs : List PNode} (h : NV n W ao gs) (hb : Below n W W') : NV n W' ao gs := fun k hk => by
  obtain ⟨b, off, nxo, nxc, e, hbn, c5, hi, c1, c2, c3⟩ := h k hk
  refine ⟨b, off, nxo, nxc, e, hbn, (hb.cell (p := ⟨b, _, none⟩) hbn).trans c5, ?_, (hb.cell (p := ⟨b, _, none⟩) hbn).trans c1, (hb.cell (p := ⟨b, _, none⟩) hbn).trans c2, (hb.cell (p := ⟨b, _, none⟩) hbn).trans c3⟩
  rcases hi with h | ⟨b', o', e', hb', hc'⟩
  · exact .inl h
  · exact .inr ⟨b', o', e', hb', fun j hj i hi => (hb.cell (p := ⟨b', _, none⟩) hb').trans (hc' j hj i hi)⟩
/-- A row grew: it stays in its block, or lies in a new one. -/
structure GrM (w w' : World) (v v' : Value) : Prop where
  g : w.grownBy w' v.ownBlock
  n : ∀ b, v'.ownBlock = some b → v.ownBlock = some b ∨ w.heap.size ≤ b
theorem GrM.refl (w : World) (v : Value) : GrM w w v v := ⟨World.grownBy.refl _ _, fun _ h => .inl h⟩
theorem GrM.trans {w w1 w2 : World} {v v1 v2 : Value} (h1 : GrM w w1 v v1) (h2 : GrM w1 w2 v1 v2) : GrM w w2 v v2 := by
  refine ⟨⟨h2.g.os.trans h1.g.os, h2.g.tape.trans h1.g.tape, h2.g.output.trans h1.g.output, Nat.le_trans h1.g.size h2.g.size, fun b hb hn => ?_⟩, fun b hb => ?_⟩
  · have e1 := h1.g.block b hb hn
    refine (h2.g.block b (Nat.lt_of_lt_of_le hb h1.g.size) fun h => ?_).trans e1
    rcases h1.n b h.symm with h | h
    · exact hn h.symm
    · omega
  · rcases h2.n b hb with h | h
    · exact h1.n b h
    · exact .inr (Nat.le_trans h1.g.size h)
theorem GrM.of_below {w w' : World} (h : Below w.heap.size w w') (v : Value) : GrM w w' v v := ⟨⟨h.os, h.tape, h.output, h.size, fun b hb _ => h.block b hb⟩, fun _ h => .inl h⟩
theorem own_ltG {α : Type} {K : Kind α} {lo : Nat} {W : World} {v : Value} {xs : List α} (h : K.Own lo W v xs) {g : Nat} (hg : v.ownBlock = some g) : g < W.heap.size := by
  rcases h.2 with ⟨e, _⟩ | ⟨g', cap', cur, e, hb, hh, r⟩
  · rw [e] at hg; simp [Value.ownBlock] at hg
  · rw [e] at hg
    simp [Value.ownBlock] at hg
    subst hg
    exact (Array.getElem?_eq_some_iff.1 hh).1
theorem own_sliceG {α : Type} {K : Kind α} {lo : Nat} {W : World} {v : Value} {xs : List α} (h : K.Own lo W v xs) : ∃ go qc, v = .slice go xs.length qc := by
  obtain ⟨go, qc, e, _⟩ := h.fresh
  exact ⟨go, qc, e⟩
/-- What comes of one value behind its node. -/
def thenM (gs : List PNode) (k : Nat) (x : Int) : List (Int × Int) := if (nxP gs k).length = 0 then [((k : Int), x)] else (nxP gs k).flatMap fun y => meanG gs y.toNat x
theorem meanG_then {gs : List PNode} {R : List Int} (h : Ordd gs R) (hE : EdgesIn gs) {k : Nat} (hk : k < gs.length) (v : Int) : meanG gs k v = (outM gs k v).flatMap (thenM gs k) := meanG_eq h hE hk v
theorem flat_take {α β : Type} [Inhabited α] (f : α → List β) {l : List α} {m : Nat} (hm : m < l.length) : (l.take (m + 1)).flatMap f = (l.take m).flatMap f ++ f (el l m) := by
  rw [List.take_add_one, List.flatMap_append, List.getElem?_eq_getElem hm, el_at hm]
  simp
theorem flat_le {α β : Type} (f : α → List β) (l : List α) (m : Nat) : ((l.take m).flatMap f).length ≤ (l.flatMap f).length := by
  conv => rhs; rw [← List.take_append_drop m l, List.flatMap_append, List.length_append]
  omega
theorem Tr.over {out m m2 r : List (Int × Int)} (h : Tr out m r) (hr : 400 < r.length) (hm : m.length ≤ m2.length) : Tr out m2 r := .inr ⟨hr, by have := h.len; omega⟩
/-- What l11Mean answers. -/
def AnsM (lo : Nat) (w : World) (val : Value) (out m : List (Int × Int)) (e : Ending) (w' : World) : Prop := ∃ (v' : Value) (r : List (Int × Int)), e = .returned v' ∧ Hid (kE.Own lo w' v' r) ∧ Hid (Tr out m r) ∧ r.length ≤ 401 ∧ Hid (GrM w w' val v')
def MeanC (lo : Nat) (ao : Option Addr) (cap : Nat) (gs : List PNode) (R : List Int) (n : Nat) : Prop := ∀ (k : Nat) (v : Int) (w : World) (val : Value) (out : List (Int × Int)), k < gs.length → rk R k ≤ n → valB v = true → Hid (kE.Own lo w val out) → out.length ≤ 401 → Hid (NV lo w ao gs) → lo ≤ w.heap.size →
    Calls Tryz.prog 56 #[.slice ao gs.length cap, .int .i64 (k : Int), .int .i64 v, val] w (AnsM lo w val out (meanG gs k v))
set_option maxHeartbeats 4000000 in
theorem l11Mean_step (lo : Nat) (ao : Option Addr) (cap : Nat) (gs : List PNode) (R : List Int) (n : Nat) (hR : Ordd gs R) (hE : EdgesIn gs) (hS : GoodSts gs) (ih : MeanC lo ao cap gs R n) : MeanC lo ao cap gs R (n + 1) := by
  intro k v w val out hk hrk hv hO hl hV hlo
  have hgl : gs.length ≤ 10 := hE.many
  have hki : (k : Int) < (gs.length : Int) := by omega
  obtain ⟨b, off, nxo, nxc, rfl, hb, c5, hI, c1, c2, c3⟩ := hV.out k hk
  have HI := hid hI
  have HOUT := hid (l11Out_is (el gs k).2.1 (el gs k).2.2.1 (el gs k).2.2.2.1 v w (hS k hk) hv)
  rw [← outM_S] at HOUT
  have HVB := hid (outM_val (hS k hk) hv)
  have HRN := hid (hR.rk_next hE hk)
  have HM := hid (meanG_then hR hE hk v)
  have HTH : Hid (∀ x, thenM gs k x = if (nxP gs k).length = 0 then [((k : Int), x)] else (nxP gs k).flatMap fun y => meanG gs y.toNat x) := fun x => rfl
  obtain ⟨A, hA⟩ : ∃ A, A = meanG gs k v := ⟨_, rfl⟩
  rw [← hA] at HM ⊢
  clear hA
  have hnl : (nxP gs k).length ≤ 10 := hE.few k hk
  generalize hnx : nxP gs k = nx at c5 HI HRN HTH hnl
  generalize hq : outM gs k v = q at HOUT HVB HM
  have hql : q.length ≤ 3 := by
    have h1 := outM_len (hS k hk) v
    have h2 := (factI_rng (el gs k).2.1 (el gs k).2.2.1 (el gs k).2.2.2.1).2
    rw [hq] at h1
    omega
  generalize (el gs k).2.1 = kd at c1 HOUT
  generalize (el gs k).2.2.1 = sa at c2 HOUT
  generalize (el gs k).2.2.2.1 = sb at c3 HOUT
  have HV := hV
  clear hnx hq hI hv hV
  go_enter Tryz.func56, Tryz.ntmps56
  go_wp2_with fail
  refine HOUT.out.mono ?_
  rintro e w1 ⟨⟨qo, qc, rfl, hno, hF⟩, hb1⟩
  have FQ := hid hF
  have O1 := hid (hO.out.below hb1)
  have HB1 : Hid (Below w.heap.size w w1) := hb1
  have hs1 := hb1.size
  clear hF hb1 HOUT
  dsimp only
  go_wp2
  go_loopw [3, 21] (fun u j wr => ∃ (m : Nat) (r : List (Int × Int)), j = .int .i64 (m : Int) ∧ m ≤ q.length ∧ Hid (kE.Own lo wr u r) ∧ Hid (Tr out ((q.take m).flatMap (thenM gs k)) r) ∧ r.length ≤ 401 ∧ Hid (GrM w1 wr val u)) (fun _ j _ => q.length - (intOf j).toNat)
  case atStart => exact ⟨0, out, rfl, Nat.zero_le _, O1, Tr.refl _, hl, GrM.refl _ _⟩
  case round =>
    rename World => wo
    obtain ⟨m, r, rfl, hm, hO2, hT, hr, hG⟩ := hrel
    have hBl : Below lo w wo := (HB1.out.mono hlo).trans (O1.out.belowG hG.out.g (by omega))
    obtain ⟨go, gc, rfl⟩ := own_sliceG hO2.out
    by_cases hmq : m < q.length
    · have HQ : Hid (kI.In wo.heap.size wo qo q) := in_grown hG.out.g (FQ.out.in) (fun h0 b' off' e h => by
        have h1 := own_ltG hO.out h
        rcases FQ.out with h2 | ⟨g5, e5, _, ho5⟩
        · rw [h2] at h0; simp at h0
        · rw [e] at e5
          simp at e5
          have h3 := (owns_lt ho5).1
          omega)
      obtain ⟨bq, oq, rfl, hbq, hcq⟩ := ints_at HQ.out hmq
      have cm := hcq m hmq
      have HX := hid (HVB.out _ (el_mem hmq))
      have HFT := hid (flat_take (thenM gs k) hmq)
      rw [HTH.out] at HFT
      generalize el q m = x at cm HX HFT
      have hmi : (m : Int) < (q.length : Int) := by omega
      have d5 := (hBl.cell (p := ⟨b, off + k * 6 + 5, none⟩) hb).trans c5
      have HIr := hid ((HV.out.below hBl))
      clear hcq
      by_cases h4 : 400 < r.length
      · have HTT := hid (hT.out.over h4 (flat_le (thenM gs k) q m))
        have h4' : (400 : Int) < (r.length : Int) := by omega
        clear h4
        go_wp2
        go_ret
        exact ⟨_, r, rfl, hO2, (by rw [HM.out]; exact HTT.out), hr, (GrM.of_below HB1.out _).trans hG.out⟩
      · have h4' : ¬ (400 : Int) < (r.length : Int) := by omega
        by_cases h0 : nx.length = 0
        · rw [if_pos h0] at HFT
          have hr4 : r.length + 1 ≤ 401 := by omega
          clear h4
          obtain ⟨V, hVV⟩ : ∃ V, V = wo.alloc (.cells #[.int .i64 (k : Int), .int .i64 x] 101) := ⟨_, rfl⟩
          have HBV : Below wo.heap.size wo V := by rw [hVV]; exact below1 _ _
          have OV := hid (hO2.out.below HBV)
          have HN : Hid (kE.In V.heap.size V (some ⟨wo.heap.size, 0, none⟩) [((k : Int), x)]) := emits_mk (by rw [hVV]; simp) (by rw [hVV]; simp) (by rw [hVV]; simp)
          have HLV : Hid (lo ≤ V.heap.size) := Nat.le_trans (Nat.le_trans hlo hs1) (Nat.le_trans hG.out.g.size HBV.size)
          have HBVh := hid HBV
          have HVV := hid hVV
          clear hVV HBV
          go_wp2_with (at_builtin; rw [← HVV.out]; refine Kind.appN kE_ok V rfl (.tmp 36) (.tmp 40) rfl lo (.slice go r.length gc) r rfl OV.out HLV.out (some ⟨wo.heap.size, 0, none⟩) [((k : Int), x)] 1 1 rfl rfl (by simp) _ HN.out (by simp; omega) ?_; intro v2 w2 hOa hBa hGa hna; have OA := hid hOa; have GA : Hid (GrM w1 w2 val v2) := hG.out.trans ((GrM.of_below HBVh.out _).trans ⟨hGa, hna⟩); obtain ⟨ga, ca, rfl⟩ := own_sliceG hOa; have e5 := (hBa.cell (p := ⟨b, off + k * 6 + 5, none⟩) hb).trans (((HBVh.out.mono (by have := hG.out.g.size; omega)).cell (p := ⟨b, off + k * 6 + 5, none⟩) hb).trans d5); clear hOa hBa hGa hna)
          go_loopw [3, 48] (fun u2 j2 wr2 => u2 = .slice ga (r ++ [((k : Int), x)]).length ca ∧ j2 = .int .i64 0 ∧ wr2 = w2) (fun _ _ _ => 0)
          case atStart => exact ⟨by simp, rfl, rfl⟩
          case round =>
            obtain ⟨rfl, rfl, rfl⟩ := hrel
            go_wp2
            go_roundw
            case rel => exact ⟨m + 1, r ++ [((k : Int), x)], by go_num, by omega, OA, (by rw [HFT.out]; exact hT.out.trans (.inl rfl)), by simp; omega, GA⟩
            case measure => simp [intOf]; omega
        · rw [if_neg h0] at HFT
          have hr4 : r.length ≤ 400 := by omega
          have HIN : Hid (kI.In lo wo nxo nx) := by
            rcases HI.out with h | ⟨b', o', e', hb', hc'⟩
            · exact .inl h
            · exact .inr ⟨b', o', e', hb', fun j hj i hi => (hBl.cell (p := ⟨b', _, none⟩) hb').trans (hc' j hj i hi)⟩
          have hslo : lo ≤ wo.heap.size := Nat.le_trans hlo (Nat.le_trans hs1 hG.out.g.size)
          clear h4
          go_wp2
          go_loopw [3, 48] (fun u2 j2 wr2 => ∃ (m2 : Nat) (r2 : List (Int × Int)), j2 = .int .i64 (m2 : Int) ∧ m2 ≤ nx.length ∧ Hid (kE.Own lo wr2 u2 r2) ∧ Hid (Tr r ((nx.take m2).flatMap fun y => meanG gs y.toNat x) r2) ∧ r2.length ≤ 401 ∧ Hid (GrM wo wr2 (.slice go r.length gc) u2)) (fun _ j2 _ => nx.length - (intOf j2).toNat)
          case atStart => exact ⟨0, r, rfl, Nat.zero_le _, hO2, Tr.refl _, hr, GrM.refl _ _⟩
          case round =>
            obtain ⟨m2, r2, rfl, hm2, hO3, hT3, hr3, hG3⟩ := hrel
            have hB3 : Below lo wo wr := hO2.out.belowG hG3.out.g hslo
            by_cases hmn : m2 < nx.length
            · obtain ⟨nb, noff, rfl, hnb, hnc⟩ := ints_at HIN.out hmn
              have cn := (hB3.cell (p := ⟨nb, noff + m2, none⟩) hnb).trans (hnc m2 hmn)
              have HFM := hid (flat_take (fun y => meanG gs y.toNat x) hmn)
              obtain ⟨j, hj, hyj, hrj⟩ := HRN.out (el nx m2) (el_mem hmn)
              rw [hyj] at cn HFM
              rw [Int.toNat_natCast] at HFM
              have hmn' : (m2 : Int) < (nx.length : Int) := by omega
              have HC := hid (ih j x wr _ r2 hj (by omega) HX.out hO3 hr3 (HIr.out.below hB3) (Nat.le_trans hslo hB3.size))
              clear hnc hyj
              go_wp2_with fail
              refine HC.out.mono ?_
              rintro e w5 ⟨v5, r5, rfl, hO5, hT5, hr5, hG5⟩
              dsimp only
              go_wp2
              go_roundw
              case rel => exact ⟨m2 + 1, r5, by go_num, by omega, hO5, (by rw [HFM.out]; exact hT3.out.trans hT5.out), hr5, hG3.out.trans hG5.out⟩
              case measure => simp [intOf]; omega
            · obtain rfl : m2 = nx.length := by omega
              rw [List.take_length] at hT3
              clear hmn
              go_wp2
              go_roundw
              case rel => exact ⟨m + 1, r2, by go_num, by omega, hO3, (by rw [HFT.out]; exact hT.out.trans hT3.out), hr3, hG.out.trans hG3.out⟩
              case measure => simp [intOf]; omega
    · obtain rfl : m = q.length := by omega
      have HTT := hT
      rw [List.take_length, ← HM.out] at HTT
      clear hmq
      go_wp2
      go_ret
      exact ⟨_, r, rfl, hO2, HTT.out, hr, (GrM.of_below HB1.out _).trans hG.out⟩
theorem l11Mean_all (lo : Nat) (ao : Option Addr) (cap : Nat) (gs : List PNode) (R : List Int) (hR : Ordd gs R) (hE : EdgesIn gs) (hS : GoodSts gs) : ∀ n, MeanC lo ao cap gs R n
  | 0 => fun k v w val out hk hrk _ _ _ _ _ => by have := hR.rk_pos hk; omega
  | n + 1 => l11Mean_step lo ao cap gs R n hR hE hS (l11Mean_all lo ao cap gs R hR hE hS n)
/-- What a value means, from nothing on. -/
theorem l11Mean_is (ao : Option Addr) (cap : Nat) (ts : List LNode) (R : List Int) (hR : Ordd (ts.map valNode) R) (hE : EdgesIn (ts.map valNode)) (hS : GoodSts (ts.map valNode)) (k : Nat) (v : Int) (w : World) (hk : k < ts.length) (hv : valB v = true) (hz : DIn dNode w.heap.size w ao ts) :
    Calls Tryz.prog 56 #[.slice ao ts.length cap, .int .i64 (k : Int), .int .i64 v, .slice none 0 0] w fun e w' => ∃ go gc r, e = .returned (.slice go r.length gc) ∧ (go = none → gc = 0) ∧ kE.Fresh w.heap.size w'.heap.size w' go gc r ∧ Tr [] (meanG (ts.map valNode) k v) r ∧ r.length ≤ 401 ∧ Below w.heap.size w w' := by
  have h := l11Mean_all w.heap.size ao cap (ts.map valNode) R hR hE hS _ k v w (.slice none 0 0) [] (by rw [val_len]; exact hk) (Nat.le_refl _) hv (Kind.Own.nil _ _ _) (by simp) (nv_of hz) (Nat.le_refl _)
  rw [val_len] at h
  refine h.mono ?_
  rintro e w' ⟨v', r, rfl, hO, hT, hl, hG⟩
  obtain ⟨go, gc, rfl, hno, hF⟩ := hO.out.fresh
  exact ⟨go, gc, r, rfl, hno, hF, hT.out, hl, ⟨hG.out.g.os, hG.out.g.tape, hG.out.g.output, hG.out.g.size, fun b hb => hG.out.g.block b hb (by simp [Value.ownBlock])⟩⟩
end
section
open Go.RowKit
section
variable {gs : List PNode} {R : List Int}

/-- The node k is at work, and i of its values have passed. -/
def sT (gs : List PNode) (s : ES) (k i : Nat) : ES := ((el s.1 k).take i).foldl (stepV gs k) s
theorem sT_zero (s : ES) (k : Nat) : sT gs s k 0 = s := by unfold sT; simp
theorem sT_all (s : ES) (k : Nat) : sT gs s k (el s.1 k).length = stepN gs s k := by unfold sT stepN; rw [List.take_length]
theorem sT_succ (s : ES) (k : Nat) {i : Nat} (hi : i < (el s.1 k).length) : sT gs s k (i + 1) = stepV gs k (sT gs s k i) (el (el s.1 k) i) := by
  unfold sT
  rw [take_succ_el hi, List.foldl_append]; rfl
theorem sT_len (s : ES) (k i : Nat) : (sT gs s k i).1.length = s.1.length := fold_len gs k _ _
theorem emitAt_succ (s : ES) {t k : Nat} (ht : t < R.length) (ek : el R t = (k : Int)) : emitAt gs (R.take (t + 1)) s = stepN gs (emitAt gs (R.take t) s) k := by
  rw [take_succ_el ht, ek, emitAt_app, emitAt_cons, Int.toNat_natCast]; rfl
theorem fold_self {n k : Nat} (hp : Places n (nxP gs k)) (hk : (k : Int) ∉ nxP gs k) : ∀ (vs : List Int) (s : ES), s.1.length = n → el (vs.foldl (stepV gs k) s).1 k = el s.1 k
  | [], _, _ => rfl
  | v :: r, s, hl => by
    rw [List.foldl_cons, fold_self hp hk r _ (by rw [stepV_len, hl])]
    exact intoAll_other _ _ _ k (by rw [hl]; exact hp) hk
/-- All that came in are values. -/
def AllV (I : List (List Int)) : Prop := ∀ j, ∀ x ∈ el I j, valB x = true
theorem allV_into {out : List Int} (ho : ∀ x ∈ out, valB x = true) : ∀ (nx : List Int) (I : List (List Int)), Places I.length nx → AllV I → AllV (intoAll out nx I)
  | [], _, _, h => h
  | y :: r, I, hp, h => by
    obtain ⟨j, hj, rfl⟩ := hp y (by simp)
    rw [intoAll, Int.toNat_natCast]
    refine allV_into ho r _ (fun z hz => by rw [List.length_set]; exact hp z (by simp [hz])) fun i x hx => ?_
    rw [el_setG hj] at hx
    split at hx
    · rcases List.mem_append.1 hx with h1 | h1
      · exact h j x h1
      · exact ho x h1
    · exact h i x hx
theorem allV_fold {n k : Nat} (hg : goodSt (el gs k).2.1 (el gs k).2.2.1 (el gs k).2.2.2.1 = true) (hp : Places n (nxP gs k)) : ∀ (vs : List Int) (s : ES), s.1.length = n → (∀ v ∈ vs, valB v = true) → AllV s.1 → AllV (vs.foldl (stepV gs k) s).1
  | [], _, _, _, h => h
  | v :: r, s, hl, hv, h => by
    rw [List.foldl_cons]
    exact allV_fold hg hp r _ (by rw [stepV_len, hl]) (fun x hx => hv x (by simp [hx])) (allV_into (outM_val hg (hv v (by simp))) _ _ (by rw [hl]; exact hp) h)
theorem allV_at (h : Ordd gs R) (hE : EdgesIn gs) (hS : GoodSts gs) {s : ES} (hl : s.1.length = gs.length) (hV : AllV s.1) : ∀ t, t ≤ R.length → AllV (emitAt gs (R.take t) s).1
  | 0, _ => by rw [List.take_zero]; exact hV
  | t + 1, ht => by
    have hlt : t < R.length := by omega
    obtain ⟨k, hk, ek⟩ := h.rng _ (el_mem hlt)
    rw [emitAt_succ s hlt ek]
    have ih := allV_at h hE hS hl hV t (by omega)
    exact allV_fold (hS k hk) (hE.rng k hk) _ _ (by rw [emitAt_len, hl]) (fun v hv => ih k v hv) ih
theorem allV_start {n k : Nat} {v : Int} (hv : valB v = true) : AllV (emit0 n k v).1 := fun j x hx => by
  unfold emit0 at hx
  dsimp only at hx
  by_cases hk : k < (List.replicate n ([] : List Int)).length
  · rw [el_setG hk] at hx
    split at hx
    · simp at hx; rw [hx]; exact hv
    · have : el (List.replicate n ([] : List Int)) j = [] := by simp only [el, List.getElem?_replicate]; split <;> rfl
      rw [this] at hx; simp at hx
  · rw [List.set_eq_of_length_le (by omega)] at hx
    have : el (List.replicate n ([] : List Int)) j = [] := by simp only [el, List.getElem?_replicate]; split <;> rfl
    rw [this] at hx; simp at hx
/-- Where emitsOf stands: t nodes of the order are done, k is at work, i of its values have passed. -/
structure At (gs : List PNode) (R : List Int) (s0 : ES) (t k i : Nat) (s : ES) : Prop where
  len : s.1.length = gs.length
  self : (k : Int) ∉ nxP gs k
  row : el s.1 k = el (emitAt gs (R.take t) s0).1 k
  val : AllV s.1
  em : s.2.length ≤ 100000
  own : (el s.1 k).length ≤ 100000
  wide : ∀ j : Nat, (j : Int) ∈ nxP gs k → (el s.1 j).length ≤ 100000
theorem wRows_row {rest : List Int} {I : List (List Int)} {φ : Nat → Int → Int} (hφ : ∀ a ∈ rest, ∀ x, 1 ≤ φ a.toNat x) {j : Nat} (hj : (j : Int) ∈ rest) : ((el I j).length : Int) ≤ wRows φ I rest := by
  have h1 : sumI (φ j) (el I j) ≤ wRows φ I rest := by
    have := sumI_mem (f := fun a : Int => sumI (φ a.toNat) (el I a.toNat)) hj (fun y hy => sumI_nn fun x _ => by have := hφ y hy x; omega)
    rw [Int.toNat_natCast] at this
    exact this
  have h2 : ((el I j).length : Int) ≤ sumI (φ j) (el I j) := sumI_ge_len fun x _ => by have := hφ _ hj x; rw [Int.toNat_natCast] at this; exact this
  omega
theorem at_is (h : Ordd gs R) (hE : EdgesIn gs) (hS : GoodSts gs) {k0 : Nat} {v0 : Int} (hk0 : k0 < gs.length) (hv : valB v0 = true) (hw : wdP gs R k0 ≤ 100000) {t k : Nat} (ht : t < R.length) (ek : el R t = (k : Int)) (hk : k < gs.length) {i : Nat} :
    At gs R (emit0 gs.length k0 v0) t k i (sT gs (emitAt gs (R.take t) (emit0 gs.length k0 v0)) k i) := by
  have hl0 : (emit0 gs.length k0 v0).1.length = gs.length := emit0_len _ _ _
  have hlt : (emitAt gs (R.take t) (emit0 gs.length k0 v0)).1.length = gs.length := by rw [emitAt_len, hl0]
  have hself : (k : Int) ∉ nxP gs k := by
    have := h.self _ (h.has hk)
    rwa [Int.toNat_natCast] at this
  have hV := allV_at h hE hS hl0 (allV_start hv) t (by omega)
  have hp := part_w h hE (wdP_falls h hE hS) (emit0 gs.length k0 v0) hl0 t (by omega)
  rw [start_w h hk0] at hp
  have e0 : sumI (fun _ => 1) (emit0 gs.length k0 v0).2 = 0 := rfl
  have hd : R.drop t = (k : Int) :: R.drop (t + 1) := by rw [← ek, el_at ht, List.getElem_cons_drop]
  have e : wRows (fun k _ => wdP gs R k) (emitAt gs (R.take t) (emit0 gs.length k0 v0)).1 ((k : Int) :: R.drop (t + 1)) = sumI (fun _ => wdP gs R k) (el (emitAt gs (R.take t) (emit0 gs.length k0 v0)).1 k) + wRows (fun k _ => wdP gs R k) (emitAt gs (R.take t) (emit0 gs.length k0 v0)).1 (R.drop (t + 1)) := by
    unfold wRows; simp only [sumI, Int.toNat_natCast]
  rw [hd, e] at hp
  generalize hsd : emitAt gs (R.take t) (emit0 gs.length k0 v0) = s at hlt hV hp
  have hs1 : ∀ a ∈ R, ∀ x : Int, 1 ≤ (fun (k : Nat) (_ : Int) => wdP gs R k) a.toNat x := fun a ha _ => by
    obtain ⟨j, hj, rfl⟩ := h.rng a ha
    rw [Int.toNat_natCast]
    exact wdP_one h hE hS hj
  have hf := fold_w (wdP_falls h hE hS) hk (h.drop_nodup (t + 1)) (h.next hE ht ek) ((el s.1 k).take i) s (by rw [hlt]; exact h.places)
  have hsplit : sumI (fun _ : Int => wdP gs R k) (el s.1 k) = sumI (fun _ : Int => wdP gs R k) ((el s.1 k).take i) + sumI (fun _ : Int => wdP gs R k) ((el s.1 k).drop i) := by rw [← sumI_app, List.take_append_drop]
  have hnn : 0 ≤ sumI (fun _ : Int => wdP gs R k) ((el s.1 k).drop i) := sumI_nn fun _ _ => by have := wdP_one h hE hS hk; omega
  have hone : ((sT gs s k i).2.length : Int) ≤ sumI (fun _ => 1) (sT gs s k i).2 := sumI_ge_len fun _ _ => Int.le_refl _
  have hone0 : 0 ≤ sumI (fun _ => 1) (sT gs s k i).2 := sumI_nn fun _ _ => by omega
  have hw0 : 0 ≤ wRows (fun k _ => wdP gs R k) (sT gs s k i).1 (R.drop (t + 1)) := sumI_nn fun a ha => sumI_nn fun x _ => by have := hs1 a (List.mem_of_mem_drop ha) x; dsimp only at this ⊢; omega
  have hf' : sumI (fun _ => 1) (sT gs s k i).2 + wRows (fun k _ => wdP gs R k) (sT gs s k i).1 (R.drop (t + 1)) ≤ sumI (fun _ => 1) s.2 + sumI (fun _ => wdP gs R k) ((el s.1 k).take i) + wRows (fun k _ => wdP gs R k) s.1 (R.drop (t + 1)) := hf
  have hse : el (sT gs s k i).1 k = el s.1 k := fold_self (hE.rng k hk) hself _ _ hlt
  have hown : ((el s.1 k).length : Int) ≤ sumI (fun _ : Int => wdP gs R k) (el s.1 k) := sumI_ge_len fun _ _ => wdP_one h hE hS hk
  have hone1 : 0 ≤ sumI (fun _ => 1) s.2 := sumI_nn fun _ _ => by omega
  have hw1 : 0 ≤ wRows (fun k _ => wdP gs R k) s.1 (R.drop (t + 1)) := sumI_nn fun a ha => sumI_nn fun x _ => by have := hs1 a (List.mem_of_mem_drop ha) x; dsimp only at this ⊢; omega
  refine ⟨by rw [sT_len, hlt], hself, ?_, ?_, by omega, by rw [hse]; omega, fun j hj => ?_⟩
  · rw [hsd]; exact fold_self (hE.rng k hk) hself _ _ hlt
  · exact allV_fold (hS k hk) (hE.rng k hk) _ _ hlt (fun v hv => hV k v (List.mem_of_mem_take hv)) hV
  · have := wRows_row (I := (sT gs s k i).1) (φ := fun k _ => wdP gs R k) (fun a ha x => hs1 a (List.mem_of_mem_drop ha) x) (h.next hE ht ek _ hj)
    omega
end
end
section
open Go.RowKit

/-- At g lie the heads xs of the rows ls; each row is nil or lies in a block of its own behind g. -/
structure Hands (g : Nat) (W : World) (xs : List Value) (ls : List (List Int)) : Prop where
  len : xs.length = ls.length
  head : W.ownsRow g 29 1 (.slice (some ⟨g, 0, none⟩) ls.length ls.length) ls.length xs
  row : ∀ j, j < ls.length → kI.Own (g + 1) W (el xs j) (el ls j)
  off : ∀ i j, i < j → j < ls.length → ∀ b, (el xs i).ownBlock = some b → (el xs j).ownBlock ≠ some b
theorem Hands.later {g : Nat} {W W' : World} {xs : List Value} {ls : List (List Int)} (h : Hands g W xs ls) (hb : Below W.heap.size W W') : Hands g W' xs ls :=
  ⟨h.len, ownsRow_below h.head hb, fun j hj => (h.row j hj).below hb, h.off⟩
theorem Hands.size {g : Nat} {W : World} {xs : List Value} {ls : List (List Int)} (h : Hands g W xs ls) : g < W.heap.size := (owns_lt h.head).2
/-- One row has grown; its head is written. -/
theorem Hands.put {g t : Nat} {W W' : World} {xs : List Value} {ls : List (List Int)} {v : Value} {x : List Int} (h : Hands g W xs ls) (ht : t < ls.length) (hO : kI.Own (g + 1) W' v x) (hG : W.grownBy W' (el xs t).ownBlock) (hw : ∀ b, v.ownBlock = some b → (el xs t).ownBlock = some b ∨ W.heap.size ≤ b) :
    Hands g (W'.setCell ⟨g, t, none⟩ v) (xs.set t v) (ls.set t x) := by
  have hx : t < xs.length := by rw [h.len]; exact ht
  have hkeep : ∀ b, b < W.heap.size → (el xs t).ownBlock ≠ some b → W'.heap[b]? = W.heap[b]? := fun b hb hne => hG.block b hb (fun e => hne e.symm)
  have hgne : (el xs t).ownBlock ≠ some g := fun e => by have := (own_block_lt (h.row t ht) e).1; omega
  have hset : ∀ b, b ≠ g → (W'.setCell ⟨g, t, none⟩ v).heap[b]? = W'.heap[b]? := fun b hb => Below.heap_setCell _ _ _ _ hb
  have hhead : W'.ownsRow g 29 1 (.slice (some ⟨g, 0, none⟩) ls.length ls.length) ls.length xs := owns_block h.head (hkeep g h.size hgne)
  refine ⟨by simp [h.len], ?_, ?_, ?_⟩
  · rw [List.length_set]
    exact (hhead.stored t v).1
  · intro j hj
    rw [List.length_set] at hj
    by_cases e : j = t
    · subst e
      rw [el_set_same hx, el_set_same ht]
      exact own_keep hO fun b hb => hset b (by have := (own_block_lt hO hb).1; omega)
    · rw [el_set_far e, el_set_far e]
      refine own_keep (h.row j hj) fun b hb => ?_
      have hbl := own_block_lt (h.row j hj) hb
      rw [hset b (by omega)]
      refine hkeep b hbl.2 fun e' => ?_
      rcases Nat.lt_or_ge j t with hjt | hjt
      · exact h.off j t hjt ht b hb e'
      · exact h.off t j (by omega) hj b e' hb
  · intro i j hij hj b hi
    rw [List.length_set] at hj
    by_cases e1 : i = t
    · subst e1
      rw [el_set_same hx] at hi
      rw [el_set_far (by omega)]
      intro hjb
      rcases hw b hi with h1 | h1
      · exact h.off i j hij hj b h1 hjb
      · have := (own_block_lt (h.row j hj) hjb).2; omega
    · rw [el_set_far e1] at hi
      by_cases e2 : j = t
      · subst e2
        rw [el_set_same hx]
        intro hjb
        rcases hw b hjb with h1 | h1
        · exact h.off i j hij hj b hi h1
        · have := (own_block_lt (h.row i (by omega)) hi).2; omega
      · rw [el_set_far e2]
        exact h.off i j hij hj b hi
/-- One row has grown: the heads stand. -/
theorem Hands.mid {g t : Nat} {W W' : World} {xs : List Value} {ls : List (List Int)} (h : Hands g W xs ls) (ht : t < ls.length) (hG : W.grownBy W' (el xs t).ownBlock) : W'.ownsRow g 29 1 (.slice (some ⟨g, 0, none⟩) ls.length ls.length) ls.length xs :=
  owns_block h.head (hG.block g h.size fun e => by have := (own_block_lt (h.row t ht) e.symm).1; omega)
theorem Hands.slice {g j : Nat} {W : World} {xs : List Value} {ls : List (List Int)} (h : Hands g W xs ls) (hj : j < ls.length) : ∃ o c, el xs j = .slice o (el ls j).length c ∧ (o = none → c = 0) ∧ kI.Fresh (g + 1) W.heap.size W o c (el ls j) := (h.row j hj).fresh
theorem hands_made {g n : Nat} {W : World} (h : W.ownsRow g 29 1 (.slice (some ⟨g, 0, none⟩) n n) n (madeCells (Value.slice none 0 0).cells (n * 1)).toList) : ∃ xs, Hands g W xs (List.replicate n []) := by
  have e : (madeCells (Value.slice none 0 0).cells (n * 1)).toList = List.replicate (n * 1) (.slice none 0 0) := toList_madeCells_one _ _
  rw [e, Nat.mul_one] at h
  have hel : ∀ j, j < n → el (List.replicate n (Value.slice none 0 0)) j = .slice none 0 0 := fun j hj => by simp [el, hj]
  refine ⟨List.replicate n (.slice none 0 0), by simp, by simpa using h, fun j hj => ?_, fun i j hij hj b hb => ?_⟩
  · simp at hj
    rw [hel j hj, show el (List.replicate n ([] : List Int)) j = [] from by simp [el, hj]]
    exact Kind.Own.nil _ _ _
  · simp at hj
    rw [hel i (by omega)] at hb
    simp [Value.ownBlock] at hb
end
end Go.Proofs.YtoeonbdoopboiaaGreatDoor
