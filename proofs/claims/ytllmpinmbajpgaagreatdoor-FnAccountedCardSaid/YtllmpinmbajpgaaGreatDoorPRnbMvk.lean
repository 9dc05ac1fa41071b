
/- Running out ends, plainly. No conditions but those written. The accounts come out, plainly: what FnAccounted and FnRunOut say. No conditions but those written. Marks of pipes. No conditions but those written. What a pipe holds behind moves: both sides. No conditions but those written. Two rows that are the same. No conditions but those written. Marks of rows of moves. No conditions but those written. -/
import Derived.Test.YtllmpinmbajpgaaGreatDoorPSpiRna
import Derived.Test.YtllmpinmbajpgaaGreatDoorPAvbSpc
import Derived.Test.YtllmpinmbajpgaaGreatDoorPCkLd
import Derived.Test.YtllmpinmbajpgaaGreatDoorPFoRz
import Derived.Test.YtllmpinmbajpgaaGreatDoorPDppMf
import Derived.Test.YtllmpinmbajpgaaGreatDoorPCvaMi
import Derived.Test.YtllmpinmbajpgaaGreatDoorPYtYb
namespace Go.Proofs.YtllmpinmbajpgaaGreatDoor
section
open Go.RowKit

/-- What holds of a pipe that runs out. -/
structure RunI (gs : List PNode) (E F : Nat) (s : PP) : Prop where
 bnd : ∃ n, BndP gs.length n s
 inv : InvS gs s
 em : (s.em.length : Int) + bxsF (fun k _ => wdP gs (orderP gs) k) s.bx ≤ (E : Int)
 fa : totT s.bx ≠ 0 → s.fa.length ≤ F + (above s.fu (s.ti - 10)).length
 fa2 : s.fa.length ≤ F + 86
theorem RunI.len {gs : List PNode} {E F : Nat} {s : PP} (h : RunI gs E F s) : s.bx.length = gs.length := by obtain ⟨n, hn⟩ := h.bnd; exact hn.len
theorem RunI.tr {gs : List PNode} {E F : Nat} {s : PP} (h : RunI gs E F s) : TrB s.bx := by obtain ⟨n, hn⟩ := h.bnd; exact hn.tr
theorem tot_pos {s : PP} {k : Nat} {t : Int × Int × Int} {r : List (Int × Int × Int)} (hk : k < s.bx.length) (hr : el s.bx k = t :: r) : totT s.bx ≠ 0 := by
 have := totT_el hk;rw [hr, List.length_cons] at this
 omega
theorem RunI.step {gs : List PNode} (hG : GoodE gs) (hR : Ordd gs (orderP gs)) {E F : Nat} {s : PP} (h : RunI gs E F s) (m : Int) : RunI gs E F (stepR gs s m).2 := by
 by_cases h0 : (stepR gs s m).1 = 0
 ·have hb : ∃ n, BndP gs.length n (stepR gs s m).2 := by obtain ⟨n, hn⟩ := h.bnd; exact ⟨n + 1, hn.step hG.edg m⟩
  have hi := h.inv.step hG h.len m;obtain ⟨k, t1, t2, t3, r, rfl, hk, hr, hc⟩ := step_yes h0;have hkg : k < gs.length := by have := h.len; omega
  have hw1 := wdP_one hR hG.edg hG.st hkg;have hne := tot_pos hk hr;have hfa := h.fa hne;have hwn : 0 ≤ bxsF (fun k _ => wdP gs (orderP gs) k) s.bx := bxsF_nn fun j t hj _ => by have := wdP_one hR hG.edg hG.st (show j < gs.length by have := h.len; omega); omega
  rcases hc with hc | ⟨hno, hc⟩
  ·rw [hc] at hb hi ⊢;have he := bxsF_fail (f := fun k _ => wdP gs (orderP gs) k) (c := 0) hk hr (fun _ => by show wdP gs (orderP gs) k ≤ wdP gs (orderP gs) k - 0; omega) (fun _ => by show 0 ≤ wdP gs (orderP gs) k; omega) (by omega);obtain ⟨n, hn⟩ := h.bnd;have hcap := h.inv.cap k hkg;rw [hr, List.length_cons] at hcap;have hrr : ∀ t ∈ r, valB t.2.1 = true := fun t ht => h.inv.val k t (by rw [hr]; exact List.mem_cons_of_mem _ ht)
   have hv := h.inv.val k (t1, t2, t3) (by rw [hr]; simp);have hff : (totT (failP s k t1 t2 t3 r).bx ≠ 0 → (failP s k t1 t2 t3 r).fa.length ≤ F + (above (failP s k t1 t2 t3 r).fu ((failP s k t1 t2 t3 r).ti - 10)).length) ∧ (failP s k t1 t2 t3 r).fa.length ≤ F + 86 := by
    unfold failP
    split
    ·refine fa_failT ?_ (tot_cap hG (s := { s with bx := s.bx.set k r, fa := s.fa ++ [(t1, (k : Int), t2, 1)] }) ⟨h.inv.cap.set k (by omega), h.inv.val.set k hrr⟩ ((List.length_set ..).trans h.len)) hn.fu
     show (s.fa ++ [(t1, (k : Int), t2, 1)]).length ≤ F + (above s.fu (s.ti - 10)).length + 1
     rw [List.length_append, List.length_singleton]; omega
    ·refine fa_failT ?_ (tot_cap hG (s := { s with bx := s.bx.set k ((t1, t2, t3 + 1) :: r) }) ⟨h.inv.cap.set k (by simp only [List.length_cons]; omega), h.inv.val.set k fun t ht => ?_⟩ ((List.length_set ..).trans h.len)) hn.fu
     ·show s.fa.length ≤ F + (above s.fu (s.ti - 10)).length + 1
      omega
     ·rcases List.mem_cons.1 ht with rfl | h1
      ·exact hv
      ·exact hrr t h1
   exact ⟨hb, hi, by rw [em_failP]; have := h.em; omega, hff.1, hff.2⟩
  ·rw [hc] at hb hi ⊢;have hol : (stApp gs k t2).1.length ≤ 3 := appR_len _ _ _ _;have hval := h.inv.val k (t1, t2, t3) (by rw [hr]; simp);have houtM := outM_of (gs := gs) (k := k) (v := t2) (hG.st k hkg) hval hno;have hlm := outM_len (hG.st k hkg) t2;rw [houtM] at hlm;have hsame := leadAll_same gs k t1 (stApp gs k t2).1 { s with bx := s.bx.set k r };obtain ⟨s1, s2, s3, _, _⟩ := hsame;dsimp only at s1 s2 s3;have hpe := bxsF_leadAll (f := fun k _ => wdP gs (orderP gs) k) hG.edg hkg t1 (stApp gs k t2).1 { s with bx := s.bx.set k r } ((List.length_set ..).trans h.len);have hps := bxsF_set (f := fun k _ => wdP gs (orderP gs) k) hk r;rw [hr] at hps;have hps2 : bxsF (fun k _ => wdP gs (orderP gs) k) (s.bx.set k r) = bxsF (fun k _ => wdP gs (orderP gs) k) s.bx - wdP gs (orderP gs) k := by
    rw [hps]
    show bxsF (fun k _ => wdP gs (orderP gs) k) s.bx - (wdP gs (orderP gs) k + sumI (fun _ => wdP gs (orderP gs) k) r) + sumI (fun _ => wdP gs (orderP gs) k) r = _
    omega
   have hem := em_leadAll gs k t1 (stApp gs k t2).1 { s with bx := s.bx.set k r };have hwe := wdP_eq hR hG.edg hkg;have hfp := fact_pos (hG.st k hkg);refine ⟨hb, hi, ?_, fun _ => by rw [s1, s2, s3]; exact hfa, by rw [s1]; exact h.fa2⟩;rw [hem, hpe, hps2];dsimp only;have hE := h.em;have hsum := sumI_le_len (f := fun _ : Int => sumI (fun y : Int => wdP gs (orderP gs) y.toNat) (nxP gs k)) (c := sumI (fun y : Int => wdP gs (orderP gs) y.toNat) (nxP gs k)) (l := (stApp gs k t2).1) fun _ _ => Int.le_refl _
   by_cases hz : (nxP gs k).length = 0
   ·rw [if_pos hz] at hwe ⊢;have hz2 : sumI (fun y : Int => wdP gs (orderP gs) y.toNat) (nxP gs k) = 0 := by rw [List.length_eq_zero_iff.1 hz]; rfl
    rw [hz2] at hsum;have : sumI (fun _ : Int => sumI (fun y : Int => wdP gs (orderP gs) y.toNat) (nxP gs k)) (stApp gs k t2).1 ≤ 0 := by rw [hz2]; omega
    rw [Int.mul_one] at hwe
    omega
   ·rw [if_neg hz] at hwe ⊢;have hz0 : 0 ≤ sumI (fun y : Int => wdP gs (orderP gs) y.toNat) (nxP gs k) := sumI_nn fun y hy => by
     obtain ⟨j, hj, rfl⟩ := hG.edg.rng k hkg y hy;have := wdP_one hR hG.edg hG.st hj;rw [Int.toNat_natCast]; omega
    have h5 : sumI (fun y : Int => wdP gs (orderP gs) y.toNat) (nxP gs k) * ((stApp gs k t2).1.length : Int) ≤ wdP gs (orderP gs) k := by rw [hwe, Int.mul_comm _ (sumI _ _)]; exact Int.mul_le_mul_of_nonneg_left hlm hz0
    omega
 ·rw [step_no h0]; exact h
/-- How far a pipe is from being dry. -/
def phiW (gs : List PNode) (k : Nat) (t : Int × Int × Int) : Int := 5 * ((31 ^ rk (orderP gs) k : Nat) : Int) - t.2.2
def phiS (gs : List PNode) (s : PP) : Int := bxsF (phiW gs) s.bx
theorem pow_pos31 (n : Nat) : 1 ≤ 31 ^ n := Nat.pow_pos (by omega)
theorem phi_pos {gs : List PNode} {s : PP} (hT : TrB s.bx) {k : Nat} {t : Int × Int × Int} (ht : t ∈ el s.bx k) : 2 ≤ phiW gs k t := by
 have := hT k t ht;have := pow_pos31 (rk (orderP gs) k)
 unfold phiW
 omega
theorem phi_nn {gs : List PNode} {s : PP} (hT : TrB s.bx) : 0 ≤ phiS gs s := bxsF_nn fun k t _ ht => by have := phi_pos (gs := gs) hT ht; omega
theorem phi_ge {gs : List PNode} {s : PP} (hT : TrB s.bx) {k : Nat} (hk : k < s.bx.length) {t : Int × Int × Int} (ht : t ∈ el s.bx k) : phiW gs k t ≤ phiS gs s := by
 have h1 : phiW gs k t ≤ sumI (phiW gs k) (el s.bx k) := sumI_mem ht fun y hy => by have := phi_pos (gs := gs) hT hy; omega
 have h2 : sumI (phiW gs k) (el s.bx k) ≤ phiS gs s := sumI_mem (f := fun k => sumI (phiW gs k) (el s.bx k)) (List.mem_range.2 hk) fun j _ => sumI_nn fun y hy => by have := phi_pos (gs := gs) hT hy; omega
 omega
/-- A step that succeeds makes it less. -/
theorem phi_step {gs : List PNode} (hG : GoodE gs) (hR : Ordd gs (orderP gs)) {E F : Nat} {s : PP} (h : RunI gs E F s) {m : Int} (h0 : (stepR gs s m).1 = 0) : phiS gs (stepR gs s m).2 + 1 ≤ phiS gs s := by
 obtain ⟨k, t1, t2, t3, r, rfl, hk, hr, hc⟩ := step_yes h0;have hkg : k < gs.length := by have := h.len; omega
 have hm : (t1, t2, t3) ∈ el s.bx k := by rw [hr]; simp
 have hp := phi_pos (gs := gs) h.tr hm;have hg := phi_ge (gs := gs) h.tr hk hm;have htr := h.tr k _ hm;dsimp only at htr
 rcases hc with hc | ⟨hno, hc⟩
 ·rw [hc];have := bxsF_fail (f := phiW gs) (c := 1) hk hr (fun _ => by show 5 * ((31 ^ rk (orderP gs) k : Nat) : Int) - (t3 + 1) ≤ 5 * ((31 ^ rk (orderP gs) k : Nat) : Int) - t3 - 1; omega) (fun _ => by omega) (by show 0 ≤ phiS gs s - 1; omega)
  show bxsF (phiW gs) (failP s k t1 t2 t3 r).bx + 1 ≤ bxsF (phiW gs) s.bx
  omega
 ·rw [hc];have hol : (stApp gs k t2).1.length ≤ 3 := appR_len _ _ _ _;have hfew := hG.edg.few k hkg;have hpe := bxsF_leadAll (f := phiW gs) hG.edg hkg t1 (stApp gs k t2).1 { s with bx := s.bx.set k r } ((List.length_set ..).trans h.len);have hps := bxsF_set (f := phiW gs) hk r;rw [hr] at hps;have hps2 : bxsF (phiW gs) (s.bx.set k r) = bxsF (phiW gs) s.bx - phiW gs k (t1, t2, t3) := by
   rw [hps]
   show bxsF (phiW gs) s.bx - (phiW gs k (t1, t2, t3) + sumI (phiW gs k) r) + sumI (phiW gs k) r = _
   omega
  obtain ⟨q, hq⟩ : ∃ q, rk (orderP gs) k = q + 1 := ⟨rk (orderP gs) k - 1, by have := hR.rk_pos hkg; omega⟩;have hx := pow_pos31 q;have hpw : phiW gs k (t1, t2, t3) = 155 * ((31 ^ q : Nat) : Int) - t3 := by
   unfold phiW
   rw [hq, Nat.pow_succ];dsimp only
   omega
  obtain ⟨x, hxx⟩ : ∃ x : Nat, x = 31 ^ q := ⟨_, rfl⟩;have hin : ∀ v : Int, sumI (fun y : Int => phiW gs y.toNat (t1, v, 0)) (nxP gs k) ≤ 50 * (x : Int) := fun v => by
   have h1 := sumI_le_len (f := fun y : Int => phiW gs y.toNat (t1, v, 0)) (c := 5 * (x : Int)) (l := nxP gs k) fun y hy => by
    obtain ⟨j, hj, rfl, hlt⟩ := hR.rk_next hG.edg hkg y hy;have hle : 31 ^ rk (orderP gs) j ≤ 31 ^ q := Nat.pow_le_pow_right (by omega) (by omega)
    show 5 * ((31 ^ rk (orderP gs) (j : Int).toNat : Nat) : Int) - 0 ≤ 5 * (x : Int)
    rw [Int.toNat_natCast, hxx]
    omega
   have h2 := Int.mul_le_mul_of_nonneg_left (show ((nxP gs k).length : Int) ≤ 10 by omega) (show 0 ≤ 5 * (x : Int) by omega)
   omega
  have hout := sumI_le_len (f := fun v : Int => sumI (fun y : Int => phiW gs y.toNat (t1, v, 0)) (nxP gs k)) (c := 50 * (x : Int)) (l := (stApp gs k t2).1) fun v _ => hin v
  have h2 := Int.mul_le_mul_of_nonneg_left (show ((stApp gs k t2).1.length : Int) ≤ 3 by omega) (show 0 ≤ 50 * (x : Int) by omega)
  show bxsF (phiW gs) (leadAll gs k t1 (stApp gs k t2).1 { s with bx := s.bx.set k r }).bx + 1 ≤ bxsF (phiW gs) s.bx
  rw [hpe]
  show bxsF (phiW gs) (s.bx.set k r) + _ + 1 ≤ _
  rw [hps2, hpw, ← hxx];rw [← hxx] at hx
  omega
/-- While tokens live, some node's step succeeds. -/
theorem last_some {gs : List PNode} (hG : GoodE gs) (hR : Ordd gs (orderP gs)) {E F : Nat} {s : PP} (h : RunI gs E F s) : ∀ (l pre : List Int), pre ++ l = (orderP gs).reverse → (∀ y ∈ pre, el s.bx y.toNat = []) → (lastS gs l s).1 = true ∨ ∀ y ∈ (orderP gs).reverse, el s.bx y.toNat = []
 | [], pre, e, hp => .inr fun y hy => hp y (by rw [← e, List.append_nil] at hy; exact hy)
 | x :: r, pre, e, hp => by
  rw [lastS]
  split
  ·exact .inl rfl
  ·rename_i h0;refine last_some hG hR h r (pre ++ [x]) (by rw [← e, List.append_assoc]; rfl) fun y hy => ?_
   rcases List.mem_append.1 hy with h1 | h1
   ·exact hp y h1
   ·rw [List.mem_singleton.1 h1];have hxm : x ∈ (orderP gs).reverse := by rw [← e]; simp
    obtain ⟨k, hk, rfl⟩ := hR.rng x (List.mem_reverse.1 hxm);rw [Int.toNat_natCast];have hkb : k < s.bx.length := by have := h.len; omega
    cases hb : el s.bx k with
    | nil => rfl
    | cons t rr =>
     exfalso
     refine h0 ?_;have hel : el (orderP gs).reverse pre.length = (k : Int) := by
      rw [← e];have := el_app_right pre ((k : Int) :: r) 0;rw [Nat.add_zero, el_zero] at this;exact this
     have hpl : pre.length < (orderP gs).reverse.length := by rw [← e, List.length_append, List.length_cons]; omega
     have hnx := hR.nx_take hG.edg hpl hel;rw [← e, List.take_left] at hnx;have hblk : ¬ blkP gs s.bx k ((stApp gs k t.2.1).1.length : Int) = true := fun hB => by
      unfold blkP at hB
      rw [List.any_eq_true] at hB;obtain ⟨y, hy, hd⟩ := hB;have hd2 := of_decide_eq_true hd;obtain ⟨j, hj, rfl⟩ := hG.edg.rng k hk y hy;rw [hp _ (hnx _ hy), Int.toNat_natCast] at hd2;have h3 := (hG.cap j hj).1;have hol : (stApp gs k t.2.1).1.length ≤ 3 := appR_len _ _ _ _;simp only [List.length_nil] at hd2
      omega
     unfold stepR
     rw [if_pos ⟨by omega, by omega⟩, Int.toNat_natCast, hb];dsimp only
     repeat' split
     all_goals first | rfl | (rename_i hz; exact absurd hz hblk)
/-- What so many steps come to. -/
def itS (gs : List PNode) : Nat → PP → PP
 | 0, s => s
 | n + 1, s => (lastS gs (orderP gs).reverse (itS gs n s)).2
theorem itS_next (gs : List PNode) : ∀ (n : Nat) (s : PP), itS gs (n + 1) s = itS gs n (lastS gs (orderP gs).reverse s).2
 | 0, _ => rfl
 | n + 1, s => by rw [itS, itS_next gs n s, itS]
theorem RunI.next {gs : List PNode} (hG : GoodE gs) (hR : Ordd gs (orderP gs)) {E F : Nat} {s : PP} (h : RunI gs E F s) : RunI gs E F (lastS gs (orderP gs).reverse s).2 := by
 by_cases hl : (lastS gs (orderP gs).reverse s).1 = true
 ·obtain ⟨x, _, _, e⟩ := lastS_yes hl;rw [e]; exact h.step hG hR x
 ·rw [lastS_no hl]; exact h
theorem RunI.it {gs : List PNode} (hG : GoodE gs) (hR : Ordd gs (orderP gs)) {E F : Nat} {s : PP} (h : RunI gs E F s) : ∀ n, RunI gs E F (itS gs n s)
 | 0 => h
 | n + 1 => (RunI.it hG hR h n).next hG hR
theorem last_true {gs : List PNode} (hG : GoodE gs) (hR : Ordd gs (orderP gs)) {E F : Nat} {s : PP} (h : RunI gs E F s) (ht : totT s.bx ≠ 0) : (lastS gs (orderP gs).reverse s).1 = true := by
 rcases last_some hG hR h (orderP gs).reverse [] rfl (fun y hy => by cases hy) with h1 | h1
 ·exact h1
 ·exact absurd (tot_zero fun k hk => by
   have := h1 (k : Int) (List.mem_reverse.2 (hR.has (by have := h.len; omega)))
   rwa [Int.toNat_natCast] at this) ht
/-- Dry behind just so many steps. -/
structure Halts (gs : List PNode) (s : PP) (K : Nat) : Prop where
 stop : totT (itS gs K s).bx = 0
 go : ∀ k, k < K → totT (itS gs k s).bx ≠ 0
theorem halts {gs : List PNode} (hG : GoodE gs) (hR : Ordd gs (orderP gs)) {E F : Nat} : ∀ (n : Nat) (s : PP), RunI gs E F s → phiS gs s ≤ (n : Int) → ∃ K, K ≤ n ∧ Halts gs s K
 | 0, s, h, hp => by
  by_cases ht : totT s.bx = 0
  ·exact ⟨0, Nat.le_refl _, ht, fun k hk => absurd hk (Nat.not_lt_zero _)⟩
  ·obtain ⟨x, _, h0, e⟩ := lastS_yes (last_true hG hR h ht);have h1 := phi_step hG hR h h0;have h2 := phi_nn (gs := gs) (h.step hG hR x).tr
   omega
 | n + 1, s, h, hp => by
  by_cases ht : totT s.bx = 0
  ·exact ⟨0, Nat.zero_le _, ht, fun k hk => absurd hk (Nat.not_lt_zero _)⟩
  ·obtain ⟨x, _, h0, e⟩ := lastS_yes (last_true hG hR h ht);have h1 := phi_step hG hR h h0;obtain ⟨K, hK, hH⟩ := halts hG hR n (lastS gs (orderP gs).reverse s).2 (h.next hG hR) (by rw [e]; omega);refine ⟨K + 1, by omega, by rw [itS_next]; exact hH.stop, fun k hk => ?_⟩
   cases k with
   | zero => exact ht
   | succ k => rw [itS_next]; exact hH.go k (by omega)
theorem phi_most {gs : List PNode} (hG : GoodE gs) {E F : Nat} {s : PP} (h : RunI gs E F s) (hR : Ordd gs (orderP gs)) : phiS gs s ≤ 400 * 31 ^ 10 := by
 have hn := hG.edg.many;have h1 := sumI_le_len (f := fun k => sumI (phiW gs k) (el s.bx k)) (c := 40 * 31 ^ 10) (l := List.range s.bx.length) fun k hk => by
  have hk2 := List.mem_range.1 hk;have hc := h.inv.cap k (by have := h.len; omega);have hc2 := (hG.cap k (by have := h.len; omega)).2;have h2 := sumI_le_len (f := phiW gs k) (c := 5 * 31 ^ 10) (l := el s.bx k) fun t ht => by
   have h3 := hR.rk_le k;have h4 : 31 ^ rk (orderP gs) k ≤ 31 ^ 10 := Nat.pow_le_pow_right (by omega) (by omega);have h5 := h.tr k t ht
   unfold phiW
   omega
  show sumI (phiW gs k) (el s.bx k) ≤ _
  omega
 rw [List.length_range, h.len] at h1
 show sumI (fun k => sumI (phiW gs k) (el s.bx k)) (List.range s.bx.length) ≤ _
 rw [h.len]
 omega
theorem run_start {gs : List PNode} {ms : List (Int × Int × Int)} (h : pipeB gs = true ∧ ms.length ≤ 300) : GoodE gs ∧ Ordd gs (orderP gs) ∧ RunI gs 40000 9000 { (playP gs (srcP gs gs.length) ms (pp0 gs.length)).2 with cl := true } := by
 have h00 : codeG gs = 0 ∧ widP gs ≤ 400 := by have := h.1; simpa [pipeB] using this
 have hG := goodE_of h00.1;have hR := orderP_ordd (codeG_zero h00.1).2.2;have hB := playP_bnd (srcP gs gs.length) hG.edg ms (pp0_bnd gs.length) ms.length (Nat.le_refl _);have hI := playP_inv (srcP gs gs.length) hG ms (pp0_inv hG) (pp0_bnd gs.length) ms.length (Nat.le_refl _);rw [List.take_length] at hB hI
 generalize (playP gs (srcP gs gs.length) ms (pp0 gs.length)).2 = s at hB hI ⊢
 have h2 := h.2;have b1 := hB.tot;have b2 := hB.em;have hn := hG.edg.many;refine ⟨hG, hR, ⟨ms.length, hB.len, hB.tot, hB.em, hB.fu, hB.ti0, hB.ti1, hB.it0, hB.it1, hB.tr⟩, ⟨hI.cap, hI.val⟩, ?_, fun _ => by show s.fa.length ≤ _; omega, by show s.fa.length ≤ _; omega⟩;have h1 := sumI_le_len (f := fun k => sumI (fun _ => wdP gs (orderP gs) k) (el s.bx k)) (c := 3200) (l := List.range s.bx.length) fun k hk => by
  have hk2 := List.mem_range.1 hk;have hc := hI.cap k (by have := hB.len; omega);have hc2 := (hG.cap k (by have := hB.len; omega)).2;have h3 := wdP_le (gs := gs) (k := k) (by have := hB.len; omega);have h4 := sumI_le_len (f := fun _ : Int × Int × Int => wdP gs (orderP gs) k) (c := 400) (l := el s.bx k) fun _ _ => by omega
  show sumI (fun _ => wdP gs (orderP gs) k) (el s.bx k) ≤ _
  omega
 rw [List.length_range] at h1;have hl := hB.len;have h5 : bxsF (fun k _ => wdP gs (orderP gs) k) s.bx ≤ 3200 * (s.bx.length : Int) := h1
 show (s.em.length : Int) + bxsF (fun k _ => wdP gs (orderP gs) k) s.bx ≤ 40000
 omega
end
section
open Go.RowKit

theorem offQ_offP (ms : List (Int × Int × Int)) (cs : List Int) : ∀ m, offQ ms cs m = (offP ms cs m).map fun t => t.2
 | 0 => rfl
 | m + 1 => by
  rw [offQ, offP, offMore, offQ_offP ms cs m]
  split
  ·rw [List.map_append]; rfl
  ·rfl
/-- Of each item that was taken the account is what it means. -/
structure Acct (gs : List PNode) (ms : List (Int × Int × Int)) : Prop where
 len : ((offR gs ms).1.length : Int) = (playP gs (srcP gs gs.length) ms (pp0 gs.length)).2.it
 ok : (offR gs ms).2 = true
 acc : ∀ i, i < (offR gs ms).1.length → accR gs ms (i : Int) = meanR gs (el (offR gs ms).1 i).2.1 (el (offR gs ms).1 i).2.2 ∧ (accR gs ms (i : Int)).2 = true
 of : AccI gs ((offR gs ms).1.map fun t => t.2) (playP gs (srcP gs gs.length) ms (pp0 gs.length)).2
theorem el_map2 {L : List (Int × Int × Int)} {i : Nat} (h : i < L.length) : el (L.map fun t => t.2) i = (el L i).2 := by simp [el, h]
/-- What a taken item means comes out whole. -/
theorem mean_ok {gs : List PNode} (h : codeG gs = 0) (hw : widP gs ≤ 400) {k : Int} (hk : ∃ j : Nat, j < gs.length ∧ k = (j : Int)) {v : Int} (hv : valB v = true) : meanR gs k v = (sortE (meanG gs k.toNat v), true) := by
 obtain ⟨j, hj, rfl⟩ := hk;have hG := goodE_of h;have hR := orderP_ordd (codeG_zero h).2.2;rw [meanR, if_pos ⟨h, by omega, by omega, hv, by omega⟩, Int.toNat_natCast, sortR, if_neg];have h2 := mean_len hR hG.edg hG.st _ j v hj (Nat.le_refl _);have h3 := wdP_le (gs := gs) hj
 omega
theorem acct_of {gs : List PNode} {ms : List (Int × Int × Int)} (h : pipeB gs = true ∧ ms.length ≤ 300) : Acct gs ms := by
 have h00 : codeG gs = 0 ∧ widP gs ≤ 400 := by have := h.1; simpa [pipeB] using this
 have hG := goodE_of h00.1;have hR := orderP_ordd (codeG_zero h00.1).2.2;have hB := playP_bnd (srcP gs gs.length) hG.edg ms (pp0_bnd gs.length) ms.length (Nat.le_refl _);have hA := playP_acc hG hR (srcP_rng gs gs.length) ms ms.length (Nat.le_refl _);rw [List.take_length] at hB hA;have ho : offR gs ms = (offP ms (playP gs (srcP gs gs.length) ms (pp0 gs.length)).1 ms.length, true) := by rw [offR, if_pos h]
 rw [offQ_offP] at hA;have hl := hA.it;rw [List.length_map] at hl;refine ⟨by rw [ho]; exact hl.symm, by rw [ho], fun i hi => ?_, by rw [ho]; exact hA⟩;rw [ho] at hi ⊢;dsimp only at hi ⊢;have hi2 : (i : Int) < (playP gs (srcP gs gs.length) ms (pp0 gs.length)).2.it := by omega
 have hp := account_perm hA hB.len (E := meanG gs) (fun _ _ _ _ => rfl) (i := (i : Int)) (by omega) hi2;rw [Int.toNat_natCast, el_map2 hi] at hp;have hmem : (el (offP ms (playP gs (srcP gs gs.length) ms (pp0 gs.length)).1 ms.length) i).2 ∈ (offP ms (playP gs (srcP gs gs.length) ms (pp0 gs.length)).1 ms.length).map fun t => t.2 := List.mem_map.2 ⟨_, el_mem hi, rfl⟩
 obtain ⟨hk, hv⟩ := hA.off _ hmem;have hm := mean_ok h00.1 h00.2 hk hv;have hacc : accR gs ms (i : Int) = sortR (accL (meanG gs) (i : Int) (playP gs (srcP gs gs.length) ms (pp0 gs.length)).2) := by rw [accR, if_pos ⟨h, by omega, hi2⟩]
 have hs : sortR (meanG gs (el (offP ms (playP gs (srcP gs gs.length) ms (pp0 gs.length)).1 ms.length) i).2.1.toNat (el (offP ms (playP gs (srcP gs gs.length) ms (pp0 gs.length)).1 ms.length) i).2.2) = meanR gs (el (offP ms (playP gs (srcP gs gs.length) ms (pp0 gs.length)).1 ms.length) i).2.1 (el (offP ms (playP gs (srcP gs gs.length) ms (pp0 gs.length)).1 ms.length) i).2.2 := by
  obtain ⟨j, hj, e⟩ := hk;rw [meanR, if_pos ⟨h00.1, by omega, by omega, hv, by omega⟩]
 have he : accR gs ms (i : Int) = meanR gs (el (offP ms (playP gs (srcP gs gs.length) ms (pp0 gs.length)).1 ms.length) i).2.1 (el (offP ms (playP gs (srcP gs gs.length) ms (pp0 gs.length)).1 ms.length) i).2.2 := by
  rw [hacc, sortR_same hp, hs]
 exact ⟨he, by rw [he, hm]⟩
/-- As many as live have room. -/
theorem live_room {gs : List PNode} {bx : List (List (Int × Int × Int))} (hc : CpB gs bx) (hn : bx.length = gs.length) : (totT bx : Int) ≤ capSum gs gs.length := by
 have h : ∀ k, k ≤ gs.length → (totT (bx.take k) : Int) ≤ capSum gs k := by
  intro k
  induction k with
  | zero => intro _; simp [totT, capSum]
  | succ k ih =>
   intro hk;have h1 := ih (by omega);have h2 := hc k (by omega);rw [totT_take (by omega)]
   unfold capSum at h1 ⊢
   rw [take_succ_el (by omega), List.map_append, List.sum_append];have h3 : capP gs k = (el gs k).2.2.2.2.1 := rfl;simp only [List.map_cons, List.map_nil, List.sum_cons, List.sum_nil]
   omega
 have := h gs.length (Nat.le_refl _);have e : bx.take gs.length = bx := by rw [← hn, List.take_length]
 rwa [e] at this
theorem step_cl {gs : List PNode} {s : PP} (h : s.cl = true) (m : Int) : (stepR gs s m).2.cl = true := by
 by_cases h0 : (stepR gs s m).1 = 0
 ·obtain ⟨k, t1, t2, t3, r, rfl, _, _, hc⟩ := step_yes h0
  rcases hc with hc | ⟨_, hc⟩
  ·rw [hc]
   unfold failP failT
   split <;> split <;> first | rfl | exact h
  ·rw [hc];have hs := leadAll_same gs k t1 (stApp gs k t2).1 { s with bx := s.bx.set k r };obtain ⟨_, _, _, _, h5⟩ := hs;rw [h5]; exact h
 ·rw [step_no h0]; exact h
theorem it_cl {gs : List PNode} {s : PP} (h : s.cl = true) : ∀ n, (itS gs n s).cl = true
 | 0 => h
 | n + 1 => by
  have ih := it_cl (gs := gs) h n;rw [itS]
  by_cases hl : (lastS gs (orderP gs).reverse (itS gs n s)).1 = true
  ·obtain ⟨x, _, _, e⟩ := lastS_yes hl;rw [e]; exact step_cl ih x
  ·rw [lastS_no hl]; exact ih
theorem it_acc {gs : List PNode} (hG : GoodE gs) (hR : Ordd gs (orderP gs)) {E F : Nat} {of : List (Int × Int)} {s : PP} (hI : RunI gs E F s) (h : AccI gs of s) : ∀ n, AccI gs of (itS gs n s)
 | 0 => h
 | n + 1 => by
  have ih := it_acc hG hR hI h n;have hr := hI.it hG hR n;rw [itS]
  by_cases hl : (lastS gs (orderP gs).reverse (itS gs n s)).1 = true
  ·obtain ⟨x, _, _, e⟩ := lastS_yes hl;rw [e];have hm := AccI.move (src := []) hG hR (fun x hx => by cases hx) ih hr.inv hr.len 2 x 0;have hd : doR gs [] (itS gs n s) 2 x 0 = stepR gs (itS gs n s) x := rfl;rw [hd, offMore, if_neg (fun h => absurd h.1 (by decide))] at hm;exact hm
  ·rw [lastS_no hl]; exact ih
/-- Run out, of each item what was emitted and what failed are together what it means. -/
theorem run_acct {gs : List PNode} {ms : List (Int × Int × Int)} {K : Nat} (h : pipeB gs = true ∧ ms.length ≤ 300) (hK : Halts gs { (playP gs (srcP gs gs.length) ms (pp0 gs.length)).2 with cl := true } K) {s2 : PP} (hs : s2 = itS gs K { (playP gs (srcP gs gs.length) ms (pp0 gs.length)).2 with cl := true }) :
  s2.cl = true ∧ s2.bx.length = gs.length ∧ (∀ k, el s2.bx k = []) ∧ (∀ e ∈ s2.fa, meanR gs e.2.1 e.2.2.1 = (sortE (meanG gs e.2.1.toNat e.2.2.1), true)) ∧
  ∀ i, i < (offR gs ms).1.length → sortR (emL (i : Int) s2.em ++ faL (fun k v => (meanR gs (k : Int) v).1) (i : Int) s2.fa) = meanR gs (el (offR gs ms).1 i).2.1 (el (offR gs ms).1 i).2.2 ∧ (meanR gs (el (offR gs ms).1 i).2.1 (el (offR gs ms).1 i).2.2).2 = true := by
 have h00 : codeG gs = 0 ∧ widP gs ≤ 400 := by have := h.1; simpa [pipeB] using this
 obtain ⟨hG, hR, hI⟩ := run_start h;have hac := acct_of h;have hA0 : AccI gs ((offR gs ms).1.map fun t => t.2) { (playP gs (srcP gs gs.length) ms (pp0 gs.length)).2 with cl := true } := ⟨hac.of.it, hac.of.off, hac.of.acc, hac.of.lost⟩;have hA := it_acc hG hR hI hA0 K;have hr := hI.it hG hR K;have hcl := it_cl (gs := gs) (s := { (playP gs (srcP gs gs.length) ms (pp0 gs.length)).2 with cl := true }) rfl K;have hst := hK.stop;rw [← hs] at hA hr hcl hst;have hbx : ∀ k, el s2.bx k = [] := fun k => by
  by_cases hk : k < s2.bx.length
  ·have := totT_el hk;exact List.length_eq_zero_iff.1 (by omega)
  ·rw [el, List.getElem?_eq_none (by omega)]; rfl
 have hlm : ∀ e ∈ s2.fa, meanR gs e.2.1 e.2.2.1 = (sortE (meanG gs e.2.1.toNat e.2.2.1), true) := fun e he => mean_ok h00.1 h00.2 (hA.lost e he).1 (hA.lost e he).2
 refine ⟨hcl, hr.len, hbx, hlm, fun i hi => ?_⟩;have hi2 : (i : Int) < s2.it := by rw [hA.it, List.length_map]; omega
 have hp := account_perm hA hr.len (E := fun k v => sortE (meanG gs k v)) (fun ψ k v _ => sumI_perm (sortE_perm _)) (i := (i : Int)) (by omega) hi2;rw [Int.toNat_natCast, el_map2 hi] at hp;have hmem : (el (offR gs ms).1 i).2 ∈ (offR gs ms).1.map fun t => t.2 := List.mem_map.2 ⟨_, el_mem hi, rfl⟩
 obtain ⟨hk, hv⟩ := hA.off _ hmem;have hm := mean_ok h00.1 h00.2 hk hv;have hbl : bxsL (fun k v => sortE (meanG gs k v)) (i : Int) s2.bx s2.bx.length = [] := by
  unfold bxsL
  rw [List.flatMap_eq_nil_iff];intro k _;rw [hbx k]; rfl
 have hfl : faL (fun k v => sortE (meanG gs k v)) (i : Int) s2.fa = faL (fun k v => (meanR gs (k : Int) v).1) (i : Int) s2.fa := by
  unfold faL
  refine flatMap_congr' fun e he => ?_
  obtain ⟨⟨j, hj, ej⟩, _⟩ := hA.lost e he;have := hlm e he;rw [ej, Int.toNat_natCast] at this ⊢;dsimp only;rw [this]
 rw [accL, hbl, List.append_nil, hfl] at hp;have hs2 : sortR (meanG gs (el (offR gs ms).1 i).2.1.toNat (el (offR gs ms).1 i).2.2) = meanR gs (el (offR gs ms).1 i).2.1 (el (offR gs ms).1 i).2.2 := by
  obtain ⟨j, hj, e⟩ := hk;rw [meanR, if_pos ⟨h00.1, by omega, by omega, hv, by omega⟩]
 exact ⟨by rw [sortR_same hp, hs2], by rw [hm]⟩
end
section
open Go.RowKit
end
section
open Go.RowKit

/-- What a pipe answers behind moves. -/
def ppR (gs : List PNode) (ms : List (Int × Int × Int)) : PP × List Int × Bool := if pipeB gs = true ∧ ms.length ≤ 300 then ((playP gs (srcP gs gs.length) ms (pp0 gs.length)).2, (playP gs (srcP gs gs.length) ms (pp0 gs.length)).1, true) else ({ ti := 0, it := 0, cl := false, bx := [], em := [], fa := [], fu := [] }, [], false)
def AnsPi (w : World) (r : PP × List Int × Bool) (e : Ending) (w' : World) : Prop :=
 (∃ bo bc eo ec fo fc uo uc co cc, e = .returned (.tuple #[.agg #[.int .i64 r.1.ti, .int .i64 r.1.it, .bool r.1.cl, .slice bo r.1.bx.length bc, .slice eo r.1.em.length ec, .slice fo r.1.fa.length fc, .slice uo r.1.fu.length uc], .slice co r.2.1.length cc, .bool r.2.2]) ∧
  FrPipe w.heap.size w'.heap.size w' bo bc r.1.bx eo ec r.1.em fo fc r.1.fa uo uc r.1.fu ∧ kI.Fresh w.heap.size w'.heap.size w' co cc r.2.1 ∧ Off uo r.1.fu.length co r.2.1.length) ∧ Below w.heap.size w w'
theorem off_of {uo co : Option Addr} {n m uc cc : Nat} {O : Nat → Prop} (hu : ∀ b, (Value.slice uo n uc).ownBlock = some b → O b) (hc : ∀ b, (Value.slice co m cc).ownBlock = some b → ¬ O b) {lo hi lo2 hi2 : Nat} {W : World} {xs ys : List Int} (h1 : kI.Fresh lo hi W uo uc xs) (h2 : kI.Fresh lo2 hi2 W co cc ys) (hx : xs.length = n) (hy : ys.length = m) : Off uo n co m := by
 rcases h1 with rfl | ⟨g, rfl, _, _⟩
 ·exact .inl (by simpa using hx.symm)
 ·rcases h2 with rfl | ⟨g2, rfl, _, _⟩
  ·exact .inr (.inl (by simpa using hy.symm))
  ·refine .inr (.inr fun e => ?_)
   simp at e
   subst e;exact hc g rfl (hu g rfl)
theorem set7_far {W : World} {q b : Nat} (hb : b ≠ q) (u0 u1 u2 u3 u4 u5 u6 : Value) : (((((((W.setCell ⟨q, 0, none⟩ u0).setCell ⟨q, 1, none⟩ u1).setCell ⟨q, 2, none⟩ u2).setCell ⟨q, 3, none⟩ u3).setCell ⟨q, 4, none⟩ u4).setCell ⟨q, 5, none⟩ u5).setCell ⟨q, 6, none⟩ u6).heap[b]? = W.heap[b]? := by
 rw [Below.heap_setCell _ _ _ _ hb, Below.heap_setCell _ _ _ _ hb, Below.heap_setCell _ _ _ _ hb, Below.heap_setCell _ _ _ _ hb, Below.heap_setCell _ _ _ _ hb, Below.heap_setCell _ _ _ _ hb, Below.heap_setCell _ _ _ _ hb]
set_option maxRecDepth 100000 in
set_option maxHeartbeats 4000000 in
theorem implPipe_any (ao : Option Addr) (cap : Nat) (ts : List LNode) (ea : Nat → Addr) (mo : Option Addr) (mc : Nat) (ms : List (Int × Int × Int)) (w : World) (hC : Roomy ts cap) (hE : Errs w ea) (hz : DIn dNode w.heap.size w ao ts) (hM : kMv.In w.heap.size w mo ms) (h64 : ∀ k, k < ms.length → (el ms k).1 ≤ 9223372036854775807) :
  Calls Tryz.prog 6 #[.slice ao ts.length cap, .slice mo ms.length mc] w (AnsPi w (ppR (ts.map valNode) ms)) := by
 have hb0 := below1 w (.cells #[.int .i64 0, .int .i64 0, .bool false, .slice none 0 0, .slice none 0 0, .slice none 0 0, .slice none 0 0] 32);obtain ⟨W0, hW0⟩ : ∃ W0, W0 = w.alloc (.cells #[.int .i64 0, .int .i64 0, .bool false, .slice none 0 0, .slice none 0 0, .slice none 0 0, .slice none 0 0] 32) := ⟨_, rfl⟩;have HW0 := hid hW0;have X0 : Bx W0 w.heap.size [.int .i64 0, .int .i64 0, .bool false, .slice none 0 0, .slice none 0 0, .slice none 0 0, .slice none 0 0] := by rw [hW0]; exact Bx.new (w := w) [.int .i64 0, .int .i64 0, .bool false, .slice none 0 0, .slice none 0 0, .slice none 0 0, .slice none 0 0] 32 rfl
 rw [← hW0] at hb0;have HX0 := hid X0;have HP := hid (played_any ao cap ts ea mo mc ms W0 hC (hE.later hb0) (hz.later dNode_ok hb0) (hM.later hb0) h64);have Hb0 := hid hb0;have hwz := X0.size;clear hC hE hz hM h64 hW0 hb0 X0
 by_cases hok : pipeB (ts.map valNode) = true ∧ ms.length ≤ 300
 ·have HR : Hid (ppR (ts.map valNode) ms = ((playP (ts.map valNode) (srcP (ts.map valNode) ts.length) ms (pp0 ts.length)).2, (playP (ts.map valNode) (srcP (ts.map valNode) ts.length) ms (pp0 ts.length)).1, true)) := by rw [Hid, ppR, if_pos hok, val_len]
  obtain ⟨s, hs⟩ : ∃ s, s = (playP (ts.map valNode) (srcP (ts.map valNode) ts.length) ms (pp0 ts.length)).2 := ⟨_, rfl⟩;obtain ⟨cs, hcs⟩ : ∃ cs, cs = (playP (ts.map valNode) (srcP (ts.map valNode) ts.length) ms (pp0 ts.length)).1 := ⟨_, rfl⟩;rw [← hs, ← hcs] at HR;go_enter Tryz.func6, Tryz.ntmps6;go_wp2_with fail;rw [← HW0.out];refine HP.out.mono ?_;rintro e w1 ⟨hq, hb1⟩;rw [if_pos hok] at hq;obtain ⟨lo, p, bb, so, sc, xs, ev, fv, uv, v, rfl, hlo, hI, F, hO, hA⟩ := hq;rw [← hs] at F;rw [← hcs] at hO;have R1 := HX0.out.later hb1;have c0 := F.box.c 2 rfl;have c1 := F.box.c 3 rfl;have c2 := F.box.c 4 rfl;have c3 := F.box.c 5 rfl;have c4 := F.box.c 6 rfl;have c5 := F.box.c 7 rfl;have c6 := F.box.c 8 rfl;have y0 := R1.c 0 rfl;have z0 := R1.f 0 rfl;have y1 := R1.c 1 rfl;have z1 := R1.f 1 rfl;have y2 := R1.c 2 rfl;have z2 := R1.f 2 rfl;have y3 := R1.c 3 rfl;have z3 := R1.f 3 rfl;have y4 := R1.c 4 rfl;have z4 := R1.f 4 rfl;have y5 := R1.c 5 rfl;have z5 := R1.f 5 rfl;have y6 := R1.c 6 rfl;have z6 := R1.f 6 rfl;obtain ⟨eo, ec, he, _, hEf⟩ := F.emo.fresh;obtain ⟨fo, fc, hf, _, hFf⟩ := F.fao.fresh;obtain ⟨uo, uc, hu, _, hUf⟩ := F.fuo.fresh;obtain ⟨co, cc, rfl, _, hCf⟩ := hO.fresh;rw [he] at c4;rw [hf] at c5;rw [hu] at c6;have hlo1 : w.heap.size < lo := Nat.lt_of_lt_of_le hwz hlo;have HB1 := hid (Hb0.out.trans (hb1.mono Hb0.out.size));have hlob := F.lob;have HBX := hid (F.hnd.fr);have HOF := hid (off_of (uo := uo) (co := co) (n := s.fu.length) (m := cs.length) (uc := uc) (cc := cc) (fun b hb => (show FO p bb xs ev fv uv b from .inr (.inr (.inr (.inr (.inr (by rw [hu]; exact hb))))))) hA hUf hCf rfl rfl);have HEF := hid hEf;have HFF := hid hFf;have HUF := hid hUf;have HCF := hid hCf;have HL := hid (F.hnd.len);clear hb1 F hO hA HP hok hs hcs he hf hu hEf hFf hUf hCf hI hlo R1;go_wp2;refine bodyPost_ret (v := .tuple #[.agg #[.int .i64 s.ti, .int .i64 s.it, .bool s.cl, .slice (some ⟨bb, 0, none⟩) s.bx.length s.bx.length, .slice eo s.em.length ec, .slice fo s.fa.length fc, .slice uo s.fu.length uc], .slice co cs.length cc, .bool true]) (by simp [results, Tryz.results6, go_sem, y0, y1, y2, y3, y4, y5, y6]) rfl ?_;obtain ⟨w5, h5⟩ : ∃ w5, w5 = (((((((w1.setCell ⟨w.heap.size, 0, none⟩ (.int .i64 s.ti)).setCell ⟨w.heap.size, 1, none⟩ (.int .i64 s.it)).setCell ⟨w.heap.size, 2, none⟩ (.bool s.cl)).setCell ⟨w.heap.size, 3, none⟩ (.slice (some ⟨bb, 0, none⟩) s.bx.length s.bx.length)).setCell ⟨w.heap.size, 4, none⟩ (.slice eo s.em.length ec)).setCell ⟨w.heap.size, 5, none⟩ (.slice fo s.fa.length fc)).setCell ⟨w.heap.size, 6, none⟩ (.slice uo s.fu.length uc)) := ⟨_, rfl⟩;rw [← h5, HR.out];have hk : ∀ b, b ≠ w.heap.size → w5.heap[b]? = w1.heap[b]? := fun b hb => by rw [h5]; exact set7_far hb _ _ _ _ _ _ _
  have hz5 : w5.heap.size = w1.heap.size := by rw [h5]; simp [World.setCell]
  have hkF : ∀ b, lo ≤ b → b < w1.heap.size → b < w1.heap.size → w5.heap[b]? = w1.heap[b]? := fun b h1 _ _ => hk b (by omega)
  refine ⟨⟨_, _, _, _, _, _, _, _, _, _, rfl, ⟨⟨_, (HBX.out.keep fun b h1 h2 h3 => hk b (by omega)).wide (by omega) (by omega)⟩, (HEF.out.keep hkF).wide (by omega) (by omega), (HFF.out.keep hkF).wide (by omega) (by omega), (HUF.out.keep hkF).wide (by omega) (by omega)⟩, (HCF.out.keep hkF).wide (by omega) (by omega), HOF.out⟩, ?_⟩;rw [h5];exact ((((((HB1.out.setCell (p := ⟨w.heap.size, 0, none⟩) (Nat.le_refl _) _).setCell (p := ⟨w.heap.size, 1, none⟩) (Nat.le_refl _) _).setCell (p := ⟨w.heap.size, 2, none⟩) (Nat.le_refl _) _).setCell (p := ⟨w.heap.size, 3, none⟩) (Nat.le_refl _) _).setCell (p := ⟨w.heap.size, 4, none⟩) (Nat.le_refl _) _).setCell (p := ⟨w.heap.size, 5, none⟩) (Nat.le_refl _) _).setCell (p := ⟨w.heap.size, 6, none⟩) (Nat.le_refl _) _
 ·have HR : Hid (ppR (ts.map valNode) ms = ({ ti := 0, it := 0, cl := false, bx := [], em := [], fa := [], fu := [] }, [], false)) := by rw [Hid, ppR, if_neg hok]
  go_enter Tryz.func6, Tryz.ntmps6;go_wp2_with fail;rw [← HW0.out];refine HP.out.mono ?_;rintro e w1 ⟨hq, hb1⟩;rw [if_neg hok] at hq;obtain rfl := hq;have R1 := HX0.out.later hb1;have y0 := R1.c 0 rfl;have z0 := R1.f 0 rfl;have y1 := R1.c 1 rfl;have z1 := R1.f 1 rfl;have y2 := R1.c 2 rfl;have z2 := R1.f 2 rfl;have y3 := R1.c 3 rfl;have z3 := R1.f 3 rfl;have y4 := R1.c 4 rfl;have z4 := R1.f 4 rfl;have y5 := R1.c 5 rfl;have z5 := R1.f 5 rfl;have y6 := R1.c 6 rfl;have z6 := R1.f 6 rfl;have HB1 := hid (Hb0.out.trans (hb1.mono Hb0.out.size));clear hb1 R1;go_wp2;refine bodyPost_ret (v := .tuple #[.agg #[.int .i64 0, .int .i64 0, .bool false, .slice none 0 0, .slice none 0 0, .slice none 0 0, .slice none 0 0], .slice none 0 0, .bool false]) (by simp [results, Tryz.results6, go_sem, y0, y1, y2, y3, y4, y5, y6]) rfl ?_;rw [HR.out];refine ⟨⟨_, _, _, _, _, _, _, _, _, _, rfl, ⟨⟨[], FrRT.nil _ _ _ _ _⟩, .inl rfl, .inl rfl, .inl rfl⟩, .inl rfl, .inl rfl⟩, ?_⟩;exact ((((((HB1.out.setCell (p := ⟨w.heap.size, 0, none⟩) (Nat.le_refl _) _).setCell (p := ⟨w.heap.size, 1, none⟩) (Nat.le_refl _) _).setCell (p := ⟨w.heap.size, 2, none⟩) (Nat.le_refl _) _).setCell (p := ⟨w.heap.size, 3, none⟩) (Nat.le_refl _) _).setCell (p := ⟨w.heap.size, 4, none⟩) (Nat.le_refl _) _).setCell (p := ⟨w.heap.size, 5, none⟩) (Nat.le_refl _) _).setCell (p := ⟨w.heap.size, 6, none⟩) (Nat.le_refl _) _
set_option maxRecDepth 100000 in
set_option maxHeartbeats 4000000 in
theorem specPipe_any (ao : Option Addr) (cap : Nat) (ts : List LNode) (mo : Option Addr) (mc : Nat) (ms : List (Int × Int × Int)) (w : World) (hC : Roomy ts cap) (hz : DIn dNode w.heap.size w ao ts) (hM : kMv.In w.heap.size w mo ms) (h64 : ∀ k, k < ms.length → (el ms k).1 ≤ 9223372036854775807) :
  Calls Tryz.prog 7 #[.slice ao ts.length cap, .slice mo ms.length mc] w (AnsPi w (ppR (ts.map valNode) ms)) := by
 have hb0 := below1 w (.cells #[.int .i64 0, .int .i64 0, .bool false, .slice none 0 0, .slice none 0 0, .slice none 0 0, .slice none 0 0] 32);obtain ⟨W0, hW0⟩ : ∃ W0, W0 = w.alloc (.cells #[.int .i64 0, .int .i64 0, .bool false, .slice none 0 0, .slice none 0 0, .slice none 0 0, .slice none 0 0] 32) := ⟨_, rfl⟩;have HW0 := hid hW0;have X0 : Bx W0 w.heap.size [.int .i64 0, .int .i64 0, .bool false, .slice none 0 0, .slice none 0 0, .slice none 0 0, .slice none 0 0] := by rw [hW0]; exact Bx.new (w := w) [.int .i64 0, .int .i64 0, .bool false, .slice none 0 0, .slice none 0 0, .slice none 0 0, .slice none 0 0] 32 rfl
 rw [← hW0] at hb0;have HX0 := hid X0;have HP := hid (l12Play_any ao cap ts mo mc ms W0 hC (hz.later dNode_ok hb0) (hM.later hb0) h64);have Hb0 := hid hb0;have hwz := X0.size;clear hC hz hM h64 hW0 hb0 X0
 by_cases hok : pipeB (ts.map valNode) = true ∧ ms.length ≤ 300
 ·have HR : Hid (ppR (ts.map valNode) ms = ((playP (ts.map valNode) (srcP (ts.map valNode) ts.length) ms (pp0 ts.length)).2, (playP (ts.map valNode) (srcP (ts.map valNode) ts.length) ms (pp0 ts.length)).1, true)) := by rw [Hid, ppR, if_pos hok, val_len]
  obtain ⟨s, hs⟩ : ∃ s, s = (playP (ts.map valNode) (srcP (ts.map valNode) ts.length) ms (pp0 ts.length)).2 := ⟨_, rfl⟩;obtain ⟨cs, hcs⟩ : ∃ cs, cs = (playP (ts.map valNode) (srcP (ts.map valNode) ts.length) ms (pp0 ts.length)).1 := ⟨_, rfl⟩;rw [← hs, ← hcs] at HR;go_enter Tryz.func7, Tryz.ntmps7;go_wp2_with fail;rw [← HW0.out];refine HP.out.mono ?_;rintro e w1 ⟨hq, hb1⟩;rw [if_pos hok] at hq;obtain ⟨lo, p, bb, xs, ev, fv, uv, v, rfl, hlo, F, hO, hA⟩ := hq;rw [← hs] at F;rw [← hcs] at hO;have R1 := HX0.out.later hb1;have c0 := F.box.c 1 rfl;have c1 := F.box.c 2 rfl;have c2 := F.box.c 3 rfl;have c3 := F.box.c 4 rfl;have c4 := F.box.c 5 rfl;have c5 := F.box.c 6 rfl;have c6 := F.box.c 7 rfl;have y0 := R1.c 0 rfl;have z0 := R1.f 0 rfl;have y1 := R1.c 1 rfl;have z1 := R1.f 1 rfl;have y2 := R1.c 2 rfl;have z2 := R1.f 2 rfl;have y3 := R1.c 3 rfl;have z3 := R1.f 3 rfl;have y4 := R1.c 4 rfl;have z4 := R1.f 4 rfl;have y5 := R1.c 5 rfl;have z5 := R1.f 5 rfl;have y6 := R1.c 6 rfl;have z6 := R1.f 6 rfl;obtain ⟨eo, ec, he, _, hEf⟩ := F.emo.fresh;obtain ⟨fo, fc, hf, _, hFf⟩ := F.fao.fresh;obtain ⟨uo, uc, hu, _, hUf⟩ := F.fuo.fresh;obtain ⟨co, cc, rfl, _, hCf⟩ := hO.fresh;rw [he] at c4;rw [hf] at c5;rw [hu] at c6;have hlo1 : w.heap.size < lo := Nat.lt_of_lt_of_le hwz hlo;have HB1 := hid (Hb0.out.trans (hb1.mono Hb0.out.size));have hlob := F.lob;have HBX := hid (F.hnd.fr);have HOF := hid (off_of (uo := uo) (co := co) (n := s.fu.length) (m := cs.length) (uc := uc) (cc := cc) (fun b hb => (show FO p bb xs ev fv uv b from .inr (.inr (.inr (.inr (.inr (by rw [hu]; exact hb))))))) hA hUf hCf rfl rfl);have HEF := hid hEf;have HFF := hid hFf;have HUF := hid hUf;have HCF := hid hCf;have HL := hid (F.hnd.len);clear hb1 F hO hA HP hok hs hcs he hf hu hEf hFf hUf hCf hlo R1;go_wp2;refine bodyPost_ret (v := .tuple #[.agg #[.int .i64 s.ti, .int .i64 s.it, .bool s.cl, .slice (some ⟨bb, 0, none⟩) s.bx.length s.bx.length, .slice eo s.em.length ec, .slice fo s.fa.length fc, .slice uo s.fu.length uc], .slice co cs.length cc, .bool true]) (by simp [results, Tryz.results7, go_sem, y0, y1, y2, y3, y4, y5, y6]) rfl ?_;obtain ⟨w5, h5⟩ : ∃ w5, w5 = (((((((w1.setCell ⟨w.heap.size, 0, none⟩ (.int .i64 s.ti)).setCell ⟨w.heap.size, 1, none⟩ (.int .i64 s.it)).setCell ⟨w.heap.size, 2, none⟩ (.bool s.cl)).setCell ⟨w.heap.size, 3, none⟩ (.slice (some ⟨bb, 0, none⟩) s.bx.length s.bx.length)).setCell ⟨w.heap.size, 4, none⟩ (.slice eo s.em.length ec)).setCell ⟨w.heap.size, 5, none⟩ (.slice fo s.fa.length fc)).setCell ⟨w.heap.size, 6, none⟩ (.slice uo s.fu.length uc)) := ⟨_, rfl⟩;rw [← h5, HR.out];have hk : ∀ b, b ≠ w.heap.size → w5.heap[b]? = w1.heap[b]? := fun b hb => by rw [h5]; exact set7_far hb _ _ _ _ _ _ _
  have hz5 : w5.heap.size = w1.heap.size := by rw [h5]; simp [World.setCell]
  have hkF : ∀ b, lo ≤ b → b < w1.heap.size → b < w1.heap.size → w5.heap[b]? = w1.heap[b]? := fun b h1 _ _ => hk b (by omega)
  refine ⟨⟨_, _, _, _, _, _, _, _, _, _, rfl, ⟨⟨_, (HBX.out.keep fun b h1 h2 h3 => hk b (by omega)).wide (by omega) (by omega)⟩, (HEF.out.keep hkF).wide (by omega) (by omega), (HFF.out.keep hkF).wide (by omega) (by omega), (HUF.out.keep hkF).wide (by omega) (by omega)⟩, (HCF.out.keep hkF).wide (by omega) (by omega), HOF.out⟩, ?_⟩;rw [h5];exact ((((((HB1.out.setCell (p := ⟨w.heap.size, 0, none⟩) (Nat.le_refl _) _).setCell (p := ⟨w.heap.size, 1, none⟩) (Nat.le_refl _) _).setCell (p := ⟨w.heap.size, 2, none⟩) (Nat.le_refl _) _).setCell (p := ⟨w.heap.size, 3, none⟩) (Nat.le_refl _) _).setCell (p := ⟨w.heap.size, 4, none⟩) (Nat.le_refl _) _).setCell (p := ⟨w.heap.size, 5, none⟩) (Nat.le_refl _) _).setCell (p := ⟨w.heap.size, 6, none⟩) (Nat.le_refl _) _
 ·have HR : Hid (ppR (ts.map valNode) ms = ({ ti := 0, it := 0, cl := false, bx := [], em := [], fa := [], fu := [] }, [], false)) := by rw [Hid, ppR, if_neg hok]
  go_enter Tryz.func7, Tryz.ntmps7;go_wp2_with fail;rw [← HW0.out];refine HP.out.mono ?_;rintro e w1 ⟨hq, hb1⟩;rw [if_neg hok] at hq;obtain ⟨q, rfl⟩ := hq;have R1 := HX0.out.later hb1;have y0 := R1.c 0 rfl;have z0 := R1.f 0 rfl;have y1 := R1.c 1 rfl;have z1 := R1.f 1 rfl;have y2 := R1.c 2 rfl;have z2 := R1.f 2 rfl;have y3 := R1.c 3 rfl;have z3 := R1.f 3 rfl;have y4 := R1.c 4 rfl;have z4 := R1.f 4 rfl;have y5 := R1.c 5 rfl;have z5 := R1.f 5 rfl;have y6 := R1.c 6 rfl;have z6 := R1.f 6 rfl;have HB1 := hid (Hb0.out.trans (hb1.mono Hb0.out.size));clear hb1 R1;go_wp2;refine bodyPost_ret (v := .tuple #[.agg #[.int .i64 0, .int .i64 0, .bool false, .slice none 0 0, .slice none 0 0, .slice none 0 0, .slice none 0 0], .slice none 0 0, .bool false]) (by simp [results, Tryz.results7, go_sem, y0, y1, y2, y3, y4, y5, y6]) rfl ?_;rw [HR.out];refine ⟨⟨_, _, _, _, _, _, _, _, _, _, rfl, ⟨⟨[], FrRT.nil _ _ _ _ _⟩, .inl rfl, .inl rfl, .inl rfl⟩, .inl rfl, .inl rfl⟩, ?_⟩;exact ((((((HB1.out.setCell (p := ⟨w.heap.size, 0, none⟩) (Nat.le_refl _) _).setCell (p := ⟨w.heap.size, 1, none⟩) (Nat.le_refl _) _).setCell (p := ⟨w.heap.size, 2, none⟩) (Nat.le_refl _) _).setCell (p := ⟨w.heap.size, 3, none⟩) (Nat.le_refl _) _).setCell (p := ⟨w.heap.size, 4, none⟩) (Nat.le_refl _) _).setCell (p := ⟨w.heap.size, 5, none⟩) (Nat.le_refl _) _).setCell (p := ⟨w.heap.size, 6, none⟩) (Nat.le_refl _) _
end
section
open Go.RowKit

set_option maxHeartbeats 2000000 in
theorem sameInts_same (ao bo : Option Addr) (cap cap' : Nat) (zs : List Int) (w : World) (hl : zs.length ≤ 1048576) (hz : kI.In w.heap.size w ao zs) (hz' : kI.In w.heap.size w bo zs) :
  Calls Tryz.prog 8 #[.slice ao zs.length cap, .slice bo zs.length cap'] w fun e w' => e = .returned (.bool true) ∧ Below w.heap.size w w' := by
 have hne : ((zs.length : Int) != (zs.length : Int)) = false := by simp
 go_enter Tryz.func8, Tryz.ntmps8;go_wp2
 go_loopw [13] (fun i wr => ∃ k : Nat, k ≤ zs.length ∧ i = .int .i64 k ∧ Below w.heap.size w wr) (fun i _ => zs.length - (intOf i).toNat)
 case atStart => exact ⟨0, Nat.zero_le _, rfl, Below.refl _ _⟩
 case round =>
  obtain ⟨k, hk, rfl, hnx⟩ := hrel
  by_cases hlt : k < zs.length
  ·obtain ⟨b, off, rfl, hb, hc⟩ := ints_at hz hlt;obtain ⟨b', off', rfl, hb', hc'⟩ := ints_at hz' hlt;have hck := (hnx.cell (p := ⟨b, off + k, none⟩) hb).trans (hc k hlt);have hck' := (hnx.cell (p := ⟨b', off' + k, none⟩) hb').trans (hc' k hlt);clear hc hz hc' hz';obtain ⟨x, hx⟩ : ∃ x, x = el zs k := ⟨_, rfl⟩;rw [← hx] at hck hck';clear hx;have hxx : (x != x) = false := by simp
   go_wp2
   go_quiet (fail)
   go_wp2;go_roundw
   case rel => exact ⟨k + 1, by omega, by go_num, below_draws hnx _⟩
   case measure => simp [intOf]; omega
  ·obtain rfl : k = zs.length := by omega
   go_wp2;go_ret;exact ⟨rfl, hnx⟩
set_option maxHeartbeats 2000000 in
theorem sameEmits_same (ao bo : Option Addr) (cap cap' : Nat) (zs : List (Int × Int)) (w : World) (hl : zs.length ≤ 1048576) (hz : kE.In w.heap.size w ao zs) (hz' : kE.In w.heap.size w bo zs) :
  Calls Tryz.prog 14 #[.slice ao zs.length cap, .slice bo zs.length cap'] w fun e w' => e = .returned (.bool true) ∧ Below w.heap.size w w' := by
 have hne : ((zs.length : Int) != (zs.length : Int)) = false := by simp
 go_enter Tryz.func14, Tryz.ntmps14;go_wp2
 go_loopw [13] (fun i wr => ∃ k : Nat, k ≤ zs.length ∧ i = .int .i64 k ∧ Below w.heap.size w wr) (fun i _ => zs.length - (intOf i).toNat)
 case atStart => exact ⟨0, Nat.zero_le _, rfl, Below.refl _ _⟩
 case round =>
  obtain ⟨k, hk, rfl, hnx⟩ := hrel
  by_cases hlt : k < zs.length
  ·obtain ⟨b, off, rfl, hb, hc⟩ := kE_at hz hlt;obtain ⟨b', off', rfl, hb', hc'⟩ := kE_at hz' hlt;obtain ⟨d0, d1⟩ := hc k hlt;obtain ⟨d0', d1'⟩ := hc' k hlt;have c0 := (hnx.cell (p := ⟨b, off + k * 2, none⟩) hb).trans d0;have c1 := (hnx.cell (p := ⟨b, off + k * 2 + 1, none⟩) hb).trans d1;have c0' := (hnx.cell (p := ⟨b', off' + k * 2, none⟩) hb').trans d0';have c1' := (hnx.cell (p := ⟨b', off' + k * 2 + 1, none⟩) hb').trans d1';clear hc hz hc' hz' d0 d1 d0' d1';obtain ⟨⟨x, y⟩, hx⟩ : ∃ x, x = el zs k := ⟨_, rfl⟩;rw [← hx] at c0 c1 c0' c1';dsimp only at c0 c1 c0' c1';clear hx;have hxx : (x != x) = false := by simp
   have hyy : (y != y) = false := by simp
   go_wp2
   go_quiet (fail)
   go_wp2;go_roundw
   case rel => exact ⟨k + 1, by omega, by go_num, below_draws hnx _⟩
   case measure => simp [intOf]; omega
  ·obtain rfl : k = zs.length := by omega
   go_wp2;go_ret;exact ⟨rfl, hnx⟩
end
section
open Go.RowKit
end
end Go.Proofs.YtllmpinmbajpgaaGreatDoor
