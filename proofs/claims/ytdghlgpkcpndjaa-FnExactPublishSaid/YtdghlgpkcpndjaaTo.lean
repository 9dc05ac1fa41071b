
/- Marks over a topic are held. No conditions but those written. -/
import Derived.Test.YtdghlgpkcpndjaaTm
namespace Go.Proofs.Ytdghlgpkcpndjaa
open Go.RowKit

theorem markC_at : ∀ (k : Int) (ts : List LSub) (i : Nat), i < ts.length → el (markC k ts) i = mkC (endC k (ts.take i)) (el ts i)
  | _, [], i, h => by simp at h
  | k, a :: r, 0, _ => by rw [markC, el_zero, el_zero]; rfl
  | k, a :: r, i + 1, h => by
    rw [markC, el_cons, el_cons, markC_at (nxC k a) r i (by simpa using h)]
    rfl
set_option maxRecDepth 10000 in
set_option maxHeartbeats 8000000 in
theorem heldSubS_any (ao : Option Addr) (c : Nat) (ts : List LSub) (k0 : Int) (w : World) (hl : ts.length ≤ 1048576) (ht : totSub ts ≤ 1048576) (hk0 : 0 ≤ k0) (hk1 : k0 ≤ 8000000) (hF : DIn dSub w.heap.size w ao (markC k0 ts)) :
    Calls Try.prog 46 #[.slice ao ts.length c, .int .i64 k0] w fun e w' => e = .returned (.int .i64 (endC k0 ts)) ∧ w' = w := by
  have HF := hid hF
  have HT := hid ht
  have hml := markC_len k0 ts
  clear hF ht
  go_enter Try.func46, Try.ntmps46
  go_wp2
  go_loop [1, 5] (fun v i => ∃ (k : Nat) (kk : Int), k ≤ ts.length ∧ i = .int .i64 k ∧ v = .int .i64 kk ∧ Hid (kk = endC k0 (ts.take k))) (fun _ i => ts.length - (intOf i).toNat)
  case atStart => exact ⟨0, k0, Nat.zero_le _, rfl, rfl, rfl⟩
  case round =>
    obtain ⟨k, kk, hk, rfl, rfl, HK⟩ := hrel
    by_cases hlt : k < ts.length
    · have HLT := hid hlt
      have hbd : 0 ≤ kk ∧ kk ≤ 13242880 := by
        have h1 := endC_is k0 (ts.take k)
        have h2 := totSub_le ts k
        have h3 := HT.out
        rw [← HK.out] at h1
        simp only [List.length_take] at h1
        omega
      have hsz := totSub_el hlt
      have hsz2 : sizeSub (el ts k) ≤ 1048576 := by have := HT.out; omega
      clear hsz
      have hkm : k < (markC k0 ts).length := by rw [hml]; exact hlt
      have hat := markC_at k0 ts k hlt
      rw [← HK.out] at hat
      obtain ⟨b0, off, rfl, hb, hc⟩ := hSub_at HF.out.1 hkm
      have c0 := (hc k hkm).1
      have c1 := (hc k hkm).2.1
      have c2 := (hc k hkm).2.2.1
      have c3 := (hc k hkm).2.2.2.1
      have c4 := (hc k hkm).2.2.2.2
      have hI := HF.out.2 k hkm
      rw [hat] at c0 c1 c2 c3 c4 hI
      obtain ⟨⟨nd, kap, dr, dp, ⟨qo, qc, q⟩⟩, ea⟩ : ∃ a, a = el ts k := ⟨_, rfl⟩
      rw [← ea] at c0 c1 c2 c3 c4 hI hsz2
      have HEA := hid ea
      have HI : Hid (kI.In w.heap.size w qo (markI (kk + 1 + 1 + 1 + 1) q.length)) := hI
      clear ea hat hc hI
      dsimp only [mkC] at c0 c1 c2 c3 c4
      rw [markI_len] at c4
      have hsz3 : q.length ≤ 1048576 := by simp [sizeSub] at hsz2; omega
      have n0 : (kk != kk) = false := by simp
      have n1 : (kk + 1 != kk + 1) = false := by simp
      have n3 : (kk + 1 + 1 + 1 != kk + 1 + 1 + 1) = false := by simp
      obtain ⟨x, hx⟩ : ∃ x, ((kk + 1 + 1) % 3 == 0) = x := ⟨_, rfl⟩
      rw [hx] at c2
      have nx : (x != x) = false := by simp
      clear hsz2
      go_wp2_with fail
      refine (heldIntS_any qo qc q.length (kk + 1 + 1 + 1 + 1) w (by omega) (by omega) (by omega) HI.out).mono ?_
      rintro e wx ⟨rfl, hwx⟩
      rw [hwx]; clear hwx wx
      have q1 : decide (kk + 1 + 1 + 1 + 1 + (q.length : Int) < 0) = false := by simp; omega
      go_wp2
      go_round
      case rel => exact ⟨k + 1, nxC kk (nd, kap, dr, dp, (qo, qc, q)), by omega, by go_num, rfl, by rw [Hid, endC_succ HLT.out, ← HK.out, ← HEA.out]⟩
      case measure => simp [intOf]; omega
    · obtain rfl : k = ts.length := by omega
      rw [List.take_length] at HK
      go_wp2
      go_ret
      exact ⟨ret_int HK.out, rfl⟩
set_option maxHeartbeats 2000000 in
theorem heldTopic_any (sd : Int) (ao : Option Addr) (c : Nat) (ts : List LSub) (k0 : Int) (w : World) (hl : ts.length ≤ 1048576) (ht : totSub ts ≤ 1048576) (hk0 : 0 ≤ k0) (hk1 : k0 ≤ 8000000) (hF : DIn dSub w.heap.size w ao (markC k0 ts)) :
    Calls Try.prog 23 #[.agg #[.int .i64 sd, .slice ao ts.length c], .int .i64 k0] w fun e w' => e = .returned (.int .i64 (endC k0 ts)) ∧ Below w.heap.size w w' := by
  have hB0 := below1 w (.cells #[.int .i64 sd, .slice ao ts.length c] 25)
  have HF := hid (hF.later dSub_ok hB0)
  have hq : decide (endC k0 ts < 0) = false := by have := endC_is k0 ts; simp; omega
  clear hF
  go_enter Try.func23, Try.ntmps23
  go_wp2_with fail
  refine (heldSubS_any ao c ts k0 _ hl ht hk0 hk1 HF.out).mono ?_
  rintro e w1 ⟨rfl, hw1⟩
  rw [hw1]; clear hw1 w1
  go_wp2
  go_ret
  exact ⟨rfl, hB0⟩
/-- A topic's Subs in memory of their own, wherever they begin. -/
def FrH (lo hi : Nat) (W : World) (o : Option Addr) (n : Nat) (us : List LSub) : Prop := DFr dSub lo hi W o n us
theorem FrH.of {lo hi : Nat} {W : World} {o : Option Addr} {n : Nat} {us : List LSub} (h : DFr dSub lo hi W o n us) : FrH lo hi W o n us := h
theorem FrH.later {lo hi : Nat} {W W' : World} {o : Option Addr} {n : Nat} {us : List LSub} (h : FrH lo hi W o n us) (hb : Below W.heap.size W W') : FrH lo hi W' o n us := DFr.later dSub_ok h hb
theorem FrH.in {lo hi : Nat} {W : World} {o : Option Addr} {n : Nat} {us : List LSub} (h : FrH lo hi W o n us) : DIn dSub W.heap.size W o us := DFr.in dSub_ok h
theorem FrH.between' {lo hi lo' hi' : Nat} {W W' : World} {o : Option Addr} {n : Nat} {us : List LSub} (h : FrH lo hi W o n us) (hb : Between lo' hi' W W') (hd : hi ≤ lo' ∨ hi' ≤ lo) : FrH lo hi W' o n us := DFr.between' dSub_ok h hb hd
theorem markTopic_of (sd : Int) (lo hi : Nat) (o : Option Addr) (c : Nat) (us : List LSub) (ps : List PSub) (k0 : Int) (w : World) (hv : us.map valSub = ps) (hl : ps.length ≤ 1048576) (ht : totP ps ≤ 1048576) (hk0 : 0 ≤ k0) (hk1 : k0 ≤ 8000000) (hF : FrH lo hi w o c us) :
    Calls Try.prog 21 #[.agg #[.int .i64 sd, .slice o ps.length c], .int .i64 k0] w fun e w' => (∃ kk : Int, e = .returned (.int .i64 kk) ∧ k0 ≤ kk ∧ kk ≤ k0 + 5242880) ∧ Between lo hi w w' := by
  have h1 := len_ps hv
  have h2 := tot_ps hv
  rw [← h1]
  refine (markTopic_any sd lo hi _ c us k0 w (by omega) (by omega) hk0 hk1 hF).mono ?_
  rintro e w' ⟨rfl, _, hb⟩
  have := endC_is k0 us
  exact ⟨⟨_, rfl, this.1, by omega⟩, hb⟩
theorem markTopic_ex (sd : Int) (lo hi : Nat) (o : Option Addr) (c : Nat) (us : List LSub) (ps : List PSub) (k0 : Int) (w : World) (hv : us.map valSub = ps) (hl : ps.length ≤ 1048576) (ht : totP ps ≤ 1048576) (hk0 : 0 ≤ k0) (hk1 : k0 ≤ 8000000) (hF : FrH lo hi w o c us) :
    Calls Try.prog 21 #[.agg #[.int .i64 sd, .slice o ps.length c], .int .i64 k0] w fun e w' => e = .returned (.int .i64 (endC k0 us)) ∧ FrH lo hi w' o c (markC k0 us) ∧ Between lo hi w w' := by
  have h1 := len_ps hv
  have h2 := tot_ps hv
  rw [← h1]
  exact markTopic_any sd lo hi o c us k0 w (by omega) (by omega) hk0 hk1 hF
theorem heldTopic_ex (sd : Int) (o : Option Addr) (c : Nat) (us : List LSub) (ps : List PSub) (k0 : Int) (w : World) (hv : us.map valSub = ps) (hl : ps.length ≤ 1048576) (ht : totP ps ≤ 1048576) (hk0 : 0 ≤ k0) (hk1 : k0 ≤ 8000000) (hF : DIn dSub w.heap.size w o (markC k0 us)) :
    Calls Try.prog 23 #[.agg #[.int .i64 sd, .slice o ps.length c], .int .i64 k0] w fun e w' => e = .returned (.int .i64 (endC k0 us)) ∧ Below w.heap.size w w' := by
  have h1 := len_ps hv
  have h2 := tot_ps hv
  rw [← h1]
  exact heldTopic_any sd o c us k0 w (by omega) (by omega) hk0 hk1 hF
end Go.Proofs.Ytdghlgpkcpndjaa
