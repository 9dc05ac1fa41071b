
/- Marks over a topic touch nothing else. No conditions but those written. -/
import Derived.Test.YtdghlgpkcpndjaaTo
namespace Go.Proofs.Ytdghlgpkcpndjaa
open Go.RowKit

/-- Nothing turned but the heads and the rows behind them. -/
def OnlyD (ao : Option Addr) (ts : List LSub) (w w' : World) : Prop := ∀ b, b < w.heap.size → ¬ rowOwn ao ts b → (∀ j, j < ts.length → ¬ dSub.own (el ts j) b) → w'.heap[b]? = w.heap[b]?
/-- The ints' row is none of the Subs'. -/
def Apart (us : List LSub) (go : Option Addr) (xs : List Int) : Prop := ∀ b, rowOwn go xs b → ∀ j, j < us.length → ¬ dSub.own (el us j) b
theorem Apart.mark {us : List LSub} {go : Option Addr} {xs : List Int} (h : Apart us go xs) (k : Int) : Apart (markC k us) go xs := by
  intro b hb j hj ho
  rw [markC_len] at hj
  rw [markC_at k us j hj] at ho
  refine h b hb j hj ?_
  have h2 : rowOwn (el us j).2.2.2.2.1 (markI _ (el us j).2.2.2.2.2.2.length) b := ho
  rw [rowOwn_len (markI_len _ _)] at h2
  exact h2
theorem Apart.marked {us : List LSub} {go : Option Addr} {xs : List Int} (h : Apart us go xs) (k : Int) : Apart us go (markI k xs.length) := fun b hb => h b ((rowOwn_len (markI_len _ _)).1 hb)
theorem ints_kept {lo hi lo' hi' : Nat} {W W' : World} {o go : Option Addr} {c qc : Nat} {us : List LSub} {xs : List Int} (h : kI.Fresh lo hi W go qc xs) (hD : DFr dSub lo' hi' W o c us) (hn : OnlyD o us W W') (hA : Apart us go xs) : kI.Fresh lo hi W' go qc xs :=
  h.keepB fun b hb => hn b (h.lt hb).2.2.1 (not_row h (show hSub.Fresh _ _ _ _ _ _ from hD.1) ne_HI.symm hb) (hA b hb)
theorem subs_kept {lo hi lo' hi' : Nat} {W W' : World} {o go : Option Addr} {c qc : Nat} {us : List LSub} {xs : List Int} (h : DFr dSub lo hi W o c us) (hI : kI.Fresh lo' hi' W go qc xs) (hO : OnlyAt (eff go xs.length) W W') (hA : Apart us go xs) : DFr dSub lo hi W' o c us :=
  ⟨(show hSub.Fresh _ _ _ _ _ _ from h.1).keepB fun _ hb => only_own hO (not_row (show hSub.Fresh _ _ _ _ _ _ from h.1) hI ne_HI hb), fun j hj => dSub_ok.keep (h.2.1 j hj) fun b hb => only_own hO (fun hr => hA b hr j hj hb), h.2.2⟩
set_option maxRecDepth 10000 in
set_option maxHeartbeats 8000000 in
theorem markSubS2_any (lo hi : Nat) (ao : Option Addr) (c : Nat) (ts : List LSub) (k0 : Int) (w : World) (hl : ts.length ≤ 1048576) (ht : totSub ts ≤ 1048576) (hk0 : 0 ≤ k0) (hk1 : k0 ≤ 8000000) (hF : DFr dSub lo hi w ao c ts) :
    Calls Try.prog 45 #[.slice ao ts.length c, .int .i64 k0] w fun e w' => e = .returned (.int .i64 (endC k0 ts)) ∧ DFr dSub lo hi w' ao c (markC k0 ts) ∧ Between lo hi w w' ∧ OnlyD ao ts w w' := by
  rcases Nat.eq_zero_or_pos ts.length with h0 | h0
  · obtain rfl : ts = [] := List.length_eq_zero_iff.1 h0
    go_enter Try.func45, Try.ntmps45
    go_wp2
    go_loop [1, 5] (fun v i => v = .int .i64 k0 ∧ i = .int .i64 0) (fun _ _ => 0)
    case atStart => exact ⟨rfl, rfl⟩
    case round =>
      obtain ⟨rfl, rfl⟩ := hrel
      go_wp2
      go_ret
      exact ⟨rfl, DFr.nil _ _ _ _ _, Between.refl _ _ _, fun _ _ _ _ => rfl⟩
  · have HF := hid hF
    have h1 : hSub.Fresh lo hi w ao c ts := hF.1
    obtain ⟨g, rfl, _⟩ := h1.at h0
    clear h1 hF
    have HT := hid ht
    clear ht
    go_enter Try.func45, Try.ntmps45
    go_wp2
    go_loopw [1, 5] (fun v i wr => ∃ (k : Nat) (kk : Int), k ≤ ts.length ∧ i = .int .i64 k ∧ v = .int .i64 kk ∧ Hid (kk = endC k0 (ts.take k)) ∧ Hid (DFr dSub lo hi wr (some ⟨g, 0, none⟩) c (midC k0 ts k)) ∧ Between lo hi w wr ∧ Hid (OnlyD (some ⟨g, 0, none⟩) ts w wr)) (fun _ i _ => ts.length - (intOf i).toNat)
    case atStart => exact ⟨0, k0, Nat.zero_le _, rfl, rfl, rfl, by rw [Hid, midC_zero]; exact HF.out, Between.refl _ _ _, fun _ _ _ _ => rfl⟩
    case round =>
      obtain ⟨k, kk, hk, rfl, rfl, HK, hD, hB, hN⟩ := hrel
      by_cases hlt : k < ts.length
      · have HLT := hid hlt
        obtain ⟨us, hus⟩ : ∃ us, us = midC k0 ts k := ⟨_, rfl⟩
        have HU := hid hus
        have hul : us.length = ts.length := by rw [hus]; exact midC_len _ _ hk
        have hue : el us k = el ts k := by rw [hus]; exact midC_el _ hlt
        rw [← hus] at hD
        clear hus
        have hku : k < us.length := by omega
        have hbd : 0 ≤ kk ∧ kk ≤ 13242880 := by
          have h1 := endC_is k0 (ts.take k)
          have h2 := totSub_le ts k
          have h3 := HT.out
          rw [← HK.out] at h1
          simp only [List.length_take] at h1
          omega
        have hsz := totSub_el hlt
        have hsz2 : sizeSub (el ts k) ≤ 1048576 := by have := HT.out; omega
        clear hsz
        obtain ⟨⟨nd, kap, dr, dp, ⟨qo, qc, q⟩⟩, ea⟩ : ∃ a, a = el ts k := ⟨_, rfl⟩
        rw [← ea] at hue hsz2
        have HEA := hid ea
        have HUE := hid hue
        clear ea
        have hsz3 : q.length ≤ 1048576 := by simp [sizeSub] at hsz2; omega
        clear hsz2
        obtain ⟨⟨c0, c1, c2, c3, c4⟩, ff, hg1, hg2, hg3⟩ := hd_at hD.out hku
        have f0 : wr.frozen? ⟨g, k * 5, none⟩ = false := ff 0
        have f1 := ff 1
        have f2 := ff 2
        have f3 := ff 3
        clear ff
        rw [hue] at c0 c1 c2 c3 c4
        dsimp only at c0 c1 c2 c3 c4
        obtain ⟨W1, hW1⟩ : ∃ W1, W1 = ((((wr.setCell ⟨g, k * 5, none⟩ (.int .i64 kk)).setCell ⟨g, k * 5 + 1, none⟩ (.int .i64 (kk + 1))).setCell ⟨g, k * 5 + 2, none⟩ (.bool ((kk + 1 + 1) % 3 == 0))).setCell ⟨g, k * 5 + 3, none⟩ (.int .i64 (kk + 1 + 1 + 1))) := ⟨_, rfl⟩
        have D1 : Hid (DFr dSub lo hi W1 (some ⟨g, 0, none⟩) c (us.set k (kk, kk + 1, (kk + 1 + 1) % 3 == 0, kk + 1 + 1 + 1, (qo, qc, q)))) := by
          have := DFr.head4 hD.out hku kk (kk + 1) (kk + 1 + 1 + 1) ((kk + 1 + 1) % 3 == 0)
          rw [hue] at this; rw [hW1]; exact this
        have hB1 : Between lo hi w W1 := by rw [hW1]; exact (((hB.trans (Between.set _ hg1 hg2 _)).trans (Between.set _ hg1 hg2 _)).trans (Between.set _ hg1 hg2 _)).trans (Between.set _ hg1 hg2 _)
        have N1 : Hid (OnlyD (some ⟨g, 0, none⟩) ts w W1) := fun b hb h1 h2 => by
          have hbg : b ≠ g := fun e => h1 ⟨by omega, by rw [e]⟩
          rw [hW1, Below.heap_setCell _ _ _ _ (by simpa using hbg), Below.heap_setCell _ _ _ _ (by simpa using hbg), Below.heap_setCell _ _ _ _ (by simpa using hbg), Below.heap_setCell _ _ _ _ (by simpa using hbg)]
          exact hN.out b hb h1 h2
        have HW1 := hid hW1
        clear hW1 hue
        go_wp2_with fail
        rw [← HW1.out]
        have e1 : el (us.set k (kk, kk + 1, (kk + 1 + 1) % 3 == 0, kk + 1 + 1 + 1, (qo, qc, q))) k = (kk, kk + 1, (kk + 1 + 1) % 3 == 0, kk + 1 + 1 + 1, (qo, qc, q)) := el_set_same hku
        have l1 : k < (us.set k (kk, kk + 1, (kk + 1 + 1) % 3 == 0, kk + 1 + 1 + 1, (qo, qc, q))).length := by simpa using hku
        have r1 : kI.Fresh lo hi W1 qo qc q := by have h := D1.out.2.1 k l1; rw [e1] at h; exact h
        refine (markIntS_any lo hi qo qc q (kk + 1 + 1 + 1 + 1) W1 (by omega) (by omega) (by omega) r1).mono ?_
        rintro e W2 ⟨rfl, hF1, hO1⟩
        have hB2 : Between lo hi w W2 := hB1.trans (r1.between hO1)
        have D2 : Hid (DFr dSub lo hi W2 (some ⟨g, 0, none⟩) c (us.set k (kk, kk + 1, (kk + 1 + 1) % 3 == 0, kk + 1 + 1 + 1, (qo, qc, (markI (kk + 1 + 1 + 1 + 1) q.length))))) := by
          have h := DFr.row1 D1.out l1 (b' := markI (kk + 1 + 1 + 1 + 1) q.length) (by rw [e1]; exact markI_len _ _) (by rw [e1]; exact hF1) (by rw [e1]; exact hO1)
          rw [List.set_set, e1] at h; exact h
        have N2 : Hid (OnlyD (some ⟨g, 0, none⟩) ts w W2) := fun b hb h1 h2 => (only_own hO1 (fun hr => h2 k HLT.out (by rw [← HEA.out]; exact hr))).trans (N1.out b hb h1 h2)
        clear hF1 hO1 r1 e1 l1 D1 hB1 N1 hN
        go_wp2
        go_roundw
        case rel =>
          refine ⟨k + 1, nxC kk (nd, kap, dr, dp, (qo, qc, q)), by omega, by go_num, rfl, ?_, ?_, hB2, N2⟩
          · rw [Hid, endC_succ HLT.out, ← HK.out, ← HEA.out]
          · rw [Hid, ← midC_set k0 HLT.out, ← HK.out, ← HEA.out, ← HU.out]; exact D2.out
        case measure => simp [intOf]; omega
      · obtain rfl : k = ts.length := by omega
        rw [midC_all] at hD
        rw [List.take_length] at HK
        go_wp2
        go_ret
        exact ⟨ret_int HK.out, hD.out, hB, hN.out⟩
set_option maxHeartbeats 2000000 in
theorem markTopic2_any (sd : Int) (lo hi : Nat) (ao : Option Addr) (c : Nat) (ts : List LSub) (k0 : Int) (w : World) (hl : ts.length ≤ 1048576) (ht : totSub ts ≤ 1048576) (hk0 : 0 ≤ k0) (hk1 : k0 ≤ 8000000) (hF : DFr dSub lo hi w ao c ts) :
    Calls Try.prog 21 #[.agg #[.int .i64 sd, .slice ao ts.length c], .int .i64 k0] w fun e w' => e = .returned (.int .i64 (endC k0 ts)) ∧ DFr dSub lo hi w' ao c (markC k0 ts) ∧ Between lo hi w w' ∧ OnlyD ao ts w w' := by
  have hB0 := below1 w (.cells #[.int .i64 sd, .slice ao ts.length c] 25)
  have hF0 := hid (hF.later dSub_ok hB0)
  clear hF
  go_enter Try.func21, Try.ntmps21
  go_wp2_with fail
  refine (markSubS2_any lo hi ao c ts k0 _ hl ht hk0 hk1 hF0.out).mono ?_
  rintro e w1 ⟨rfl, hF1, hb1, hn1⟩
  have H1 := hid (And.intro hF1 (And.intro ((Between.of_below hB0).trans hb1) (fun b hb h1 h2 => (hn1 b (Nat.lt_of_lt_of_le hb hB0.size) h1 h2).trans (hB0.block b hb))))
  clear hF1 hb1 hF0 hB0
  go_wp2
  go_ret
  exact ⟨rfl, H1.out⟩
theorem markTopic_ex2 (sd : Int) (lo hi : Nat) (o : Option Addr) (c : Nat) (us : List LSub) (ps : List PSub) (k0 : Int) (w : World) (hv : us.map valSub = ps) (hl : ps.length ≤ 1048576) (ht : totP ps ≤ 1048576) (hk0 : 0 ≤ k0) (hk1 : k0 ≤ 8000000) (hF : FrH lo hi w o c us) :
    Calls Try.prog 21 #[.agg #[.int .i64 sd, .slice o ps.length c], .int .i64 k0] w fun e w' => e = .returned (.int .i64 (endC k0 us)) ∧ FrH lo hi w' o c (markC k0 us) ∧ Between lo hi w w' ∧ OnlyD o us w w' := by
  have h1 := len_ps hv
  have h2 := tot_ps hv
  rw [← h1]
  exact markTopic2_any sd lo hi o c us k0 w (by omega) (by omega) hk0 hk1 hF
end Go.Proofs.Ytdghlgpkcpndjaa
