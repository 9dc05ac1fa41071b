
/- The walk of the law of StopOrder. No conditions but those written. -/
import Derived.Test.YthhamfgclhiagaaLz
import Derived.Test.YthhamfgclhiagaaMk
namespace Go.Proofs.Ythhamfgclhiagaa
open Go.RowKit

theorem specStop_len {o : Option Addr} {cap n : Nat} {us : List LKeeper} {ps : List PKeeper} {R : List (Int × Int × Int) × Bool} {w : World} (hn : us.length = n) (hv : us.map valKeeper = ps) (hR : stopR ps = R) (hl : n ≤ 1048576) (hcap : n ≤ cap) (hle : Fits us) (hz : DIn dKeeper w.heap.size w o us) :
    Calls Try.prog 18 #[.slice o n cap] w fun e w' => AnsA w R e w' := by subst hn hv hR; exact specStopO_any o cap us w hl hcap hle hz
theorem implStop_len {o : Option Addr} {cap n : Nat} {us : List LKeeper} {ps : List PKeeper} {R : List (Int × Int × Int) × Bool} {w : World} (hn : us.length = n) (hv : us.map valKeeper = ps) (hR : stopR ps = R) (hl : n ≤ 1048576) (hcap : n ≤ cap) (hle : Fits us) (hz : DIn dKeeper w.heap.size w o us) :
    Calls Try.prog 19 #[.slice o n cap] w fun e w' => AnsA w R e w' := by subst hn hv hR; exact implStopO_any o cap us w hl hcap hle hz
theorem markK_len {lo hi : Nat} {o : Option Addr} {c n : Nat} {us : List LKeeper} {w : World} (hn : us.length = n) (hl : n ≤ 1048576) (ht : totKeeper us ≤ 1048576) (hF : DFr dKeeper lo hi w o c us) :
    Calls Try.prog 21 #[.slice o n c, .int .i64 1] w fun e w' => (∃ z : Int, e = .returned (.int .i64 z) ∧ 0 ≤ z) ∧ Between lo hi w w' := by subst hn; exact markKeeperS_any lo hi o c us w hl ht hF
set_option maxRecDepth 100000 in
set_option maxHeartbeats 16000000 in
theorem lawStop_any (ao : Option Addr) (cap : Nat) (ts : List LKeeper) (w : World) (hl : ts.length ≤ 9223372036854775807) (hle : ∀ a ∈ ts, (a.2.2.2.2.2.1).2.2.length ≤ 9223372036854775807 ∧ (a.2.2.2.2.2.2.1).2.2.length ≤ 9223372036854775807) (hz : DIn dKeeper w.heap.size w ao ts) :
    Calls Try.prog 5 #[.slice ao ts.length cap] w fun e w' => e = .returned (.bool true) ∧ Below w.heap.size w w' := by
  have hRl := stopR_len (ts.map valKeeper)
  obtain ⟨⟨ra, rb⟩, hR⟩ : ∃ R, stopR (ts.map valKeeper) = R := ⟨_, rfl⟩
  rw [hR] at hRl
  dsimp only at hRl
  have HR := hid hR
  have hne : (rb != rb) = false := by simp
  have HZ := hid hz
  clear hR hz
  go_enter Try.func5, Try.ntmps5
  go_wp2_with fail
  refine (szKeeperS_any ao cap ts 1048576 _ (by omega) (by omega) hl hle HZ.out.1).mono ?_
  rintro e w1 ⟨⟨z, rfl, hz1, hr⟩, hB1⟩
  rcases hr with hr | ⟨hr, hr0⟩
  · go_wp2
    go_ret
    exact ⟨rfl, hB1⟩
  have k1 : ts.length ≤ 1048576 := by omega
  have KF := hid (fits_of (ts := ts) (by omega))
  have KT : Hid (totKeeper ts ≤ 1048576) := by simp only [Hid]; omega
  clear hr
  go_wp2_with fail
  refine (toK_ex ao cap ts _ k1 KF.out (HZ.out.later dKeeper_ok hB1)).mono ?_
  rintro e w2 ⟨⟨o2, us2, rfl, hv2, hF2⟩, hb2⟩
  have V2 := hid hv2
  have F2 := hid (hF2.in dKeeper_ok)
  have hB2 := hB1.trans (hb2.mono hB1.size)
  clear hv2 hF2 hb2 hB1
  go_wp2_with fail
  refine (specStop_len (len_val V2.out) V2.out HR.out k1 (Nat.le_refl _) (fits_val V2.out KT.out) F2.out).mono ?_
  rintro e w3 ⟨⟨a0, c0, rfl, hA3⟩, hb3⟩
  have A3 := hid hA3
  have hB3 := hB2.trans (hb3.mono hB2.size)
  clear hb3 hB2 F2 V2 hA3
  dsimp only
  go_wp2_with fail
  refine (toK_ex ao cap ts _ k1 KF.out (HZ.out.later dKeeper_ok hB3)).mono ?_
  rintro e w4 ⟨⟨o4, us4, rfl, hv4, hF4⟩, hb4⟩
  have V4 := hid hv4
  have X4 := hid hF4
  have A4 := hid (A3.out.later hb4)
  have hB4 := hB3.trans (hb4.mono hB3.size)
  have S34 : Hid (w3.heap.size ≤ w4.heap.size) := hb4.size
  have S03 : Hid (w.heap.size ≤ w3.heap.size) := hB3.size
  clear hv4 hF4 hb4 hB3 A3
  go_wp2_with fail
  refine (implStop_len (len_val V4.out) V4.out HR.out k1 (Nat.le_refl _) (fits_val V4.out KT.out) (X4.out.in dKeeper_ok)).mono ?_
  rintro e w5 ⟨⟨b0, d0, rfl, hG5⟩, hb5⟩
  have G5 := hid hG5
  have X5 := hid (X4.out.later dKeeper_ok hb5)
  have A5 := hid (A4.out.later hb5)
  have hB5 := hB4.trans (hb5.mono hB4.size)
  have S45 : Hid (w4.heap.size ≤ w5.heap.size) := hb5.size
  clear hG5 hb5 hB4 X4 A4
  dsimp only
  go_wp2_with fail
  refine (eqActS_same b0 a0 d0 c0 ra _ (by omega) G5.out.in A5.out.in).mono ?_
  rintro e w6 ⟨rfl, hb6⟩
  have G6 := hid (G5.out.later hb6)
  have X6 := hid (X5.out.later dKeeper_ok hb6)
  have A6 := hid (A5.out.later hb6)
  have hB6 := hB5.trans (hb6.mono hB5.size)
  have S56 : Hid (w5.heap.size ≤ w6.heap.size) := hb6.size
  clear hb6 hB5 G5 X5 A5
  go_wp2_with fail
  refine (toK_ex ao cap ts _ k1 KF.out (HZ.out.later dKeeper_ok hB6)).mono ?_
  rintro e w7 ⟨⟨o7, us7, rfl, hv7, hF7⟩, hb7⟩
  have V7 := hid hv7
  have F7 := hid (hF7.in dKeeper_ok)
  have G7 := hid (G6.out.later hb7)
  have X7 := hid (X6.out.later dKeeper_ok hb7)
  have A7 := hid (A6.out.later hb7)
  have hB7 := hB6.trans (hb7.mono hB6.size)
  have S67 : Hid (w6.heap.size ≤ w7.heap.size) := hb7.size
  clear hv7 hF7 hb7 hB6 G6 X6 A6
  go_wp2_with fail
  refine (eqK_len (len_val V4.out) (len_val V7.out) k1 (fits_val V4.out KT.out) (V4.out.trans V7.out.symm) (X7.out.in dKeeper_ok) F7.out).mono ?_
  rintro e w8 ⟨rfl, hb8⟩
  have G8 := hid (G7.out.later hb8)
  have X8 := hid (X7.out.later dKeeper_ok hb8)
  have A8 := hid (A7.out.later hb8)
  have hB8 := hB7.trans (hb8.mono hB7.size)
  have S78 : Hid (w7.heap.size ≤ w8.heap.size) := hb8.size
  clear hb8 hB7 G7 X7 A7 F7 V7
  go_wp2_with fail
  refine (markK_len (len_val V4.out) k1 (by rw [tot_val V4.out]; exact KT.out) X8.out).mono ?_
  rintro e w9 ⟨⟨mz, rfl, hmz⟩, hb9⟩
  have hmz' : decide (mz < 0) = false := by simpa using hmz
  have G9 := hid (G8.out.between' hb9 (.inr (Nat.le_refl _)))
  have A9 := hid (A8.out.between' hb9 (.inl (Nat.le_refl _)))
  have hB9 := hB8.trans ((hb9.below (by have := S34.out; have := S45.out; have := S56.out; have := S67.out; have := S78.out; omega)).mono S03.out)
  have S89 : Hid (w8.heap.size ≤ w9.heap.size) := hb9.size
  clear hb9 hB8 G8 X8 A8 hmz
  go_wp2_with fail
  refine (eqActS_same b0 a0 d0 c0 ra _ (by omega) G9.out.in A9.out.in).mono ?_
  rintro e w10 ⟨rfl, hb10⟩
  have G10 := hid (G9.out.later hb10)
  have A10 := hid (A9.out.later hb10)
  have hB10 := hB9.trans (hb10.mono hB9.size)
  have S910 : Hid (w9.heap.size ≤ w10.heap.size) := hb10.size
  clear hb10 hB9 G9 A9
  go_wp2_with fail
  refine (markActS_any w4.heap.size w5.heap.size b0 d0 ra 1 _ (by omega) (by omega) (by omega) G10.out).mono ?_
  rintro e w11 ⟨rfl, hF11, hO11⟩
  have hb11 := G10.out.between hO11
  have M11 := hid hF11
  have A11 := hid (A10.out.between' hb11 (.inl S34.out))
  have hB11 := hB10.trans ((hb11.below (by have := S45.out; have := S56.out; have := S67.out; have := S78.out; have := S89.out; have := S910.out; omega)).mono (by have := S03.out; have := S34.out; omega))
  clear hF11 hO11 hb11 hB10 G10 A10
  obtain ⟨mm, hmm⟩ : ∃ mm : Int, mm = 1 + 3 * (ra.length : Int) := ⟨_, rfl⟩
  have hm0 : decide (mm < 0) = false := by simp; omega
  have hmne : (mm != mm) = false := by simp
  rw [← hmm]
  have HMM := hid hmm
  clear hmm
  go_wp2_with fail
  refine (heldActS_any b0 d0 ra.length 1 _ (by omega) (by omega) (by omega) M11.out.in).mono ?_
  rw [← HMM.out]
  rintro e w12 ⟨rfl, hw12⟩
  subst hw12
  go_wp2_with fail
  refine (toK_ex ao cap ts _ k1 KF.out (HZ.out.later dKeeper_ok hB11)).mono ?_
  rintro e w13 ⟨⟨o13, us13, rfl, hv13, hF13⟩, hb13⟩
  have V13 := hid hv13
  have F13 := hid (hF13.in dKeeper_ok)
  have M13 := hid (M11.out.later hb13)
  have A13 := hid (A11.out.later hb13)
  have hB13 := hB11.trans (hb13.mono hB11.size)
  clear hv13 hF13 hb13 hB11 M11 A11
  go_wp2_with fail
  refine (implStop_len (len_val V13.out) V13.out HR.out k1 (Nat.le_refl _) (fits_val V13.out KT.out) F13.out).mono ?_
  rintro e w14 ⟨⟨h0, j0, rfl, hH14⟩, hb14⟩
  have H14 := hid hH14
  have M14 := hid (M13.out.later hb14)
  have A14 := hid (A13.out.later hb14)
  have hB14 := hB13.trans (hb14.mono hB13.size)
  clear hH14 hb14 hB13 M13 A13 F13 V13
  dsimp only
  go_wp2_with fail
  refine (eqActS_same h0 a0 j0 c0 ra _ (by omega) H14.out.in A14.out.in).mono ?_
  rintro e w15 ⟨rfl, hb15⟩
  have M15 := hid (M14.out.later hb15)
  have hB15 := hB14.trans (hb15.mono hB14.size)
  clear hb15 hB14 M14 A14 H14
  go_wp2_with fail
  refine (heldActS_any b0 d0 ra.length 1 _ (by omega) (by omega) (by omega) M15.out.in).mono ?_
  rw [← HMM.out]
  rintro e w16 ⟨rfl, hw16⟩
  subst hw16
  go_wp2
  go_ret
  exact ⟨rfl, hB15⟩
end Go.Proofs.Ythhamfgclhiagaa
