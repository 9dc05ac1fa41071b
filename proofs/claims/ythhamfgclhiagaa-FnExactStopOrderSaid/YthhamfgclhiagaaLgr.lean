
/- The walk of the law of GoodKeepers. No conditions but those written. -/
import Derived.Test.YthhamfgclhiagaaKt
namespace Go.Proofs.Ythhamfgclhiagaa
open Go.RowKit

/-- Rows that are not too long. -/
def Fits (ts : List LKeeper) : Prop := ∀ a ∈ ts, (a.2.2.2.2.2.1).2.2.length ≤ 1048576 ∧ (a.2.2.2.2.2.2.1).2.2.length ≤ 1048576
theorem fits_of {ts : List LKeeper} (h : totKeeper ts ≤ 1048576) : Fits ts := by
  intro a ha
  obtain ⟨j, hj, rfl⟩ := mem_el ha
  have := totKeeper_el hj
  unfold sizeKeeper at this
  omega
theorem len_val {ts us : List LKeeper} (hv : us.map valKeeper = ts.map valKeeper) : us.length = ts.length := by have := congrArg List.length hv; simpa using this
/-- How many there are behind keepers, by what they say. -/
def totP (ps : List PKeeper) : Nat := (ps.map fun p => p.2.2.2.2.2.1.length + p.2.2.2.2.2.2.1.length).sum
theorem totKeeper_P (us : List LKeeper) : totKeeper us = totP (us.map valKeeper) := by
  unfold totKeeper totP; rw [List.map_map]; rfl
theorem tot_val {ts us : List LKeeper} (hv : us.map valKeeper = ts.map valKeeper) : totKeeper us = totKeeper ts := by rw [totKeeper_P, totKeeper_P, hv]
theorem fits_val {ts us : List LKeeper} (hv : us.map valKeeper = ts.map valKeeper) (h : totKeeper ts ≤ 1048576) : Fits us := fits_of (by rw [tot_val hv]; exact h)
/-- toKeeperS, its answer told by what it says. -/
theorem toK_ex (ao : Option Addr) (cap : Nat) (ts : List LKeeper) (w : World) (hl : ts.length ≤ 1048576) (hle : Fits ts) (hz : DIn dKeeper w.heap.size w ao ts) :
    Calls Try.prog 15 #[.slice ao ts.length cap] w fun e w' => (∃ o us, e = .returned (.slice o ts.length ts.length) ∧ us.map valKeeper = ts.map valKeeper ∧ DFr dKeeper w.heap.size w'.heap.size w' o ts.length us) ∧ Below w.heap.size w w' :=
  (toKeeperS_any ao cap ts w hl hle hz).mono fun _ _ ⟨h1, ⟨us, h2, h3⟩, h4⟩ => ⟨⟨_, us, h1, h2, h3⟩, h4⟩
theorem specGoodL_len {o : Option Addr} {cap n : Nat} {us : List LKeeper} {w : World} {x : Bool} (hn : us.length = n) (hl : n ≤ 1048576) (hcap : n ≤ cap) (hle : Fits us) (hz : DIn dKeeper w.heap.size w o us) (hx : goodL (us.map valKeeper) = x) :
    Calls Try.prog 14 #[.slice o n cap] w fun e w' => e = .returned (.bool x) ∧ Below w.heap.size w w' := by subst hn; exact specGoodL_is o cap us w x hl hcap hle hz hx
theorem implGoodL_len {o : Option Addr} {cap n : Nat} {us : List LKeeper} {w : World} {x : Bool} (hn : us.length = n) (hl : n ≤ 1048576) (hcap : n ≤ cap) (hle : Fits us) (hz : DIn dKeeper w.heap.size w o us) (hx : goodL (us.map valKeeper) = x) :
    Calls Try.prog 16 #[.slice o n cap] w fun e w' => e = .returned (.bool x) ∧ Below w.heap.size w w' := by subst hn; exact implGoodL_is o cap us w x hl hcap hle hz hx
theorem eqK_len {o o' : Option Addr} {c c' n : Nat} {us us' : List LKeeper} {w : World} (hn : us.length = n) (hn' : us'.length = n) (hl : n ≤ 1048576) (hle : Fits us) (hv : us.map valKeeper = us'.map valKeeper) (hz : DIn dKeeper w.heap.size w o us) (hz' : DIn dKeeper w.heap.size w o' us') :
    Calls Try.prog 17 #[.slice o n c, .slice o' n c'] w fun e w' => e = .returned (.bool true) ∧ Below w.heap.size w w' := by
  subst hn
  have h := eqKeeperS_same o o' c c' us us' w hl hle hv hz hz'
  rw [hn'] at h
  exact h
set_option maxRecDepth 100000 in
set_option maxHeartbeats 4000000 in
theorem lawGoodKeepers_any (ao : Option Addr) (cap : Nat) (ts : List LKeeper) (w : World) (hl : ts.length ≤ 9223372036854775807) (hle : ∀ a ∈ ts, (a.2.2.2.2.2.1).2.2.length ≤ 9223372036854775807 ∧ (a.2.2.2.2.2.2.1).2.2.length ≤ 9223372036854775807) (hz : DIn dKeeper w.heap.size w ao ts) :
    Calls Try.prog 4 #[.slice ao ts.length cap] w fun e w' => e = .returned (.bool true) ∧ Below w.heap.size w w' := by
  obtain ⟨x, hx⟩ : ∃ x, goodL (ts.map valKeeper) = x := ⟨_, rfl⟩
  have HX := hid hx
  have hne : (x != x) = false := by simp
  have HZ := hid hz
  clear hx hz
  go_enter Try.func4, Try.ntmps4
  go_wp2_with fail
  refine (szKeeperS_any ao cap ts 1048576 _ (by omega) (by omega) hl hle HZ.out.1).mono ?_
  rintro e w1 ⟨⟨z, rfl, hz1, hr⟩, hB1⟩
  rcases hr with hr | ⟨hr, hr0⟩
  · go_wp2
    go_ret
    exact ⟨rfl, hB1⟩
  have k1 : ts.length ≤ 1048576 := by omega
  have KF := hid (fits_of (ts := ts) (by omega))
  have KT : Hid (totKeeper ts ≤ 1048576) := by simp only [Hid]; omega
  clear hr
  go_wp2_with fail
  refine (toK_ex ao cap ts _ k1 KF.out (HZ.out.later dKeeper_ok hB1)).mono ?_
  rintro e w2 ⟨⟨o2, us2, rfl, hv2, hF2⟩, hb2⟩
  have V2 := hid hv2
  have F2 := hid (hF2.in dKeeper_ok)
  have hB2 := hB1.trans (hb2.mono hB1.size)
  clear hv2 hF2 hb2 hB1
  go_wp2_with fail
  refine (specGoodL_len (x := x) (len_val V2.out) k1 (Nat.le_refl _) (fits_val V2.out KT.out) F2.out (by rw [V2.out]; exact HX.out)).mono ?_
  rintro e w3 ⟨rfl, hb3⟩
  have hB3 := hB2.trans (hb3.mono hB2.size)
  clear hb3 hB2 F2 V2
  go_wp2_with fail
  refine (toK_ex ao cap ts _ k1 KF.out (HZ.out.later dKeeper_ok hB3)).mono ?_
  rintro e w4 ⟨⟨o4, us4, rfl, hv4, hF4⟩, hb4⟩
  have V4 := hid hv4
  have F4 := hid (hF4.in dKeeper_ok)
  have hB4 := hB3.trans (hb4.mono hB3.size)
  clear hv4 hF4 hb4 hB3
  go_wp2_with fail
  refine (implGoodL_len (x := x) (len_val V4.out) k1 (Nat.le_refl _) (fits_val V4.out KT.out) F4.out (by rw [V4.out]; exact HX.out)).mono ?_
  rintro e w5 ⟨rfl, hb5⟩
  have F5 := hid (F4.out.later dKeeper_ok hb5)
  have hB5 := hB4.trans (hb5.mono hB4.size)
  clear hb5 hB4 F4
  go_wp2_with fail
  refine (toK_ex ao cap ts _ k1 KF.out (HZ.out.later dKeeper_ok hB5)).mono ?_
  rintro e w6 ⟨⟨o6, us6, rfl, hv6, hF6⟩, hb6⟩
  have V6 := hid hv6
  have F6 := hid (hF6.in dKeeper_ok)
  have F7 := hid (F5.out.later dKeeper_ok hb6)
  have hB6 := hB5.trans (hb6.mono hB5.size)
  clear hv6 hF6 hb6 hB5 F5
  go_wp2_with fail
  refine (eqK_len (len_val V4.out) (len_val V6.out) k1 (fits_val V4.out KT.out) (V4.out.trans V6.out.symm) F7.out F6.out).mono ?_
  rintro e w8 ⟨rfl, hb8⟩
  have hB8 := hB6.trans (hb8.mono hB6.size)
  go_wp2
  go_ret
  exact ⟨rfl, hB8⟩
end Go.Proofs.Ythhamfgclhiagaa
