
/- Marks over rows of keepers. No conditions but those written. -/
import Derived.Test.YthhamfgclhiagaaLw
import Derived.Test.YthhamfgclhiagaaLgr
namespace Go.Proofs.Ythhamfgclhiagaa
open Go.RowKit

theorem flat_0 {us : List LKeeper} {k : Nat} (hk : k < us.length) {kd mr wi up ch : Int} {ro : Option Addr} {rc : Nat} {r : List Bool} {fo : Option Addr} {fc : Nat} {f : List Int} {ov : Bool} (he : el us k = (kd, mr, wi, up, ch, (ro, rc, r), (fo, fc, f), ov)) (z : Int) : (hKeeper.flat us).set (k * 8) (.int .i64 z) = hKeeper.flat (us.set k (z, mr, wi, up, ch, (ro, rc, r), (fo, fc, f), ov)) := by
  have hlen : (hKeeper.flat us).length = us.length * 8 := hKeeper.flat_len us
  refine hKeeper.flat_of _ _ (by simp [hlen]; rfl) fun j hj q hq => ?_
  have hj' : j < us.length := by simpa using hj
  have hq' : q < 8 := hq
  have hsz : hKeeper.sz = 8 := rfl
  have hold := hKeeper.flat_at us j hj' q hq
  rw [hsz] at hold ⊢
  by_cases e : j = k
  · subst e
    rw [el_set_same hj']
    rw [he] at hold
    rcases (show q = 0 ∨ q = 1 ∨ q = 2 ∨ q = 3 ∨ q = 4 ∨ q = 5 ∨ q = 6 ∨ q = 7 from by omega) with rfl | rfl | rfl | rfl | rfl | rfl | rfl | rfl
    · rw [Nat.add_zero, set_at (by omega)]; rfl
    · rw [set_far (by omega), hold]; rfl
    · rw [set_far (by omega), hold]; rfl
    · rw [set_far (by omega), hold]; rfl
    · rw [set_far (by omega), hold]; rfl
    · rw [set_far (by omega), hold]; rfl
    · rw [set_far (by omega), hold]; rfl
    · rw [set_far (by omega), hold]; rfl
  · rw [el_set_other e, set_far (by omega), hold]
theorem head_0 {lo hi : Nat} {W : World} {g c : Nat} {us : List LKeeper} (h : hKeeper.Fresh lo hi W (some ⟨g, 0, none⟩) c us) {k : Nat} (hk : k < us.length) {kd mr wi up ch : Int} {ro : Option Addr} {rc : Nat} {r : List Bool} {fo : Option Addr} {fc : Nat} {f : List Int} {ov : Bool} (he : el us k = (kd, mr, wi, up, ch, (ro, rc, r), (fo, fc, f), ov)) (z : Int) : hKeeper.Fresh lo hi (W.setCell ⟨g, k * 8, none⟩ (.int .i64 z)) (some ⟨g, 0, none⟩) c (us.set k (z, mr, wi, up, ch, (ro, rc, r), (fo, fc, f), ov)) := by
  obtain ⟨g2, e2, hg1, hg2, hg3, ho⟩ := h.at (show 0 < us.length by omega)
  simp at e2; subst e2
  have hs := (World.ownsRow.stored ho (k * 8) (.int .i64 z)).1
  rw [flat_0 hk he] at hs
  refine .inr ⟨g, rfl, hg2, ?_⟩
  simpa using hs
theorem flat_1 {us : List LKeeper} {k : Nat} (hk : k < us.length) {kd mr wi up ch : Int} {ro : Option Addr} {rc : Nat} {r : List Bool} {fo : Option Addr} {fc : Nat} {f : List Int} {ov : Bool} (he : el us k = (kd, mr, wi, up, ch, (ro, rc, r), (fo, fc, f), ov)) (z : Int) : (hKeeper.flat us).set (k * 8 + 1) (.int .i64 z) = hKeeper.flat (us.set k (kd, z, wi, up, ch, (ro, rc, r), (fo, fc, f), ov)) := by
  have hlen : (hKeeper.flat us).length = us.length * 8 := hKeeper.flat_len us
  refine hKeeper.flat_of _ _ (by simp [hlen]; rfl) fun j hj q hq => ?_
  have hj' : j < us.length := by simpa using hj
  have hq' : q < 8 := hq
  have hsz : hKeeper.sz = 8 := rfl
  have hold := hKeeper.flat_at us j hj' q hq
  rw [hsz] at hold ⊢
  by_cases e : j = k
  · subst e
    rw [el_set_same hj']
    rw [he] at hold
    rcases (show q = 0 ∨ q = 1 ∨ q = 2 ∨ q = 3 ∨ q = 4 ∨ q = 5 ∨ q = 6 ∨ q = 7 from by omega) with rfl | rfl | rfl | rfl | rfl | rfl | rfl | rfl
    · rw [set_far (by omega), hold]; rfl
    · rw [set_at (by omega)]; rfl
    · rw [set_far (by omega), hold]; rfl
    · rw [set_far (by omega), hold]; rfl
    · rw [set_far (by omega), hold]; rfl
    · rw [set_far (by omega), hold]; rfl
    · rw [set_far (by omega), hold]; rfl
    · rw [set_far (by omega), hold]; rfl
  · rw [el_set_other e, set_far (by omega), hold]
theorem head_1 {lo hi : Nat} {W : World} {g c : Nat} {us : List LKeeper} (h : hKeeper.Fresh lo hi W (some ⟨g, 0, none⟩) c us) {k : Nat} (hk : k < us.length) {kd mr wi up ch : Int} {ro : Option Addr} {rc : Nat} {r : List Bool} {fo : Option Addr} {fc : Nat} {f : List Int} {ov : Bool} (he : el us k = (kd, mr, wi, up, ch, (ro, rc, r), (fo, fc, f), ov)) (z : Int) : hKeeper.Fresh lo hi (W.setCell ⟨g, k * 8 + 1, none⟩ (.int .i64 z)) (some ⟨g, 0, none⟩) c (us.set k (kd, z, wi, up, ch, (ro, rc, r), (fo, fc, f), ov)) := by
  obtain ⟨g2, e2, hg1, hg2, hg3, ho⟩ := h.at (show 0 < us.length by omega)
  simp at e2; subst e2
  have hs := (World.ownsRow.stored ho (k * 8 + 1) (.int .i64 z)).1
  rw [flat_1 hk he] at hs
  refine .inr ⟨g, rfl, hg2, ?_⟩
  simpa using hs
theorem flat_2 {us : List LKeeper} {k : Nat} (hk : k < us.length) {kd mr wi up ch : Int} {ro : Option Addr} {rc : Nat} {r : List Bool} {fo : Option Addr} {fc : Nat} {f : List Int} {ov : Bool} (he : el us k = (kd, mr, wi, up, ch, (ro, rc, r), (fo, fc, f), ov)) (z : Int) : (hKeeper.flat us).set (k * 8 + 2) (.int .i64 z) = hKeeper.flat (us.set k (kd, mr, z, up, ch, (ro, rc, r), (fo, fc, f), ov)) := by
  have hlen : (hKeeper.flat us).length = us.length * 8 := hKeeper.flat_len us
  refine hKeeper.flat_of _ _ (by simp [hlen]; rfl) fun j hj q hq => ?_
  have hj' : j < us.length := by simpa using hj
  have hq' : q < 8 := hq
  have hsz : hKeeper.sz = 8 := rfl
  have hold := hKeeper.flat_at us j hj' q hq
  rw [hsz] at hold ⊢
  by_cases e : j = k
  · subst e
    rw [el_set_same hj']
    rw [he] at hold
    rcases (show q = 0 ∨ q = 1 ∨ q = 2 ∨ q = 3 ∨ q = 4 ∨ q = 5 ∨ q = 6 ∨ q = 7 from by omega) with rfl | rfl | rfl | rfl | rfl | rfl | rfl | rfl
    · rw [set_far (by omega), hold]; rfl
    · rw [set_far (by omega), hold]; rfl
    · rw [set_at (by omega)]; rfl
    · rw [set_far (by omega), hold]; rfl
    · rw [set_far (by omega), hold]; rfl
    · rw [set_far (by omega), hold]; rfl
    · rw [set_far (by omega), hold]; rfl
    · rw [set_far (by omega), hold]; rfl
  · rw [el_set_other e, set_far (by omega), hold]
theorem head_2 {lo hi : Nat} {W : World} {g c : Nat} {us : List LKeeper} (h : hKeeper.Fresh lo hi W (some ⟨g, 0, none⟩) c us) {k : Nat} (hk : k < us.length) {kd mr wi up ch : Int} {ro : Option Addr} {rc : Nat} {r : List Bool} {fo : Option Addr} {fc : Nat} {f : List Int} {ov : Bool} (he : el us k = (kd, mr, wi, up, ch, (ro, rc, r), (fo, fc, f), ov)) (z : Int) : hKeeper.Fresh lo hi (W.setCell ⟨g, k * 8 + 2, none⟩ (.int .i64 z)) (some ⟨g, 0, none⟩) c (us.set k (kd, mr, z, up, ch, (ro, rc, r), (fo, fc, f), ov)) := by
  obtain ⟨g2, e2, hg1, hg2, hg3, ho⟩ := h.at (show 0 < us.length by omega)
  simp at e2; subst e2
  have hs := (World.ownsRow.stored ho (k * 8 + 2) (.int .i64 z)).1
  rw [flat_2 hk he] at hs
  refine .inr ⟨g, rfl, hg2, ?_⟩
  simpa using hs
theorem flat_3 {us : List LKeeper} {k : Nat} (hk : k < us.length) {kd mr wi up ch : Int} {ro : Option Addr} {rc : Nat} {r : List Bool} {fo : Option Addr} {fc : Nat} {f : List Int} {ov : Bool} (he : el us k = (kd, mr, wi, up, ch, (ro, rc, r), (fo, fc, f), ov)) (z : Int) : (hKeeper.flat us).set (k * 8 + 3) (.int .i64 z) = hKeeper.flat (us.set k (kd, mr, wi, z, ch, (ro, rc, r), (fo, fc, f), ov)) := by
  have hlen : (hKeeper.flat us).length = us.length * 8 := hKeeper.flat_len us
  refine hKeeper.flat_of _ _ (by simp [hlen]; rfl) fun j hj q hq => ?_
  have hj' : j < us.length := by simpa using hj
  have hq' : q < 8 := hq
  have hsz : hKeeper.sz = 8 := rfl
  have hold := hKeeper.flat_at us j hj' q hq
  rw [hsz] at hold ⊢
  by_cases e : j = k
  · subst e
    rw [el_set_same hj']
    rw [he] at hold
    rcases (show q = 0 ∨ q = 1 ∨ q = 2 ∨ q = 3 ∨ q = 4 ∨ q = 5 ∨ q = 6 ∨ q = 7 from by omega) with rfl | rfl | rfl | rfl | rfl | rfl | rfl | rfl
    · rw [set_far (by omega), hold]; rfl
    · rw [set_far (by omega), hold]; rfl
    · rw [set_far (by omega), hold]; rfl
    · rw [set_at (by omega)]; rfl
    · rw [set_far (by omega), hold]; rfl
    · rw [set_far (by omega), hold]; rfl
    · rw [set_far (by omega), hold]; rfl
    · rw [set_far (by omega), hold]; rfl
  · rw [el_set_other e, set_far (by omega), hold]
theorem head_3 {lo hi : Nat} {W : World} {g c : Nat} {us : List LKeeper} (h : hKeeper.Fresh lo hi W (some ⟨g, 0, none⟩) c us) {k : Nat} (hk : k < us.length) {kd mr wi up ch : Int} {ro : Option Addr} {rc : Nat} {r : List Bool} {fo : Option Addr} {fc : Nat} {f : List Int} {ov : Bool} (he : el us k = (kd, mr, wi, up, ch, (ro, rc, r), (fo, fc, f), ov)) (z : Int) : hKeeper.Fresh lo hi (W.setCell ⟨g, k * 8 + 3, none⟩ (.int .i64 z)) (some ⟨g, 0, none⟩) c (us.set k (kd, mr, wi, z, ch, (ro, rc, r), (fo, fc, f), ov)) := by
  obtain ⟨g2, e2, hg1, hg2, hg3, ho⟩ := h.at (show 0 < us.length by omega)
  simp at e2; subst e2
  have hs := (World.ownsRow.stored ho (k * 8 + 3) (.int .i64 z)).1
  rw [flat_3 hk he] at hs
  refine .inr ⟨g, rfl, hg2, ?_⟩
  simpa using hs
theorem flat_4 {us : List LKeeper} {k : Nat} (hk : k < us.length) {kd mr wi up ch : Int} {ro : Option Addr} {rc : Nat} {r : List Bool} {fo : Option Addr} {fc : Nat} {f : List Int} {ov : Bool} (he : el us k = (kd, mr, wi, up, ch, (ro, rc, r), (fo, fc, f), ov)) (z : Int) : (hKeeper.flat us).set (k * 8 + 4) (.int .i64 z) = hKeeper.flat (us.set k (kd, mr, wi, up, z, (ro, rc, r), (fo, fc, f), ov)) := by
  have hlen : (hKeeper.flat us).length = us.length * 8 := hKeeper.flat_len us
  refine hKeeper.flat_of _ _ (by simp [hlen]; rfl) fun j hj q hq => ?_
  have hj' : j < us.length := by simpa using hj
  have hq' : q < 8 := hq
  have hsz : hKeeper.sz = 8 := rfl
  have hold := hKeeper.flat_at us j hj' q hq
  rw [hsz] at hold ⊢
  by_cases e : j = k
  · subst e
    rw [el_set_same hj']
    rw [he] at hold
    rcases (show q = 0 ∨ q = 1 ∨ q = 2 ∨ q = 3 ∨ q = 4 ∨ q = 5 ∨ q = 6 ∨ q = 7 from by omega) with rfl | rfl | rfl | rfl | rfl | rfl | rfl | rfl
    · rw [set_far (by omega), hold]; rfl
    · rw [set_far (by omega), hold]; rfl
    · rw [set_far (by omega), hold]; rfl
    · rw [set_far (by omega), hold]; rfl
    · rw [set_at (by omega)]; rfl
    · rw [set_far (by omega), hold]; rfl
    · rw [set_far (by omega), hold]; rfl
    · rw [set_far (by omega), hold]; rfl
  · rw [el_set_other e, set_far (by omega), hold]
theorem head_4 {lo hi : Nat} {W : World} {g c : Nat} {us : List LKeeper} (h : hKeeper.Fresh lo hi W (some ⟨g, 0, none⟩) c us) {k : Nat} (hk : k < us.length) {kd mr wi up ch : Int} {ro : Option Addr} {rc : Nat} {r : List Bool} {fo : Option Addr} {fc : Nat} {f : List Int} {ov : Bool} (he : el us k = (kd, mr, wi, up, ch, (ro, rc, r), (fo, fc, f), ov)) (z : Int) : hKeeper.Fresh lo hi (W.setCell ⟨g, k * 8 + 4, none⟩ (.int .i64 z)) (some ⟨g, 0, none⟩) c (us.set k (kd, mr, wi, up, z, (ro, rc, r), (fo, fc, f), ov)) := by
  obtain ⟨g2, e2, hg1, hg2, hg3, ho⟩ := h.at (show 0 < us.length by omega)
  simp at e2; subst e2
  have hs := (World.ownsRow.stored ho (k * 8 + 4) (.int .i64 z)).1
  rw [flat_4 hk he] at hs
  refine .inr ⟨g, rfl, hg2, ?_⟩
  simpa using hs
/-- A head is written, its rows aside. -/
theorem DFr.heads {lo hi : Nat} {W W' : World} {g c : Nat} {us : List LKeeper} (h : DFr dKeeper lo hi W (some ⟨g, 0, none⟩) c us) {k : Nat} (hk : k < us.length) {kd mr wi up ch : Int} {ro : Option Addr} {rc : Nat} {r : List Bool} {fo : Option Addr} {fc : Nat} {f : List Int} {ov : Bool} (he : el us k = (kd, mr, wi, up, ch, (ro, rc, r), (fo, fc, f), ov)) {kd2 mr2 wi2 up2 ch2 : Int} {ov2 : Bool} (hH : hKeeper.Fresh lo hi W' (some ⟨g, 0, none⟩) c (us.set k (kd2, mr2, wi2, up2, ch2, (ro, rc, r), (fo, fc, f), ov2))) (hb : ∀ b, b ≠ g → W'.heap[b]? = W.heap[b]?) : DFr dKeeper lo hi W' (some ⟨g, 0, none⟩) c (us.set k (kd2, mr2, wi2, up2, ch2, (ro, rc, r), (fo, fc, f), ov2)) := by
  have hf := dKeeper_ok.keep (h.2.1 k hk) (W' := W') fun b hob => hb b fun e => by subst e; exact h.head dKeeper_ok hk hob ⟨by omega, rfl⟩
  rw [he] at hf
  refine DFr.put dKeeper_ok h hk hH hf (fun b => by rw [he]; exact Iff.rfl) fun b h1 _ => hb b fun e => h1 ⟨by omega, by rw [e]⟩
/-- The faults of a keeper are turned. -/
theorem DFr.rowF {lo hi : Nat} {W W' : World} {ao : Option Addr} {c : Nat} {us : List LKeeper} (h : DFr dKeeper lo hi W ao c us) {k : Nat} (hk : k < us.length) {kd mr wi up ch : Int} {ro : Option Addr} {rc : Nat} {r : List Bool} {fo : Option Addr} {fc : Nat} {f : List Int} {ov : Bool} (he : el us k = (kd, mr, wi, up, ch, (ro, rc, r), (fo, fc, f), ov)) {f' : List Int} (hl : f'.length = f.length) (hF : kI.Fresh lo hi W' fo fc f') (hO : OnlyAt (eff fo f.length) W W') :
    DFr dKeeper lo hi W' ao c (us.set k (kd, mr, wi, up, ch, (ro, rc, r), (fo, fc, f'), ov)) := by
  have hf := h.2.1 k hk
  rw [he] at hf
  have h1 : hKeeper.Fresh lo hi W ao c us := h.1
  have hr : kB.Fresh lo hi W ro rc r := hf.1
  have hfa : kI.Fresh lo hi W fo fc f := hf.2
  refine DFr.put dKeeper_ok h hk ?_ ⟨hr.keepB fun b hb => only_own hO (not_row hr hfa ne_IB.symm hb), hF⟩ (fun b => ?_) fun b _ h2 => only_own hO fun h3 => h2 (by rw [he]; exact .inr h3)
  · show hKeeper.Fresh _ _ _ _ _ _
    have e : hKeeper.flat (us.set k (kd, mr, wi, up, ch, (ro, rc, r), (fo, fc, f'), ov)) = hKeeper.flat us := by
      refine (hKeeper.flat_of _ _ (by rw [hKeeper.flat_len]; simp) fun j hj q hq => ?_).symm
      have hj' : j < us.length := by simpa using hj
      rw [hKeeper.flat_at us j hj' q hq]
      by_cases e : j = k
      · subst e; rw [el_set_same hj', he]; simp only [hKeeper, hl]
      · rw [el_set_other e]
    have hkk : hKeeper.Fresh lo hi W' ao c us := h1.keepB fun b hb => only_own hO (not_row h1 hfa ne_HI hb)
    rcases hkk with hkk | ⟨g, e1, hg, ho⟩
    · rw [hkk] at hk; simp at hk
    · refine .inr ⟨g, e1, hg, ?_⟩
      rw [e]; simpa using ho
  · rw [he]
    show (rowOwn _ r b ∨ rowOwn _ f' b) ↔ (rowOwn _ r b ∨ rowOwn _ f b)
    rw [rowOwn_len hl]
theorem Between.set {lo hi : Nat} (W : World) {a : Addr} (h1 : lo ≤ a.block) (h2 : a.block < hi) (u : Value) : Between lo hi W (W.setCell a u) :=
  ⟨rfl, rfl, rfl, by simp [World.setCell], fun k _ hr => Below.heap_setCell W a u k (by omega)⟩
/-- Rows of the same lengths. -/
def SameL (ts us : List LKeeper) : Prop := us.length = ts.length ∧ ∀ j, (el us j).2.2.2.2.2.1.2.2.length = (el ts j).2.2.2.2.2.1.2.2.length ∧ (el us j).2.2.2.2.2.2.1.2.2.length = (el ts j).2.2.2.2.2.2.1.2.2.length
theorem SameL.set {ts us : List LKeeper} (h : SameL ts us) {k : Nat} (hk : k < us.length) {a : LKeeper} (h1 : a.2.2.2.2.2.1.2.2.length = (el us k).2.2.2.2.2.1.2.2.length) (h2 : a.2.2.2.2.2.2.1.2.2.length = (el us k).2.2.2.2.2.2.1.2.2.length) : SameL ts (us.set k a) := by
  refine ⟨by simp [h.1], fun j => ?_⟩
  by_cases e : j = k
  · subst e; rw [el_set_same hk]; exact ⟨h1.trans (h.2 j).1, h2.trans (h.2 j).2⟩
  · rw [el_set_other e]; exact h.2 j
set_option maxRecDepth 10000 in
set_option maxHeartbeats 8000000 in
theorem markKeeperS_any (lo hi : Nat) (ao : Option Addr) (c : Nat) (ts : List LKeeper) (w : World) (hl : ts.length ≤ 1048576) (ht : totKeeper ts ≤ 1048576) (hF : DFr dKeeper lo hi w ao c ts) :
    Calls Try.prog 21 #[.slice ao ts.length c, .int .i64 1] w fun e w' => (∃ z : Int, e = .returned (.int .i64 z) ∧ 0 ≤ z) ∧ Between lo hi w w' := by
  have HF := hid hF
  have HT := hid ht
  clear hF ht
  go_enter Try.func21, Try.ntmps21
  go_wp2
  go_loopw [1, 5] (fun kv iv wr => ∃ (i : Nat) (k1 : Int) (us : List LKeeper), i ≤ ts.length ∧ iv = .int .i64 i ∧ kv = .int .i64 k1 ∧ k1 = 1 + 6 * (i : Int) + (totKeeper (ts.take i) : Int) ∧ Hid (DFr dKeeper lo hi wr ao c us) ∧ Hid (SameL ts us) ∧ Between lo hi w wr) (fun _ iv _ => ts.length - (intOf iv).toNat)
  case atStart => exact ⟨0, 1, ts, Nat.zero_le _, rfl, rfl, by simp [totKeeper], HF, ⟨rfl, fun j => ⟨rfl, rfl⟩⟩, Between.refl _ _ _⟩
  case round =>
    obtain ⟨i, k1, us, hi', rfl, rfl, hk1, hDh, hSl, hBt⟩ := hrel
    have hte := totKeeper_le ts i
    have hTT := HT.out
    have hk0 : 0 ≤ k1 := by omega
    have hk2 : k1 ≤ 9000000 := by omega
    have HK1 := hid hk1
    clear hk1 hte hTT
    by_cases hlt : i < ts.length
    · have hD := hDh.out
      have hiu : i < us.length := by rw [hSl.out.1]; exact hlt
      have htk := totKeeper_take hlt
      have htl := totKeeper_el hlt
      have hTT := HT.out
      unfold sizeKeeper at htk htl
      have hsj := hSl.out.2 i
      obtain ⟨g, rfl, hg1, hg2, hg3, ho⟩ := (show hKeeper.Fresh _ _ _ _ _ _ from hD.1).at (show 0 < us.length by omega)
      obtain ⟨⟨kd, mr, wi, up, ch, ⟨ro, rc, r⟩, ⟨fo, fc, f⟩, ov⟩, ey⟩ : ∃ v, v = el us i := ⟨_, rfl⟩
      rw [← ey] at hsj
      dsimp only at hsj
      rw [← hsj.1, ← hsj.2] at htk htl
      have hrl : r.length ≤ 1048576 := by omega
      have hfl : f.length ≤ 1048576 := by omega
      have HTK := hid htk
      clear htk htl hTT
      obtain ⟨⟨i0, i1, i2, i3, i4, i5, i6, i7⟩, hfz, _, _, _⟩ := hK_at hD.1 hiu ey.symm
      have z0 := hfz 0
      have z1 := hfz 1
      have z2 := hfz 2
      have z3 := hfz 3
      have z4 := hfz 4
      simp only [Nat.add_zero] at z0
      have h0 := head_0 (show hKeeper.Fresh _ _ _ _ _ _ from hD.1) hiu ey.symm k1
      have h1 := head_1 h0 (by simpa using hiu) (el_set_same hiu) (k1 + 1)
      rw [List.set_set] at h1
      have h2 := head_2 h1 (by simpa using hiu) (el_set_same hiu) (k1 + 1 + 1)
      rw [List.set_set] at h2
      have h3 := head_3 h2 (by simpa using hiu) (el_set_same hiu) (k1 + 1 + 1 + 1)
      rw [List.set_set] at h3
      have h4 := head_4 h3 (by simpa using hiu) (el_set_same hiu) (k1 + 1 + 1 + 1 + 1)
      rw [List.set_set] at h4
      obtain ⟨W5, hW5⟩ : ∃ W5, W5 = (((((wr.setCell ⟨g, i * 8, none⟩ (.int .i64 (k1))).setCell ⟨g, i * 8 + 1, none⟩ (.int .i64 (k1 + 1))).setCell ⟨g, i * 8 + 2, none⟩ (.int .i64 (k1 + 1 + 1))).setCell ⟨g, i * 8 + 3, none⟩ (.int .i64 (k1 + 1 + 1 + 1))).setCell ⟨g, i * 8 + 4, none⟩ (.int .i64 (k1 + 1 + 1 + 1 + 1))) := ⟨_, rfl⟩
      rw [← hW5] at h4
      have hne5 : ∀ b, b ≠ g → W5.heap[b]? = wr.heap[b]? := fun b hb => by rw [hW5, Below.heap_setCell _ _ _ _ (by simpa using hb), Below.heap_setCell _ _ _ _ (by simpa using hb), Below.heap_setCell _ _ _ _ (by simpa using hb), Below.heap_setCell _ _ _ _ (by simpa using hb), Below.heap_setCell _ _ _ _ (by simpa using hb)]
      have hD5 := hD.heads hiu ey.symm h4 hne5
      have hB5 : Between lo hi w W5 := by rw [hW5]; exact (((((hBt.trans (Between.set _ (a := ⟨g, i * 8, none⟩) hg1 hg2 _)).trans (Between.set _ (a := ⟨g, i * 8 + 1, none⟩) hg1 hg2 _)).trans (Between.set _ (a := ⟨g, i * 8 + 2, none⟩) hg1 hg2 _)).trans (Between.set _ (a := ⟨g, i * 8 + 3, none⟩) hg1 hg2 _)).trans (Between.set _ (a := ⟨g, i * 8 + 4, none⟩) hg1 hg2 _))
      have hS5 : SameL ts (us.set i (k1, k1 + 1, k1 + 1 + 1, k1 + 1 + 1 + 1, k1 + 1 + 1 + 1 + 1, (ro, rc, r), (fo, fc, f), ov)) := hSl.out.set hiu (by rw [← ey]) (by rw [← ey])
      have hiu5 : i < (us.set i (k1, k1 + 1, k1 + 1 + 1, k1 + 1 + 1 + 1, k1 + 1 + 1 + 1 + 1, (ro, rc, r), (fo, fc, f), ov)).length := by simpa using hiu
      have he5 : el (us.set i (k1, k1 + 1, k1 + 1 + 1, k1 + 1 + 1 + 1, k1 + 1 + 1 + 1 + 1, (ro, rc, r), (fo, fc, f), ov)) i = (k1, k1 + 1, k1 + 1 + 1, k1 + 1 + 1 + 1, k1 + 1 + 1 + 1 + 1, (ro, rc, r), (fo, fc, f), ov) := el_set_same hiu
      obtain ⟨⟨_, _, _, _, _, j5, _, _⟩, _, _, _, _⟩ := hK_at hD5.1 hiu5 he5
      have hf5 := hD5.2.1 i hiu5
      rw [he5] at hf5
      have HFr : Hid (kB.Fresh lo hi W5 ro rc r) := hf5.1
      have D5 := hid hD5
      have E5 := hid he5
      have SL5 := hid hS5
      have HW5 := hid hW5
      clear h0 h1 h2 h3 h4 hD hDh hD5 hf5 hW5 hne5 hS5 he5 ey ho hSl hfz hsj
      go_wp2_with fail
      rw [← HW5.out]
      refine (markBoolS_any lo hi ro rc r (k1 + 1 + 1 + 1 + 1 + 1) W5 (by omega) (by omega) (by omega) HFr.out).mono ?_
      rintro e w6 ⟨rfl, hF6, hO6⟩
      have hD6 := D5.out.rowR hiu5 E5.out (by rw [markB_len]) hF6 hO6
      rw [List.set_set] at hD6
      have hB6 : Between lo hi w w6 := hB5.trans (HFr.out.between hO6)
      obtain ⟨us6, hus6⟩ : ∃ us6, us6 = us.set i (k1, k1 + 1, k1 + 1 + 1, k1 + 1 + 1 + 1, k1 + 1 + 1 + 1 + 1, (ro, rc, markB (k1 + 1 + 1 + 1 + 1 + 1) r.length), (fo, fc, f), ov) := ⟨_, rfl⟩
      rw [← hus6] at hD6
      have he6 : el us6 i = (k1, k1 + 1, k1 + 1 + 1, k1 + 1 + 1 + 1, k1 + 1 + 1 + 1 + 1, (ro, rc, markB (k1 + 1 + 1 + 1 + 1 + 1) r.length), (fo, fc, f), ov) := by rw [hus6]; exact el_set_same hiu
      have hiu6 : i < us6.length := by rw [hus6]; simpa using hiu
      have hS6 : SameL ts us6 := by
        have := SL5.out.set hiu5 (a := (k1, k1 + 1, k1 + 1 + 1, k1 + 1 + 1 + 1, k1 + 1 + 1 + 1 + 1, (ro, rc, markB (k1 + 1 + 1 + 1 + 1 + 1) r.length), (fo, fc, f), ov)) (by rw [E5.out]; exact markB_len _ _) (by rw [E5.out])
        rw [List.set_set, ← hus6] at this; exact this
      obtain ⟨⟨_, _, _, _, _, _, j6, _⟩, _, _, _, _⟩ := hK_at hD6.1 hiu6 he6
      have hf6 := hD6.2.1 i hiu6
      rw [he6] at hf6
      have HFf : Hid (kI.Fresh lo hi w6 fo fc f) := hf6.2
      have D6 := hid hD6
      have E6 := hid he6
      have SL6 := hid hS6
      clear hF6 hO6 hD6 hf6 he6 hS6 hus6 D5 E5 SL5 HFr j5 i0 i1 i2 i3 i4 i5 i6 i7 z0 z1 z2 z3 z4 HW5
      go_wp2_with fail
      refine (markIntS_any lo hi fo fc f (k1 + 1 + 1 + 1 + 1 + 1 + (r.length : Int)) w6 (by omega) (by omega) (by omega) HFf.out).mono ?_
      rintro e w7 ⟨rfl, hF7, hO7⟩
      have hD7 := D6.out.rowF hiu6 E6.out (by rw [markI_len]) hF7 hO7
      have hB7 : Between lo hi w w7 := hB6.trans (HFf.out.between hO7)
      have hS7 := SL6.out.set hiu6 (a := (k1, k1 + 1, k1 + 1 + 1, k1 + 1 + 1 + 1, k1 + 1 + 1 + 1 + 1, (ro, rc, markB (k1 + 1 + 1 + 1 + 1 + 1) r.length), (fo, fc, markI (k1 + 1 + 1 + 1 + 1 + 1 + (r.length : Int)) f.length), ov)) (by rw [E6.out]) (by rw [E6.out]; exact markI_len _ _)
      obtain ⟨us7, hus7⟩ : ∃ us7, us7 = us6.set i (k1, k1 + 1, k1 + 1 + 1, k1 + 1 + 1 + 1, k1 + 1 + 1 + 1 + 1, (ro, rc, markB (k1 + 1 + 1 + 1 + 1 + 1) r.length), (fo, fc, markI (k1 + 1 + 1 + 1 + 1 + 1 + (r.length : Int)) f.length), ov) := ⟨_, rfl⟩
      rw [← hus7] at hD7 hS7
      have he7 : el us7 i = (k1, k1 + 1, k1 + 1 + 1, k1 + 1 + 1 + 1, k1 + 1 + 1 + 1 + 1, (ro, rc, markB (k1 + 1 + 1 + 1 + 1 + 1) r.length), (fo, fc, markI (k1 + 1 + 1 + 1 + 1 + 1 + (r.length : Int)) f.length), ov) := by rw [hus7]; exact el_set_same hiu6
      have hiu7 : i < us7.length := by rw [hus7]; simpa using hiu6
      obtain ⟨⟨_, _, _, _, _, _, _, j7⟩, hfz7, _, _, _⟩ := hK_at hD7.1 hiu7 he7
      have z7 := hfz7 7
      obtain ⟨bb, hbb⟩ : ∃ bb, bb = ((k1 + 1 + 1 + 1 + 1 + 1 + (r.length : Int) + (f.length : Int)) % 3 == 0) := ⟨_, rfl⟩
      have h8 := head_ov (show hKeeper.Fresh _ _ _ _ _ _ from hD7.1) hiu7 he7 bb
      have hD8 := hid (hD7.heads hiu7 he7 h8 fun b hb => Below.heap_setCell _ _ _ _ (by simpa using hb))
      have hS8 := hid (hS7.set hiu7 (a := (k1, k1 + 1, k1 + 1 + 1, k1 + 1 + 1 + 1, k1 + 1 + 1 + 1 + 1, (ro, rc, markB (k1 + 1 + 1 + 1 + 1 + 1) r.length), (fo, fc, markI (k1 + 1 + 1 + 1 + 1 + 1 + (r.length : Int)) f.length), bb)) (by rw [he7]) (by rw [he7]))
      have hB8 := hB7.trans (Between.set w7 (a := ⟨g, i * 8 + 7, none⟩) hg1 hg2 (.bool bb))
      rw [hbb] at hD8 hS8 hB8
      clear hF7 hO7 hD7 hS7 hus7 he7 hfz7 h8 hbb D6 E6 SL6 HFf j6
      go_wp2
      go_roundw
      case rel => exact ⟨i + 1, k1 + 1 + 1 + 1 + 1 + 1 + (r.length : Int) + (f.length : Int) + 1, _, by omega, by go_num, by go_num, by have h1 := HTK.out; have h2 := HK1.out; rw [h1]; push_cast; omega, hD8, hS8, hB8⟩
      case measure => simp [intOf] <;> omega
    · obtain rfl : i = ts.length := by omega
      go_wp2
      go_ret
      exact ⟨⟨_, rfl, hk0⟩, hBt⟩
end Go.Proofs.Ythhamfgclhiagaa
