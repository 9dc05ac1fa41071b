
/- The specification's own copy; rows without a task. No conditions but those written. -/
import Derived.Test.YtdfmmidokfcjfaaOEa
namespace Go.Proofs.Ytdfmmidokfcjfaa.Old
open Go.RowKit

/-- nil has no room. -/
def Wf3 (bo : Option Addr) (bc : Nat) (so : Option Addr) (sc : Nat) (ro : Option Addr) (rc : Nat) : Prop := (bo = none → bc = 0) ∧ (so = none → sc = 0) ∧ (ro = none → rc = 0)
theorem ownZ_new (W : World) : OwnZ W.heap.size (W.alloc (.cells #[] 3)) (.slice (some ⟨W.heap.size, 0, none⟩) 0 0) [] :=
  ⟨rfl, .inr ⟨W.heap.size, 0, #[], rfl, Nat.le_refl _, by show (W.heap.push _)[W.heap.size]? = _; simp, Nat.le_refl _, by unfold maxLen; omega, rfl, rfl⟩⟩
theorem ownV_new (W : World) : OwnV W.heap.size (W.alloc (.cells #[] 28)) (.slice (some ⟨W.heap.size, 0, none⟩) 0 0) [] :=
  ⟨rfl, .inr ⟨W.heap.size, 0, #[], rfl, Nat.le_refl _, by show (W.heap.push _)[W.heap.size]? = _; simp, Nat.le_refl _, by unfold maxLen; omega, rfl, rfl⟩⟩
theorem OwnZ.some {lo : Nat} {W : World} {v : Value} {xs : List Int} (h : OwnZ lo W v xs) (hv : v ≠ .slice none 0 0) : ∃ g c, v = .slice (some ⟨g, 0, none⟩) xs.length c ∧ FreshI lo W.heap.size W (some ⟨g, 0, none⟩) c xs := by
  obtain ⟨go, qc, e, hF⟩ := h.fresh
  rcases h.2 with ⟨e', _⟩ | ⟨g, cap, cur, e', _⟩
  · exact absurd e' hv
  · rw [e] at e'; simp at e'; obtain ⟨rfl, rfl⟩ := e'; exact ⟨g, qc, e, hF⟩
theorem OwnV.some {lo : Nat} {W : World} {v : Value} {xs : List T3} (h : OwnV lo W v xs) (hv : v ≠ .slice none 0 0) : ∃ g c, v = .slice (some ⟨g, 0, none⟩) xs.length c ∧ FreshC lo W.heap.size W (some ⟨g, 0, none⟩) c xs := by
  obtain ⟨go, qc, e, hF, _⟩ := h.fresh
  rcases h.2 with ⟨e', _⟩ | ⟨g, cap, cur, e', _⟩
  · exact absurd e' hv
  · rw [e] at e'; simp at e'; obtain ⟨rfl, rfl⟩ := e'; exact ⟨g, qc, e, hF⟩
theorem some_ne {g : Nat} {n c : Nat} : Value.slice (some ⟨g, 0, none⟩) n c ≠ .slice none 0 0 := by intro h; simp at h

/-- A channel in its own memory, its rows not nil, as an ending. -/
def AnsOw (w : World) (kap : Int) (cl : Bool) (b : List Int) (s r : List T3) (e : Ending) (w' : World) : Prop :=
  (∃ gb bc gs sc gr rc, e = .returned (.agg #[.int .i64 kap, .bool cl, .slice (some ⟨gb, 0, none⟩) b.length bc, .slice (some ⟨gs, 0, none⟩) s.length sc, .slice (some ⟨gr, 0, none⟩) r.length rc]) ∧ FreshCh w.heap.size w'.heap.size w' (some ⟨gb, 0, none⟩) bc b (some ⟨gs, 0, none⟩) sc s (some ⟨gr, 0, none⟩) rc r) ∧ Below w.heap.size w w'

set_option maxRecDepth 10000 in
set_option maxHeartbeats 4000000 in
theorem l3Own_any (kap : Int) (cl : Bool) (bo : Option Addr) (bc : Nat) (b : List Int) (so : Option Addr) (sc : Nat) (s : List T3) (ro : Option Addr) (rc : Nat) (r : List T3) (w : World) (hl : b.length ≤ 1048576) (hls : s.length ≤ 1048576) (hlr : r.length ≤ 1048576) (hz : ChanIn w.heap.size w bo b so s ro r) (hwf : Wf3 bo bc so sc ro rc) :
    Calls Try.prog 23 #[.agg #[.int .i64 kap, .bool cl, .slice bo b.length bc, .slice so s.length sc, .slice ro r.length rc]] w fun e w' => AnsOw w kap cl b s r e w' := by
  obtain ⟨W2, hW2⟩ : ∃ W2, W2 = (w.alloc (.cells #[.int .i64 kap, .bool cl, .slice bo b.length bc, .slice so s.length sc, .slice ro r.length rc] 26)).alloc (.cells #[.int .i64 0, .bool false, .slice none 0 0, .slice none 0 0, .slice none 0 0] 26) := ⟨_, rfl⟩
  have hB2 : Below w.heap.size w W2 := by rw [hW2]; exact below2 _ _ _
  have A2 : BoxF5 W2 w.heap.size (.int .i64 kap) (.bool cl) (.slice bo b.length bc) (.slice so s.length sc) (.slice ro r.length rc) := by rw [hW2]; exact (BoxF5.new w _ _ _ _ _ _).later (below1 _ _)
  have R2 : BoxF5 W2 (w.heap.size + 1) (.int .i64 0) (.bool false) (.slice none 0 0) (.slice none 0 0) (.slice none 0 0) := by
    have h := BoxF5.new (w.alloc (.cells #[.int .i64 kap, .bool cl, .slice bo b.length bc, .slice so s.length sc, .slice ro r.length rc] 26)) (.int .i64 0) (.bool false) (.slice none 0 0) (.slice none 0 0) (.slice none 0 0) 26
    rw [hW2]; simpa using h
  have HW : Hid (W2 = (w.alloc (.cells #[.int .i64 kap, .bool cl, .slice bo b.length bc, .slice so s.length sc, .slice ro r.length rc] 26)).alloc (.cells #[.int .i64 0, .bool false, .slice none 0 0, .slice none 0 0, .slice none 0 0] 26)) := hW2
  have HS : Hid (W2.heap.size = w.heap.size + 1 + 1) := by rw [hW2]; simp [Hid]
  have HE := show Hid _ from ownZ_new W2
  rw [HS.out] at HE
  have HZ : Hid (IntsIn W2.heap.size (W2.alloc (.cells #[] 3)) bo b) := (hz.1.later hB2).below (below1 _ _)
  clear hW2
  obtain ⟨⟨_, a0, a1, a2, a3, a4⟩, af0, af1, af2, af3, af4⟩ := id A2
  have hN0 : w.heap.size < w.heap.size + 1 + 1 := by omega
  have hN1 : w.heap.size + 1 < w.heap.size + 1 + 1 := by omega
  go_enter Try.func23, Try.ntmps23
  go_wp2_with (at_builtin; first
    | (rw [← HV4.out]; refine wpList_appWo (V4.alloc (.cells #[] 28)) rfl (.tmp 13) (.tmp 15) rfl w4.heap.size (.slice (some ⟨w4.heap.size, 0, none⟩) 0 0) [] rfl HE4.out (by simp [HS4.out]) ro r r.length rc rfl rfl hwf.2.2 _ HZ4.out (by simp; omega) ?_; intro v5 w5 hO5 hB5 hn5; have hBX : Below w4.heap.size V4 w5 := ((below1 V4 _).mono (by rw [HS4.out]; exact Nat.le_refl _)).trans hB5; obtain ⟨gr, rc', rfl, hF5⟩ := OwnV.some hO5 (hn5 some_ne); rw [List.nil_append] at hF5; have A5 := A4.below hBX HL4.out.1; have R5 := R4.below hBX HL4.out.2; have F5 : Hid (FreshI (w.heap.size + 1 + 1) w3.heap.size w5 (some ⟨gb, 0, none⟩) bc' b ∧ FreshC w3.heap.size w4.heap.size w5 (some ⟨gs, 0, none⟩) sc' s ∧ FreshC w4.heap.size w5.heap.size w5 (some ⟨gr, 0, none⟩) rc' r ∧ w4.heap.size ≤ w5.heap.size) := ⟨F4.out.1.keep (fun k _ h2 _ => hBX.block k (by have := F4.out.2.2; omega)), F4.out.2.1.keep (fun k _ h2 _ => hBX.block k (by omega)), hF5, by have := hBX.size; rw [HS4.out] at this; exact this⟩; have hB6 : Below w.heap.size w w5 := hBV4.trans (hBX.mono (by have := HL4.out.1; omega)); clear hO5 hB5 hn5 hF5 hBX HE4 HZ4 HV4 a0 a1 a2 a3 a4 af0 af1 af2 af3 af4 A4 R4; obtain ⟨⟨_, a0, a1, a2, a3, a4⟩, af0, af1, af2, af3, af4⟩ := id A5; obtain ⟨⟨_, r0, r1, r2, r3, r4⟩, rf0, rf1, rf2, rf3, rf4⟩ := id R5)
    | (rw [← HV3.out]; refine wpList_appWo (V3.alloc (.cells #[] 28)) rfl (.tmp 8) (.tmp 10) rfl w3.heap.size (.slice (some ⟨w3.heap.size, 0, none⟩) 0 0) [] rfl HE3.out (by simp [HS3.out]) so s s.length sc rfl rfl hwf.2.1 _ HZ3.out (by simp; omega) ?_; intro v4 w4 hO4 hB4 hn4; have hBX : Below w3.heap.size V3 w4 := ((below1 V3 _).mono (by rw [HS3.out]; exact Nat.le_refl _)).trans hB4; obtain ⟨gs, sc', rfl, hF4⟩ := OwnV.some hO4 (hn4 some_ne); rw [List.nil_append] at hF4; have B4 := A3.below hBX HL3.out.1; have S4 := R3.below hBX HL3.out.2; have G4 : Hid (FreshI (w.heap.size + 1 + 1) w3.heap.size w4 (some ⟨gb, 0, none⟩) bc' b ∧ FreshC w3.heap.size w4.heap.size w4 (some ⟨gs, 0, none⟩) sc' s ∧ w3.heap.size ≤ w4.heap.size) := ⟨F3.out.1.keep (fun k _ h2 _ => hBX.block k (by omega)), hF4, by have := hBX.size; rw [HS3.out] at this; exact this⟩; have hB5' : Below w.heap.size w w4 := hBV3.trans (hBX.mono (by have := HL3.out.1; omega)); clear hO4 hB4 hn4 hF4 hBX HE3 HZ3 HV3 a0 a1 a2 a3 a4 af0 af1 af2 af3 af4 A3 R3; obtain ⟨⟨_, a0, a1, a2, a3, a4⟩, af0, af1, af2, af3, af4⟩ := id B4; obtain ⟨V4, hV4⟩ : ∃ V4, V4 = w4.setCell ⟨w.heap.size, 3, none⟩ (.slice (some ⟨gs, 0, none⟩) s.length sc') := ⟨_, rfl⟩; have A4 := B4.set3 (.slice (some ⟨gs, 0, none⟩) s.length sc'); have R4 := S4.other ⟨w.heap.size, 3, none⟩ (by simp) (.slice (some ⟨gs, 0, none⟩) s.length sc'); rw [← hV4] at A4 R4; have HS4 : Hid (V4.heap.size = w4.heap.size) := (by rw [hV4]; simp [World.setCell, Hid]); have hBV4 : Below w.heap.size w V4 := (by rw [hV4]; exact hB5'.setCell (p := ⟨w.heap.size, 3, none⟩) (Nat.le_refl _) _); have HL4 : Hid (w.heap.size < w4.heap.size ∧ w.heap.size + 1 < w4.heap.size) := (by have := HL3.out; have := G4.out.2.2; unfold Hid; omega); have F4 : Hid (FreshI (w.heap.size + 1 + 1) w3.heap.size V4 (some ⟨gb, 0, none⟩) bc' b ∧ FreshC w3.heap.size w4.heap.size V4 (some ⟨gs, 0, none⟩) sc' s ∧ w3.heap.size ≤ w4.heap.size) := (by rw [hV4]; exact ⟨G4.out.1.setBelow (by simp; omega) _, G4.out.2.1.setBelow (by simp; exact HL3.out.1) _, G4.out.2.2⟩); have HE4 := show Hid _ from ownV_new V4; rw [HS4.out] at HE4; have HZ4 : Hid (TimersIn V4.heap.size (V4.alloc (.cells #[] 28)) ro r) := (hz.2.2.later hBV4).below (below1 _ _); have HV4 : Hid (V4 = w4.setCell ⟨w.heap.size, 3, none⟩ (.slice (some ⟨gs, 0, none⟩) s.length sc')) := hV4; clear hV4 B4 S4 G4 hB5')
    | (rw [← HW.out]; refine wpList_appIo (W2.alloc (.cells #[] 3)) rfl (.tmp 3) (.tmp 5) rfl (w.heap.size + 1 + 1) (.slice (some ⟨w.heap.size + 1 + 1, 0, none⟩) 0 0) [] rfl HE.out (by simp [HS.out]) bo b b.length bc rfl rfl hwf.1 _ HZ.out (by simp; omega) ?_; intro v3 w3 hO3 hB3 hn3; have hBX : Below (w.heap.size + 1 + 1) W2 w3 := ((below1 W2 _).mono (by rw [HS.out]; exact Nat.le_refl _)).trans hB3; obtain ⟨gb, bc', rfl, hF3⟩ := OwnZ.some hO3 (hn3 some_ne); rw [List.nil_append] at hF3; have B3 := A2.below hBX hN0; have S3 := R2.below hBX hN1; have hsz3 : w.heap.size + 1 + 1 ≤ w3.heap.size := (by have := hBX.size; rw [HS.out] at this; exact this); have HL3 : Hid (w.heap.size < w3.heap.size ∧ w.heap.size + 1 < w3.heap.size) := ⟨by omega, by omega⟩; have hB4' := hB2.trans (hBX.mono (by omega)); clear hO3 hB3 hn3 hBX HE HZ a0 a1 a2 a3 a4 af0 af1 af2 af3 af4 A2 R2 HW; obtain ⟨⟨_, a0, a1, a2, a3, a4⟩, af0, af1, af2, af3, af4⟩ := id B3; obtain ⟨V3, hV3⟩ : ∃ V3, V3 = w3.setCell ⟨w.heap.size, 2, none⟩ (.slice (some ⟨gb, 0, none⟩) b.length bc') := ⟨_, rfl⟩; have A3 := B3.set2 (.slice (some ⟨gb, 0, none⟩) b.length bc'); have R3 := S3.other ⟨w.heap.size, 2, none⟩ (by simp) (.slice (some ⟨gb, 0, none⟩) b.length bc'); rw [← hV3] at A3 R3; have HS3 : Hid (V3.heap.size = w3.heap.size) := (by rw [hV3]; simp [World.setCell, Hid]); have hBV3 : Below w.heap.size w V3 := (by rw [hV3]; exact hB4'.setCell (p := ⟨w.heap.size, 2, none⟩) (Nat.le_refl _) _); have F3 : Hid (FreshI (w.heap.size + 1 + 1) w3.heap.size V3 (some ⟨gb, 0, none⟩) bc' b ∧ w.heap.size + 1 + 1 ≤ w3.heap.size) := (by rw [hV3]; exact ⟨hF3.setBelow (by simp; omega) _, hsz3⟩); have HE3 := show Hid _ from ownV_new V3; rw [HS3.out] at HE3; have HZ3 : Hid (TimersIn V3.heap.size (V3.alloc (.cells #[] 28)) so s) := (hz.2.1.later hBV3).below (below1 _ _); have HV3 : Hid (V3 = w3.setCell ⟨w.heap.size, 2, none⟩ (.slice (some ⟨gb, 0, none⟩) b.length bc')) := hV3; clear hV3 B3 S3 hB4' hF3 hsz3))
  have q0 := F3.out.2
  have q1 := F4.out.2.2
  have q2 := F5.out.2.2.2
  refine bodyPost_ret (v := .agg #[.int .i64 kap, .bool cl, .slice (some ⟨gb, 0, none⟩) b.length bc', .slice (some ⟨gs, 0, none⟩) s.length sc', .slice (some ⟨gr, 0, none⟩) r.length rc']) (by simp [results, Try.results23, go_sem, r0, r1, r2, r3, r4]) rfl ⟨⟨gb, bc', gs, sc', gr, rc', rfl, ?_⟩, ?_⟩
  · have h0 : FreshCh (w.heap.size + 1 + 1) w5.heap.size w5 (some ⟨gb, 0, none⟩) bc' b (some ⟨gs, 0, none⟩) sc' s (some ⟨gr, 0, none⟩) rc' r := ⟨F5.out.1.wide (Nat.le_refl _) (by omega), F5.out.2.1.wide (by omega) (by omega), F5.out.2.2.1.wide (by omega) (Nat.le_refl _), apart_of F5.out.2.1 F5.out.2.2.1 (Nat.le_refl _)⟩
    exact ((((((h0.setBelow (a := ⟨w.heap.size, 4, none⟩) (by simp; omega) _).setBelow (a := ⟨w.heap.size + 1, 0, none⟩) (by simp) _).setBelow (a := ⟨w.heap.size + 1, 1, none⟩) (by simp) _).setBelow (a := ⟨w.heap.size + 1, 2, none⟩) (by simp) _).setBelow (a := ⟨w.heap.size + 1, 3, none⟩) (by simp) _).setBelow (a := ⟨w.heap.size + 1, 4, none⟩) (by simp) _).wide (by omega) (by simp)
  · exact (((((hB6.setCell (p := ⟨w.heap.size, 4, none⟩) (by simp) _).setCell (p := ⟨w.heap.size + 1, 0, none⟩) (by simp) _).setCell (p := ⟨w.heap.size + 1, 1, none⟩) (by simp) _).setCell (p := ⟨w.heap.size + 1, 2, none⟩) (by simp) _).setCell (p := ⟨w.heap.size + 1, 3, none⟩) (by simp) _).setCell (p := ⟨w.heap.size + 1, 4, none⟩) (by simp) _
end Go.Proofs.Ytdfmmidokfcjfaa.Old
