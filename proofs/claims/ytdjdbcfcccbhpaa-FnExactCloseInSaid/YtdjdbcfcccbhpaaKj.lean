
/- A channel copied, by the program and by the specification. No conditions but those written. -/
import Derived.Test.YtdjdbcfcccbhpaaPKcDp
import Derived.Test.YtdjdbcfcccbhpaaKg
namespace Go.Proofs.Ytdjdbcfcccbhpaa
open Go.RowKit

set_option maxHeartbeats 1000000 in
theorem copyListI_any (ao : Option Addr) (cap : Nat) (ts : List (Int)) (w : World) (hl : ts.length ≤ 1048576) (hz : kI.In w.heap.size w ao ts) :
    Calls Try.prog 43 #[.slice ao ts.length cap] w fun e w' => (∃ to, e = .returned (.slice to ts.length ts.length) ∧ kI.Fresh w.heap.size w'.heap.size w' to ts.length ts) ∧ Below w.heap.size w w' := by
  by_cases h0 : ts.length = 0
  · obtain rfl : ts = [] := List.length_eq_zero_iff.1 h0
    go_enter Try.func43, Try.ntmps43
    go_wp2
    go_ret
    exact ⟨⟨none, rfl, .inl rfl⟩, Below.refl _ _⟩
  · have h0' : ((ts.length : Int) == 0) = false := (len1 h0).1
    obtain ⟨i0, z0, hi, hz0, hz1, hz2, hz3⟩ := kI_ok.info
    have HZ : Hid (kI.In w.heap.size w ao ts) := hz
    have hby : i0.bytes * ts.length ≤ 281474976710656 := by have : i0.bytes * ts.length ≤ 4096 * 1048576 := Nat.mul_le_mul hz3 hl; omega
    clear hz
    go_enter Try.func43, Try.ntmps43
    go_wp2_with (at_make; refine wpList_make_full _ rfl _ _ kI.st rfl w.heap.size kI.ty i0 z0 kI.sz kI_ok.und hi hz0 hz1 .i64 .i64 _ _ ts.length rfl rfl rfl rfl hby (by unfold maxLen; omega) (Nat.le_refl _) ?_; intro w1 hown hgrow; obtain ⟨cur, hcur, hcl, _⟩ := owns_open hown; have hB1 : Below w.heap.size w w1 := (Below.refl _ _).grown hgrow (Nat.le_refl _) (fun k e => by cases e); obtain ⟨w2, hrun, hh, hO⟩ := Kind.run_copy (n := ts.length) (cap := cap) (ty := 3) kI_ok hcur hcl (Nat.le_refl _) HZ.out hB1; have hB2 : Below w.heap.size w w2 := hB1.trans (hO.below (Nat.le_refl _)); have HH := show Hid (_ ∧ _) from And.intro hcl hh; unfold kI at hrun; dsimp only at hrun; clear hown hgrow hcur hh hO hcl)
    go_ret
    have e : cur.drop (ts.length * kI.sz) = [] := List.drop_eq_nil_of_le (by rw [HH.out.1]; exact Nat.le_refl _)
    have hh := HH.out.2
    rw [e, List.append_nil] at hh
    exact ⟨⟨_, rfl, .inr ⟨w.heap.size, rfl, (Array.getElem?_eq_some_iff.1 hh).1, Kind.own_of_heap hh rfl (Nat.le_refl _) (by omega)⟩⟩, hB2⟩
set_option maxHeartbeats 1000000 in
theorem copyListW_any (ao : Option Addr) (cap : Nat) (ts : List (Int × Int × Int)) (w : World) (hl : ts.length ≤ 1048576) (hz : kW.In w.heap.size w ao ts) :
    Calls Try.prog 60 #[.slice ao ts.length cap] w fun e w' => (∃ to, e = .returned (.slice to ts.length ts.length) ∧ kW.Fresh w.heap.size w'.heap.size w' to ts.length ts) ∧ Below w.heap.size w w' := by
  by_cases h0 : ts.length = 0
  · obtain rfl : ts = [] := List.length_eq_zero_iff.1 h0
    go_enter Try.func60, Try.ntmps60
    go_wp2
    go_ret
    exact ⟨⟨none, rfl, .inl rfl⟩, Below.refl _ _⟩
  · have h0' : ((ts.length : Int) == 0) = false := (len1 h0).1
    obtain ⟨i0, z0, hi, hz0, hz1, hz2, hz3⟩ := kW_ok.info
    have HZ : Hid (kW.In w.heap.size w ao ts) := hz
    have hby : i0.bytes * ts.length ≤ 281474976710656 := by have : i0.bytes * ts.length ≤ 4096 * 1048576 := Nat.mul_le_mul hz3 hl; omega
    clear hz
    go_enter Try.func60, Try.ntmps60
    go_wp2_with (at_make; refine wpList_make_full _ rfl _ _ kW.st rfl w.heap.size kW.ty i0 z0 kW.sz kW_ok.und hi hz0 hz1 .i64 .i64 _ _ ts.length rfl rfl rfl rfl hby (by unfold maxLen; omega) (Nat.le_refl _) ?_; intro w1 hown hgrow; obtain ⟨cur, hcur, hcl, _⟩ := owns_open hown; have hB1 : Below w.heap.size w w1 := (Below.refl _ _).grown hgrow (Nat.le_refl _) (fun k e => by cases e); obtain ⟨w2, hrun, hh, hO⟩ := Kind.run_copy (n := ts.length) (cap := cap) (ty := 3) kW_ok hcur hcl (Nat.le_refl _) HZ.out hB1; have hB2 : Below w.heap.size w w2 := hB1.trans (hO.below (Nat.le_refl _)); have HH := show Hid (_ ∧ _) from And.intro hcl hh; unfold kW at hrun; dsimp only at hrun; clear hown hgrow hcur hh hO hcl)
    go_ret
    have e : cur.drop (ts.length * kW.sz) = [] := List.drop_eq_nil_of_le (by rw [HH.out.1]; exact Nat.le_refl _)
    have hh := HH.out.2
    rw [e, List.append_nil] at hh
    exact ⟨⟨_, rfl, .inr ⟨w.heap.size, rfl, (Array.getElem?_eq_some_iff.1 hh).1, Kind.own_of_heap hh rfl (Nat.le_refl _) (by omega)⟩⟩, hB2⟩
/-- A Chan in its own memory, as an ending. -/
def AnsChan (w : World) (kap : Int) (cl : Bool) (b : List (Int)) (s : List (Int × Int × Int)) (r : List (Int × Int × Int)) (e : Ending) (w' : World) : Prop := (∃ bo bc so sc ro rc, e = .returned (.agg #[.int .i64 kap, .bool cl, .slice bo b.length bc, .slice so s.length sc, .slice ro r.length rc]) ∧ FrChan w.heap.size w'.heap.size w' bo bc b so sc s ro rc r) ∧ Below w.heap.size w w'
theorem own_frs {α : Type} {K : Kind α} {lo : Nat} {W : World} {g n c : Nat} {xs : List α} (h : K.Own lo W (.slice (some ⟨g, 0, none⟩) n c) xs) : K.Fresh lo W.heap.size W (some ⟨g, 0, none⟩) c xs := by
  obtain ⟨g', c', e, hF⟩ := h.some some_ne
  simp at e
  obtain ⟨rfl, _, rfl⟩ := e
  exact hF
theorem Off.of_ne {g g' n m : Nat} (h : g ≠ g') : Off (some ⟨g, 0, none⟩) n (some ⟨g', 0, none⟩) m := .inr (.inr fun e => by cases e; exact h rfl)
theorem own_grown {α : Type} {K : Kind α} {lo : Nat} {W W' : World} {g n c h : Nat} {xs : List α} (ho : K.Own lo W (.slice (some ⟨g, 0, none⟩) n c) xs) (hg : W.grownBy W' (some h)) (hne : g ≠ h) : K.Own lo W' (.slice (some ⟨g, 0, none⟩) n c) xs := by
  obtain ⟨g', c', e, _⟩ := ho.some some_ne
  simp at e
  obtain ⟨_, rfl, _⟩ := e
  exact owns_block ho (hg.block g (owns_lt ho).2 (by simpa using hne))
theorem own_at {α : Type} {K : Kind α} {lo : Nat} {W : World} {g n c : Nat} {xs : List α} (ho : K.Own lo W (.slice (some ⟨g, 0, none⟩) n c) xs) : lo ≤ g ∧ g < W.heap.size := by
  obtain ⟨g', c', e, _⟩ := ho.some some_ne
  simp at e
  obtain ⟨_, rfl, _⟩ := e
  exact owns_lt ho
theorem own_wide {α : Type} {K : Kind α} {lo lo' : Nat} {W : World} {g n c : Nat} {xs : List α} (ho : K.Own lo W (.slice (some ⟨g, 0, none⟩) n c) xs) (h : lo' ≤ g) : K.Own lo' W (.slice (some ⟨g, 0, none⟩) n c) xs := by
  obtain ⟨g', c', e, _⟩ := ho.some some_ne
  simp at e
  obtain ⟨_, rfl, _⟩ := e
  exact ownsRow_base ho h
/-- What lies behind a Chan, no row nil, each a row of its own. -/
def OChan (lo : Nat) (W : World) (gb bc : Nat) (b : List (Int)) (gs sc : Nat) (s : List (Int × Int × Int)) (gr rc : Nat) (r : List (Int × Int × Int)) : Prop := kI.Own lo W (.slice (some ⟨gb, 0, none⟩) b.length bc) b ∧ kW.Own lo W (.slice (some ⟨gs, 0, none⟩) s.length sc) s ∧ kW.Own lo W (.slice (some ⟨gr, 0, none⟩) r.length rc) r ∧ gb ≠ gs ∧ gb ≠ gr ∧ gs ≠ gr
theorem OChan.below {lo : Nat} {W W' : World} {gb bc : Nat} {b : List (Int)} {gs sc : Nat} {s : List (Int × Int × Int)} {gr rc : Nat} {r : List (Int × Int × Int)} (h : OChan lo W gb bc b gs sc s gr rc r) (hb : Below W.heap.size W W') : OChan lo W' gb bc b gs sc s gr rc r := ⟨h.1.below hb, h.2.1.below hb, h.2.2.1.below hb, h.2.2.2.1, h.2.2.2.2.1, h.2.2.2.2.2⟩
theorem OChan.setBelow {lo : Nat} {W : World} {gb bc : Nat} {b : List (Int)} {gs sc : Nat} {s : List (Int × Int × Int)} {gr rc : Nat} {r : List (Int × Int × Int)} (h : OChan lo W gb bc b gs sc s gr rc r) {a : Addr} (ha : a.block < lo) (u : Value) : OChan lo (W.setCell a u) gb bc b gs sc s gr rc r := ⟨h.1.setBelow ha u, h.2.1.setBelow ha u, h.2.2.1.setBelow ha u, h.2.2.2.1, h.2.2.2.2.1, h.2.2.2.2.2⟩
theorem OChan.fr {lo : Nat} {W : World} {gb bc : Nat} {b : List (Int)} {gs sc : Nat} {s : List (Int × Int × Int)} {gr rc : Nat} {r : List (Int × Int × Int)} (h : OChan lo W gb bc b gs sc s gr rc r) : FrChan lo W.heap.size W (some ⟨gb, 0, none⟩) bc b (some ⟨gs, 0, none⟩) sc s (some ⟨gr, 0, none⟩) rc r := ⟨(own_frs h.1), (own_frs h.2.1), (own_frs h.2.2.1), Off.of_ne h.2.2.2.2.2⟩
theorem OChan.low {lo lo' : Nat} {W : World} {gb bc : Nat} {b : List (Int)} {gs sc : Nat} {s : List (Int × Int × Int)} {gr rc : Nat} {r : List (Int × Int × Int)} (h : OChan lo W gb bc b gs sc s gr rc r) (hl : lo' ≤ lo) : OChan lo' W gb bc b gs sc s gr rc r := ⟨own_wide h.1 (Nat.le_trans hl (own_at h.1).1), own_wide h.2.1 (Nat.le_trans hl (own_at h.2.1).1), own_wide h.2.2.1 (Nat.le_trans hl (own_at h.2.2.1).1), h.2.2.2.1, h.2.2.2.2.1, h.2.2.2.2.2⟩
theorem OChan.in {lo : Nat} {W : World} {gb bc : Nat} {b : List (Int)} {gs sc : Nat} {s : List (Int × Int × Int)} {gr rc : Nat} {r : List (Int × Int × Int)} (h : OChan lo W gb bc b gs sc s gr rc r) : InChan W.heap.size W (some ⟨gb, 0, none⟩) b (some ⟨gs, 0, none⟩) s (some ⟨gr, 0, none⟩) r := h.fr.in
theorem OChan.put0 {lo : Nat} {W W' : World} {gb bc : Nat} {b : List (Int)} {gs sc : Nat} {s : List (Int × Int × Int)} {gr rc : Nat} {r : List (Int × Int × Int)} (h : OChan lo W gb bc b gs sc s gr rc r) {g' c' : Nat} {zs : List (Int)} (ho : kI.Own lo W' (.slice (some ⟨g', 0, none⟩) zs.length c') zs) (hG : W.grownBy W' (some gb)) (hw : g' = gb ∨ W.heap.size ≤ g') : OChan lo W' g' c' zs gs sc s gr rc r := ⟨ho, own_grown h.2.1 hG (Ne.symm h.2.2.2.1), own_grown h.2.2.1 hG (Ne.symm h.2.2.2.2.1), (by have h1 := h.2.2.2.1; have h2 := (own_at h.2.1).2; rcases hw with rfl | hw <;> omega), (by have h1 := h.2.2.2.2.1; have h2 := (own_at h.2.2.1).2; rcases hw with rfl | hw <;> omega), h.2.2.2.2.2⟩
theorem OChan.put1 {lo : Nat} {W W' : World} {gb bc : Nat} {b : List (Int)} {gs sc : Nat} {s : List (Int × Int × Int)} {gr rc : Nat} {r : List (Int × Int × Int)} (h : OChan lo W gb bc b gs sc s gr rc r) {g' c' : Nat} {zs : List (Int × Int × Int)} (ho : kW.Own lo W' (.slice (some ⟨g', 0, none⟩) zs.length c') zs) (hG : W.grownBy W' (some gs)) (hw : g' = gs ∨ W.heap.size ≤ g') : OChan lo W' gb bc b g' c' zs gr rc r := ⟨own_grown h.1 hG h.2.2.2.1, ho, own_grown h.2.2.1 hG (Ne.symm h.2.2.2.2.2), (by have h1 := h.2.2.2.1; have h2 := (own_at h.1).2; rcases hw with rfl | hw <;> omega), h.2.2.2.2.1, (by have h1 := h.2.2.2.2.2; have h2 := (own_at h.2.2.1).2; rcases hw with rfl | hw <;> omega)⟩
theorem OChan.put2 {lo : Nat} {W W' : World} {gb bc : Nat} {b : List (Int)} {gs sc : Nat} {s : List (Int × Int × Int)} {gr rc : Nat} {r : List (Int × Int × Int)} (h : OChan lo W gb bc b gs sc s gr rc r) {g' c' : Nat} {zs : List (Int × Int × Int)} (ho : kW.Own lo W' (.slice (some ⟨g', 0, none⟩) zs.length c') zs) (hG : W.grownBy W' (some gr)) (hw : g' = gr ∨ W.heap.size ≤ g') : OChan lo W' gb bc b gs sc s g' c' zs := ⟨own_grown h.1 hG h.2.2.2.2.1, own_grown h.2.1 hG h.2.2.2.2.2, ho, h.2.2.2.1, (by have h1 := h.2.2.2.2.1; have h2 := (own_at h.1).2; rcases hw with rfl | hw <;> omega), (by have h1 := h.2.2.2.2.2; have h2 := (own_at h.2.1).2; rcases hw with rfl | hw <;> omega)⟩
/-- A Chan in its own memory, its rows not nil, as an ending. -/
def OwnChan (w : World) (kap : Int) (cl : Bool) (b : List (Int)) (s : List (Int × Int × Int)) (r : List (Int × Int × Int)) (e : Ending) (w' : World) : Prop := (∃ gb bc gs sc gr rc, e = .returned (.agg #[.int .i64 kap, .bool cl, .slice (some ⟨gb, 0, none⟩) b.length bc, .slice (some ⟨gs, 0, none⟩) s.length sc, .slice (some ⟨gr, 0, none⟩) r.length rc]) ∧ OChan w.heap.size w' gb bc b gs sc s gr rc r) ∧ Below w.heap.size w w'
/-- nil has no room. -/
def WfChan (bo : Option Addr) (bc : Nat) (so : Option Addr) (sc : Nat) (ro : Option Addr) (rc : Nat) : Prop := (bo = none → bc = 0) ∧ (so = none → sc = 0) ∧ (ro = none → rc = 0)
set_option maxRecDepth 10000 in
set_option maxHeartbeats 8000000 in
theorem copyChan_any (kap : Int) (cl : Bool) (bo : Option Addr) (bc : Nat) (b : List (Int)) (so : Option Addr) (sc : Nat) (s : List (Int × Int × Int)) (ro : Option Addr) (rc : Nat) (r : List (Int × Int × Int)) (w : World) (hlb : b.length ≤ 1048576) (hls : s.length ≤ 1048576) (hlr : r.length ≤ 1048576) (hz : InChan w.heap.size w bo b so s ro r) :
    Calls Try.prog 41 #[.agg #[.int .i64 kap, .bool cl, .slice bo b.length bc, .slice so s.length sc, .slice ro r.length rc]] w fun e w' => AnsChan w kap cl b s r e w' := by
  obtain ⟨W2, hW2⟩ : ∃ W2, W2 = (w.alloc (.cells #[.int .i64 kap, .bool cl, .slice bo b.length bc, .slice so s.length sc, .slice ro r.length rc] 45)).alloc (.cells #[.int .i64 0, .bool false, .slice none 0 0, .slice none 0 0, .slice none 0 0] 45) := ⟨_, rfl⟩
  have hB2 : Below w.heap.size w W2 := by rw [hW2]; exact below2 _ _ _
  have A2 : Bx W2 w.heap.size [.int .i64 kap, .bool cl, .slice bo b.length bc, .slice so s.length sc, .slice ro r.length rc] := by rw [hW2]; exact (Bx.new [.int .i64 kap, .bool cl, .slice bo b.length bc, .slice so s.length sc, .slice ro r.length rc] _ rfl).alloc _
  have R2 : Bx W2 (w.heap.size + 1) [.int .i64 0, .bool false, .slice none 0 0, .slice none 0 0, .slice none 0 0] := by rw [hW2]; exact Bx.new [.int .i64 0, .bool false, .slice none 0 0, .slice none 0 0, .slice none 0 0] _ (by simp)
  have HW : Hid (W2 = (w.alloc (.cells #[.int .i64 kap, .bool cl, .slice bo b.length bc, .slice so s.length sc, .slice ro r.length rc] 45)).alloc (.cells #[.int .i64 0, .bool false, .slice none 0 0, .slice none 0 0, .slice none 0 0] 45)) := hW2
  have HS : Hid (W2.heap.size = w.heap.size + 1 + 1) := by rw [hW2]; simp [Hid]
  have hsl : w.heap.size < W2.heap.size := by rw [HS.out]; omega
  clear hW2
  have a0 := A2.c 0 rfl
  have a1 := A2.c 1 rfl
  have a2 := A2.c 2 rfl
  have a3 := A2.c 3 rfl
  have a4 := A2.c 4 rfl
  go_enter Try.func41, Try.ntmps41
  go_wp2
  rw [← HW.out]
  go_region_held3 (fun Y => Y.cell? ⟨w.heap.size, 0, none⟩ = some (.int .i64 kap) ∧ Y.cell? ⟨w.heap.size, 1, none⟩ = some (.bool cl) ∧ Y.cell? ⟨w.heap.size, 2, none⟩ = some (.slice bo b.length bc) ∧ Y.cell? ⟨w.heap.size, 3, none⟩ = some (.slice so s.length sc) ∧ Y.cell? ⟨w.heap.size, 4, none⟩ = some (.slice ro r.length rc))
    (first | ((refine ⟨?_, ?_, ?_, ?_, ?_⟩ <;> (rw [World.cell?_setCell_other _ _ _ _ (by simp), World.cell?_setCell_other _ _ _ _ (by simp), World.cell?_setCell_other _ _ _ _ (by simp), World.cell?_setCell_other _ _ _ _ (by simp), World.cell?_setCell_other _ _ _ _ (by simp)])); exact P3.1; exact P3.2.1; exact P3.2.2.1; exact P3.2.2.2.1; exact P3.2.2.2.2) | exact ⟨a0, a1, a2, a3, a4⟩ | exact P1 | exact P2 | exact P3)
    (first
      | (go_at_call 60; refine (copyListW_any ro rc r w2 hlr (by exact hz.2.2.later hC2)).mono ?_; rintro e w3 ⟨⟨gor, rfl, hF2⟩, hb2⟩; have hC3 : Below w.heap.size w w3 := hC2.trans (hb2.mono hC2.size); have D3 := D2.later hb2; have E3 := E2.later hb2; have P3 := (⟨D3.c 0 rfl, D3.c 1 rfl, D3.c 2 rfl, D3.c 3 rfl, D3.c 4 rfl⟩ : w3.cell? ⟨w.heap.size, 0, none⟩ = some (.int .i64 kap) ∧ w3.cell? ⟨w.heap.size, 1, none⟩ = some (.bool cl) ∧ w3.cell? ⟨w.heap.size, 2, none⟩ = some (.slice bo b.length bc) ∧ w3.cell? ⟨w.heap.size, 3, none⟩ = some (.slice so s.length sc) ∧ w3.cell? ⟨w.heap.size, 4, none⟩ = some (.slice ro r.length rc)); have F3 : Hid (kI.Fresh W2.heap.size w1.heap.size w3 gob b.length b ∧ kW.Fresh w1.heap.size w2.heap.size w3 gos s.length s ∧ kW.Fresh w2.heap.size w3.heap.size w3 gor r.length r ∧ w2.heap.size ≤ w3.heap.size) := ⟨F2.out.1.later hb2, F2.out.2.1.later hb2, hF2, hb2.size⟩; have r0 := E3.c 0 rfl; have rf0 := E3.f 0 rfl; have r1 := E3.c 1 rfl; have rf1 := E3.f 1 rfl; have r2 := E3.c 2 rfl; have rf2 := E3.f 2 rfl; have r3 := E3.c 3 rfl; have rf3 := E3.f 3 rfl; have r4 := E3.c 4 rfl; have rf4 := E3.f 4 rfl; clear hF2 hb2)
      | (go_at_call 60; refine (copyListW_any so sc s w1 hls (by exact hz.2.1.later hC1)).mono ?_; rintro e w2 ⟨⟨gos, rfl, hF1⟩, hb1⟩; have hC2 : Below w.heap.size w w2 := hC1.trans (hb1.mono hC1.size); have D2 := D1.later hb1; have E2 := E1.later hb1; have P2 := (⟨D2.c 0 rfl, D2.c 1 rfl, D2.c 2 rfl, D2.c 3 rfl, D2.c 4 rfl⟩ : w2.cell? ⟨w.heap.size, 0, none⟩ = some (.int .i64 kap) ∧ w2.cell? ⟨w.heap.size, 1, none⟩ = some (.bool cl) ∧ w2.cell? ⟨w.heap.size, 2, none⟩ = some (.slice bo b.length bc) ∧ w2.cell? ⟨w.heap.size, 3, none⟩ = some (.slice so s.length sc) ∧ w2.cell? ⟨w.heap.size, 4, none⟩ = some (.slice ro r.length rc)); have F2 : Hid (kI.Fresh W2.heap.size w1.heap.size w2 gob b.length b ∧ kW.Fresh w1.heap.size w2.heap.size w2 gos s.length s ∧ w1.heap.size ≤ w2.heap.size) := ⟨F1.out.1.later hb1, hF1, hb1.size⟩; clear hF1 hb1)
      | (go_at_call 43; refine (copyListI_any bo bc b _ hlb (by exact hz.1.later hB2.drew)).mono ?_; rintro e w1 ⟨⟨gob, rfl, hF0⟩, hb0⟩; have hC1 : Below w.heap.size w w1 := hB2.drew.trans (hb0.mono hB2.size); have D1 := A2.drew.later hb0; have E1 := R2.drew.later hb0; have P1 := (⟨D1.c 0 rfl, D1.c 1 rfl, D1.c 2 rfl, D1.c 3 rfl, D1.c 4 rfl⟩ : w1.cell? ⟨w.heap.size, 0, none⟩ = some (.int .i64 kap) ∧ w1.cell? ⟨w.heap.size, 1, none⟩ = some (.bool cl) ∧ w1.cell? ⟨w.heap.size, 2, none⟩ = some (.slice bo b.length bc) ∧ w1.cell? ⟨w.heap.size, 3, none⟩ = some (.slice so s.length sc) ∧ w1.cell? ⟨w.heap.size, 4, none⟩ = some (.slice ro r.length rc)); have F1 : Hid (kI.Fresh W2.heap.size w1.heap.size w1 gob b.length b ∧ W2.heap.size ≤ w1.heap.size) := ⟨hF0, hb0.size⟩; clear hF0 hb0))
  all_goals
    go_wp2
    refine bodyPost_ret (v := .agg #[.int .i64 kap, .bool cl, .slice gob b.length b.length, .slice gos s.length s.length, .slice gor r.length r.length]) (by simp [results, Try.results41, go_sem, r0, r1, r2, r3, r4]) rfl ⟨⟨gob, _, gos, _, gor, _, rfl, ?_⟩, ?_⟩
    · have q0 := HS.out
      have q1 := F1.out.2
      have q2 := F2.out.2.2
      have q3 := F3.out.2.2.2
      have h0 : FrChan (w.heap.size + 1 + 1) w3.heap.size w3 gob b.length b gos s.length s gor r.length r := ⟨F3.out.1.wide (by omega) (by omega), F3.out.2.1.wide (by omega) (by omega), F3.out.2.2.1.wide (by omega) (by omega), Kind.Fresh.apart (F3.out.2.1) (F3.out.2.2.1) (by omega)⟩
      exact (((((h0.setBelow (a := ⟨w.heap.size + 1, 0, none⟩) (by simp) _).setBelow (a := ⟨w.heap.size + 1, 1, none⟩) (by simp) _).setBelow (a := ⟨w.heap.size + 1, 2, none⟩) (by simp) _).setBelow (a := ⟨w.heap.size + 1, 3, none⟩) (by simp) _).setBelow (a := ⟨w.heap.size + 1, 4, none⟩) (by simp) _).wide (by omega) (by simp)
    · exact (((((hC3.setCell (p := ⟨w.heap.size + 1, 0, none⟩) (by simp) _).setCell (p := ⟨w.heap.size + 1, 1, none⟩) (by simp) _).setCell (p := ⟨w.heap.size + 1, 2, none⟩) (by simp) _).setCell (p := ⟨w.heap.size + 1, 3, none⟩) (by simp) _).setCell (p := ⟨w.heap.size + 1, 4, none⟩) (by simp) _)
set_option maxRecDepth 10000 in
set_option maxHeartbeats 8000000 in
theorem ownChan_any (kap : Int) (cl : Bool) (bo : Option Addr) (bc : Nat) (b : List (Int)) (so : Option Addr) (sc : Nat) (s : List (Int × Int × Int)) (ro : Option Addr) (rc : Nat) (r : List (Int × Int × Int)) (w : World) (hlb : b.length ≤ 1048576) (hls : s.length ≤ 1048576) (hlr : r.length ≤ 1048576) (hz : InChan w.heap.size w bo b so s ro r) :
    Calls Try.prog 36 #[.agg #[.int .i64 kap, .bool cl, .slice bo b.length bc, .slice so s.length sc, .slice ro r.length rc]] w fun e w' => OwnChan w kap cl b s r e w' := by
  obtain ⟨V0, hV0⟩ : ∃ V0, V0 = (w.alloc (.cells #[.int .i64 kap, .bool cl, .slice bo b.length bc, .slice so s.length sc, .slice ro r.length rc] 45)).alloc (.cells #[.int .i64 0, .bool false, .slice none 0 0, .slice none 0 0, .slice none 0 0] 45) := ⟨_, rfl⟩
  have hB0 : Below w.heap.size w V0 := by rw [hV0]; exact below2 _ _ _
  have A0 : Hid (Bx V0 w.heap.size [.int .i64 kap, .bool cl, .slice bo b.length bc, .slice so s.length sc, .slice ro r.length rc]) := by rw [hV0]; exact (Bx.new [.int .i64 kap, .bool cl, .slice bo b.length bc, .slice so s.length sc, .slice ro r.length rc] _ rfl).alloc _
  have R0 : Hid (Bx V0 (w.heap.size + 1) [.int .i64 0, .bool false, .slice none 0 0, .slice none 0 0, .slice none 0 0]) := by rw [hV0]; exact Bx.new [.int .i64 0, .bool false, .slice none 0 0, .slice none 0 0, .slice none 0 0] _ (by simp)
  have HV0 : Hid (V0 = (w.alloc (.cells #[.int .i64 kap, .bool cl, .slice bo b.length bc, .slice so s.length sc, .slice ro r.length rc] 45)).alloc (.cells #[.int .i64 0, .bool false, .slice none 0 0, .slice none 0 0, .slice none 0 0] 45)) := hV0
  have HS0 : Hid (V0.heap.size = w.heap.size + 1 + 1) := by rw [hV0]; simp [Hid]
  have HT0 : Hid (w.heap.size + 1 < V0.heap.size) := by rw [HS0.out]; unfold Hid; omega
  clear hV0
  have HE0 : Hid (kI.Own V0.heap.size (V0.alloc (.cells #[] kI.ty)) (.slice (some ⟨V0.heap.size, 0, none⟩) 0 0) []) := Kind.Own.new kI _ V0 (Nat.le_refl _)
  have HZ0 : Hid (kI.In V0.heap.size (V0.alloc (.cells #[] kI.ty)) bo b) := (hz.1.later hB0).below (below1 _ _)
  rw [HS0.out] at HE0
  have a0 := A0.out.c 0 rfl
  have af0 := A0.out.f 0 rfl
  have a1 := A0.out.c 1 rfl
  have af1 := A0.out.f 1 rfl
  have a2 := A0.out.c 2 rfl
  have af2 := A0.out.f 2 rfl
  have a3 := A0.out.c 3 rfl
  have af3 := A0.out.f 3 rfl
  have a4 := A0.out.c 4 rfl
  have af4 := A0.out.f 4 rfl
  go_enter Try.func36, Try.ntmps36
  go_wp2_with (at_builtin; first
    | (rw [← HV2.out]; refine Kind.app2 kW_ok (V2.alloc (.cells #[] kW.ty)) rfl (.tmp 13) (.tmp 15) rfl w2.heap.size (.slice (some ⟨w2.heap.size, 0, none⟩) 0 0) [] rfl HE2.out (by simp [HS2.out]) ro r r.length rc rfl rfl _ HZ2.out (by simp; omega) ?_; intro v3 w3 hO hB _ hn; have hBX : Below V2.heap.size V2 w3 := (below1 V2 _).trans (by rw [HS2.out]; exact hB); obtain ⟨gr, rc', rfl, _⟩ := Kind.Own.some hO (hn some_ne); rw [List.nil_append] at hO ⊢; have B3 := hid (A2.out.later hBX); have S3 := hid (R2.out.later hBX); have hBw3 := hB2.trans (hBX.mono hB2.size); have G3 : Hid (kI.Own (w.heap.size + 1 + 1) w3 (.slice (some ⟨gb, 0, none⟩) b.length bc') b ∧ kW.Own (w.heap.size + 1 + 1) w3 (.slice (some ⟨gs, 0, none⟩) s.length sc') s ∧ kW.Own (w.heap.size + 1 + 1) w3 (.slice (some ⟨gr, 0, none⟩) r.length rc') r ∧ gb < w1.heap.size ∧ gs < w2.heap.size ∧ gr < w3.heap.size ∧ w1.heap.size ≤ gs ∧ w2.heap.size ≤ gr) := ⟨F2.out.1.below hBX, F2.out.2.1.below hBX, own_wide hO (by have := HT2.out; have := HS2.out; have := (own_at hO).1; omega), F2.out.2.2.1, F2.out.2.2.2.1, (own_at hO).2, F2.out.2.2.2.2, (own_at hO).1⟩; have HQ3 : Hid (w.heap.size + 1 < w3.heap.size) := (by have := HT2.out; have := hBX.size; unfold Hid; omega); have HQo2 : Hid (w2.heap.size ≤ w3.heap.size) := (by have := hBX.size; have := HS2.out; unfold Hid; omega); have hq3 : w.heap.size + 1 < w3.heap.size := HQ3.out; have hp3 : w.heap.size < w3.heap.size := (by omega); clear hO hB hn hBX HE2 HZ2 HV2 A2 R2 hB2 F2 a0 af0 a1 af1 a2 af2 a3 af3 a4 af4; have a0 := B3.out.c 0 rfl; have af0 := B3.out.f 0 rfl; have a1 := B3.out.c 1 rfl; have af1 := B3.out.f 1 rfl; have a2 := B3.out.c 2 rfl; have af2 := B3.out.f 2 rfl; have a3 := B3.out.c 3 rfl; have af3 := B3.out.f 3 rfl; have a4 := B3.out.c 4 rfl; have af4 := B3.out.f 4 rfl; have r0 := S3.out.c 0 rfl; have rf0 := S3.out.f 0 rfl; have r1 := S3.out.c 1 rfl; have rf1 := S3.out.f 1 rfl; have r2 := S3.out.c 2 rfl; have rf2 := S3.out.f 2 rfl; have r3 := S3.out.c 3 rfl; have rf3 := S3.out.f 3 rfl; have r4 := S3.out.c 4 rfl; have rf4 := S3.out.f 4 rfl)
    | (rw [← HV1.out]; refine Kind.app2 kW_ok (V1.alloc (.cells #[] kW.ty)) rfl (.tmp 8) (.tmp 10) rfl w1.heap.size (.slice (some ⟨w1.heap.size, 0, none⟩) 0 0) [] rfl HE1.out (by simp [HS1.out]) so s s.length sc rfl rfl _ HZ1.out (by simp; omega) ?_; intro v2 w2 hO hB _ hn; have hBX : Below V1.heap.size V1 w2 := (below1 V1 _).trans (by rw [HS1.out]; exact hB); obtain ⟨gs, sc', rfl, _⟩ := Kind.Own.some hO (hn some_ne); rw [List.nil_append] at hO ⊢; have B2 := hid (A1.out.later hBX); have S2 := hid (R1.out.later hBX); have hBw2 := hB1.trans (hBX.mono hB1.size); have G2 : Hid (kI.Own (w.heap.size + 1 + 1) w2 (.slice (some ⟨gb, 0, none⟩) b.length bc') b ∧ kW.Own (w.heap.size + 1 + 1) w2 (.slice (some ⟨gs, 0, none⟩) s.length sc') s ∧ gb < w1.heap.size ∧ gs < w2.heap.size ∧ w1.heap.size ≤ gs) := ⟨F1.out.1.below hBX, own_wide hO (by have := HT1.out; have := HS1.out; have := (own_at hO).1; omega), F1.out.2, (own_at hO).2, (own_at hO).1⟩; have HQ2 : Hid (w.heap.size + 1 < w2.heap.size) := (by have := HT1.out; have := hBX.size; unfold Hid; omega); have HQo1 : Hid (w1.heap.size ≤ w2.heap.size) := (by have := hBX.size; have := HS1.out; unfold Hid; omega); have hq2 : w.heap.size + 1 < w2.heap.size := HQ2.out; have hp2 : w.heap.size < w2.heap.size := (by omega); clear hO hB hn hBX HE1 HZ1 HV1 A1 R1 hB1 F1 a0 af0 a1 af1 a2 af2 a3 af3 a4 af4; have a0 := B2.out.c 0 rfl; have af0 := B2.out.f 0 rfl; have a1 := B2.out.c 1 rfl; have af1 := B2.out.f 1 rfl; have a2 := B2.out.c 2 rfl; have af2 := B2.out.f 2 rfl; have a3 := B2.out.c 3 rfl; have af3 := B2.out.f 3 rfl; have a4 := B2.out.c 4 rfl; have af4 := B2.out.f 4 rfl; obtain ⟨V2, hV2⟩ : ∃ V, V = w2.setCell ⟨w.heap.size, 3, none⟩ (.slice (some ⟨gs, 0, none⟩) s.length sc') := ⟨_, rfl⟩; have A2 : Hid (Bx V2 w.heap.size [.int .i64 kap, .bool cl, .slice (some ⟨gb, 0, none⟩) b.length bc', .slice (some ⟨gs, 0, none⟩) s.length sc', .slice ro r.length rc]) := (by rw [hV2]; exact B2.out.set 3 (.slice (some ⟨gs, 0, none⟩) s.length sc')); have R2 : Hid (Bx V2 (w.heap.size + 1) [.int .i64 0, .bool false, .slice none 0 0, .slice none 0 0, .slice none 0 0]) := (by rw [hV2]; exact S2.out.other (a := ⟨w.heap.size, 3, none⟩) (by simp) (.slice (some ⟨gs, 0, none⟩) s.length sc')); have HS2 : Hid (V2.heap.size = w2.heap.size) := (by rw [hV2]; simp [World.setCell, Hid]); have hB2 : Below w.heap.size w V2 := (by rw [hV2]; exact hBw2.setCell (p := ⟨w.heap.size, 3, none⟩) (Nat.le_refl _) _); have HT2 : Hid (w.heap.size + 1 < V2.heap.size) := (by rw [HS2.out]; exact HQ2.out); have F2 : Hid (kI.Own (w.heap.size + 1 + 1) V2 (.slice (some ⟨gb, 0, none⟩) b.length bc') b ∧ kW.Own (w.heap.size + 1 + 1) V2 (.slice (some ⟨gs, 0, none⟩) s.length sc') s ∧ gb < w1.heap.size ∧ gs < w2.heap.size ∧ w1.heap.size ≤ gs) := (by rw [hV2]; exact ⟨G2.out.1.setBelow (a := ⟨w.heap.size, 3, none⟩) (by simp; omega) (.slice (some ⟨gs, 0, none⟩) s.length sc'), G2.out.2.1.setBelow (a := ⟨w.heap.size, 3, none⟩) (by simp; omega) (.slice (some ⟨gs, 0, none⟩) s.length sc'), G2.out.2.2.1, G2.out.2.2.2.1, G2.out.2.2.2.2⟩); have HE2 : Hid (kW.Own V2.heap.size (V2.alloc (.cells #[] kW.ty)) (.slice (some ⟨V2.heap.size, 0, none⟩) 0 0) []) := (Kind.Own.new kW _ V2 (Nat.le_refl _)); have HZ2 : Hid (kW.In V2.heap.size (V2.alloc (.cells #[] kW.ty)) ro r) := ((hz.2.2.later hB2).below (below1 _ _)); rw [HS2.out] at HE2; have HV2 : Hid (V2 = w2.setCell ⟨w.heap.size, 3, none⟩ (.slice (some ⟨gs, 0, none⟩) s.length sc')) := hV2; clear hV2 B2 S2 hBw2; clear G2)
    | (rw [← HV0.out]; refine Kind.app2 kI_ok (V0.alloc (.cells #[] kI.ty)) rfl (.tmp 3) (.tmp 5) rfl (w.heap.size + 1 + 1) (.slice (some ⟨(w.heap.size + 1 + 1), 0, none⟩) 0 0) [] rfl HE0.out (by simp [HS0.out]) bo b b.length bc rfl rfl _ HZ0.out (by simp; omega) ?_; intro v1 w1 hO hB _ hn; have hBX : Below V0.heap.size V0 w1 := (below1 V0 _).trans (by rw [HS0.out]; exact hB); obtain ⟨gb, bc', rfl, _⟩ := Kind.Own.some hO (hn some_ne); rw [List.nil_append] at hO ⊢; have B1 := hid (A0.out.later hBX); have S1 := hid (R0.out.later hBX); have hBw1 := hB0.trans (hBX.mono hB0.size); have G1 : Hid (kI.Own (w.heap.size + 1 + 1) w1 (.slice (some ⟨gb, 0, none⟩) b.length bc') b ∧ gb < w1.heap.size) := ⟨own_wide hO (by have := HT0.out; have := HS0.out; have := (own_at hO).1; omega), (own_at hO).2⟩; have HQ1 : Hid (w.heap.size + 1 < w1.heap.size) := (by have := HT0.out; have := hBX.size; unfold Hid; omega); have hq1 : w.heap.size + 1 < w1.heap.size := HQ1.out; have hp1 : w.heap.size < w1.heap.size := (by omega); clear hO hB hn hBX HE0 HZ0 HV0 A0 R0 hB0 a0 af0 a1 af1 a2 af2 a3 af3 a4 af4; have a0 := B1.out.c 0 rfl; have af0 := B1.out.f 0 rfl; have a1 := B1.out.c 1 rfl; have af1 := B1.out.f 1 rfl; have a2 := B1.out.c 2 rfl; have af2 := B1.out.f 2 rfl; have a3 := B1.out.c 3 rfl; have af3 := B1.out.f 3 rfl; have a4 := B1.out.c 4 rfl; have af4 := B1.out.f 4 rfl; obtain ⟨V1, hV1⟩ : ∃ V, V = w1.setCell ⟨w.heap.size, 2, none⟩ (.slice (some ⟨gb, 0, none⟩) b.length bc') := ⟨_, rfl⟩; have A1 : Hid (Bx V1 w.heap.size [.int .i64 kap, .bool cl, .slice (some ⟨gb, 0, none⟩) b.length bc', .slice so s.length sc, .slice ro r.length rc]) := (by rw [hV1]; exact B1.out.set 2 (.slice (some ⟨gb, 0, none⟩) b.length bc')); have R1 : Hid (Bx V1 (w.heap.size + 1) [.int .i64 0, .bool false, .slice none 0 0, .slice none 0 0, .slice none 0 0]) := (by rw [hV1]; exact S1.out.other (a := ⟨w.heap.size, 2, none⟩) (by simp) (.slice (some ⟨gb, 0, none⟩) b.length bc')); have HS1 : Hid (V1.heap.size = w1.heap.size) := (by rw [hV1]; simp [World.setCell, Hid]); have hB1 : Below w.heap.size w V1 := (by rw [hV1]; exact hBw1.setCell (p := ⟨w.heap.size, 2, none⟩) (Nat.le_refl _) _); have HT1 : Hid (w.heap.size + 1 < V1.heap.size) := (by rw [HS1.out]; exact HQ1.out); have F1 : Hid (kI.Own (w.heap.size + 1 + 1) V1 (.slice (some ⟨gb, 0, none⟩) b.length bc') b ∧ gb < w1.heap.size) := (by rw [hV1]; exact ⟨G1.out.1.setBelow (a := ⟨w.heap.size, 2, none⟩) (by simp; omega) (.slice (some ⟨gb, 0, none⟩) b.length bc'), G1.out.2⟩); have HE1 : Hid (kW.Own V1.heap.size (V1.alloc (.cells #[] kW.ty)) (.slice (some ⟨V1.heap.size, 0, none⟩) 0 0) []) := (Kind.Own.new kW _ V1 (Nat.le_refl _)); have HZ1 : Hid (kW.In V1.heap.size (V1.alloc (.cells #[] kW.ty)) so s) := ((hz.2.1.later hB1).below (below1 _ _)); rw [HS1.out] at HE1; have HV1 : Hid (V1 = w1.setCell ⟨w.heap.size, 2, none⟩ (.slice (some ⟨gb, 0, none⟩) b.length bc')) := hV1; clear hV1 B1 S1 hBw1; clear G1))
  refine bodyPost_ret (v := .agg #[.int .i64 kap, .bool cl, .slice (some ⟨gb, 0, none⟩) b.length bc', .slice (some ⟨gs, 0, none⟩) s.length sc', .slice (some ⟨gr, 0, none⟩) r.length rc']) (by simp [results, Try.results36, go_sem, r0, r1, r2, r3, r4]) rfl ⟨⟨_, _, _, _, _, _, rfl, ?_⟩, ?_⟩
  · have h0 : OChan (w.heap.size + 1 + 1) w3 gb bc' b gs sc' s gr rc' r := ⟨G3.out.1, G3.out.2.1, G3.out.2.2.1, (by have := G3.out.2.2.2.1; have := G3.out.2.2.2.2.1; have := G3.out.2.2.2.2.2.1; have := G3.out.2.2.2.2.2.2.1; have := G3.out.2.2.2.2.2.2.2; have := HQo1.out; have := HQo2.out; omega), (by have := G3.out.2.2.2.1; have := G3.out.2.2.2.2.1; have := G3.out.2.2.2.2.2.1; have := G3.out.2.2.2.2.2.2.1; have := G3.out.2.2.2.2.2.2.2; have := HQo1.out; have := HQo2.out; omega), (by have := G3.out.2.2.2.1; have := G3.out.2.2.2.2.1; have := G3.out.2.2.2.2.2.1; have := G3.out.2.2.2.2.2.2.1; have := G3.out.2.2.2.2.2.2.2; have := HQo1.out; have := HQo2.out; omega)⟩
    exact OChan.low ((((((h0.setBelow (a := ⟨w.heap.size, 4, none⟩) (by simp; omega) _).setBelow (a := ⟨w.heap.size + 1, 0, none⟩) (by simp) _).setBelow (a := ⟨w.heap.size + 1, 1, none⟩) (by simp) _).setBelow (a := ⟨w.heap.size + 1, 2, none⟩) (by simp) _).setBelow (a := ⟨w.heap.size + 1, 3, none⟩) (by simp) _).setBelow (a := ⟨w.heap.size + 1, 4, none⟩) (by simp) _) (by omega)
  · exact ((((((hBw3.setCell (p := ⟨w.heap.size, 4, none⟩) (by simp) _).setCell (p := ⟨w.heap.size + 1, 0, none⟩) (by simp) _).setCell (p := ⟨w.heap.size + 1, 1, none⟩) (by simp) _).setCell (p := ⟨w.heap.size + 1, 2, none⟩) (by simp) _).setCell (p := ⟨w.heap.size + 1, 3, none⟩) (by simp) _).setCell (p := ⟨w.heap.size + 1, 4, none⟩) (by simp) _)
end Go.Proofs.Ytdjdbcfcccbhpaa
