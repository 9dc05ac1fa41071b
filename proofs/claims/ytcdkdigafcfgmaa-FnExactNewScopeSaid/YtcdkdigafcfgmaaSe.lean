/- NewScope: what it answers, and the program. No conditions but those written. -/
import Derived.Test.YtcdkdigafcfgmaaSc
namespace Go.Proofs.Ytcdkdigafcfgmaa
open Go.RowKit

/-- Why a new scope below up has ended. -/
def whyOf (l : List Sc) (up : Int) : Int := if up = -1 then 0 else (el l up.toNat).2.2
/-- A new scope may be made. -/
def newB (l : List Sc) (up dl : Int) : Bool := scopesB l && (decide (l.length ≠ 20) && (upB l.length up && decide (0 ≤ dl)))
/-- What NewScope answers. -/
def newR (l : List Sc) (up dl : Int) : List Sc × Int × Int := if newB l up dl = true then (l ++ [(up, dl, whyOf l up)], (l.length : Int), 0) else ([], 0, 2)
theorem newR_bad {l : List Sc} {up dl : Int} (h : newB l up dl = false) : newR l up dl = ([], 0, 2) := by rw [newR, if_neg]; rw [h]; simp
theorem newR_good {l : List Sc} {up dl : Int} (h : newB l up dl = true) : newR l up dl = (l ++ [(up, dl, whyOf l up)], (l.length : Int), 0) := by rw [newR, if_pos h]
theorem newR_len {l : List Sc} {up dl : Int} (hl : l.length ≤ 1048576) : (newR l up dl).1.length ≤ 1048576 := by
  unfold newR
  split
  · rename_i h
    have hs : scopesB l = true := by unfold newB at h; revert h; cases scopesB l <;> simp
    have := (scopesB_good hs).1
    simp; omega
  · simp
/-- Scopes, a number and a code, in memory of their own. -/
def AnsN (w : World) (R : List Sc × Int × Int) (e : Ending) (w' : World) : Prop :=
  (∃ o c, e = .returned (.tuple #[.slice o R.1.length c, .int .i64 R.2.1, .int .i64 R.2.2]) ∧ kS.Fresh w.heap.size w'.heap.size w' o c R.1) ∧ Below w.heap.size w w'

set_option maxRecDepth 10000 in
set_option maxHeartbeats 4000000 in
theorem implNew_any (ao : Option Addr) (cap : Nat) (l : List Sc) (iv jv : Int) (w : World) (hl : l.length ≤ 1048576) (hz : kS.In w.heap.size w ao l) :
    Calls Try.prog 48 #[.slice ao l.length cap, .int .i64 iv, .int .i64 jv] w fun e w' => AnsN w (newR l iv jv) e w' := by
  cases hg : scopesB l
  · have HG : Hid (scopesB l = false) := hg
    have HR : Hid (newR l iv jv = ([], 0, 2)) := newR_bad (by rw [newB, hg]; rfl)
    clear hg
    go_enter Try.func48, Try.ntmps48
    go_wp2_with fail
    refine (implGoodScopes_is ao cap l w false hl hz HG.out).mono ?_
    rintro e w1 ⟨rfl, hB1⟩
    go_wp2
    refine bodyPost_ret (v := .tuple #[.slice none 0 0, .int .i64 0, .int .i64 2]) (by simp [results, Try.results48, go_sem]) rfl ?_
    rw [HR.out]
    exact ⟨⟨none, 0, rfl, .inl rfl⟩, hB1⟩
  have HG : Hid (scopesB l = true) := hg
  have h20 := (scopesB_good hg).1
  by_cases h2 : l.length = 20
  · have h2' : ((l.length : Int) == 20) = true := by simp; omega
    have HR : Hid (newR l iv jv = ([], 0, 2)) := newR_bad (by rw [newB, h2]; simp)
    clear hg h2
    go_enter Try.func48, Try.ntmps48
    go_wp2_with fail
    refine (implGoodScopes_is ao cap l w true hl hz HG.out).mono ?_
    rintro e w1 ⟨rfl, hB1⟩
    go_wp2
    refine bodyPost_ret (v := .tuple #[.slice none 0 0, .int .i64 0, .int .i64 2]) (by simp [results, Try.results48, go_sem]) rfl ?_
    rw [HR.out]
    exact ⟨⟨none, 0, rfl, .inl rfl⟩, hB1⟩
  have h2' : ((l.length : Int) == 20) = false := by simp; omega
  cases hu : upB l.length iv
  · have HU : Hid (upB l.length iv = false) := hu
    have HR : Hid (newR l iv jv = ([], 0, 2)) := newR_bad (by rw [newB, hu]; simp)
    clear hg hu
    go_enter Try.func48, Try.ntmps48
    go_wp2_with fail
    refine (implGoodScopes_is ao cap l w true hl hz HG.out).mono ?_
    rintro e w1 ⟨rfl, hB1⟩
    go_wp2_with fail
    refine (goodUp_is l.length iv _ false HU.out).mono ?_
    rintro e w2 ⟨rfl, hw2⟩
    rw [hw2]
    clear hw2 w2
    go_wp2
    refine bodyPost_ret (v := .tuple #[.slice none 0 0, .int .i64 0, .int .i64 2]) (by simp [results, Try.results48, go_sem]) rfl ?_
    rw [HR.out]
    exact ⟨⟨none, 0, rfl, .inl rfl⟩, hB1⟩
  have HU : Hid (upB l.length iv = true) := hu
  by_cases hd : jv < 0
  · have hd' : decide (jv < 0) = true := by simpa using hd
    have HR : Hid (newR l iv jv = ([], 0, 2)) := newR_bad (by have : decide (0 ≤ jv) = false := by simp; omega
                                                              rw [newB, this]; simp)
    clear hg hu
    go_enter Try.func48, Try.ntmps48
    go_wp2_with fail
    refine (implGoodScopes_is ao cap l w true hl hz HG.out).mono ?_
    rintro e w1 ⟨rfl, hB1⟩
    go_wp2_with fail
    refine (goodUp_is l.length iv _ true HU.out).mono ?_
    rintro e w2 ⟨rfl, hw2⟩
    rw [hw2]
    clear hw2 w2
    go_wp2
    refine bodyPost_ret (v := .tuple #[.slice none 0 0, .int .i64 0, .int .i64 2]) (by simp [results, Try.results48, go_sem]) rfl ?_
    rw [HR.out]
    exact ⟨⟨none, 0, rfl, .inl rfl⟩, hB1⟩
  have hd' : decide (jv < 0) = false := by simpa using hd
  have hnb : newB l iv jv = true := by rw [newB, hg, hu]; simp [h2]; omega
  have hin := upB_in hu
  have hfl : ∀ (a : Option Addr) (n c : Nat) (W : World), (Instr.field 118 (.agg #[.slice a n c]) 0).run Try.prog W = .ok (.slice a n c) W := run_field118
  by_cases hm : iv = -1
  · have hm' : (iv != -1) = false := by simpa using hm
    have HR : Hid (newR l iv jv = (l ++ [(iv, jv, 0)], (l.length : Int), 0)) := by rw [Hid, newR_good hnb, whyOf, if_pos hm]
    clear hg hu hin hnb hm
    go_enter Try.func48, Try.ntmps48
    go_wp2_with fail
    refine (implGoodScopes_is ao cap l w true hl hz HG.out).mono ?_
    rintro e w1 ⟨rfl, hB1⟩
    go_wp2_with fail
    refine (goodUp_is l.length iv _ true HU.out).mono ?_
    rintro e w2 ⟨rfl, hw2⟩
    rw [hw2]
    clear hw2 w2
    go_wp2
    obtain ⟨V, hV⟩ : ∃ V, V = w1.alloc (.cells #[.int .i64 iv, .int .i64 jv, .int .i64 0] 104) := ⟨_, rfl⟩
    rw [← hV]
    have X : Bx V w1.heap.size [.int .i64 iv, .int .i64 jv, .int .i64 0] := by rw [hV]; exact Bx.new _ _ rfl
    have hBV : Below w.heap.size w V := by rw [hV]; exact Below.allocS hB1 _
    have x0 := X.c 0 rfl
    have x1 := X.c 1 rfl
    have x2 := X.c 2 rfl
    clear hV
    go_region_held3 (fun Y => Y.cell? ⟨w1.heap.size, 0, none⟩ = some (.int .i64 iv) ∧ Y.cell? ⟨w1.heap.size, 1, none⟩ = some (.int .i64 jv) ∧ Y.cell? ⟨w1.heap.size, 2, none⟩ = some (.int .i64 0))
      (first | (with_reducible exact ⟨x0, x1, x2⟩) | (with_reducible exact P1) | (with_reducible exact P2) | exact ⟨x0, x1, x2⟩)
      (first
        | (go_at_call 92; refine (queueOfS_any ao cap l _ hl (by exact hz.later hBV.drew)).mono ?_; rintro e w3 ⟨⟨go1, rfl, hF2⟩, hb2⟩; have hB3 : Below w.heap.size w w3 := hBV.drew.trans (hb2.mono hBV.size); have X3 := X.drew.later hb2; have P1 := (⟨X3.c 0 rfl, X3.c 1 rfl, X3.c 2 rfl⟩ : w3.cell? ⟨w1.heap.size, 0, none⟩ = some (.int .i64 iv) ∧ w3.cell? ⟨w1.heap.size, 1, none⟩ = some (.int .i64 jv) ∧ w3.cell? ⟨w1.heap.size, 2, none⟩ = some (.int .i64 0)); have F3 : Hid (kS.Fresh V.heap.size w3.heap.size w3 go1 l.length l ∧ V.heap.size ≤ w3.heap.size) := ⟨hF2, hb2.size⟩; clear hF2 hb2)
        | (go_at_call 93; refine (withS_any go1 l.length l iv jv 0 w3 hl (by exact F3.out.1.in)).mono ?_; rintro e w4 ⟨⟨go2, rfl, hF4⟩, hb4⟩; have hB4 : Below w.heap.size w w4 := hB3.trans (hb4.mono hB3.size); have X4 := X3.later hb4; have P2 := (⟨X4.c 0 rfl, X4.c 1 rfl, X4.c 2 rfl⟩ : w4.cell? ⟨w1.heap.size, 0, none⟩ = some (.int .i64 iv) ∧ w4.cell? ⟨w1.heap.size, 1, none⟩ = some (.int .i64 jv) ∧ w4.cell? ⟨w1.heap.size, 2, none⟩ = some (.int .i64 0)); have F4 : Hid (kS.Fresh w.heap.size w4.heap.size w4 go2 (l.length + 1) (l ++ [(iv, jv, 0)])) := (hF4.wide hB3.size (Nat.le_refl _)); clear hF4 hb4))
    all_goals
      go_wp2
      refine bodyPost_ret (v := .tuple #[.slice go2 (l.length + 1) (l.length + 1), .int .i64 (l.length : Int), .int .i64 0]) (by simp [results, Try.results48, go_sem]) rfl ?_
      rw [HR.out]
      exact ⟨⟨go2, l.length + 1, by simp, F4.out⟩, hB4⟩
  · have hm' : (iv != -1) = true := by simpa using hm
    have hin' : 0 ≤ iv ∧ iv < l.length := by rcases hin with h | h; exact absurd h hm; exact h
    obtain ⟨u, rfl⟩ : ∃ u : Nat, iv = u := ⟨iv.toNat, by omega⟩
    have hul : u < l.length := by omega
    have hul' : (u : Int) < (l.length : Int) := by omega
    obtain ⟨b, off, rfl, hb0, hc⟩ := kS_at hz hul
    have c0 := (hc u hul).2.2
    obtain ⟨z, ez⟩ : ∃ z, z = (el l u).2.2 := ⟨_, rfl⟩
    rw [← ez] at c0
    have HR : Hid (newR l u jv = (l ++ [((u : Int), jv, z)], (l.length : Int), 0)) := by rw [Hid, newR_good hnb, whyOf, if_neg hm, ez]; rfl
    clear hg hu hin hnb hm hin' ez hc
    go_enter Try.func48, Try.ntmps48
    go_wp2_with fail
    refine (implGoodScopes_is (some ⟨b, off, none⟩) cap l w true hl hz HG.out).mono ?_
    rintro e w1 ⟨rfl, hB1⟩
    have cz := (hB1.cell (p := ⟨b, off + u * 3 + 2, none⟩) hb0).trans c0
    have hbz : b < w1.heap.size := Nat.lt_of_lt_of_le hb0 hB1.size
    go_wp2_with fail
    refine (goodUp_is l.length u _ true HU.out).mono ?_
    rintro e w2 ⟨rfl, hw2⟩
    rw [hw2]
    clear hw2 w2
    go_wp2
    obtain ⟨V, hV⟩ : ∃ V, V = w1.alloc (.cells #[.int .i64 (u : Int), .int .i64 jv, .int .i64 z] 104) := ⟨_, rfl⟩
    rw [← hV]
    have X : Bx V w1.heap.size [.int .i64 (u : Int), .int .i64 jv, .int .i64 z] := by rw [hV]; exact Bx.new _ _ rfl
    have hBV : Below w.heap.size w V := by rw [hV]; exact Below.allocS hB1 _
    have x0 := X.c 0 rfl
    have x1 := X.c 1 rfl
    have x2 := X.c 2 rfl
    clear hV
    go_region_held3 (fun Y => Y.cell? ⟨w1.heap.size, 0, none⟩ = some (.int .i64 (u : Int)) ∧ Y.cell? ⟨w1.heap.size, 1, none⟩ = some (.int .i64 jv) ∧ Y.cell? ⟨w1.heap.size, 2, none⟩ = some (.int .i64 z))
      (first | (with_reducible exact ⟨x0, x1, x2⟩) | (with_reducible exact P1) | (with_reducible exact P2) | exact ⟨x0, x1, x2⟩)
      (first
        | (go_at_call 92; refine (queueOfS_any (some ⟨b, off, none⟩) cap l _ hl (by exact hz.later hBV.drew)).mono ?_; rintro e w3 ⟨⟨go1, rfl, hF2⟩, hb2⟩; have hB3 : Below w.heap.size w w3 := hBV.drew.trans (hb2.mono hBV.size); have X3 := X.drew.later hb2; have P1 := (⟨X3.c 0 rfl, X3.c 1 rfl, X3.c 2 rfl⟩ : w3.cell? ⟨w1.heap.size, 0, none⟩ = some (.int .i64 (u : Int)) ∧ w3.cell? ⟨w1.heap.size, 1, none⟩ = some (.int .i64 jv) ∧ w3.cell? ⟨w1.heap.size, 2, none⟩ = some (.int .i64 z)); have F3 : Hid (kS.Fresh V.heap.size w3.heap.size w3 go1 l.length l ∧ V.heap.size ≤ w3.heap.size) := ⟨hF2, hb2.size⟩; clear hF2 hb2)
        | (go_at_call 93; refine (withS_any go1 l.length l u jv z w3 hl (by exact F3.out.1.in)).mono ?_; rintro e w4 ⟨⟨go2, rfl, hF4⟩, hb4⟩; have hB4 : Below w.heap.size w w4 := hB3.trans (hb4.mono hB3.size); have X4 := X3.later hb4; have P2 := (⟨X4.c 0 rfl, X4.c 1 rfl, X4.c 2 rfl⟩ : w4.cell? ⟨w1.heap.size, 0, none⟩ = some (.int .i64 (u : Int)) ∧ w4.cell? ⟨w1.heap.size, 1, none⟩ = some (.int .i64 jv) ∧ w4.cell? ⟨w1.heap.size, 2, none⟩ = some (.int .i64 z)); have F4 : Hid (kS.Fresh w.heap.size w4.heap.size w4 go2 (l.length + 1) (l ++ [((u : Int), jv, z)])) := (hF4.wide hB3.size (Nat.le_refl _)); clear hF4 hb4))
    all_goals
      go_wp2
      refine bodyPost_ret (v := .tuple #[.slice go2 (l.length + 1) (l.length + 1), .int .i64 (l.length : Int), .int .i64 0]) (by simp [results, Try.results48, go_sem]) rfl ?_
      rw [HR.out]
      exact ⟨⟨go2, l.length + 1, by simp, F4.out⟩, hB4⟩
end Go.Proofs.Ytcdkdigafcfgmaa
