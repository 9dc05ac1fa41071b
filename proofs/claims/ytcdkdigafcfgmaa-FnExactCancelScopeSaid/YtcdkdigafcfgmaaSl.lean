/- CancelScope and ExpireScopes: what they answer, and the program. No conditions but those written. -/
import Derived.Test.YtcdkdigafcfgmaaSi
namespace Go.Proofs.Ytcdkdigafcfgmaa
open Go.RowKit

/-- What CancelScope answers. -/
def cancelR (l : List Sc) (k : Int) : List Sc × List Int × Int :=
  if scopesB l = true ∧ (0 ≤ k ∧ k < l.length) then
    if (el l k.toNat).2.2 = 0 then ((endTo (isB k) 1 l l.length).1, (endTo (isB k) 1 l l.length).2, 0) else (l, [], 4)
  else ([], [], 2)
theorem cancelR_bad {l : List Sc} {k : Int} (h : scopesB l = false) : cancelR l k = ([], [], 2) := by rw [cancelR, if_neg]; rw [h]; simp
theorem cancelR_none {l : List Sc} {k : Int} (h : ¬ (0 ≤ k ∧ k < l.length)) : cancelR l k = ([], [], 2) := by rw [cancelR, if_neg]; exact fun x => h x.2
theorem cancelR_busy {l : List Sc} {k : Nat} (h : scopesB l = true) (hk : k < l.length) (h2 : (el l k).2.2 ≠ 0) : cancelR l k = (l, [], 4) := by rw [cancelR, if_pos ⟨h, by omega, by omega⟩, if_neg]; exact h2
theorem cancelR_done {l : List Sc} {k : Nat} (h : scopesB l = true) (hk : k < l.length) (h2 : (el l k).2.2 = 0) : cancelR l k = ((endTo (isB k) 1 l l.length).1, (endTo (isB k) 1 l l.length).2, 0) := by rw [cancelR, if_pos ⟨h, by omega, by omega⟩, if_pos]; exact h2
theorem cancelR_len {l : List Sc} {k : Int} (hl : l.length ≤ 1048576) : (cancelR l k).1.length ≤ 1048576 ∧ (cancelR l k).2.1.length ≤ 1048576 := by
  unfold cancelR
  repeat' split
  · dsimp only
    have := endTo_num (isB k) 1 l l.length
    rw [endTo_len]; omega
  · simp [hl]
  · simp
/-- What ExpireScopes answers. -/
def expireR (l : List Sc) (now : Int) : List Sc × List Int × Bool :=
  if scopesB l = true then ((endTo (dueB now) 2 l l.length).1, (endTo (dueB now) 2 l l.length).2, true) else ([], [], false)
theorem expireR_bad {l : List Sc} {k : Int} (h : scopesB l = false) : expireR l k = ([], [], false) := by rw [expireR, if_neg]; rw [h]; simp
theorem expireR_good {l : List Sc} {k : Int} (h : scopesB l = true) : expireR l k = ((endTo (dueB k) 2 l l.length).1, (endTo (dueB k) 2 l l.length).2, true) := by rw [expireR, if_pos h]
theorem expireR_len {l : List Sc} {k : Int} (hl : l.length ≤ 1048576) : (expireR l k).1.length ≤ 1048576 ∧ (expireR l k).2.1.length ≤ 1048576 := by
  unfold expireR
  split
  · dsimp only
    have := endTo_num (dueB k) 2 l l.length
    rw [endTo_len]; omega
  · simp
/-- Scopes, numbers and a code, in memory of their own. -/
def AnsC (w : World) (R : List Sc × List Int × Int) (e : Ending) (w' : World) : Prop :=
  (∃ o c o' c', e = .returned (.tuple #[.slice o R.1.length c, .slice o' R.2.1.length c', .int .i64 R.2.2]) ∧ kS.Fresh w.heap.size w'.heap.size w' o c R.1 ∧ kI.Fresh w.heap.size w'.heap.size w' o' c' R.2.1) ∧ Below w.heap.size w w'
/-- Scopes, numbers and a bool, in memory of their own. -/
def AnsE (w : World) (R : List Sc × List Int × Bool) (e : Ending) (w' : World) : Prop :=
  (∃ o c o' c', e = .returned (.tuple #[.slice o R.1.length c, .slice o' R.2.1.length c', .bool R.2.2]) ∧ kS.Fresh w.heap.size w'.heap.size w' o c R.1 ∧ kI.Fresh w.heap.size w'.heap.size w' o' c' R.2.1) ∧ Below w.heap.size w w'

set_option maxRecDepth 10000 in
set_option maxHeartbeats 4000000 in
theorem implCancel_any (ao : Option Addr) (cap : Nat) (l : List Sc) (iv : Int) (w : World) (hl : l.length ≤ 1048576) (hz : kS.In w.heap.size w ao l) :
    Calls Try.prog 52 #[.slice ao l.length cap, .int .i64 iv] w fun e w' => AnsC w (cancelR l iv) e w' := by
  have hn0 := below1 w (.cells #[.int .i64 iv] 3)
  have X0 : Bx (w.alloc (.cells #[.int .i64 iv] 3)) w.heap.size [.int .i64 iv] := Bx.new _ _ rfl
  cases hg : scopesB l
  · have HG := hid hg
    have HR : Hid (cancelR l iv = ([], [], 2)) := cancelR_bad hg
    clear hg
    go_enter Try.func52, Try.ntmps52
    go_wp2_with fail
    refine (implGoodScopes_is ao cap l _ false hl (hz.later hn0) HG.out).mono ?_
    rintro e w1 ⟨rfl, hb1⟩
    have hB1 := hn0.trans (hb1.mono (by simp))
    have X1 := X0.later hb1
    have x0 := X1.c 0 rfl
    clear hb1
    go_wp2
    refine bodyPost_ret (v := .tuple #[.slice none 0 0, .slice none 0 0, .int .i64 2]) (by simp [results, Try.results52, go_sem]) rfl ?_
    rw [HR.out]
    exact ⟨⟨none, 0, none, 0, rfl, .inl rfl, .inl rfl⟩, hB1⟩
  have HG := hid hg
  by_cases h1 : iv < 0
  · have h1' : decide (iv < 0) = true := by simpa using h1
    have HR : Hid (cancelR l iv = ([], [], 2)) := cancelR_none (by omega)
    clear hg
    go_enter Try.func52, Try.ntmps52
    go_wp2_with fail
    refine (implGoodScopes_is ao cap l _ true hl (hz.later hn0) HG.out).mono ?_
    rintro e w1 ⟨rfl, hb1⟩
    have hB1 := hn0.trans (hb1.mono (by simp))
    have X1 := X0.later hb1
    have x0 := X1.c 0 rfl
    clear hb1
    go_wp2
    refine bodyPost_ret (v := .tuple #[.slice none 0 0, .slice none 0 0, .int .i64 2]) (by simp [results, Try.results52, go_sem]) rfl ?_
    rw [HR.out]
    exact ⟨⟨none, 0, none, 0, rfl, .inl rfl, .inl rfl⟩, hB1⟩
  have h1' : decide (iv < 0) = false := by simpa using h1
  by_cases h2 : (l.length : Int) ≤ iv
  · have h2' : decide ((l.length : Int) ≤ iv) = true := by simpa using h2
    have HR : Hid (cancelR l iv = ([], [], 2)) := cancelR_none (by omega)
    clear hg
    go_enter Try.func52, Try.ntmps52
    go_wp2_with fail
    refine (implGoodScopes_is ao cap l _ true hl (hz.later hn0) HG.out).mono ?_
    rintro e w1 ⟨rfl, hb1⟩
    have hB1 := hn0.trans (hb1.mono (by simp))
    have X1 := X0.later hb1
    have x0 := X1.c 0 rfl
    clear hb1
    go_wp2
    refine bodyPost_ret (v := .tuple #[.slice none 0 0, .slice none 0 0, .int .i64 2]) (by simp [results, Try.results52, go_sem]) rfl ?_
    rw [HR.out]
    exact ⟨⟨none, 0, none, 0, rfl, .inl rfl, .inl rfl⟩, hB1⟩
  have h2' : decide ((l.length : Int) ≤ iv) = false := by simpa using h2
  obtain ⟨k, rfl⟩ : ∃ k : Nat, iv = k := ⟨iv.toNat, by omega⟩
  have hk : k < l.length := by omega
  have hkI : (k : Int) < (l.length : Int) := by omega
  obtain ⟨b, off, rfl, hb0, hc⟩ := kS_at hz hk
  have c0 := (hc k hk).2.2
  obtain ⟨z, ez⟩ : ∃ z, z = (el l k).2.2 := ⟨_, rfl⟩
  rw [← ez] at c0
  have HEZ := hid ez
  clear hc ez
  by_cases hz0 : z = 0
  · have hz0' : (z != 0) = false := by simpa using hz0
    have HR : Hid (cancelR l k = ((endTo (isB k) 1 l l.length).1, (endTo (isB k) 1 l l.length).2, 0)) := cancelR_done hg hk (by rw [← HEZ.out]; exact hz0)
    clear hg hz0
    go_enter Try.func52, Try.ntmps52
    go_wp2_with fail
    refine (implGoodScopes_is (some ⟨b, off, none⟩) cap l _ true hl (hz.later hn0) HG.out).mono ?_
    rintro e w1 ⟨rfl, hb1⟩
    have hB1 := hn0.trans (hb1.mono (by simp))
    have X1 := X0.later hb1
    have x0 := X1.c 0 rfl
    clear hb1
    have cz := (hB1.cell (p := ⟨b, off + k * 3 + 2, none⟩) hb0).trans c0
    go_wp2_with fail
    refine (endAllIs_any (some ⟨b, off, none⟩) cap l 1 k w.heap.size w1 hl HG.out (hz.later hB1) x0).mono ?_
    rintro e w2 ⟨⟨o, c, o', c', rfl, hF1, hF2⟩, hb2⟩
    have HF := hid (And.intro hF1 hF2)
    have hB2 := hB1.trans (hb2.mono hB1.size)
    have hs1 := hB1.size
    clear hF1 hF2 hb2
    go_wp2
    refine bodyPost_ret (v := .tuple #[.slice o l.length c, .slice o' (endTo (isB k) 1 l l.length).2.length c', .int .i64 0]) (by simp [results, Try.results52, go_sem]) rfl ?_
    rw [HR.out]
    exact ⟨⟨o, c, o', c', by rw [endTo_len], HF.out.1.wide hs1 (Nat.le_refl _), HF.out.2.wide hs1 (Nat.le_refl _)⟩, hB2⟩
  · have hz0' : (z != 0) = true := by simpa using hz0
    have HR : Hid (cancelR l k = (l, [], 4)) := cancelR_busy hg hk (by rw [← HEZ.out]; exact hz0)
    clear hg hz0
    go_enter Try.func52, Try.ntmps52
    go_wp2_with fail
    refine (implGoodScopes_is (some ⟨b, off, none⟩) cap l _ true hl (hz.later hn0) HG.out).mono ?_
    rintro e w1 ⟨rfl, hb1⟩
    have hB1 := hn0.trans (hb1.mono (by simp))
    have X1 := X0.later hb1
    have x0 := X1.c 0 rfl
    clear hb1
    have cz := (hB1.cell (p := ⟨b, off + k * 3 + 2, none⟩) hb0).trans c0
    go_wp2_with fail
    refine (copyListS_any (some ⟨b, off, none⟩) cap l w1 hl (hz.later hB1)).mono ?_
    rintro e w2 ⟨⟨o, rfl, hF1⟩, hb2⟩
    have HF := hid hF1
    have hB2 := hB1.trans (hb2.mono hB1.size)
    have hs1 := hB1.size
    clear hF1 hb2
    go_wp2
    refine bodyPost_ret (v := .tuple #[.slice o l.length l.length, .slice none 0 0, .int .i64 4]) (by simp [results, Try.results52, go_sem]) rfl ?_
    rw [HR.out]
    exact ⟨⟨o, _, none, 0, rfl, HF.out.wide hs1 (Nat.le_refl _), .inl rfl⟩, hB2⟩

set_option maxRecDepth 10000 in
set_option maxHeartbeats 4000000 in
theorem implExpire_any (ao : Option Addr) (cap : Nat) (l : List Sc) (iv : Int) (w : World) (hl : l.length ≤ 1048576) (hz : kS.In w.heap.size w ao l) :
    Calls Try.prog 54 #[.slice ao l.length cap, .int .i64 iv] w fun e w' => AnsE w (expireR l iv) e w' := by
  have hn0 := below1 w (.cells #[.int .i64 iv] 3)
  have X0 : Bx (w.alloc (.cells #[.int .i64 iv] 3)) w.heap.size [.int .i64 iv] := Bx.new _ _ rfl
  cases hg : scopesB l
  · have HG := hid hg
    have HR : Hid (expireR l iv = ([], [], false)) := expireR_bad hg
    clear hg
    go_enter Try.func54, Try.ntmps54
    go_wp2_with fail
    refine (implGoodScopes_is ao cap l _ false hl (hz.later hn0) HG.out).mono ?_
    rintro e w1 ⟨rfl, hb1⟩
    have hB1 := hn0.trans (hb1.mono (by simp))
    have X1 := X0.later hb1
    have x0 := X1.c 0 rfl
    clear hb1
    go_wp2
    refine bodyPost_ret (v := .tuple #[.slice none 0 0, .slice none 0 0, .bool false]) (by simp [results, Try.results54, go_sem]) rfl ?_
    rw [HR.out]
    exact ⟨⟨none, 0, none, 0, rfl, .inl rfl, .inl rfl⟩, hB1⟩
  have HG := hid hg
  have HR : Hid (expireR l iv = ((endTo (dueB iv) 2 l l.length).1, (endTo (dueB iv) 2 l l.length).2, true)) := expireR_good hg
  clear hg
  go_enter Try.func54, Try.ntmps54
  go_wp2_with fail
  refine (implGoodScopes_is ao cap l _ true hl (hz.later hn0) HG.out).mono ?_
  rintro e w1 ⟨rfl, hb1⟩
  have hB1 := hn0.trans (hb1.mono (by simp))
  have X1 := X0.later hb1
  have x0 := X1.c 0 rfl
  clear hb1
  go_wp2_with fail
  refine (endAllDue_any ao cap l 2 iv w.heap.size w1 hl HG.out (hz.later hB1) x0).mono ?_
  rintro e w2 ⟨⟨o, c, o', c', rfl, hF1, hF2⟩, hb2⟩
  have HF := hid (And.intro hF1 hF2)
  have hB2 := hB1.trans (hb2.mono hB1.size)
  have hs1 := hB1.size
  clear hF1 hF2 hb2
  go_wp2
  refine bodyPost_ret (v := .tuple #[.slice o l.length c, .slice o' (endTo (dueB iv) 2 l l.length).2.length c', .bool true]) (by simp [results, Try.results54, go_sem]) rfl ?_
  rw [HR.out]
  exact ⟨⟨o, c, o', c', by rw [endTo_len], HF.out.1.wide hs1 (Nat.le_refl _), HF.out.2.wide hs1 (Nat.le_refl _)⟩, hB2⟩
end Go.Proofs.Ytcdkdigafcfgmaa
