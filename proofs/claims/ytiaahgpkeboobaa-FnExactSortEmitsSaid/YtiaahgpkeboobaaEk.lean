
/- SortEmits, the program's and the specification's. No conditions but those written. -/
import Derived.Test.YtiaahgpkeboobaaEj
namespace Go.Proofs.Ytiaahgpkeboobaa
open Go.RowKit

/-- What SortEmits answers. -/
def sortR (ts : List (Int × Int)) : List (Int × Int) × Bool := if 400 < ts.length then ([], false) else (sortE ts, true)
theorem sortR_len {ts : List (Int × Int)} (hl : ts.length ≤ 1048576) : (sortR ts).1.length ≤ 1048576 := by
  unfold sortR
  split
  · simp
  · rw [sortE_len]; exact hl
/-- A row of emits of its own, and whether. -/
def AnsEB (w : World) (R : List (Int × Int) × Bool) (e : Ending) (w' : World) : Prop :=
  (∃ o c, e = .returned (.tuple #[.slice o R.1.length c, .bool R.2]) ∧ kE.Fresh w.heap.size w'.heap.size w' o c R.1) ∧ Below w.heap.size w w'
set_option maxHeartbeats 1000000 in
theorem specSort_any (ao : Option Addr) (cap : Nat) (ts : List (Int × Int)) (w : World) (hl : ts.length ≤ 1048576) (hwf : ao = none → cap = 0) (hz : kE.In w.heap.size w ao ts) :
    Calls Try.prog 5 #[.slice ao ts.length cap] w fun e w' => AnsEB w (sortR ts) e w' := by
  by_cases h : 400 < ts.length
  · have e : sortR ts = ([], false) := if_pos h
    rw [e]
    have h' : decide ((400 : Int) < (ts.length : Int)) = true := by simp; omega
    clear e h
    go_enter Try.func5, Try.ntmps5
    go_wp2
    refine bodyPost_ret (v := .tuple #[.slice none 0 0, .bool false]) (by simp [results, Try.results5, go_sem]) rfl ?_
    exact ⟨⟨none, 0, rfl, Kind.Fresh.nil _ _ _ _ _ _⟩, Below.refl _ _⟩
  · have e : sortR ts = (sortE ts, true) := if_neg h
    rw [e]
    have h' : decide ((400 : Int) < (ts.length : Int)) = false := by simp; omega
    clear e h
    go_enter Try.func5, Try.ntmps5
    go_wp2_with fail
    refine (l11Sort_any ao cap ts w hl hz hwf).mono ?_
    rintro e w1 ⟨o, c, rfl, hF, hB⟩
    have H := hid (And.intro hF hB)
    clear hF hB
    go_wp2
    refine bodyPost_ret (v := .tuple #[.slice o (sortE ts).length c, .bool true]) (by simp [results, Try.results5, go_sem]) rfl ?_
    exact ⟨⟨o, c, rfl, H.out.1⟩, H.out.2⟩
set_option maxHeartbeats 1000000 in
theorem implSort_any (ao : Option Addr) (cap : Nat) (ts : List (Int × Int)) (w : World) (hl : ts.length ≤ 1048576) (hz : kE.In w.heap.size w ao ts) :
    Calls Try.prog 7 #[.slice ao ts.length cap] w fun e w' => AnsEB w (sortR ts) e w' := by
  by_cases h : 400 < ts.length
  · have e : sortR ts = ([], false) := if_pos h
    rw [e]
    have h' : decide ((400 : Int) < (ts.length : Int)) = true := by simp; omega
    clear e h
    go_enter Try.func7, Try.ntmps7
    go_wp2
    refine bodyPost_ret (v := .tuple #[.slice none 0 0, .bool false]) (by simp [results, Try.results7, go_sem]) rfl ?_
    exact ⟨⟨none, 0, rfl, Kind.Fresh.nil _ _ _ _ _ _⟩, Below.refl _ _⟩
  · have e : sortR ts = (sortE ts, true) := if_neg h
    rw [e]
    have h' : decide ((400 : Int) < (ts.length : Int)) = false := by simp; omega
    clear e h
    obtain ⟨V, hV⟩ : ∃ V, V = w.alloc (.cells #[.func (.func 13) #[] #[], .func (.func 14) #[] #[]] 36) := ⟨_, rfl⟩
    have hb : Below w.heap.size w V := by rw [hV]; exact below1 _ _
    have XK : Hid (Bx V w.heap.size [.func (.func 13) #[] #[], .func (.func 14) #[] #[]]) := by rw [hV]; exact Bx.new [.func (.func 13) #[] #[], .func (.func 14) #[] #[]] _ rfl
    have hs : w.heap.size < V.heap.size := by rw [hV]; simp
    have hcon := sortedBy_any ao cap ts w.heap.size V hl (hz.later hb) hs (XK.out.c 0 rfl) (XK.out.c 1 rfl)
    have HV := hid hV
    have HB := hid hb
    clear hV XK hz hs hb
    go_enter Try.func7, Try.ntmps7
    go_wp2_with fail
    rw [← HV.out]
    refine hcon.mono ?_
    rintro e w1 ⟨o, c, rfl, hF, hB⟩
    have H := hid (And.intro (hF.wide HB.out.size (Nat.le_refl _)) (HB.out.trans (hB.mono HB.out.size)))
    clear hF hB
    go_wp2
    refine bodyPost_ret (v := .tuple #[.slice o (sortE ts).length c, .bool true]) (by simp [results, Try.results7, go_sem]) rfl ?_
    exact ⟨⟨o, c, rfl, H.out.1⟩, H.out.2⟩
end Go.Proofs.Ytiaahgpkeboobaa
