
/- What each node of a graph must keep to: the program's tests. No conditions but those written. -/
import Derived.Test.YteamcpcjooglaaaDoorFx
import Derived.Test.YteamcpcjooglaaaDoorOn
import Derived.Test.YteamcpcjooglaaaDoorNm
import Derived.Test.YteamcpcjooglaaaDoorSj
import Derived.Test.YteamcpcjooglaaaDoorQt
namespace Go.Proofs.YteamcpcjooglaaaDoor
open Go.RowKit

/-- Two texts are one. -/
def sameT (a b : ByteArray) : Bool := a.toList == b.toList
/-- Texts that are not too long for any machine. -/
def FitN (ts : List LNode) : Prop := ∀ a ∈ ts, a.1.size ≤ 1048576 ∧ a.2.2.2.2.2.2.2.length ≤ 1048576
theorem Tryd.enters84 : ∀ args w, (callFunc 61 args).run Tryd.prog w = .ok (.enter 61 args) w := enters_of Tryd.func61 (by kernel_rfl) rfl
theorem Tryd.enters85 : ∀ args w, (callFunc 62 args).run Tryd.prog w = .ok (.enter 62 args) w := enters_of Tryd.func62 (by kernel_rfl) rfl
set_option maxHeartbeats 1000000 in
theorem hasName1_is (x : LNode) (p : Nat) (nm : ByteArray) (w : World) (hp : p < w.heap.size) (hc : w.cell? ⟨p, 0, none⟩ = some (.string nm)) :
    Calls Tryd.prog 61 #[nodeV x, .pointer (some ⟨p, 0, none⟩)] w fun e w' => e = .returned (.bool (sameT x.1 nm)) ∧ Below w.heap.size w w' := by
  obtain ⟨n2, kd, sa, sb, cp, ⟨nxo, nxc, nx⟩⟩ := x
  unfold nodeV
  dsimp only
  go_enter Tryd.func61, Tryd.ntmps61
  go_wp2
  go_ret
  exact ⟨rfl, below1 _ _⟩
set_option maxHeartbeats 1000000 in
theorem hasName_is (ao : Option Addr) (cap : Nat) (ts : List LNode) (nm : ByteArray) (w : World) (hl : ts.length ≤ 1048576) (hz : hNode.In w.heap.size w ao ts) :
    Calls Tryd.prog 47 #[.slice ao ts.length cap, .string nm] w fun e w' => e = .returned (.bool (ts.any fun x => sameT x.1 nm)) ∧ Below w.heap.size w w' := by
  obtain ⟨V, hV⟩ : ∃ V, V = w.alloc (.cells #[.string nm] 9) := ⟨_, rfl⟩
  have hb : Below w.heap.size w V := by rw [hV]; exact below1 _ _
  have hX : Bx V w.heap.size [.string nm] := by rw [hV]; exact Bx.new [.string nm] _ rfl
  have hcon := containsFuncN_any 61 #[.pointer (some ⟨w.heap.size, 0, none⟩)] Tryd.enters84 ao cap ts (fun x => sameT x.1 nm) V hl (hz.later hb) (fun x W _ hW => hasName1_is x w.heap.size nm W (by have := hW.size; have := hX.size; omega) ((hX.later hW).c 0 rfl))
  have HV := hid hV
  have HB := hid hb
  clear hV hX hz hb
  go_enter Tryd.func47, Tryd.ntmps47
  go_wp2_with fail
  rw [← HV.out]
  refine hcon.mono ?_
  rintro e w1 ⟨rfl, hb1⟩
  have hB1 : Below w.heap.size w w1 := HB.out.trans (hb1.mono HB.out.size)
  clear hb1
  go_wp2
  go_ret
  exact ⟨rfl, hB1⟩
/-- What a node leads to is as it must be. -/
def noneI (m x : Int) : Bool := decide (x < 0) || decide (m ≤ x)
def goodNx (nx : List Int) (m : Int) : Bool := decide ((nx.length : Int) ≤ m) && (!nx.any (noneI m) && onceB nx)
set_option maxHeartbeats 1000000 in
theorem goodNext1_is (x m : Int) (p : Nat) (w : World) (hc : w.cell? ⟨p, 0, none⟩ = some (.int .i64 m)) :
    Calls Tryd.prog 62 #[.int .i64 x, .pointer (some ⟨p, 0, none⟩)] w fun e w' => e = .returned (.bool (noneI m x)) ∧ Below w.heap.size w w' := by
  by_cases h : x < 0
  · have e : noneI m x = true := by simp [noneI, h]
    rw [e]
    go_enter Tryd.func62, Tryd.ntmps62
    go_wp2
    go_ret
    exact ⟨rfl, Below.refl _ _⟩
  · have e : noneI m x = decide (m ≤ x) := by simp [noneI, h]
    rw [e]
    go_enter Tryd.func62, Tryd.ntmps62
    go_wp2
    go_ret
    exact ⟨rfl, Below.refl _ _⟩
set_option maxHeartbeats 2000000 in
theorem goodNext_is (ao : Option Addr) (cap : Nat) (nx : List Int) (m : Int) (w : World) (hl : nx.length ≤ 1048576) (hcap : nx.length ≤ cap) (hz : kI.In w.heap.size w ao nx) :
    Calls Tryd.prog 52 #[.slice ao nx.length cap, .int .i64 m] w fun e w' => e = .returned (.bool (goodNx nx m)) ∧ Below w.heap.size w w' := by
  obtain ⟨V, hV⟩ : ∃ V, V = w.alloc (.cells #[.int .i64 m] 3) := ⟨_, rfl⟩
  have hb : Below w.heap.size w V := by rw [hV]; exact below1 _ _
  have hX : Bx V w.heap.size [.int .i64 m] := by rw [hV]; exact Bx.new [.int .i64 m] _ rfl
  have hcon := containsFuncI_any 62 #[.pointer (some ⟨w.heap.size, 0, none⟩)] Tryd.enters85 ao cap nx (noneI m) V hl (hz.later hb) (fun x W _ hW => goodNext1_is x m w.heap.size W ((hX.later hW).c 0 rfl))
  have c0 := hX.c 0 rfl
  have hs := hX.size
  have HV := hid hV
  have HB := hid hb
  have HZ := hid hz
  clear hV hX hz hb
  by_cases h1 : (nx.length : Int) ≤ m
  · cases h2 : nx.any (noneI m)
    · rw [h2] at hcon
      have e : goodNx nx m = onceB nx := by simp [goodNx, h1, h2]
      rw [e]
      clear e h2
      go_enter Tryd.func52, Tryd.ntmps52
      go_wp2_with fail
      rw [← HV.out]
      refine hcon.mono ?_
      rintro e w1 ⟨rfl, hb1⟩
      have hB1 : Below w.heap.size w w1 := HB.out.trans (hb1.mono HB.out.size)
      clear hb1
      go_wp2_with fail
      refine (noneTwice_is w1.heap.size ao cap nx w1 (onceB nx) hl hcap (HZ.out.later hB1) rfl).mono ?_
      rintro e w2 ⟨rfl, rfl⟩
      go_wp2
      go_ret
      exact ⟨rfl, hB1⟩
    · rw [h2] at hcon
      have e : goodNx nx m = false := by simp [goodNx, h2]
      rw [e]
      clear e h2
      go_enter Tryd.func52, Tryd.ntmps52
      go_wp2_with fail
      rw [← HV.out]
      refine hcon.mono ?_
      rintro e w1 ⟨rfl, hb1⟩
      have hB1 : Below w.heap.size w w1 := HB.out.trans (hb1.mono HB.out.size)
      clear hb1
      go_wp2
      go_ret
      exact ⟨rfl, hB1⟩
  · have e : goodNx nx m = false := by simp [goodNx, h1]
    rw [e]
    clear hcon e
    go_enter Tryd.func52, Tryd.ntmps52
    go_wp2
    go_ret
    exact ⟨rfl, by rw [← HV.out]; exact HB.out⟩
end Go.Proofs.YteamcpcjooglaaaDoor
