
/- The law of NodeText: it returns true. No conditions but those written. -/
import Derived.Test.YtekadjjofcicaaaDoorTnd
namespace Go.Proofs.YtekadjjofcicaaaDoor
open Go.RowKit

set_option maxHeartbeats 1000000 in
theorem szNode_any (nm : ByteArray) (kd sa sb cp : Int) (nxo : Option Addr) (nxc : Nat) (nx : List Int) (w : World) (hs : nm.size ≤ 9223372036854775807) (hl : nx.length ≤ 9223372036854775807) :
    Calls Tryd.prog 5 #[.agg #[.string nm, .int .i64 kd, .int .i64 sa, .int .i64 sb, .int .i64 cp, .slice nxo nx.length nxc], .int .i64 1048576] w fun e w' => (∃ r : Int, e = .returned (.int .i64 r) ∧ (r < 0 ∨ (0 ≤ r ∧ nm.size ≤ 1048576 ∧ nx.length ≤ 1048576))) ∧ Below w.heap.size w w' := by
  have hB0 := below1 w (.cells #[.string nm, .int .i64 kd, .int .i64 sa, .int .i64 sb, .int .i64 cp, .slice nxo nx.length nxc] 26)
  have X0 := Bx.new (w := w) [.string nm, .int .i64 kd, .int .i64 sa, .int .i64 sb, .int .i64 cp, .slice nxo nx.length nxc] 26 rfl
  by_cases h : 1048576 < nm.size
  · go_enter Tryd.func5, Tryd.ntmps5
    go_wp2
    go_ret
    exact ⟨⟨-1, rfl, .inl (by omega)⟩, hB0⟩
  · have hc := fun W => szIntS_any nxo nx.length nxc (1048576 - (nm.size : Int)) W (by omega) (by omega) hl
    have HC := hid hc
    clear hc X0
    go_enter Tryd.func5, Tryd.ntmps5
    go_wp2_with fail
    refine (HC.out _).mono ?_
    rintro e w1 ⟨⟨r, rfl, hr1, hr⟩, hw1⟩
    rw [hw1]; clear hw1 w1
    rcases hr with hr | ⟨hr, hr0⟩
    · go_wp2
      go_ret
      exact ⟨⟨-1, rfl, .inl (by omega)⟩, hB0⟩
    · have hr' : decide (r < 0) = false := by simpa using hr0
      have HR := hid hr
      clear hr
      go_wp2
      go_ret
      exact ⟨⟨r, rfl, .inr ⟨hr0, by omega, by have := HR.out; omega⟩⟩, hB0⟩
set_option maxRecDepth 10000 in
set_option maxHeartbeats 8000000 in
theorem lawNodeText_any (nm : ByteArray) (kd sa sb cp : Int) (nxo : Option Addr) (nxc : Nat) (nx : List Int) (w : World) (hs : nm.size ≤ 9223372036854775807) (hl : nx.length ≤ 9223372036854775807) (hz : InNode w.heap.size w nxo nx) (hT : PowTab w) (hW : Wds w) :
    Calls Tryd.prog 3 #[.agg #[.string nm, .int .i64 kd, .int .i64 sa, .int .i64 sb, .int .i64 cp, .slice nxo nx.length nxc]] w fun e w' => e = .returned (.bool true) ∧ Below w.heap.size w w' := by
  have hB0 := below1 w (.cells #[.string nm, .int .i64 kd, .int .i64 sa, .int .i64 sb, .int .i64 cp, .slice nxo nx.length nxc] 26)
  have A0 := hid (Bx.new (w := w) [.string nm, .int .i64 kd, .int .i64 sa, .int .i64 sb, .int .i64 cp, .slice nxo nx.length nxc] 26 rfl)
  have HZ := hid hz
  have HT := hid hT
  have HW := hid hW
  have HS := hid (fun W => szNode_any nm kd sa sb cp nxo nxc nx W hs hl)
  obtain ⟨⟨t, y⟩, hR⟩ : ∃ R, nodeR nm kd sa sb cp nx = R := ⟨_, rfl⟩
  have HR := hid hR
  have hn1 : (t.toList != t.toList) = false := by simp
  have hn2 : (y != y) = false := by simp
  clear hz hT hW hR
  go_enter Tryd.func3, Tryd.ntmps3
  go_wp2_with fail
  refine (HS.out _).mono ?_
  rintro e w1 ⟨⟨r, rfl, hr⟩, hb1⟩
  have hB1 := hB0.trans (hb1.mono hB0.size)
  have A1 := hid (A0.out.later hb1)
  clear hb1 A0 hB0
  rcases hr with hr | ⟨hr0, hsn, hlx⟩
  · go_wp2
    go_ret
    exact ⟨rfl, hB1⟩
  have hr' : decide (r < 0) = false := by simpa using hr0
  have a0 := A1.out.c 0 rfl
  have a1 := A1.out.c 1 rfl
  have a2 := A1.out.c 2 rfl
  have a3 := A1.out.c 3 rfl
  have a4 := A1.out.c 4 rfl
  have a5 := A1.out.c 5 rfl
  go_wp2_with fail
  refine (toNode_any nm kd sa sb cp nxo nxc nx _ hlx (Kind.In.later HZ.out hB1)).mono ?_
  rintro e w2 ⟨g2, rfl, hF2, hb2⟩
  have hB2 := hB1.trans (hb2.mono hB1.size)
  have A2 := hid (A1.out.later hb2)
  have hcon := specNodeText_is nm kd sa sb cp (some ⟨g2, 0, none⟩) nx.length nx w2 hs hlx (FrNode.in hF2)
  rw [HR.out] at hcon
  dsimp only at hcon
  have HC := hid hcon
  clear hb2 A1 hB1 a0 a1 a2 a3 a4 a5 hcon hF2
  go_wp2_with fail
  refine HC.out.mono ?_
  rintro e w3 ⟨rfl, hb3⟩
  have hB3 := hB2.trans (hb3.mono hB2.size)
  have A3 := hid (A2.out.later hb3)
  clear hb3 A2 hB2 HC
  have a0 := A3.out.c 0 rfl
  have a1 := A3.out.c 1 rfl
  have a2 := A3.out.c 2 rfl
  have a3 := A3.out.c 3 rfl
  have a4 := A3.out.c 4 rfl
  have a5 := A3.out.c 5 rfl
  go_wp2_with fail
  refine (toNode_any nm kd sa sb cp nxo nxc nx _ hlx (Kind.In.later HZ.out hB3)).mono ?_
  rintro e w4 ⟨g4, rfl, hF4, hb4⟩
  have hB4 := hB3.trans (hb4.mono hB3.size)
  have A4 := A3.out.later hb4
  have F4 := FrNode.in hF4
  clear hb4 A3 hB3 a0 a1 a2 a3 a4 a5 hF4
  obtain ⟨q, hq⟩ : ∃ q, q = w4.heap.size := ⟨_, rfl⟩
  obtain ⟨w5, hw5⟩ : ∃ w5, w5 = w4.alloc (.cells #[.string nm, .int .i64 kd, .int .i64 sa, .int .i64 sb, .int .i64 cp, .slice (some ⟨g4, 0, none⟩) nx.length nx.length] 32) := ⟨_, rfl⟩
  have Q5 := hid (Bx.new (w := w4) [.string nm, .int .i64 kd, .int .i64 sa, .int .i64 sb, .int .i64 cp, .slice (some ⟨g4, 0, none⟩) nx.length nx.length] 32 rfl)
  have A5 := hid (A4.alloc (.cells #[.string nm, .int .i64 kd, .int .i64 sa, .int .i64 sb, .int .i64 cp, .slice (some ⟨g4, 0, none⟩) nx.length nx.length] 32))
  have F5 := hid (Kind.In.later F4 (below1 w4 (.cells #[.string nm, .int .i64 kd, .int .i64 sa, .int .i64 sb, .int .i64 cp, .slice (some ⟨g4, 0, none⟩) nx.length nx.length] 32)))
  have hB5 : Below w.heap.size w (w4.alloc (.cells #[.string nm, .int .i64 kd, .int .i64 sa, .int .i64 sb, .int .i64 cp, .slice (some ⟨g4, 0, none⟩) nx.length nx.length] 32)) := Below.allocS hB4 _
  have hcon := implNodeText_is nm kd sa sb cp (some ⟨g4, 0, none⟩) nx.length nx _ hs hlx F5.out (HT.out.later hB5) (HW.out.later hB5)
  rw [HR.out] at hcon
  dsimp only at hcon
  rw [← hq] at Q5
  rw [← hw5] at Q5 A5 F5 hB5 hcon
  have HC := hid hcon
  have H5 := hid hw5
  have HQ := hid hq
  clear A4 F4 hB4 hcon hw5 hq
  go_wp2_with fail
  rw [← H5.out]
  refine HC.out.mono ?_
  rintro e w6 ⟨rfl, hb6⟩
  have hB6 := hB5.trans (hb6.mono hB5.size)
  have A6 := hid (A5.out.later hb6)
  have Q6 := hid (Q5.out.later hb6)
  have F6 := hid (Kind.In.later F5.out hb6)
  have hB6d := hB6.drew
  clear hb6 A5 Q5 F5 hB5 HC H5
  go_wp2
  rw [← HQ.out]
  refine wp_walks (zl := []) (S := fun Y => (Y.cell? ⟨w.heap.size, 0, none⟩ = some (.string nm) ∧ Y.cell? ⟨w.heap.size, 1, none⟩ = some (.int .i64 kd) ∧ Y.cell? ⟨w.heap.size, 2, none⟩ = some (.int .i64 sa) ∧ Y.cell? ⟨w.heap.size, 3, none⟩ = some (.int .i64 sb) ∧ Y.cell? ⟨w.heap.size, 4, none⟩ = some (.int .i64 cp) ∧ Y.cell? ⟨w.heap.size, 5, none⟩ = some (.slice nxo nx.length nxc)) ∧ (Y.cell? ⟨q, 0, none⟩ = some (.string nm) ∧ Y.cell? ⟨q, 1, none⟩ = some (.int .i64 kd) ∧ Y.cell? ⟨q, 2, none⟩ = some (.int .i64 sa) ∧ Y.cell? ⟨q, 3, none⟩ = some (.int .i64 sb) ∧ Y.cell? ⟨q, 4, none⟩ = some (.int .i64 cp) ∧ Y.cell? ⟨q, 5, none⟩ = some (.slice (some ⟨g4, 0, none⟩) nx.length nx.length))) (by kernel_rfl) ⟨⟨A6.out.drew.c 0 rfl, A6.out.drew.c 1 rfl, A6.out.drew.c 2 rfl, A6.out.drew.c 3 rfl, A6.out.drew.c 4 rfl, A6.out.drew.c 5 rfl⟩, ⟨Q6.out.drew.c 0 rfl, Q6.out.drew.c 1 rfl, Q6.out.drew.c 2 rfl, Q6.out.drew.c 3 rfl, Q6.out.drew.c 4 rfl, Q6.out.drew.c 5 rfl⟩⟩ (fun hH => ?_)
  refine Walks.take (i := 0) (v := ?va0) rfl (by kernel_rfl) (by kernel_rfl) (fun _ _ _ h => h) _ _ _ _ (by kernel_rfl) (by kernel_rfl) (Or.inl ⟨by rfl, ?hya0⟩) hH ?resta0
  case hya0 => (intro w' hSw; (try dsimp only at hSw); go_simp <;> with_reducible rfl)
  refine Walks.take (i := 1) (v := ?va1) rfl (by kernel_rfl) (by kernel_rfl) (fun _ _ _ h => h) _ _ _ _ (by kernel_rfl) (by kernel_rfl) (Or.inl ⟨by rfl, ?hya1⟩) hH ?resta1
  case hya1 => (intro w' hSw; (try dsimp only at hSw); go_simp <;> with_reducible rfl)
  refine Walks.one (i := 2) (o := _) (by kernel_rfl) rfl (fun K hK => ?_)
  go_simp
  refine (toNode_any nm kd sa sb cp nxo nxc nx _ hlx (Kind.In.later HZ.out hB6d)).mono ?_
  rintro e w7 ⟨g7, rfl, hF7, hb7⟩
  have hB7 := hB6d.trans (hb7.mono hB6d.size)
  have A7 := hid (A6.out.drew.later hb7)
  have Q7 := hid (Q6.out.drew.later hb7)
  have F7 := hid (FrNode.in hF7)
  have F6b := hid (Kind.In.later F6.out (Below.trans (Below.refl w6.heap.size w6).drew hb7))
  clear hb7 hF7
  refine hK.out _ _ (fun _ => ⟨⟨A7.out.c 0 rfl, A7.out.c 1 rfl, A7.out.c 2 rfl, A7.out.c 3 rfl, A7.out.c 4 rfl, A7.out.c 5 rfl⟩, ⟨Q7.out.c 0 rfl, Q7.out.c 1 rfl, Q7.out.c 2 rfl, Q7.out.c 3 rfl, Q7.out.c 4 rfl, Q7.out.c 5 rfl⟩⟩) (fun _ => ?_)
  clear hK K
  refine Walks.one (i := 3) (o := _) (by kernel_rfl) rfl (fun K hK => ?_)
  go_simp
  refine (eqNode_same nm kd sa sb cp (some ⟨g4, 0, none⟩) nx.length nx (some ⟨g7, 0, none⟩) nx.length _ hlx F6b.out F7.out).mono ?_
  rintro e w8 ⟨rfl, hb8⟩
  have hB8 := hB7.trans (hb8.mono hB7.size)
  have A8 := hid (A7.out.later hb8)
  have Q8 := hid (Q7.out.later hb8)
  clear hb8
  refine hK.out _ _ (fun _ => ⟨⟨A8.out.c 0 rfl, A8.out.c 1 rfl, A8.out.c 2 rfl, A8.out.c 3 rfl, A8.out.c 4 rfl, A8.out.c 5 rfl⟩, ⟨Q8.out.c 0 rfl, Q8.out.c 1 rfl, Q8.out.c 2 rfl, Q8.out.c 3 rfl, Q8.out.c 4 rfl, Q8.out.c 5 rfl⟩⟩) (fun _ => ?_)
  clear hK K
  refine Walks.one (i := 4) (o := _) (by kernel_rfl) rfl (fun K hK => ?_)
  go_simp
  refine hK.out _ _ (fun _ => ⟨⟨A8.out.c 0 rfl, A8.out.c 1 rfl, A8.out.c 2 rfl, A8.out.c 3 rfl, A8.out.c 4 rfl, A8.out.c 5 rfl⟩, ⟨Q8.out.c 0 rfl, Q8.out.c 1 rfl, Q8.out.c 2 rfl, Q8.out.c 3 rfl, Q8.out.c 4 rfl, Q8.out.c 5 rfl⟩⟩) (fun _ => ?_)
  clear hK K
  refine Walks.done (by kernel_rfl) ?_ _
  go_wp2
  go_ret
  exact ⟨rfl, hB8⟩
end Go.Proofs.YtekadjjofcicaaaDoor
