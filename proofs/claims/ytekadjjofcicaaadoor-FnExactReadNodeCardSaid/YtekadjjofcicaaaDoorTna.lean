
/- Nodes that have a text, on both sides. No conditions but those written. -/
import Derived.Test.YtekadjjofcicaaaDoorNd
import Derived.Test.YtekadjjofcicaaaDoorSj
import Derived.Test.YtekadjjofcicaaaDoorNm
import Derived.Test.YtekadjjofcicaaaDoorFx
namespace Go.Proofs.YtekadjjofcicaaaDoor
open Go.RowKit

/-- A number that stands in no text. -/
def farB (x : Int) : Bool := decide (x < 0) || decide (9999999 < x)
/-- A node that has a text. -/
def hasT (nm : ByteArray) (kd sa sb cp : Int) (nx : List Int) : Bool := nameB nm && (goodSt kd sa sb && (!farB cp && (decide (nx.length ≤ 20) && !nx.any farB)))
theorem farB_in (x : Int) : (decide (0 ≤ x) && decide (x ≤ 9999999)) = !farB x := by
  unfold farB
  by_cases h1 : 0 ≤ x
  · by_cases h2 : x ≤ 9999999
    · simp [h1, h2] <;> omega
    · simp [h1, h2] <;> omega
  · simp [h1] <;> omega
set_option maxRecDepth 10000 in
set_option maxHeartbeats 4000000 in
theorem l13Good_is (nm : ByteArray) (kd sa sb cp : Int) (nxo : Option Addr) (nxc : Nat) (nx : List Int) (w : World) (hs : nm.size ≤ 9223372036854775807) (hl : nx.length ≤ 4194304) (hz : InNode w.heap.size w nxo nx) :
    Calls Tryd.prog 15 #[.agg #[.string nm, .int .i64 kd, .int .i64 sa, .int .i64 sb, .int .i64 cp, .slice nxo nx.length nxc]] w fun e w' => e = .returned (.bool (hasT nm kd sa sb cp nx)) ∧ Below w.heap.size w w' := by
  have hB0 := below1 w (.cells #[.string nm, .int .i64 kd, .int .i64 sa, .int .i64 sb, .int .i64 cp, .slice nxo nx.length nxc] 32)
  have hcn := fun W => l1Name_is nm W hs
  obtain ⟨r, hr⟩ : ∃ r, r = hasT nm kd sa sb cp nx := ⟨_, rfl⟩
  rw [← hr]
  unfold hasT at hr
  cases hn : nameB nm
  · rw [hn] at hcn hr
    obtain rfl : r = false := by simpa using hr
    clear hr
    go_enter Tryd.func15, Tryd.ntmps15
    go_wp2_with fail
    refine (hcn _).mono ?_
    rintro e w1 ⟨rfl, hw1⟩
    rw [hw1]; clear hw1 w1
    go_wp2
    go_ret
    exact ⟨rfl, hB0⟩
  rw [hn] at hcn hr
  cases hg : goodSt kd sa sb
  · rw [hg] at hr
    obtain rfl : r = false := by simpa using hr
    clear hr
    have HG := hid hg
    clear hg
    go_enter Tryd.func15, Tryd.ntmps15
    go_wp2_with fail
    refine (hcn _).mono ?_
    rintro e w1 ⟨rfl, hw1⟩
    rw [hw1]; clear hw1 w1
    go_wp2_with fail
    refine (specGood_is kd sa sb _ _ HG.out).mono ?_
    rintro e w1 ⟨rfl, hw1⟩
    rw [hw1]; clear hw1 w1
    go_wp2
    go_ret
    exact ⟨rfl, below2 _ _ _⟩
  rw [hg] at hr
  have HG := hid hg
  clear hg
  have X1 := ((Bx.new (w := w) [.string nm, .int .i64 kd, .int .i64 sa, .int .i64 sb, .int .i64 cp, .slice nxo nx.length nxc] 32 rfl).alloc (.cells #[.int .i64 kd, .int .i64 sa, .int .i64 sb] 30))
  have hB1 := below2 w (.cells #[.string nm, .int .i64 kd, .int .i64 sa, .int .i64 sb, .int .i64 cp, .slice nxo nx.length nxc] 32) (.cells #[.int .i64 kd, .int .i64 sa, .int .i64 sb] 30)
  cases hf : farB cp
  case true =>
    rw [hf] at hr
    obtain rfl : r = false := by simpa using hr
    clear hr
    have HF : Hid ((decide (0 ≤ cp) && decide (cp ≤ 9999999)) = false) := by rw [Hid, farB_in, hf]; rfl
    clear hf
    go_enter Tryd.func15, Tryd.ntmps15
    go_wp2_with fail
    refine (hcn _).mono ?_
    rintro e w1 ⟨rfl, hw1⟩
    rw [hw1]; clear hw1 w1
    go_wp2_with fail
    refine (specGood_is kd sa sb _ _ HG.out).mono ?_
    rintro e w1 ⟨rfl, hw1⟩
    rw [hw1]; clear hw1 w1
    go_wp2_with fail
    refine (l1In_is cp 0 9999999 _ _ HF.out).mono ?_
    rintro e w1 ⟨rfl, hw1⟩
    rw [hw1]; clear hw1 w1
    go_wp2
    go_ret
    exact ⟨rfl, hB1⟩
  rw [hf] at hr
  have HF : Hid ((decide (0 ≤ cp) && decide (cp ≤ 9999999)) = true) := by rw [Hid, farB_in, hf]; rfl
  clear hf
  by_cases h20 : nx.length ≤ 20
  case neg =>
    obtain rfl : r = false := by simpa [h20] using hr
    clear hr
    go_enter Tryd.func15, Tryd.ntmps15
    go_wp2_with fail
    refine (hcn _).mono ?_
    rintro e w1 ⟨rfl, hw1⟩
    rw [hw1]; clear hw1 w1
    go_wp2_with fail
    refine (specGood_is kd sa sb _ _ HG.out).mono ?_
    rintro e w1 ⟨rfl, hw1⟩
    rw [hw1]; clear hw1 w1
    go_wp2_with fail
    refine (l1In_is cp 0 9999999 _ _ HF.out).mono ?_
    rintro e w1 ⟨rfl, hw1⟩
    rw [hw1]; clear hw1 w1
    go_wp2
    go_ret
    exact ⟨rfl, hB1⟩
  have HR : Hid (r = !nx.any farB) := by rw [Hid]; simpa [h20] using hr
  clear hr
  go_enter Tryd.func15, Tryd.ntmps15
  go_wp2_with fail
  refine (hcn _).mono ?_
  rintro e w1 ⟨rfl, hw1⟩
  rw [hw1]; clear hw1 w1
  go_wp2_with fail
  refine (specGood_is kd sa sb _ _ HG.out).mono ?_
  rintro e w1 ⟨rfl, hw1⟩
  rw [hw1]; clear hw1 w1
  go_wp2_with fail
  refine (l1In_is cp 0 9999999 _ _ HF.out).mono ?_
  rintro e w1 ⟨rfl, hw1⟩
  rw [hw1]; clear hw1 w1
  have HI := hid (Kind.In.later hz hB1)
  obtain ⟨V, hV⟩ : ∃ V, V = (w.alloc (.cells #[.string nm, .int .i64 kd, .int .i64 sa, .int .i64 sb, .int .i64 cp, .slice nxo nx.length nxc] 32)).alloc (.cells #[.int .i64 kd, .int .i64 sa, .int .i64 sb] 30) := ⟨_, rfl⟩
  rw [← hV] at HI hB1 X1 ⊢
  have x5 := X1.c 5 rfl
  clear hV X1
  go_wp2
  go_loop [30] (fun i => ∃ k : Nat, k ≤ nx.length ∧ i = .int .i64 k ∧ Hid (∀ j, j < k → farB (el nx j) = false)) (fun i => nx.length - (intOf i).toNat)
  case atStart => exact ⟨0, Nat.zero_le _, rfl, fun j hj => by omega⟩
  case round =>
    obtain ⟨k, hk, rfl, hno⟩ := hrel
    by_cases hlt : k < nx.length
    · obtain ⟨b, off, rfl, hb, hc⟩ := ints_at HI.out hlt
      have hck := hc k hlt
      clear hc
      obtain ⟨x, hx⟩ : ∃ x, x = el nx k := ⟨_, rfl⟩
      rw [← hx] at hck
      have HX := hid hx
      clear hx
      cases hf : farB x
      · have HF2 : Hid ((decide (0 ≤ x) && decide (x ≤ 9999999)) = true) := by rw [Hid, farB_in, hf]; rfl
        have HF3 := hid hf
        clear hf
        go_wp2_with fail
        refine (l1In_is x 0 9999999 _ _ HF2.out).mono ?_
        rintro e w1 ⟨rfl, hw1⟩
        rw [hw1]; clear hw1 w1
        go_wp2
        go_round
        case rel => exact ⟨k + 1, by omega, by go_num, fun j hj => by
          rcases Nat.lt_succ_iff_lt_or_eq.1 hj with h | rfl
          · exact hno.out j h
          · rw [← HX.out]; exact HF3.out⟩
        case measure => simp [intOf]; omega
      · have HF2 : Hid ((decide (0 ≤ x) && decide (x ≤ 9999999)) = false) := by rw [Hid, farB_in, hf]; rfl
        have HRF : Hid (r = false) := by
          have h : nx.any farB = true := by rw [List.any_eq_true]; exact ⟨_, el_mem hlt, by rw [← HX.out]; exact hf⟩
          rw [Hid, HR.out, h]; rfl
        clear hf
        go_wp2_with fail
        refine (l1In_is x 0 9999999 _ _ HF2.out).mono ?_
        rintro e w1 ⟨rfl, hw1⟩
        rw [hw1]; clear hw1 w1
        go_wp2
        go_ret
        exact ⟨ret_bool HRF.out.symm, hB1⟩
    · obtain rfl : k = nx.length := by omega
      have HRT : Hid (r = true) := by
        have h : nx.any farB = false := by
          rw [List.any_eq_false]; intro x hx
          obtain ⟨j, hj, rfl⟩ := mem_el hx
          rw [hno.out j hj]; simp
        rw [Hid, HR.out, h]; rfl
      go_wp2
      go_ret
      exact ⟨ret_bool HRT.out.symm, hB1⟩
theorem Tryd.entersHT : ∀ args w, (callFunc 40 args).run Tryd.prog w = .ok (.enter 40 args) w := enters_of Tryd.func40 (by kernel_rfl) rfl
set_option maxHeartbeats 1000000 in
theorem far_is (x : Int) (w : World) :
    Calls Tryd.prog 40 #[.int .i64 x] w fun e w' => e = .returned (.bool (farB x)) ∧ w' = w := by
  by_cases h : x < 0
  · have hf : farB x = true := by simp [farB, h]
    rw [hf]
    go_enter Tryd.func40, Tryd.ntmps40
    go_wp2
    go_ret
    exact ⟨rfl, rfl⟩
  · have hf : farB x = decide (9999999 < x) := by simp [farB, h]
    rw [hf]
    go_enter Tryd.func40, Tryd.ntmps40
    go_wp2
    go_ret
    exact ⟨rfl, rfl⟩
set_option maxRecDepth 10000 in
set_option maxHeartbeats 4000000 in
theorem hasText_is (nm : ByteArray) (kd sa sb cp : Int) (nxo : Option Addr) (nxc : Nat) (nx : List Int) (w : World) (hs : nm.size ≤ 9223372036854775807) (hl : nx.length ≤ 4194304) (hz : InNode w.heap.size w nxo nx) :
    Calls Tryd.prog 19 #[.agg #[.string nm, .int .i64 kd, .int .i64 sa, .int .i64 sb, .int .i64 cp, .slice nxo nx.length nxc]] w fun e w' => e = .returned (.bool (hasT nm kd sa sb cp nx)) ∧ Below w.heap.size w w' := by
  have hB0 := below1 w (.cells #[.string nm, .int .i64 kd, .int .i64 sa, .int .i64 sb, .int .i64 cp, .slice nxo nx.length nxc] 32)
  have X0 := hid (Bx.new (w := w) [.string nm, .int .i64 kd, .int .i64 sa, .int .i64 sb, .int .i64 cp, .slice nxo nx.length nxc] 32 rfl)
  have hcn := fun W => isName_is nm W hs
  obtain ⟨r, hr⟩ : ∃ r, r = hasT nm kd sa sb cp nx := ⟨_, rfl⟩
  rw [← hr]
  unfold hasT at hr
  cases hn : nameB nm
  · rw [hn] at hcn hr
    obtain rfl : r = false := by simpa using hr
    clear hr
    go_enter Tryd.func19, Tryd.ntmps19
    go_wp2_with fail
    refine (hcn _).mono ?_
    rintro e w1 ⟨rfl, hb1⟩
    have hB1 := hB0.trans (hb1.mono hB0.size)
    go_wp2
    go_ret
    exact ⟨rfl, hB1⟩
  rw [hn] at hcn hr
  obtain ⟨g, hg⟩ : ∃ g, goodSt kd sa sb = g := ⟨_, rfl⟩
  rw [hg] at hr
  have HG := hid hg
  clear hg
  have HR := hid hr
  clear hr
  go_enter Tryd.func19, Tryd.ntmps19
  go_wp2_with fail
  refine (hcn _).mono ?_
  rintro e w1 ⟨rfl, hb1⟩
  have hB1 := hB0.trans (hb1.mono hB0.size)
  have X1 := hid (X0.out.later hb1)
  clear hb1 X0 hB0
  have x1 := X1.out.c 1 rfl
  have x2 := X1.out.c 2 rfl
  have x3 := X1.out.c 3 rfl
  go_wp2_with fail
  refine (implGood_is kd sa sb _ _ HG.out).mono ?_
  rintro e w2 ⟨rfl, hb2⟩
  have hB2 := hB1.trans (hb2.mono hB1.size)
  have X2 := hid (X1.out.later hb2)
  clear hb2 X1 hB1 x1 x2 x3
  cases g
  · have HRF : Hid (r = false) := by rw [Hid, HR.out]; simp
    go_wp2
    go_ret
    exact ⟨ret_bool HRF.out.symm, hB2⟩
  have x4 := X2.out.c 4 rfl
  go_wp2_with fail
  refine (far_is cp _).mono ?_
  rintro e w3 ⟨rfl, hw3⟩
  rw [hw3]; clear hw3 w3 x4
  cases hf : farB cp
  case true =>
    have HRF : Hid (r = false) := by rw [Hid, HR.out, hf]; simp
    go_wp2
    go_ret
    exact ⟨ret_bool HRF.out.symm, hB2⟩
  have HR2 : Hid (r = (decide (nx.length ≤ 20) && !nx.any farB)) := by rw [Hid, HR.out, hf]; simp
  clear hf HR
  have x5 := X2.out.c 5 rfl
  by_cases h20 : nx.length ≤ 20
  · have HR3 : Hid (r = !nx.any farB) := by rw [Hid, HR2.out]; simp [h20]
    have hcon := containsFuncI_any 40 #[] Tryd.entersHT nxo nxc nx farB w2 (by omega) (Kind.In.later hz hB2) (fun x W _ _ => (far_is x W).mono fun _ _ h => ⟨h.1, by rw [h.2]; exact Below.refl _ _⟩)
    clear HR2
    go_wp2_with (go_at_call 43; refine hcon.mono ?_; rintro e w3 ⟨rfl, hb3⟩)
    go_ret
    exact ⟨ret_bool HR3.out.symm, hB2.trans (hb3.mono hB2.size)⟩
  · have HR3 : Hid (r = false) := by rw [Hid, HR2.out]; simp [h20]
    go_wp2
    go_ret
    exact ⟨ret_bool HR3.out.symm, hB2⟩
end Go.Proofs.YtekadjjofcicaaaDoor
