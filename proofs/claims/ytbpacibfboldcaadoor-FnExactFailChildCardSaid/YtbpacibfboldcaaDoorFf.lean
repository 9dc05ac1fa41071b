
/- A child's failure: what is asked of it. No conditions but those written. -/
import Derived.Test.YtbpacibfboldcaaDoorFe
import Derived.Test.YtbpacibfboldcaaDoorKd
namespace Go.Proofs.YtbpacibfboldcaaDoor
open Go.RowKit

/-- What a failure is answered by. -/
def codeP (r : List Bool) (f : List Int) (c t : Int) : Int :=
  if c < 0 ∨ (r.length : Int) ≤ c ∨ el r c.toNat = false then 2 else if 0 < f.length ∧ t < el f (f.length - 1) then 3 else 0
set_option maxRecDepth 10000 in
set_option maxHeartbeats 8000000 in
theorem failCode_is (kd : Int) (mr : Int) (wi : Int) (up : Int) (ch : Int) (ov : Bool) (ro : Option Addr) (rc : Nat) (r : List (Bool)) (fo : Option Addr) (fc : Nat) (f : List (Int)) (c t : Int) (w : World) (_hlr : r.length ≤ 1048576) (hlf : f.length ≤ 1048576) (hz : InKeeper w.heap.size w ro r fo f) (z : Int) (hx : codeP r f c t = z) :
    Calls Tryd.prog 33 #[.agg #[.int .i64 kd, .int .i64 mr, .int .i64 wi, .int .i64 up, .int .i64 ch, .slice ro r.length rc, .slice fo f.length fc, .bool ov], .int .i64 c, .int .i64 t] w fun e w' => e = .returned (.int .i64 z) ∧ Below w.heap.size w w' := by
  have hB0 := below1 w (.cells #[.int .i64 kd, .int .i64 mr, .int .i64 wi, .int .i64 up, .int .i64 ch, .slice ro r.length rc, .slice fo f.length fc, .bool ov] 27)
  have Z0 := hid (hz.later hB0)
  have HX := hid hx
  clear hx hz
  by_cases h1 : c < 0
  · have HV : Hid (z = 2) := by rw [Hid, ← HX.out, codeP, if_pos (.inl h1)]
    go_enter Tryd.func33, Tryd.ntmps33
    go_wp2
    go_ret
    exact ⟨ret_int HV.out.symm, hB0⟩
  obtain ⟨k, rfl⟩ := Int.eq_ofNat_of_zero_le (show 0 ≤ c by omega)
  clear h1
  by_cases h2 : r.length ≤ k
  · have HV : Hid (z = 2) := by rw [Hid, ← HX.out, codeP, if_pos (.inr (.inl (by omega)))]
    go_enter Tryd.func33, Tryd.ntmps33
    go_wp2
    go_ret
    exact ⟨ret_int HV.out.symm, hB0⟩
  obtain ⟨b, off, rfl, hb, hc⟩ := bools_at Z0.out.1 (k := k) (by omega)
  have ck := hc k (by omega)
  clear hc
  cases hr : el r k
  · have HV : Hid (z = 2) := by rw [Hid, ← HX.out, codeP, if_pos (.inr (.inr (by simpa using hr)))]
    rw [hr] at ck
    go_enter Tryd.func33, Tryd.ntmps33
    go_wp2
    go_ret
    exact ⟨ret_int HV.out.symm, hB0⟩
  rw [hr] at ck
  have HN : Hid (¬ (((k : Nat) : Int) < 0 ∨ (r.length : Int) ≤ ((k : Nat) : Int) ∨ el r ((k : Nat) : Int).toNat = false)) := by
    simp only [Hid, Int.toNat_natCast, hr]
    simp
    omega
  clear hr
  by_cases h3 : f.length = 0
  · have HV : Hid (z = 0) := by rw [Hid, ← HX.out, codeP, if_neg HN.out, if_neg (by omega)]
    rw [h3] at ck hB0 ⊢
    clear h3 hb
    go_enter Tryd.func33, Tryd.ntmps33
    go_wp2
    go_ret
    exact ⟨ret_int HV.out.symm, hB0⟩
  obtain ⟨m, hm⟩ : ∃ m, f.length = m + 1 := ⟨f.length - 1, by omega⟩
  obtain ⟨b2, off2, rfl, hb2, hc2⟩ := ints_at Z0.out.2 (k := 0) (by omega)
  have cm := hc2 m (by omega)
  have HE : Hid (f.length - 1 = m) := by simp only [Hid]; omega
  clear hc2 h3
  by_cases h4 : t < el f m
  · have HV : Hid (z = 3) := by rw [Hid, ← HX.out, codeP, if_neg HN.out, if_pos ⟨by omega, by rw [HE.out]; exact h4⟩]
    rw [hm] at ck cm hB0 ⊢
    have hm2 : m ≤ 1048576 := by omega
    clear hb hb2 hm
    go_enter Tryd.func33, Tryd.ntmps33
    go_wp2
    go_ret
    exact ⟨ret_int HV.out.symm, hB0⟩
  · have HV : Hid (z = 0) := by rw [Hid, ← HX.out, codeP, if_neg HN.out, if_neg (by rw [HE.out]; exact fun h => h4 h.2)]
    rw [hm] at ck cm hB0 ⊢
    have hm2 : m ≤ 1048576 := by omega
    clear hb hb2 hm
    go_enter Tryd.func33, Tryd.ntmps33
    go_wp2
    go_ret
    exact ⟨ret_int HV.out.symm, hB0⟩
def Fits1 (ts : List LKeeper) : Prop := ∀ a ∈ ts, (a.2.2.2.2.2.1).2.2.length ≤ 1048576 ∧ (a.2.2.2.2.2.2.1).2.2.length ≤ 1048576
/-- Keepers that were copied, and a box for them. -/
theorem live_new {t : TypeId} {w w1 : World} {o : Option Addr} {c : Nat} {us : List LKeeper} {ps : List PKeeper} (hv : us.map valKeeper = ps) (hF : DFr dKeeper w.heap.size w1.heap.size w1 o c us) (hb : Below w.heap.size w w1) (h1 : 1 ≤ ps.length) :
    LiveW t w.heap.size w1.heap.size (w1.alloc (.cells #[.slice o ps.length c, .slice none 0 0] t)) w1.heap.size (us.map radr) (ps, []) := by
  have hl := len_ls hv
  obtain ⟨g, rfl, _, _, _, _⟩ := (show hKeeper.Fresh _ _ _ _ _ _ from hF.1).at (show 0 < us.length by omega)
  exact ⟨g, c, .slice none 0 0, us, alloc_new _ _, hF.later dKeeper_ok (below1 _ _), Kind.Own.nil _ _ _, hv, rfl, hb.size, by simp⟩
set_option maxRecDepth 10000 in
set_option maxHeartbeats 4000000 in
theorem watchOf_any (ao : Option Addr) (cap : Nat) (ts : List LKeeper) (w : World) (hl : ts.length ≤ 1048576) (h1 : 1 ≤ ts.length) (hle : Fits1 ts) (hz : DIn dKeeper w.heap.size w ao ts) :
    Calls Tryd.prog 35 #[.slice ao ts.length cap] w fun e w' => (∃ p hi ra, e = .returned (.pointer (some ⟨p, 0, none⟩)) ∧ LiveW 62 w.heap.size hi w' p ra (ts.map valKeeper, []) ∧ w.heap.size ≤ hi) ∧ Below w.heap.size w w' := by
  go_enter Tryd.func35, Tryd.ntmps35
  go_wp2_with fail
  refine (copyKs_any ao cap ts _ hl hle hz).mono ?_
  rintro e w1 ⟨⟨o, c, us, rfl, hv, hF⟩, hb⟩
  have HL := hid (live_new (t := 62) hv hF hb (by simpa using h1))
  have hBa := Below.allocS hb (.cells #[.slice o (ts.map valKeeper).length c, .slice none 0 0] 62)
  have hlm : (ts.map valKeeper).length = ts.length := by simp
  rw [hlm] at HL hBa ⊢
  clear hF hv hlm
  go_wp2
  go_ret
  exact ⟨⟨_, _, _, rfl, HL.out, hb.size⟩, hBa⟩
end Go.Proofs.YtbpacibfboldcaaDoor
