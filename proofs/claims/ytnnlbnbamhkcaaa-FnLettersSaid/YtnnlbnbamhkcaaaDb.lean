
/- Whether a box is good: the program. No conditions but those written. -/
import Derived.Test.YtnnlbnbamhkcaaaDa
namespace Go.Proofs.Ytnnlbnbamhkcaaa
open Go.RowKit

/-- Tries from least to 1000. -/
def triesB (least : Int) (l : List (Int × Int × Int)) : Bool := l.all (fun t => decide (least ≤ t.2.2) && decide (t.2.2 ≤ 1000))
theorem triesB_no {least : Int} {l : List (Int × Int × Int)} (k : Nat) (hk : k < l.length) (h : (decide (least ≤ (el l k).2.2) && decide ((el l k).2.2 ≤ 1000)) = false) : triesB least l = false := by
  rw [triesB, List.all_eq_false]
  exact ⟨_, el_mem hk, by rw [h]; simp⟩
theorem triesB_yes {least : Int} {l : List (Int × Int × Int)} (h : ∀ j, j < l.length → (decide (least ≤ (el l j).2.2) && decide ((el l j).2.2 ≤ 1000)) = true) : triesB least l = true := by
  rw [triesB, List.all_eq_true]
  intro x hx
  obtain ⟨j, hj, rfl⟩ := mem_el hx
  exact h j hj
/-- None twice. -/
def onceB (q : List Int) : Bool := decide q.Nodup
theorem nodup_take {q : List Int} {k : Nat} (hk : k < q.length) (h : q.Nodup) : el q k ∉ q.take k := by
  have h2 := h
  rw [← List.take_append_drop k q, List.nodup_append] at h2
  intro hm
  refine h2.2.2 _ hm _ ?_ rfl
  rw [el_at hk, List.drop_eq_getElem_cons hk]; exact List.mem_cons_self
theorem nodup_succ {q : List Int} {k : Nat} (hk : k < q.length) (h : (q.take k).Nodup) (hn : el q k ∉ q.take k) : (q.take (k + 1)).Nodup := by
  rw [take_succ_el hk, List.nodup_append]
  exact ⟨h, by simp, fun a ha b hb e => hn (by simp at hb; rw [← hb, ← e]; exact ha)⟩
theorem onceB_no {q : List Int} (k : Nat) (hk : k < q.length) (h : hasB (q.take k) (el q k) = true) : onceB q = false := by
  simp only [onceB, decide_eq_false_iff_not]; intro hn
  exact nodup_take hk hn (by simpa [hasB] using h)
theorem onceB_yes {q : List Int} (h : (q.take q.length).Nodup) : onceB q = true := by
  rw [List.take_length] at h; simpa [onceB] using h
/-- A box is good. -/
def goodX (kap : Int) (b : List Int) (s r : List (Int × Int × Int)) : Bool := (decide (1 ≤ kap) && decide (kap ≤ 30)) && (decide (b.length ≤ 30) && (decide ((s.length : Int) + r.length ≤ kap) && (onceB (idsOf s ++ idsOf r) && (triesB 0 s && triesB 1 r))))
theorem goodX_kap {kap : Int} {b : List Int} {s r : List (Int × Int × Int)} (h : (decide (1 ≤ kap) && decide (kap ≤ 30)) = false) : goodX kap b s r = false := by rw [goodX, h]; rfl
theorem goodX_sys {kap : Int} {b : List Int} {s r : List (Int × Int × Int)} (h : ¬ b.length ≤ 30) : goodX kap b s r = false := by rw [goodX, decide_eq_false h]; simp
theorem goodX_room {kap : Int} {b : List Int} {s r : List (Int × Int × Int)} (h : ¬ (s.length : Int) + r.length ≤ kap) : goodX kap b s r = false := by rw [goodX, decide_eq_false h]; simp
theorem goodX_once {kap : Int} {b : List Int} {s r : List (Int × Int × Int)} (h : onceB (idsOf s ++ idsOf r) = false) : goodX kap b s r = false := by rw [goodX, h]; simp
theorem goodX_s {kap : Int} {b : List Int} {s r : List (Int × Int × Int)} (h : triesB 0 s = false) : goodX kap b s r = false := by rw [goodX, h]; simp
theorem goodX_r {kap : Int} {b : List Int} {s r : List (Int × Int × Int)} (h : triesB 1 r = false) : goodX kap b s r = false := by rw [goodX, h]; simp
theorem goodX_tail {kap : Int} {b : List Int} {s r : List (Int × Int × Int)} (h1 : (decide (1 ≤ kap) && decide (kap ≤ 30)) = true) (h2 : b.length ≤ 30) (h3 : (s.length : Int) + r.length ≤ kap) : goodX kap b s r = (onceB (idsOf s ++ idsOf r) && (triesB 0 s && triesB 1 r)) := by rw [goodX, h1, decide_eq_true h2, decide_eq_true h3]; simp
theorem goodX_good {kap : Int} {b : List Int} {s r : List (Int × Int × Int)} (h : goodX kap b s r = true) : 1 ≤ kap ∧ kap ≤ 30 ∧ b.length ≤ 30 ∧ (s.length : Int) + r.length ≤ kap ∧ (idsOf s ++ idsOf r).Nodup ∧ triesB 0 s = true ∧ triesB 1 r = true := by
  simp only [goodX, Bool.and_eq_true, decide_eq_true_eq, onceB] at h
  exact ⟨h.1.1, h.1.2, h.2.1, h.2.2.1, h.2.2.2.1, h.2.2.2.2.1, h.2.2.2.2.2⟩
set_option maxHeartbeats 2000000 in
theorem triesFrom_is (least : Int) (lo : Option Addr) (lc : Nat) (l : List (Int × Int × Int)) (w : World) (x : Bool) (hl : l.length ≤ 1048576) (hz : kL.In w.heap.size w lo l) (hx : triesB least l = x) :
    Calls Try.prog 20 #[.int .i64 least, .slice lo l.length lc] w fun e w' => e = .returned (.bool x) ∧ Below w.heap.size w w' := by
  have HX : Hid (triesB least l = x) := hx
  clear hx
  go_enter Try.func20, Try.ntmps20
  go_wp2
  go_loopw [9] (fun i wr => ∃ k : Nat, k ≤ l.length ∧ i = .int .i64 k ∧ Hid (∀ j, j < k → (decide (least ≤ (el l j).2.2) && decide ((el l j).2.2 ≤ 1000)) = true) ∧ Below w.heap.size w wr) (fun i _ => l.length - (intOf i).toNat)
  case atStart => exact ⟨0, Nat.zero_le _, rfl, fun j hj => by omega, Below.refl _ _⟩
  case round =>
    obtain ⟨k, hk, rfl, hno, hB⟩ := hrel
    by_cases hlt : k < l.length
    · obtain ⟨bb, off, rfl, hbb, hc⟩ := kL_at hz hlt
      have d1 := (hB.cell (p := ⟨bb, off + k * 3, none⟩) hbb).trans (hc k hlt).1
      have d2 := (hB.cell (p := ⟨bb, off + k * 3 + 1, none⟩) hbb).trans (hc k hlt).2.1
      have d3 := (hB.cell (p := ⟨bb, off + k * 3 + 2, none⟩) hbb).trans (hc k hlt).2.2
      obtain ⟨⟨y1, y2, y3⟩, ey⟩ : ∃ v, v = el l k := ⟨_, rfl⟩
      rw [← ey] at d1 d2 d3
      have HY : Hid (el l k = (y1, y2, y3)) := ey.symm
      clear ey hc
      dsimp only at d1 d2 d3
      clear hz
      by_cases h1 : y3 < least
      · have HF : Hid (x = false) := by rw [Hid, ← HX.out]; exact triesB_no k hlt (by rw [HY.out]; simp; omega)
        have h1' : decide (y3 < least) = true := by simpa using h1
        go_wp2
        go_ret
        exact ⟨ret_bool HF.out.symm, Below.allocS hB _⟩
      · have h1' : decide (y3 < least) = false := by simpa using h1
        by_cases h2 : 1000 < y3
        · have HF : Hid (x = false) := by rw [Hid, ← HX.out]; exact triesB_no k hlt (by rw [HY.out]; simp; omega)
          have h2' : decide (1000 < y3) = true := by simpa using h2
          go_wp2
          go_ret
          exact ⟨ret_bool HF.out.symm, Below.allocS hB _⟩
        · have h2' : decide (1000 < y3) = false := by simpa using h2
          go_wp2
          go_roundw
          case rel => exact ⟨k + 1, by omega, by go_num, fun j hj => by
            rcases Nat.lt_succ_iff_lt_or_eq.1 hj with h | rfl
            · exact hno.out j h
            · rw [HY.out]; simp; omega, Below.allocS hB _⟩
          case measure => simp [intOf]; omega
    · obtain rfl : k = l.length := by omega
      have HF : Hid (x = true) := by rw [Hid, ← HX.out]; exact triesB_yes hno.out
      go_wp2
      go_ret
      exact ⟨ret_bool HF.out.symm, hB⟩
theorem contains_of (n₀ : Nat) (ao : Option Addr) (len cap : Nat) (zs : List Int) (n : Int) (w : World) (b : Bool) (hlen : zs.length = len) (hl : zs.length ≤ 1048576) (hz : kI.In n₀ w ao zs) (hb : hasB zs n = b) :
    Calls Try.prog 34 #[.slice ao len cap, .int .i64 n] w fun e w' => e = .returned (.bool b) ∧ w' = w := by
  subst hlen; exact contains_is n₀ ao cap zs n w b hl hz hb
theorem l1Has_of (n₀ : Nat) (ao : Option Addr) (len cap : Nat) (zs : List Int) (n : Int) (w : World) (b : Bool) (hlen : zs.length = len) (hl : zs.length ≤ 1048576) (hz : kI.In n₀ w ao zs) (hb : hasB zs n = b) :
    Calls Try.prog 32 #[.slice ao len cap, .int .i64 n] w fun e w' => e = .returned (.bool b) ∧ w' = w := by
  subst hlen; exact l1Has_is n₀ ao cap zs n w b hl hz hb
set_option maxHeartbeats 2000000 in
theorem noneTwice_is (n₀ : Nat) (ao : Option Addr) (cap : Nat) (q : List Int) (w : World) (x : Bool) (hl : q.length ≤ 1048576) (hc : q.length ≤ cap) (hz : kI.In n₀ w ao q) (hx : onceB q = x) :
    Calls Try.prog 21 #[.slice ao q.length cap] w fun e w' => e = .returned (.bool x) ∧ w' = w := by
  have HX : Hid (onceB q = x) := hx
  clear hx
  go_enter Try.func21, Try.ntmps21
  go_wp2
  go_loop [7] (fun i => ∃ k : Nat, k ≤ q.length ∧ i = .int .i64 k ∧ Hid ((q.take k).Nodup)) (fun i => q.length - (intOf i).toNat)
  case atStart => exact ⟨0, Nat.zero_le _, rfl, by simp [Hid]⟩
  case round =>
    obtain ⟨k, hk, rfl, hno⟩ := hrel
    by_cases hlt : k < q.length
    · have HZ : Hid (kI.In n₀ w ao q) := hz
      obtain ⟨b, off, rfl, hb, hcs⟩ := ints_at hz hlt
      have hck := hcs k hlt
      clear hcs hz
      obtain ⟨y, ey⟩ : ∃ x, x = el q k := ⟨_, rfl⟩
      rw [← ey] at hck
      have HY : Hid (y = el q k) := ey
      clear ey
      cases hm : hasB (q.take k) y
      · have HM : Hid (hasB (q.take k) y = false) := hm
        clear hm
        go_wp2_with fail
        refine (contains_of n₀ _ k cap (q.take k) y _ false (by simp; omega) (by simp; omega) (HZ.out.take k) HM.out).mono ?_
        rintro e w1 ⟨rfl, rfl⟩
        go_wp2
        go_round
        case rel => exact ⟨k + 1, by omega, by go_num, nodup_succ hlt hno.out (by rw [← HY.out]; simpa [hasB] using HM.out)⟩
        case measure => simp [intOf]; omega
      · have HM : Hid (hasB (q.take k) y = true) := hm
        have HF : Hid (x = false) := by rw [Hid, ← HX.out]; exact onceB_no k hlt (by rw [← HY.out]; exact hm)
        clear hm
        go_wp2_with fail
        refine (contains_of n₀ _ k cap (q.take k) y _ true (by simp; omega) (by simp; omega) (HZ.out.take k) HM.out).mono ?_
        rintro e w1 ⟨rfl, rfl⟩
        go_wp2
        go_ret
        exact ⟨ret_bool HF.out.symm, rfl⟩
    · obtain rfl : k = q.length := by omega
      have HF : Hid (x = true) := by rw [Hid, ← HX.out]; exact onceB_yes hno.out
      go_wp2
      go_ret
      exact ⟨ret_bool HF.out.symm, rfl⟩
set_option maxRecDepth 10000 in
set_option maxHeartbeats 4000000 in
theorem implGood_is (kap : Int) (cl : Bool) (bo : Option Addr) (bc : Nat) (b : List Int) (so : Option Addr) (sc : Nat) (s : List (Int × Int × Int)) (ro : Option Addr) (rc : Nat) (r : List (Int × Int × Int)) (w : World) (x : Bool) (hlb : b.length ≤ 1048576) (hls : s.length ≤ 1048576) (hlr : r.length ≤ 1048576) (hz : InBox w.heap.size w bo b so s ro r) (hx : goodX kap b s r = x) :
    Calls Try.prog 10 #[.agg #[.int .i64 kap, .bool cl, .slice bo b.length bc, .slice so s.length sc, .slice ro r.length rc]] w fun e w' => e = .returned (.bool x) ∧ Below w.heap.size w w' := by
  have hB0 := below1 w (.cells #[.int .i64 kap, .bool cl, .slice bo b.length bc, .slice so s.length sc, .slice ro r.length rc] 26)
  have A0 := hid (Bx.new (w := w) (p := w.heap.size) [.int .i64 kap, .bool cl, .slice bo b.length bc, .slice so s.length sc, .slice ro r.length rc] 26 rfl)
  by_cases h1 : kap < 1
  · have HV : Hid (x = false) := by rw [Hid, ← hx]; exact goodX_kap (by simp; omega)
    have h1' : decide (kap < 1) = true := by simpa using h1
    clear hx
    go_enter Try.func10, Try.ntmps10
    go_wp2
    go_ret
    exact ⟨ret_bool HV.out.symm, hB0⟩
  have h1' : decide (kap < 1) = false := by simpa using h1
  by_cases h2 : 30 < kap
  · have HV : Hid (x = false) := by rw [Hid, ← hx]; exact goodX_kap (by simp; omega)
    have h2' : decide (30 < kap) = true := by simpa using h2
    clear hx
    go_enter Try.func10, Try.ntmps10
    go_wp2
    go_ret
    exact ⟨ret_bool HV.out.symm, hB0⟩
  have h2' : decide (30 < kap) = false := by simpa using h2
  by_cases h3 : 30 < b.length
  · have HV : Hid (x = false) := by rw [Hid, ← hx]; exact goodX_sys (by omega)
    have h3' : decide ((30 : Int) < (b.length : Int)) = true := by simp; omega
    clear hx
    go_enter Try.func10, Try.ntmps10
    go_wp2
    go_ret
    exact ⟨ret_bool HV.out.symm, hB0⟩
  have h3' : decide ((30 : Int) < (b.length : Int)) = false := by simp; omega
  by_cases h4 : kap < s.length
  · have HV : Hid (x = false) := by rw [Hid, ← hx]; exact goodX_room (by omega)
    have h4' : decide (kap < (s.length : Int)) = true := by simpa using h4
    clear hx
    go_enter Try.func10, Try.ntmps10
    go_wp2
    go_ret
    exact ⟨ret_bool HV.out.symm, hB0⟩
  have h4' : decide (kap < (s.length : Int)) = false := by simpa using h4
  by_cases h5 : kap - s.length < r.length
  · have HV : Hid (x = false) := by rw [Hid, ← hx]; exact goodX_room (by omega)
    have h5' : decide (kap - (s.length : Int) < (r.length : Int)) = true := by simpa using h5
    clear hx
    go_enter Try.func10, Try.ntmps10
    go_wp2
    go_ret
    exact ⟨ret_bool HV.out.symm, hB0⟩
  have h5' : decide (kap - (s.length : Int) < (r.length : Int)) = false := by simpa using h5
  have HX : Hid ((onceB (idsOf s ++ idsOf r) && (triesB 0 s && triesB 1 r)) = x) := by rw [Hid, ← hx]; exact (goodX_tail (by simp; omega) (by omega) (by omega)).symm
  clear hx
  cases t0 : triesB 0 s
  · have HV : Hid (x = false) := by rw [Hid, ← HX.out, t0]; simp
    have T0 : Hid (triesB 0 s = false) := t0
    clear t0
    go_enter Try.func10, Try.ntmps10
    go_wp2_with fail
    refine (triesFrom_is 0 so sc s _ false hls (hz.2.1.later hB0) T0.out).mono ?_
    rintro e w1 ⟨rfl, hb1⟩
    have hB1 := hB0.trans (hb1.mono hB0.size)
    go_wp2
    go_ret
    exact ⟨ret_bool HV.out.symm, hB1⟩
  have T0 : Hid (triesB 0 s = true) := t0
  cases t1 : triesB 1 r
  · have HV : Hid (x = false) := by rw [Hid, ← HX.out, t1]; simp
    have T1 : Hid (triesB 1 r = false) := t1
    clear t0 t1
    go_enter Try.func10, Try.ntmps10
    go_wp2_with fail
    refine (triesFrom_is 0 so sc s _ true hls (hz.2.1.later hB0) T0.out).mono ?_
    rintro e w1 ⟨rfl, hb1⟩
    have hB1 := hB0.trans (hb1.mono hB0.size)
    have A1 := hid (A0.out.later hb1)
    have a4 := A1.out.c 4 rfl
    clear hb1 A0
    go_wp2_with fail
    refine (triesFrom_is 1 ro rc r _ false hlr (hz.2.2.later hB1) T1.out).mono ?_
    rintro e w2 ⟨rfl, hb2⟩
    have hB2 := hB1.trans (hb2.mono hB1.size)
    go_wp2
    go_ret
    exact ⟨ret_bool HV.out.symm, hB2⟩
  have T1 : Hid (triesB 1 r = true) := t1
  have HV : Hid (onceB (idsOf s ++ idsOf r) = x) := by rw [Hid, ← HX.out, t0, t1]; simp
  clear t0 t1
  go_enter Try.func10, Try.ntmps10
  go_wp2_with fail
  refine (triesFrom_is 0 so sc s _ true hls (hz.2.1.later hB0) T0.out).mono ?_
  rintro e w1 ⟨rfl, hb1⟩
  have hB1 := hB0.trans (hb1.mono hB0.size)
  have A1 := hid (A0.out.later hb1)
  have a4 := A1.out.c 4 rfl
  clear hb1 A0
  go_wp2_with fail
  refine (triesFrom_is 1 ro rc r _ true hlr (hz.2.2.later hB1) T1.out).mono ?_
  rintro e w2 ⟨rfl, hb2⟩
  have hB2 := hB1.trans (hb2.mono hB1.size)
  have A2 := hid (A1.out.later hb2)
  clear hb2 A1 a4
  have a0 := A2.out.c 0 rfl
  have a1 := A2.out.c 1 rfl
  have a2 := A2.out.c 2 rfl
  have a3 := A2.out.c 3 rfl
  have a4 := A2.out.c 4 rfl
  go_wp2_with fail
  refine (idsIn_any kap cl bo bc b so sc s ro rc r _ hlb hls hlr (hz.later hB2)).mono ?_
  rintro e w3 ⟨⟨qo, qc, rfl, hF3⟩, hb3⟩
  have hB3 := hB2.trans (hb3.mono hB2.size)
  have HF := hid hF3
  have hql : (idsOf s ++ idsOf r).length ≤ 1048576 := by simp only [List.length_append, idsOf_len]; omega
  obtain ⟨q, eq⟩ : ∃ q, q = idsOf s ++ idsOf r := ⟨_, rfl⟩
  rw [← eq] at HF HV hql ⊢
  clear hb3 hF3 eq
  go_wp2_with fail
  refine (noneTwice_is _ qo qc q _ x hql HF.out.cap HF.out.in HV.out).mono ?_
  rintro e w4 ⟨rfl, rfl⟩
  go_wp2
  go_ret
  exact ⟨rfl, hB3⟩
end Go.Proofs.Ytnnlbnbamhkcaaa
