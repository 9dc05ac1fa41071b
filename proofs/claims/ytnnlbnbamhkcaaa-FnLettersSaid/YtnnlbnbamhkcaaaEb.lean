
/- LettersIn: the program and the specification. No conditions but those written. -/
import Derived.Test.YtnnlbnbamhkcaaaDc
import Derived.Deep.Cut
namespace Go.Proofs.Ytnnlbnbamhkcaaa
open Go.RowKit

/-- LettersIn's answer. -/
def lettersR (kap : Int) (b : List Int) (s r : List (Int × Int × Int)) : List Int × Bool := if goodX kap b s r = true then (idsOf s ++ idsOf r, true) else ([], false)
theorem lettersR_len {kap : Int} {b : List Int} {s r : List (Int × Int × Int)} (_ : b.length ≤ 1048576) (_ : s.length ≤ 1048576) (_ : r.length ≤ 1048576) : (lettersR kap b s r).1.length ≤ 1048576 := by
  unfold lettersR
  split
  · rename_i h
    have := goodX_good h
    simp only [List.length_append, idsOf_len]; omega
  · simp
/-- Numbers and a truth, as an ending. -/
def AnsL (w : World) (R : List Int × Bool) (e : Ending) (w' : World) : Prop := (∃ go qc, e = .returned (.tuple #[.slice go R.1.length qc, .bool R.2]) ∧ kI.Fresh w.heap.size w'.heap.size w' go qc R.1) ∧ Below w.heap.size w w'
set_option maxRecDepth 10000 in
set_option maxHeartbeats 8000000 in
theorem implIn_any (kap : Int) (cl : Bool) (bo : Option Addr) (bc : Nat) (b : List Int) (so : Option Addr) (sc : Nat) (s : List (Int × Int × Int)) (ro : Option Addr) (rc : Nat) (r : List (Int × Int × Int)) (w : World) (hlb : b.length ≤ 1048576) (hls : s.length ≤ 1048576) (hlr : r.length ≤ 1048576) (hz : InBox w.heap.size w bo b so s ro r) :
    Calls Try.prog 7 #[.agg #[.int .i64 kap, .bool cl, .slice bo b.length bc, .slice so s.length sc, .slice ro r.length rc]] w fun e w' => AnsL w (lettersR kap b s r) e w' := by
  cases hg : goodX kap b s r
  · have HG : Hid (goodX kap b s r = false) := hg
    have HR : Hid (lettersR kap b s r = ([], false)) := by rw [Hid, lettersR, if_neg]; rw [hg]; simp
    clear hg
    obtain ⟨w0, hw0⟩ : ∃ w0, w0 = (w.alloc (.cells #[.int .i64 kap, .bool cl, .slice bo b.length bc, .slice so s.length sc, .slice ro r.length rc] 26)) := ⟨_, rfl⟩
    have hB0 : Below w.heap.size w w0 := by rw [hw0]; exact Below.allocS (Below.refl _ _) _
    have XA0 : Hid (Bx w0 (w.heap.size) [.int .i64 kap, .bool cl, .slice bo b.length bc, .slice so s.length sc, .slice ro r.length rc]) := by rw [hw0]; exact Bx.new [.int .i64 kap, .bool cl, .slice bo b.length bc, .slice so s.length sc, .slice ro r.length rc] _ rfl
    have H0 : Hid (w0 = (w.alloc (.cells #[.int .i64 kap, .bool cl, .slice bo b.length bc, .slice so s.length sc, .slice ro r.length rc] 26))) := hw0
    have hs0 : w.heap.size + 1 ≤ w0.heap.size := by rw [hw0]; simp
    clear hw0
    go_enter Try.func7, Try.ntmps7
    go_wp2_with fail
    rw [← H0.out]
    refine (implGood_is kap cl bo bc b so sc s ro rc r w0 false hlb hls hlr (hz.later hB0) HG.out).mono ?_
    rintro e w1 ⟨rfl, hb1⟩
    have hB1 := hB0.trans (hb1.mono hB0.size)
    have hs1 : w.heap.size + 1 ≤ w1.heap.size := Nat.le_trans hs0 hb1.size
    have hz1 : w0.heap.size ≤ w1.heap.size := hb1.size
    have XA1 := hid (XA0.out.later hb1)
    clear XA0
    clear hb1
    have a0 := XA1.out.c 0 rfl
    have af0 := XA1.out.f 0 rfl
    have a1 := XA1.out.c 1 rfl
    have af1 := XA1.out.f 1 rfl
    have a2 := XA1.out.c 2 rfl
    have af2 := XA1.out.f 2 rfl
    have a3 := XA1.out.c 3 rfl
    have af3 := XA1.out.f 3 rfl
    have a4 := XA1.out.c 4 rfl
    have af4 := XA1.out.f 4 rfl
    have az := XA1.out.size
    go_wp2
    refine bodyPost_ret (v := .tuple #[.slice none 0 0, .bool false]) (by simp [results, Try.results7, go_sem]) rfl ?_
    rw [HR.out]
    exact ⟨⟨none, 0, rfl, .inl rfl⟩, hB1⟩
  · have HG : Hid (goodX kap b s r = true) := hg
    have HR : Hid (lettersR kap b s r = (idsOf s ++ idsOf r, true)) := by rw [Hid, lettersR, if_pos hg]
    clear hg
    obtain ⟨w0, hw0⟩ : ∃ w0, w0 = (w.alloc (.cells #[.int .i64 kap, .bool cl, .slice bo b.length bc, .slice so s.length sc, .slice ro r.length rc] 26)) := ⟨_, rfl⟩
    have hB0 : Below w.heap.size w w0 := by rw [hw0]; exact Below.allocS (Below.refl _ _) _
    have XA0 : Hid (Bx w0 (w.heap.size) [.int .i64 kap, .bool cl, .slice bo b.length bc, .slice so s.length sc, .slice ro r.length rc]) := by rw [hw0]; exact Bx.new [.int .i64 kap, .bool cl, .slice bo b.length bc, .slice so s.length sc, .slice ro r.length rc] _ rfl
    have H0 : Hid (w0 = (w.alloc (.cells #[.int .i64 kap, .bool cl, .slice bo b.length bc, .slice so s.length sc, .slice ro r.length rc] 26))) := hw0
    have hs0 : w.heap.size + 1 ≤ w0.heap.size := by rw [hw0]; simp
    clear hw0
    go_enter Try.func7, Try.ntmps7
    go_wp2_with fail
    rw [← H0.out]
    refine (implGood_is kap cl bo bc b so sc s ro rc r w0 true hlb hls hlr (hz.later hB0) HG.out).mono ?_
    rintro e w1 ⟨rfl, hb1⟩
    have hB1 := hB0.trans (hb1.mono hB0.size)
    have hs1 : w.heap.size + 1 ≤ w1.heap.size := Nat.le_trans hs0 hb1.size
    have hz1 : w0.heap.size ≤ w1.heap.size := hb1.size
    have XA1 := hid (XA0.out.later hb1)
    clear XA0
    clear hb1
    have a0 := XA1.out.c 0 rfl
    have af0 := XA1.out.f 0 rfl
    have a1 := XA1.out.c 1 rfl
    have af1 := XA1.out.f 1 rfl
    have a2 := XA1.out.c 2 rfl
    have af2 := XA1.out.f 2 rfl
    have a3 := XA1.out.c 3 rfl
    have af3 := XA1.out.f 3 rfl
    have a4 := XA1.out.c 4 rfl
    have af4 := XA1.out.f 4 rfl
    have az := XA1.out.size
    go_wp2_with fail
    clear a0 af0 a1 af1 a2 af2 a3 af3 a4 af4 az
    refine (idsIn_any kap cl bo bc b so sc s ro rc r w1 hlb hls hlr (hz.later hB1)).mono ?_
    rintro e w2 ⟨⟨go, qc, rfl, hF⟩, hb2⟩
    have hB2 := hB1.trans (hb2.mono hB1.size)
    have hs2 : w.heap.size + 1 ≤ w2.heap.size := Nat.le_trans hs1 hb2.size
    have hz2 : w1.heap.size ≤ w2.heap.size := hb2.size
    have XA2 := hid (XA1.out.later hb2)
    clear XA1
    have F2 := hid (hF)
    clear hb2 hF
    obtain ⟨q, eq⟩ : ∃ q, q = idsOf s ++ idsOf r := ⟨_, rfl⟩
    rw [← eq] at F2 HR ⊢
    clear eq
    have a0 := XA2.out.c 0 rfl
    have af0 := XA2.out.f 0 rfl
    have a1 := XA2.out.c 1 rfl
    have af1 := XA2.out.f 1 rfl
    have a2 := XA2.out.c 2 rfl
    have af2 := XA2.out.f 2 rfl
    have a3 := XA2.out.c 3 rfl
    have af3 := XA2.out.f 3 rfl
    have a4 := XA2.out.c 4 rfl
    have af4 := XA2.out.f 4 rfl
    have az := XA2.out.size
    go_wp2
    refine bodyPost_ret (v := .tuple #[.slice go q.length qc, .bool true]) (by simp [results, Try.results7, go_sem]) rfl ?_
    rw [HR.out]
    exact ⟨⟨_, _, rfl, (Kind.Fresh.wide F2.out (by omega) (Nat.le_refl _))⟩, hB2⟩
end Go.Proofs.Ytnnlbnbamhkcaaa
