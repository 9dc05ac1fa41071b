
/- PutLetter: what is refused. No conditions but those written. -/
import Derived.Test.YtafhidlianafhaaEc
import Derived.Deep.Cut
namespace Go.Proofs.Ytafhidlianafhaa
open Go.RowKit

/-- The code with which a letter is refused. -/
def refB (kap : Int) (cl : Bool) (s r : List (Int × Int × Int)) (iv : Int) : Int := if cl = true then 2 else if hasB (idsOf s ++ idsOf r) iv = true then 5 else if (s.length : Int) + r.length = kap then 3 else 0
/-- PutLetter's answer. -/
def putR (kap : Int) (cl : Bool) (b : List Int) (s r : List (Int × Int × Int)) (iv jv : Int) : Int × Bool × List Int × List (Int × Int × Int) × List (Int × Int × Int) × Int := if goodX kap b s r = true then (if refB kap cl s r iv = 0 then (kap, cl, b, s ++ [(iv, jv, 0)], r, 0) else (kap, cl, b, s, r, refB kap cl s r iv)) else (0, false, [], [], [], 1)
theorem putR_bad {kap : Int} {cl : Bool} {b : List Int} {s r : List (Int × Int × Int)} {iv jv : Int} (h : goodX kap b s r = false) : putR kap cl b s r iv jv = (0, false, [], [], [], 1) := by rw [putR, if_neg]; rw [h]; simp
theorem putR_len {kap : Int} {cl : Bool} {b : List Int} {s r : List (Int × Int × Int)} {iv jv : Int} (h1 : b.length ≤ 1048576) (h2 : s.length ≤ 1048576) (h3 : r.length ≤ 1048576) : (putR kap cl b s r iv jv).2.2.1.length ≤ 1048576 ∧ (putR kap cl b s r iv jv).2.2.2.1.length ≤ 1048576 ∧ (putR kap cl b s r iv jv).2.2.2.2.1.length ≤ 1048576 := by
  unfold putR
  split
  · rename_i h
    have := goodX_good h
    split
    · refine ⟨h1, ?_, h3⟩
      show (s ++ [(iv, jv, (0 : Int))]).length ≤ 1048576
      simp; omega
    · exact ⟨h1, h2, h3⟩
  · simp
theorem idsIn_as (kap : Int) (cl : Bool) (bo : Option Addr) (bc : Nat) (b : List Int) (so : Option Addr) (sc : Nat) (s : List (Int × Int × Int)) (ro : Option Addr) (rc : Nat) (r : List (Int × Int × Int)) (w : World) (hlb : b.length ≤ 1048576) (hls : s.length ≤ 1048576) (hlr : r.length ≤ 1048576) (hz : InBox w.heap.size w bo b so s ro r) (q : List Int) (hq : idsOf s ++ idsOf r = q) : Calls Try.prog 45 #[.agg #[.int .i64 kap, .bool cl, .slice bo b.length bc, .slice so s.length sc, .slice ro r.length rc]] w fun e w' => AnsI w q e w' := by
  subst hq; exact idsIn_any kap cl bo bc b so sc s ro rc r w hlb hls hlr hz
theorem l6Ids_as (kap : Int) (cl : Bool) (bo : Option Addr) (bc : Nat) (b : List Int) (so : Option Addr) (sc : Nat) (s : List (Int × Int × Int)) (ro : Option Addr) (rc : Nat) (r : List (Int × Int × Int)) (w : World) (hlb : b.length ≤ 1048576) (hls : s.length ≤ 1048576) (hlr : r.length ≤ 1048576) (hz : InBox w.heap.size w bo b so s ro r) (q : List Int) (hq : idsOf s ++ idsOf r = q) : Calls Try.prog 39 #[.agg #[.int .i64 kap, .bool cl, .slice bo b.length bc, .slice so s.length sc, .slice ro r.length rc]] w fun e w' => AnsI w q e w' := by
  subst hq; exact l6Ids_any kap cl bo bc b so sc s ro rc r w hlb hls hlr hz
set_option maxRecDepth 10000 in
set_option maxHeartbeats 8000000 in
theorem refusalL_any (iv jv kv : Int) (kap : Int) (cl : Bool) (bo : Option Addr) (bc : Nat) (b : List Int) (so : Option Addr) (sc : Nat) (s : List (Int × Int × Int)) (ro : Option Addr) (rc : Nat) (r : List (Int × Int × Int)) (w : World) (x : Int) (hlb : b.length ≤ 1048576) (hls : s.length ≤ 1048576) (hlr : r.length ≤ 1048576) (hz : InBox w.heap.size w bo b so s ro r) (hx : refB kap cl s r iv = x) (hq1 : s.length + r.length ≤ 1048576) :
    Calls Try.prog 84 #[.agg #[.int .i64 iv, .int .i64 jv, .int .i64 kv], .agg #[.int .i64 kap, .bool cl, .slice bo b.length bc, .slice so s.length sc, .slice ro r.length rc]] w fun e w' => e = .returned (.int .i64 x) ∧ Below w.heap.size w w' := by
  obtain ⟨q, eq⟩ : ∃ q, idsOf s ++ idsOf r = q := ⟨_, rfl⟩
  have HQ : Hid (idsOf s ++ idsOf r = q) := eq
  have hql : q.length ≤ 2097152 := by rw [← eq, List.length_append, idsOf_len, idsOf_len]; omega
  have hq2 : q.length ≤ 1048576 := by rw [← eq, List.length_append, idsOf_len, idsOf_len]; exact hq1
  clear hql
  cases cl
  · cases hh : hasB q iv
    · have HV : Hid (x = if (s.length : Int) + r.length = kap then 3 else 0) := by rw [Hid, ← hx, refB, if_neg (by simp), eq, if_neg (by rw [hh]; simp)]
      have HB : Hid (hasB q iv = false) := hh
      clear hx hh eq
      obtain ⟨w0, hw0⟩ : ∃ w0, w0 = ((w.alloc (.cells #[.int .i64 iv, .int .i64 jv, .int .i64 kv] 61)).alloc (.cells #[.int .i64 kap, .bool false, .slice bo b.length bc, .slice so s.length sc, .slice ro r.length rc] 30)) := ⟨_, rfl⟩
      have hB0 : Below w.heap.size w w0 := by rw [hw0]; exact Below.allocS (Below.allocS (Below.refl _ _) _) _
      have XL0 : Hid (Bx w0 (w.heap.size) [.int .i64 iv, .int .i64 jv, .int .i64 kv]) := by rw [hw0]; exact Bx.alloc (Bx.new [.int .i64 iv, .int .i64 jv, .int .i64 kv] _ rfl) _
      have XA0 : Hid (Bx w0 (w.heap.size + 1) [.int .i64 kap, .bool false, .slice bo b.length bc, .slice so s.length sc, .slice ro r.length rc]) := by rw [hw0]; exact Bx.new [.int .i64 kap, .bool false, .slice bo b.length bc, .slice so s.length sc, .slice ro r.length rc] _ (by simp)
      have H0 : Hid (w0 = ((w.alloc (.cells #[.int .i64 iv, .int .i64 jv, .int .i64 kv] 61)).alloc (.cells #[.int .i64 kap, .bool false, .slice bo b.length bc, .slice so s.length sc, .slice ro r.length rc] 30))) := hw0
      have hs0 : w.heap.size + 1 + 1 ≤ w0.heap.size := by rw [hw0]; simp
      clear hw0
      go_enter Try.func84, Try.ntmps84
      go_wp2
      rw [← H0.out]
      have l0 := XL0.out.c 0 rfl
      have lf0 := XL0.out.f 0 rfl
      have l1 := XL0.out.c 1 rfl
      have lf1 := XL0.out.f 1 rfl
      have l2 := XL0.out.c 2 rfl
      have lf2 := XL0.out.f 2 rfl
      have lz := XL0.out.size
      have a0 := XA0.out.c 0 rfl
      have af0 := XA0.out.f 0 rfl
      have a1 := XA0.out.c 1 rfl
      have af1 := XA0.out.f 1 rfl
      have a2 := XA0.out.c 2 rfl
      have af2 := XA0.out.f 2 rfl
      have a3 := XA0.out.c 3 rfl
      have af3 := XA0.out.f 3 rfl
      have a4 := XA0.out.c 4 rfl
      have af4 := XA0.out.f 4 rfl
      have az := XA0.out.size
      have PD : w0.drew.cell? ⟨w.heap.size, 0, none⟩ = some (.int .i64 iv) ∧ w0.drew.cell? ⟨w.heap.size, 1, none⟩ = some (.int .i64 jv) ∧ w0.drew.cell? ⟨w.heap.size, 2, none⟩ = some (.int .i64 kv) ∧ w0.drew.cell? ⟨w.heap.size + 1, 0, none⟩ = some (.int .i64 kap) ∧ w0.drew.cell? ⟨w.heap.size + 1, 1, none⟩ = some (.bool false) ∧ w0.drew.cell? ⟨w.heap.size + 1, 2, none⟩ = some (.slice bo b.length bc) ∧ w0.drew.cell? ⟨w.heap.size + 1, 3, none⟩ = some (.slice so s.length sc) ∧ w0.drew.cell? ⟨w.heap.size + 1, 4, none⟩ = some (.slice ro r.length rc) := ⟨l0, l1, l2, a0, a1, a2, a3, a4⟩
      go_region_held3 (fun Y => Y.cell? ⟨w.heap.size, 0, none⟩ = some (.int .i64 iv) ∧ Y.cell? ⟨w.heap.size, 1, none⟩ = some (.int .i64 jv) ∧ Y.cell? ⟨w.heap.size, 2, none⟩ = some (.int .i64 kv) ∧ Y.cell? ⟨w.heap.size + 1, 0, none⟩ = some (.int .i64 kap) ∧ Y.cell? ⟨w.heap.size + 1, 1, none⟩ = some (.bool false) ∧ Y.cell? ⟨w.heap.size + 1, 2, none⟩ = some (.slice bo b.length bc) ∧ Y.cell? ⟨w.heap.size + 1, 3, none⟩ = some (.slice so s.length sc) ∧ Y.cell? ⟨w.heap.size + 1, 4, none⟩ = some (.slice ro r.length rc))
        (first | (with_reducible exact ⟨l0, l1, l2, a0, a1, a2, a3, a4⟩) | (with_reducible exact PD) | (with_reducible exact P1) | (with_reducible exact P2) | exact ⟨l0, l1, l2, a0, a1, a2, a3, a4⟩)
        (first
          | (go_at_call 60; refine (contains_is _ qo qc q iv w1 false hq2 (by exact F1.out.in) HB.out).mono ?_; rintro e w2 ⟨rfl, hy2⟩; have hb2 : Below w1.heap.size w1 w2 := (by rw [hy2]; exact Below.refl _ _); have hB2 : Below w.heap.size w w2 := hB1.trans (hb2.mono hB1.size); have hs2 : w.heap.size + 1 + 1 ≤ w2.heap.size := Nat.le_trans hs1 hb2.size; have hz2 : w1.heap.size ≤ w2.heap.size := hb2.size; have XL2 := hid (XL1.out.later hb2); have XA2 := hid (XA1.out.later hb2); have F2 := hid (F1.out.later hb2); have P2 := (⟨XL2.out.c 0 rfl, XL2.out.c 1 rfl, XL2.out.c 2 rfl, XA2.out.c 0 rfl, XA2.out.c 1 rfl, XA2.out.c 2 rfl, XA2.out.c 3 rfl, XA2.out.c 4 rfl⟩ : w2.cell? ⟨w.heap.size, 0, none⟩ = some (.int .i64 iv) ∧ w2.cell? ⟨w.heap.size, 1, none⟩ = some (.int .i64 jv) ∧ w2.cell? ⟨w.heap.size, 2, none⟩ = some (.int .i64 kv) ∧ w2.cell? ⟨w.heap.size + 1, 0, none⟩ = some (.int .i64 kap) ∧ w2.cell? ⟨w.heap.size + 1, 1, none⟩ = some (.bool false) ∧ w2.cell? ⟨w.heap.size + 1, 2, none⟩ = some (.slice bo b.length bc) ∧ w2.cell? ⟨w.heap.size + 1, 3, none⟩ = some (.slice so s.length sc) ∧ w2.cell? ⟨w.heap.size + 1, 4, none⟩ = some (.slice ro r.length rc)); have lg0 := XL2.out.c 0 rfl; have lh0 := XL2.out.f 0 rfl; have lg1 := XL2.out.c 1 rfl; have lh1 := XL2.out.f 1 rfl; have lg2 := XL2.out.c 2 rfl; have lh2 := XL2.out.f 2 rfl; have ag0 := XA2.out.c 0 rfl; have ah0 := XA2.out.f 0 rfl; have ag1 := XA2.out.c 1 rfl; have ah1 := XA2.out.f 1 rfl; have ag2 := XA2.out.c 2 rfl; have ah2 := XA2.out.f 2 rfl; have ag3 := XA2.out.c 3 rfl; have ah3 := XA2.out.f 3 rfl; have ag4 := XA2.out.c 4 rfl; have ah4 := XA2.out.f 4 rfl; clear hy2 hb2 )
          | (go_at_call 45; refine (idsIn_as kap false bo bc b so sc s ro rc r _ hlb hls hlr (by exact hz.later hB0.drew) q HQ.out).mono ?_; rintro e w1 ⟨⟨qo, qc, rfl, hF⟩, hy1⟩; have hb1 : Below w0.heap.size w0 w1 := (Below.refl w0.heap.size w0).drew.trans hy1; have hB1 : Below w.heap.size w w1 := hB0.trans (hb1.mono hB0.size); have hs1 : w.heap.size + 1 + 1 ≤ w1.heap.size := Nat.le_trans hs0 hb1.size; have hz1 : w0.heap.size ≤ w1.heap.size := hb1.size; have XL1 := hid (XL0.out.later hb1); have XA1 := hid (XA0.out.later hb1); simp only [World.size_drew] at hF; have F1 := hid (hF); have P1 := (⟨XL1.out.c 0 rfl, XL1.out.c 1 rfl, XL1.out.c 2 rfl, XA1.out.c 0 rfl, XA1.out.c 1 rfl, XA1.out.c 2 rfl, XA1.out.c 3 rfl, XA1.out.c 4 rfl⟩ : w1.cell? ⟨w.heap.size, 0, none⟩ = some (.int .i64 iv) ∧ w1.cell? ⟨w.heap.size, 1, none⟩ = some (.int .i64 jv) ∧ w1.cell? ⟨w.heap.size, 2, none⟩ = some (.int .i64 kv) ∧ w1.cell? ⟨w.heap.size + 1, 0, none⟩ = some (.int .i64 kap) ∧ w1.cell? ⟨w.heap.size + 1, 1, none⟩ = some (.bool false) ∧ w1.cell? ⟨w.heap.size + 1, 2, none⟩ = some (.slice bo b.length bc) ∧ w1.cell? ⟨w.heap.size + 1, 3, none⟩ = some (.slice so s.length sc) ∧ w1.cell? ⟨w.heap.size + 1, 4, none⟩ = some (.slice ro r.length rc)); clear hy1 hb1 hF))
      all_goals
        by_cases hf : (s.length : Int) + r.length = kap
        · have hf' : ((s.length : Int) + (r.length : Int) == kap) = true := by simpa using hf
          have HW : Hid (x = 3) := by rw [Hid, HV.out, if_pos hf]
          clear hf HV
          go_wp2
          go_ret
          exact ⟨ret_int HW.out.symm, hB2⟩
        · have hf' : ((s.length : Int) + (r.length : Int) == kap) = false := by simpa using hf
          have HW : Hid (x = 0) := by rw [Hid, HV.out, if_neg hf]
          clear hf HV
          go_wp2
          go_ret
          exact ⟨ret_int HW.out.symm, hB2⟩
    · have HV : Hid (x = 5) := by rw [Hid, ← hx, refB, if_neg (by simp), eq, if_pos hh]
      have HB : Hid (hasB q iv = true) := hh
      clear hx hh eq
      obtain ⟨w0, hw0⟩ : ∃ w0, w0 = ((w.alloc (.cells #[.int .i64 iv, .int .i64 jv, .int .i64 kv] 61)).alloc (.cells #[.int .i64 kap, .bool false, .slice bo b.length bc, .slice so s.length sc, .slice ro r.length rc] 30)) := ⟨_, rfl⟩
      have hB0 : Below w.heap.size w w0 := by rw [hw0]; exact Below.allocS (Below.allocS (Below.refl _ _) _) _
      have XL0 : Hid (Bx w0 (w.heap.size) [.int .i64 iv, .int .i64 jv, .int .i64 kv]) := by rw [hw0]; exact Bx.alloc (Bx.new [.int .i64 iv, .int .i64 jv, .int .i64 kv] _ rfl) _
      have XA0 : Hid (Bx w0 (w.heap.size + 1) [.int .i64 kap, .bool false, .slice bo b.length bc, .slice so s.length sc, .slice ro r.length rc]) := by rw [hw0]; exact Bx.new [.int .i64 kap, .bool false, .slice bo b.length bc, .slice so s.length sc, .slice ro r.length rc] _ (by simp)
      have H0 : Hid (w0 = ((w.alloc (.cells #[.int .i64 iv, .int .i64 jv, .int .i64 kv] 61)).alloc (.cells #[.int .i64 kap, .bool false, .slice bo b.length bc, .slice so s.length sc, .slice ro r.length rc] 30))) := hw0
      have hs0 : w.heap.size + 1 + 1 ≤ w0.heap.size := by rw [hw0]; simp
      clear hw0
      go_enter Try.func84, Try.ntmps84
      go_wp2
      rw [← H0.out]
      have l0 := XL0.out.c 0 rfl
      have lf0 := XL0.out.f 0 rfl
      have l1 := XL0.out.c 1 rfl
      have lf1 := XL0.out.f 1 rfl
      have l2 := XL0.out.c 2 rfl
      have lf2 := XL0.out.f 2 rfl
      have lz := XL0.out.size
      have a0 := XA0.out.c 0 rfl
      have af0 := XA0.out.f 0 rfl
      have a1 := XA0.out.c 1 rfl
      have af1 := XA0.out.f 1 rfl
      have a2 := XA0.out.c 2 rfl
      have af2 := XA0.out.f 2 rfl
      have a3 := XA0.out.c 3 rfl
      have af3 := XA0.out.f 3 rfl
      have a4 := XA0.out.c 4 rfl
      have af4 := XA0.out.f 4 rfl
      have az := XA0.out.size
      have PD : w0.drew.cell? ⟨w.heap.size, 0, none⟩ = some (.int .i64 iv) ∧ w0.drew.cell? ⟨w.heap.size, 1, none⟩ = some (.int .i64 jv) ∧ w0.drew.cell? ⟨w.heap.size, 2, none⟩ = some (.int .i64 kv) ∧ w0.drew.cell? ⟨w.heap.size + 1, 0, none⟩ = some (.int .i64 kap) ∧ w0.drew.cell? ⟨w.heap.size + 1, 1, none⟩ = some (.bool false) ∧ w0.drew.cell? ⟨w.heap.size + 1, 2, none⟩ = some (.slice bo b.length bc) ∧ w0.drew.cell? ⟨w.heap.size + 1, 3, none⟩ = some (.slice so s.length sc) ∧ w0.drew.cell? ⟨w.heap.size + 1, 4, none⟩ = some (.slice ro r.length rc) := ⟨l0, l1, l2, a0, a1, a2, a3, a4⟩
      go_region_held3 (fun Y => Y.cell? ⟨w.heap.size, 0, none⟩ = some (.int .i64 iv) ∧ Y.cell? ⟨w.heap.size, 1, none⟩ = some (.int .i64 jv) ∧ Y.cell? ⟨w.heap.size, 2, none⟩ = some (.int .i64 kv) ∧ Y.cell? ⟨w.heap.size + 1, 0, none⟩ = some (.int .i64 kap) ∧ Y.cell? ⟨w.heap.size + 1, 1, none⟩ = some (.bool false) ∧ Y.cell? ⟨w.heap.size + 1, 2, none⟩ = some (.slice bo b.length bc) ∧ Y.cell? ⟨w.heap.size + 1, 3, none⟩ = some (.slice so s.length sc) ∧ Y.cell? ⟨w.heap.size + 1, 4, none⟩ = some (.slice ro r.length rc))
        (first | (with_reducible exact ⟨l0, l1, l2, a0, a1, a2, a3, a4⟩) | (with_reducible exact PD) | (with_reducible exact P1) | (with_reducible exact P2) | exact ⟨l0, l1, l2, a0, a1, a2, a3, a4⟩)
        (first
          | (go_at_call 60; refine (contains_is _ qo qc q iv w1 true hq2 (by exact F1.out.in) HB.out).mono ?_; rintro e w2 ⟨rfl, hy2⟩; have hb2 : Below w1.heap.size w1 w2 := (by rw [hy2]; exact Below.refl _ _); have hB2 : Below w.heap.size w w2 := hB1.trans (hb2.mono hB1.size); have hs2 : w.heap.size + 1 + 1 ≤ w2.heap.size := Nat.le_trans hs1 hb2.size; have hz2 : w1.heap.size ≤ w2.heap.size := hb2.size; have XL2 := hid (XL1.out.later hb2); have XA2 := hid (XA1.out.later hb2); have F2 := hid (F1.out.later hb2); have P2 := (⟨XL2.out.c 0 rfl, XL2.out.c 1 rfl, XL2.out.c 2 rfl, XA2.out.c 0 rfl, XA2.out.c 1 rfl, XA2.out.c 2 rfl, XA2.out.c 3 rfl, XA2.out.c 4 rfl⟩ : w2.cell? ⟨w.heap.size, 0, none⟩ = some (.int .i64 iv) ∧ w2.cell? ⟨w.heap.size, 1, none⟩ = some (.int .i64 jv) ∧ w2.cell? ⟨w.heap.size, 2, none⟩ = some (.int .i64 kv) ∧ w2.cell? ⟨w.heap.size + 1, 0, none⟩ = some (.int .i64 kap) ∧ w2.cell? ⟨w.heap.size + 1, 1, none⟩ = some (.bool false) ∧ w2.cell? ⟨w.heap.size + 1, 2, none⟩ = some (.slice bo b.length bc) ∧ w2.cell? ⟨w.heap.size + 1, 3, none⟩ = some (.slice so s.length sc) ∧ w2.cell? ⟨w.heap.size + 1, 4, none⟩ = some (.slice ro r.length rc)); have lg0 := XL2.out.c 0 rfl; have lh0 := XL2.out.f 0 rfl; have lg1 := XL2.out.c 1 rfl; have lh1 := XL2.out.f 1 rfl; have lg2 := XL2.out.c 2 rfl; have lh2 := XL2.out.f 2 rfl; have ag0 := XA2.out.c 0 rfl; have ah0 := XA2.out.f 0 rfl; have ag1 := XA2.out.c 1 rfl; have ah1 := XA2.out.f 1 rfl; have ag2 := XA2.out.c 2 rfl; have ah2 := XA2.out.f 2 rfl; have ag3 := XA2.out.c 3 rfl; have ah3 := XA2.out.f 3 rfl; have ag4 := XA2.out.c 4 rfl; have ah4 := XA2.out.f 4 rfl; clear hy2 hb2 )
          | (go_at_call 45; refine (idsIn_as kap false bo bc b so sc s ro rc r _ hlb hls hlr (by exact hz.later hB0.drew) q HQ.out).mono ?_; rintro e w1 ⟨⟨qo, qc, rfl, hF⟩, hy1⟩; have hb1 : Below w0.heap.size w0 w1 := (Below.refl w0.heap.size w0).drew.trans hy1; have hB1 : Below w.heap.size w w1 := hB0.trans (hb1.mono hB0.size); have hs1 : w.heap.size + 1 + 1 ≤ w1.heap.size := Nat.le_trans hs0 hb1.size; have hz1 : w0.heap.size ≤ w1.heap.size := hb1.size; have XL1 := hid (XL0.out.later hb1); have XA1 := hid (XA0.out.later hb1); simp only [World.size_drew] at hF; have F1 := hid (hF); have P1 := (⟨XL1.out.c 0 rfl, XL1.out.c 1 rfl, XL1.out.c 2 rfl, XA1.out.c 0 rfl, XA1.out.c 1 rfl, XA1.out.c 2 rfl, XA1.out.c 3 rfl, XA1.out.c 4 rfl⟩ : w1.cell? ⟨w.heap.size, 0, none⟩ = some (.int .i64 iv) ∧ w1.cell? ⟨w.heap.size, 1, none⟩ = some (.int .i64 jv) ∧ w1.cell? ⟨w.heap.size, 2, none⟩ = some (.int .i64 kv) ∧ w1.cell? ⟨w.heap.size + 1, 0, none⟩ = some (.int .i64 kap) ∧ w1.cell? ⟨w.heap.size + 1, 1, none⟩ = some (.bool false) ∧ w1.cell? ⟨w.heap.size + 1, 2, none⟩ = some (.slice bo b.length bc) ∧ w1.cell? ⟨w.heap.size + 1, 3, none⟩ = some (.slice so s.length sc) ∧ w1.cell? ⟨w.heap.size + 1, 4, none⟩ = some (.slice ro r.length rc)); clear hy1 hb1 hF))
      all_goals
        go_wp2
        go_ret
        exact ⟨ret_int HV.out.symm, hB2⟩
  · obtain ⟨w0, hw0⟩ : ∃ w0, w0 = ((w.alloc (.cells #[.int .i64 iv, .int .i64 jv, .int .i64 kv] 61)).alloc (.cells #[.int .i64 kap, .bool true, .slice bo b.length bc, .slice so s.length sc, .slice ro r.length rc] 30)) := ⟨_, rfl⟩
    have hB0 : Below w.heap.size w w0 := by rw [hw0]; exact Below.allocS (Below.allocS (Below.refl _ _) _) _
    have XL0 : Hid (Bx w0 (w.heap.size) [.int .i64 iv, .int .i64 jv, .int .i64 kv]) := by rw [hw0]; exact Bx.alloc (Bx.new [.int .i64 iv, .int .i64 jv, .int .i64 kv] _ rfl) _
    have XA0 : Hid (Bx w0 (w.heap.size + 1) [.int .i64 kap, .bool true, .slice bo b.length bc, .slice so s.length sc, .slice ro r.length rc]) := by rw [hw0]; exact Bx.new [.int .i64 kap, .bool true, .slice bo b.length bc, .slice so s.length sc, .slice ro r.length rc] _ (by simp)
    have H0 : Hid (w0 = ((w.alloc (.cells #[.int .i64 iv, .int .i64 jv, .int .i64 kv] 61)).alloc (.cells #[.int .i64 kap, .bool true, .slice bo b.length bc, .slice so s.length sc, .slice ro r.length rc] 30))) := hw0
    have hs0 : w.heap.size + 1 + 1 ≤ w0.heap.size := by rw [hw0]; simp
    clear hw0
    have HV : Hid (x = 2) := by rw [Hid, ← hx, refB, if_pos rfl]
    clear hx
    go_enter Try.func84, Try.ntmps84
    go_wp2
    go_ret
    exact ⟨ret_int HV.out.symm, below2 _ _ _⟩
end Go.Proofs.Ytafhidlianafhaa
