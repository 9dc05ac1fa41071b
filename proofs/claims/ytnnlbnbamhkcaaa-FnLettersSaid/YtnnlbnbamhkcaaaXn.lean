
/- The law's callees with their answers written out; its facts. No conditions but those written. -/
import Derived.Test.YtnnlbnbamhkcaaaXm
import Derived.Test.YtnnlbnbamhkcaaaEl
namespace Go.Proofs.Ytnnlbnbamhkcaaa
open Go.RowKit

theorem implTake_as (kap : Int) (cl : Bool) (bo : Option Addr) (bc : Nat) (b : List Int) (so : Option Addr) (sc : Nat) (s : List (Int × Int × Int)) (ro : Option Addr) (rc : Nat) (r : List (Int × Int × Int)) (Rk : Int) (Rcl : Bool) (Rb : List Int) (Rs Rr : List (Int × Int × Int)) (Rx R1 R2 R3 Rc : Int) (w : World) (hlb : b.length ≤ 1048576) (hls : s.length ≤ 1048576) (hlr : r.length ≤ 1048576) (hz : InBox w.heap.size w bo b so s ro r) (h : takeR kap cl b s r = (Rk, Rcl, Rb, Rs, Rr, Rx, R1, R2, R3, Rc)) :
    Calls Try.prog 5 #[.agg #[.int .i64 kap, .bool cl, .slice bo b.length bc, .slice so s.length sc, .slice ro r.length rc]] w fun e w' => (∃ bo bc so sc ro rc, e = .returned (.tuple #[.agg #[.int .i64 Rk, .bool Rcl, .slice bo Rb.length bc, .slice so Rs.length sc, .slice ro Rr.length rc], .int .i64 Rx, .agg #[.int .i64 R1, .int .i64 R2, .int .i64 R3], .int .i64 Rc]) ∧ FrBox w.heap.size w'.heap.size w' bo bc Rb so sc Rs ro rc Rr) ∧ Below w.heap.size w w' :=
  (implTake_any kap cl bo bc b so sc s ro rc r w hlb hls hlr hz).mono fun e w' hh => by rw [h] at hh; exact hh
theorem specTake_as (kap : Int) (cl : Bool) (bo : Option Addr) (bc : Nat) (b : List Int) (so : Option Addr) (sc : Nat) (s : List (Int × Int × Int)) (ro : Option Addr) (rc : Nat) (r : List (Int × Int × Int)) (Rk : Int) (Rcl : Bool) (Rb : List Int) (Rs Rr : List (Int × Int × Int)) (Rx R1 R2 R3 Rc : Int) (w : World) (hlb : b.length ≤ 1048576) (hls : s.length ≤ 1048576) (hlr : r.length ≤ 1048576) (hz : InBox w.heap.size w bo b so s ro r) (hwf : WfBox bo bc so sc ro rc) (h : takeR kap cl b s r = (Rk, Rcl, Rb, Rs, Rr, Rx, R1, R2, R3, Rc)) :
    Calls Try.prog 6 #[.agg #[.int .i64 kap, .bool cl, .slice bo b.length bc, .slice so s.length sc, .slice ro r.length rc]] w fun e w' => (∃ bo bc so sc ro rc, e = .returned (.tuple #[.agg #[.int .i64 Rk, .bool Rcl, .slice bo Rb.length bc, .slice so Rs.length sc, .slice ro Rr.length rc], .int .i64 Rx, .agg #[.int .i64 R1, .int .i64 R2, .int .i64 R3], .int .i64 Rc]) ∧ FrBox w.heap.size w'.heap.size w' bo bc Rb so sc Rs ro rc Rr) ∧ Below w.heap.size w w' :=
  (specTake_any kap cl bo bc b so sc s ro rc r w hlb hls hlr hz hwf).mono fun e w' hh => by rw [h] at hh; exact hh
theorem implGive_as (kap : Int) (cl : Bool) (bo : Option Addr) (bc : Nat) (b : List Int) (so : Option Addr) (sc : Nat) (s : List (Int × Int × Int)) (ro : Option Addr) (rc : Nat) (r : List (Int × Int × Int)) (Rk : Int) (Rcl : Bool) (Rb : List Int) (Rs Rr : List (Int × Int × Int)) (Rc : Int) (w : World) (hlb : b.length ≤ 1048576) (hls : s.length ≤ 1048576) (hlr : r.length ≤ 1048576) (hz : InBox w.heap.size w bo b so s ro r) (h : giveR kap cl b s r = (Rk, Rcl, Rb, Rs, Rr, Rc)) :
    Calls Try.prog 9 #[.agg #[.int .i64 kap, .bool cl, .slice bo b.length bc, .slice so s.length sc, .slice ro r.length rc]] w fun e w' => (∃ bo bc so sc ro rc, e = .returned (.tuple #[.agg #[.int .i64 Rk, .bool Rcl, .slice bo Rb.length bc, .slice so Rs.length sc, .slice ro Rr.length rc], .int .i64 Rc]) ∧ FrBox w.heap.size w'.heap.size w' bo bc Rb so sc Rs ro rc Rr) ∧ Below w.heap.size w w' :=
  (implGive2_any kap cl bo bc b so sc s ro rc r w hlb hls hlr hz).mono fun e w' hh => by rw [h] at hh; exact hh
theorem implDone_as (kap : Int) (cl : Bool) (bo : Option Addr) (bc : Nat) (b : List Int) (so : Option Addr) (sc : Nat) (s : List (Int × Int × Int)) (ro : Option Addr) (rc : Nat) (r : List (Int × Int × Int)) (iv : Int) (Rk : Int) (Rcl : Bool) (Rb : List Int) (Rs Rr : List (Int × Int × Int)) (Rc : Int) (w : World) (hlb : b.length ≤ 1048576) (hls : s.length ≤ 1048576) (hlr : r.length ≤ 1048576) (hz : InBox w.heap.size w bo b so s ro r) (h : doneR kap cl b s r iv = (Rk, Rcl, Rb, Rs, Rr, Rc)) :
    Calls Try.prog 11 #[.agg #[.int .i64 kap, .bool cl, .slice bo b.length bc, .slice so s.length sc, .slice ro r.length rc], .int .i64 iv] w fun e w' => (∃ bo bc so sc ro rc, e = .returned (.tuple #[.agg #[.int .i64 Rk, .bool Rcl, .slice bo Rb.length bc, .slice so Rs.length sc, .slice ro Rr.length rc], .int .i64 Rc]) ∧ FrBox w.heap.size w'.heap.size w' bo bc Rb so sc Rs ro rc Rr) ∧ Below w.heap.size w w' :=
  (implDone_any kap cl bo bc b so sc s ro rc r iv w hlb hls hlr hz).mono fun e w' hh => by rw [h] at hh; exact hh
theorem implIn_as (kap : Int) (cl : Bool) (bo : Option Addr) (bc : Nat) (b : List Int) (so : Option Addr) (sc : Nat) (s : List (Int × Int × Int)) (ro : Option Addr) (rc : Nat) (r : List (Int × Int × Int)) (q : List Int) (g : Bool) (w : World) (hlb : b.length ≤ 1048576) (hls : s.length ≤ 1048576) (hlr : r.length ≤ 1048576) (hz : InBox w.heap.size w bo b so s ro r) (h : lettersR kap b s r = (q, g)) :
    Calls Try.prog 7 #[.agg #[.int .i64 kap, .bool cl, .slice bo b.length bc, .slice so s.length sc, .slice ro r.length rc]] w fun e w' => (∃ qo qc, e = .returned (.tuple #[.slice qo q.length qc, .bool g]) ∧ kI.Fresh w.heap.size w'.heap.size w' qo qc q) ∧ Below w.heap.size w w' :=
  (implIn_any kap cl bo bc b so sc s ro rc r w hlb hls hlr hz).mono fun e w' hh => by rw [h] at hh; exact hh
/-- All that the law asks. -/
theorem letters_all {kap : Int} {cl : Bool} {b : List Int} {s r : List (Int × Int × Int)} {Rk : Int} {Rcl : Bool} {Rb : List Int} {Rs Rr : List (Int × Int × Int)} {Rx R1 R2 R3 : Int} (h : takeR kap cl b s r = (Rk, Rcl, Rb, Rs, Rr, Rx, R1, R2, R3, 0)) (hb : b.length = 0) :
    ∃ (q q2 q3 : List Int) (Gk : Int) (Gcl : Bool) (Gb : List Int) (Z N : List (Int × Int × Int)) (Ek : Int) (Ecl : Bool) (Eb : List Int) (Ds Dr : List (Int × Int × Int)), lettersR kap b s r = (q, true) ∧ lettersR Rk Rb Rs Rr = (q2, true) ∧ (q2.length : Int) = (q.length : Int) ∧ (∀ j, j < q.length → hasB q2 (el q j) = true) ∧ giveR Rk Rcl Rb Rs Rr = (Gk, Gcl, Gb, Z, N, 0) ∧ goodX Gk Gb Z N = true ∧ (Z.length : Int) = (q.length : Int) ∧ (N.length : Int) = 0 ∧ doneR Rk Rcl Rb Rs Rr R1 = (Ek, Ecl, Eb, Ds, Dr, 0) ∧ lettersR Ek Eb Ds Dr = (q3, true) ∧ (q3.length : Int) = (q.length : Int) - 1 ∧ hasB q3 R1 = false ∧ q.length ≤ 30 ∧ Gb.length ≤ 30 ∧ Eb.length ≤ 30 ∧ Ds.length ≤ 30 ∧ Dr.length ≤ 30 := by
  obtain ⟨t0, P, rfl, hg, e⟩ := take_was (cl := cl) (by rw [h]) hb
  rw [h] at e
  simp only [Prod.mk.injEq] at e
  obtain ⟨rfl, rfl, rfl, rfl, rfl, rfl, rfl, rfl, rfl, _⟩ := e
  have hl := goodX_good hg
  have h4 := hl.2.2.2.1
  have hc : (t0 :: Rs).length = Rs.length + 1 := rfl
  have h5 : (idsOf (t0 :: Rs) ++ idsOf r).length = Rs.length + 1 + r.length := by simp [idsOf]; omega
  have h7 := done_len (t0 := t0) (P := Rs) (r := r)
  have h8 := taken_len (t0 := t0) (P := Rs) (r := r)
  refine ⟨_, _, _, _, _, _, _, _, _, _, _, _, _, lettersR_of hg, lettersR_of (taken_good hg), by omega, ?_, giveR_of (taken_good hg), back_good (taken_good hg), ?_, rfl, doneR_of hg, lettersR_of (done_good hg), by omega, done_off hg, by omega, by omega, by omega, by omega, by omega⟩
  · intro j hj
    exact taken_ids _ (el_mem hj)
  · rw [h5]; simp; omega
end Go.Proofs.Ytnnlbnbamhkcaaa
