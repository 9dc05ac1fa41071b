
/- PutLetter: what is refused. No conditions but those written. -/
import Derived.Test.YtnnlbnbamhkcaaaEc
import Derived.Deep.Cut
namespace Go.Proofs.Ytnnlbnbamhkcaaa
open Go.RowKit

/-- The code with which a letter is refused. -/
def refB (kap : Int) (cl : Bool) (s r : List (Int × Int × Int)) (iv : Int) : Int := if cl = true then 2 else if hasB (idsOf s ++ idsOf r) iv = true then 5 else if (s.length : Int) + r.length = kap then 3 else 0
/-- PutLetter's answer. -/
def putR (kap : Int) (cl : Bool) (b : List Int) (s r : List (Int × Int × Int)) (iv jv : Int) : Int × Bool × List Int × List (Int × Int × Int) × List (Int × Int × Int) × Int := if goodX kap b s r = true then (if refB kap cl s r iv = 0 then (kap, cl, b, s ++ [(iv, jv, 0)], r, 0) else (kap, cl, b, s, r, refB kap cl s r iv)) else (0, false, [], [], [], 1)
theorem putR_bad {kap : Int} {cl : Bool} {b : List Int} {s r : List (Int × Int × Int)} {iv jv : Int} (h : goodX kap b s r = false) : putR kap cl b s r iv jv = (0, false, [], [], [], 1) := by rw [putR, if_neg]; rw [h]; simp
theorem putR_len {kap : Int} {cl : Bool} {b : List Int} {s r : List (Int × Int × Int)} {iv jv : Int} (h1 : b.length ≤ 1048576) (h2 : s.length ≤ 1048576) (h3 : r.length ≤ 1048576) : (putR kap cl b s r iv jv).2.2.1.length ≤ 1048576 ∧ (putR kap cl b s r iv jv).2.2.2.1.length ≤ 1048576 ∧ (putR kap cl b s r iv jv).2.2.2.2.1.length ≤ 1048576 := by
  unfold putR
  split
  · rename_i h
    have := goodX_good h
    split
    · refine ⟨h1, ?_, h3⟩
      show (s ++ [(iv, jv, (0 : Int))]).length ≤ 1048576
      simp; omega
    · exact ⟨h1, h2, h3⟩
  · simp
theorem idsIn_as (kap : Int) (cl : Bool) (bo : Option Addr) (bc : Nat) (b : List Int) (so : Option Addr) (sc : Nat) (s : List (Int × Int × Int)) (ro : Option Addr) (rc : Nat) (r : List (Int × Int × Int)) (w : World) (hlb : b.length ≤ 1048576) (hls : s.length ≤ 1048576) (hlr : r.length ≤ 1048576) (hz : InBox w.heap.size w bo b so s ro r) (q : List Int) (hq : idsOf s ++ idsOf r = q) : Calls Try.prog 18 #[.agg #[.int .i64 kap, .bool cl, .slice bo b.length bc, .slice so s.length sc, .slice ro r.length rc]] w fun e w' => AnsI w q e w' := by
  subst hq; exact idsIn_any kap cl bo bc b so sc s ro rc r w hlb hls hlr hz
theorem l6Ids_as (kap : Int) (cl : Bool) (bo : Option Addr) (bc : Nat) (b : List Int) (so : Option Addr) (sc : Nat) (s : List (Int × Int × Int)) (ro : Option Addr) (rc : Nat) (r : List (Int × Int × Int)) (w : World) (hlb : b.length ≤ 1048576) (hls : s.length ≤ 1048576) (hlr : r.length ≤ 1048576) (hz : InBox w.heap.size w bo b so s ro r) (q : List Int) (hq : idsOf s ++ idsOf r = q) : Calls Try.prog 31 #[.agg #[.int .i64 kap, .bool cl, .slice bo b.length bc, .slice so s.length sc, .slice ro r.length rc]] w fun e w' => AnsI w q e w' := by
  subst hq; exact l6Ids_any kap cl bo bc b so sc s ro rc r w hlb hls hlr hz
end Go.Proofs.Ytnnlbnbamhkcaaa
