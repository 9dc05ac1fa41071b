
/- ApplyChain: the contracts as the law's walk takes them. No conditions but those written. -/
import Derived.Test.YtnjnnilmelmmgaaTd
namespace Go.Proofs.Ytnjnnilmelmmgaa
open Go.RowKit

theorem chR_lenX {l : List (Int × Int × Int)} {v : Int} (_h : l.length ≤ 1048576) : (chR l v).1.length ≤ 1048576 := Nat.le_trans (chR_len l v) (by omega)
theorem implChainX (ao : Option Addr) (cap : Nat) (l : List (Int × Int × Int)) (v : Int) (w : World) (hl : l.length ≤ 1048576) (hz : kG.In w.heap.size w ao l) :
    Calls Try.prog 21 #[.slice ao l.length cap, .int .i64 v] w fun e w' => (∃ o c, e = .returned (.tuple #[.slice o (chR l v).1.length c, .bool (chR l v).2.1, .bool (chR l v).2.2]) ∧ kI.Fresh w.heap.size w'.heap.size w' o c (chR l v).1) ∧ Below w.heap.size w w' :=
  (implChain_any ao cap l v w hl hz).mono fun e w' h => ⟨(by obtain ⟨o, c, h1, _, h2⟩ := h.1; exact ⟨o, c, h1, h2⟩), h.2⟩
theorem specChainX (ao : Option Addr) (cap : Nat) (l : List (Int × Int × Int)) (v : Int) (w : World) (hl : l.length ≤ 1048576) (hz : kG.In w.heap.size w ao l) :
    Calls Try.prog 19 #[.slice ao l.length cap, .int .i64 v] w fun e w' => (∃ o c, e = .returned (.tuple #[.slice o (chR l v).1.length c, .bool (chR l v).2.1, .bool (chR l v).2.2]) ∧ kI.Fresh w.heap.size w'.heap.size w' o c (chR l v).1) ∧ Below w.heap.size w w' :=
  (specChain_any ao cap l v w hl hz).mono fun e w' h => ⟨(by obtain ⟨o, c, h1, _, h2⟩ := h.1; exact ⟨o, c, h1, h2⟩), h.2⟩
end Go.Proofs.Ytnjnnilmelmmgaa
