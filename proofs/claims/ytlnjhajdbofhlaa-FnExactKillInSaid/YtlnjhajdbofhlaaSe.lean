
/- A hub's copy as one fact; contracts with lengths of their own. No conditions but those written. -/
import Derived.Test.YtlnjhajdbofhlaaSd
import Derived.Test.YtlnjhajdbofhlaaKv
import Derived.Test.YtlnjhajdbofhlaaKn
import Derived.Test.YtlnjhajdbofhlaaKz
namespace Go.Proofs.Ytlnjhajdbofhlaa
open Go.RowKit

/-- A hub's channels in memory of their own. -/
def FrHub (lo hi : Nat) (W : World) (g n : Nat) (us : List LChan) : Prop := DFr dChan lo hi W (some ⟨g, 0, none⟩) n us
theorem FrHub.of {lo hi : Nat} {W : World} {g n : Nat} {us : List LChan} (h : DFr dChan lo hi W (some ⟨g, 0, none⟩) n us) : FrHub lo hi W g n us := h
theorem FrHub.later {lo hi : Nat} {W W' : World} {g n : Nat} {us : List LChan} (h : FrHub lo hi W g n us) (hb : Below W.heap.size W W') : FrHub lo hi W' g n us := DFr.later dChan_ok h hb
theorem FrHub.in {lo hi : Nat} {W : World} {g n : Nat} {us : List LChan} (h : FrHub lo hi W g n us) : DIn dChan W.heap.size W (some ⟨g, 0, none⟩) us := DFr.in dChan_ok h
theorem FrHub.between' {lo hi lo' hi' : Nat} {W W' : World} {g n : Nat} {us : List LChan} (h : FrHub lo hi W g n us) (hb : Between lo' hi' W W') (hd : hi ≤ lo' ∨ hi' ≤ lo) : FrHub lo hi W' g n us := DFr.between' dChan_ok h hb hd
theorem markHub_of (lo hi g n c : Nat) (us : List LChan) (k0 : Int) (w : World) (hn : us.length = n) (hl : us.length ≤ 1048576) (ht : totChan us ≤ 1048576) (hk0 : 0 ≤ k0) (hk1 : k0 ≤ 8000000) (hF : FrHub lo hi w g c us) :
    Calls Try.prog 39 #[.agg #[.slice (some ⟨g, 0, none⟩) n c], .int .i64 k0] w fun e w' => (∃ kk : Int, e = .returned (.int .i64 kk) ∧ k0 ≤ kk ∧ kk ≤ k0 + 5242880) ∧ Between lo hi w w' := by
  subst hn
  refine (markHub_any lo hi _ c us k0 w hl ht hk0 hk1 hF).mono ?_
  rintro e w' ⟨rfl, _, hb⟩
  have := endC_is k0 us
  exact ⟨⟨_, rfl, this.1, by omega⟩, hb⟩
theorem implReady_of (g n : Nat) (us ts : List LChan) (qo : Option Addr) (qc : Nat) (l : List (Int × Bool × Int)) (w : World) (hn : us.length = n) (hv : us.map valChan = ts.map valChan) (hl : ts.length ≤ 1048576) (ht : totChan ts ≤ 1048576) (hq : l.length ≤ 1048576) (hqc : l.length ≤ qc) (hz : DIn dChan w.heap.size w (some ⟨g, 0, none⟩) us) (hzq : kQ.In w.heap.size w qo l) :
    Calls Try.prog 37 #[.agg #[.slice (some ⟨g, 0, none⟩) n n], .slice qo l.length qc] w fun e w' => AnsQ w (readyR (ts.map valChan) l) e w' := by
  subst hn
  rw [← hv]
  exact implReady_any _ _ us qo qc l w (by rw [len_val hv]; exact hl) (by rw [tot_val hv]; exact ht) hq hqc hz hzq
theorem specReady_of (g n : Nat) (us ts : List LChan) (qo : Option Addr) (qc : Nat) (l : List (Int × Bool × Int)) (w : World) (hn : us.length = n) (hv : us.map valChan = ts.map valChan) (hl : ts.length ≤ 1048576) (ht : totChan ts ≤ 1048576) (hq : l.length ≤ 1048576) (hqc : l.length ≤ qc) (hz : DIn dChan w.heap.size w (some ⟨g, 0, none⟩) us) (hzq : kQ.In w.heap.size w qo l) :
    Calls Try.prog 36 #[.agg #[.slice (some ⟨g, 0, none⟩) n n], .slice qo l.length qc] w fun e w' => AnsQ w (readyR (ts.map valChan) l) e w' := by
  subst hn
  rw [← hv]
  exact specReady_any _ _ us qo qc l w (by rw [len_val hv]; exact hl) (by rw [tot_val hv]; exact ht) hq hqc hz hzq
end Go.Proofs.Ytlnjhajdbofhlaa
