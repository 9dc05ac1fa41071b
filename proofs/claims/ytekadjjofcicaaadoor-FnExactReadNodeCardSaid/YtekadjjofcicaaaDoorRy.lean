
/- A drawn region by hand: where two may come up. No conditions but those written. -/
import Derived.Test.YtekadjjofcicaaaDoorRz
namespace Go.Proofs.YtekadjjofcicaaaDoor
open Go Go.RowKit

section
variable {P : Program} {ops : Array Oper} {Q : Exit → Act → World → Prop} {md : Region.Mode} {S : World → Prop} {zs : Nat → Bool}
theorem Walks.pair {n i j : Nat} {ls : Array Bool} {a : Act} {w : World} {o o2 : Oper} (hr : Region.ready md ops ls = [i, j]) (ho : ops[i]? = some o) (ho2 : ops[j]? = some o2)
    (h : ∀ K : Act → World → Prop, Shut (∀ b y, (zs i = false → S y) → ((zs i = false → S y) → Walks P md ops Q S zs n (ls.setIfInBounds i true) b y) → K b y) → if Region.wanted o (yielded ops a.tmps) = true then Oper.wp P o a w K Q else K (a.put o.dst undef) w)
    (h2 : ∀ K : Act → World → Prop, Shut (∀ b y, (zs j = false → S y) → ((zs j = false → S y) → Walks P md ops Q S zs n (ls.setIfInBounds j true) b y) → K b y) → if Region.wanted o2 (yielded ops a.tmps) = true then Oper.wp P o2 a w K Q else K (a.put o2.dst undef) w) : Walks P md ops Q S zs (n + 1) ls a w :=
  ⟨fun e => (by rw [hr] at e; cases e), fun k hk => by
    rw [hr] at hk
    rcases List.mem_cons.1 hk with rfl | hk
    · exact wpOp_step ho fun K hK => h K fun b y h1 h2 => hK b y ⟨h1, h2 h1⟩
    · obtain rfl := List.mem_singleton.1 hk
      exact wpOp_step ho2 fun K hK => h2 K fun b y h1 h3 => hK b y ⟨h1, h3 h1⟩⟩
end
end Go.Proofs.YtekadjjofcicaaaDoor
