
/- A region that draws its order, whose operations only read and whose callees read and make: walked once, in whatever later world. No conditions but those written. -/
import Derived.Test.YtimkadnnhfllnaaBx
import Derived.BigQuiet
namespace Go.Proofs.Ytimkadnnhfllnaa
open Go.RowKit

/-- A world in which all that V holds stands as it stood. -/
structure Later (V : World) where
  w : World
  h : Below V.heap.size V w
theorem later_some (V : World) : Nonempty (Later V) := ⟨⟨V, Below.refl _ _⟩⟩
theorem wp_region_later (V : World) {id : Nat} {Q : Exit → Act → World → Prop} {a : Act} {w : World} {l : List Oper} (hm : Try.prog.follows .mixedOrders = true) (hB : Region.lexB .any l.toArray = true) (hw : Below V.heap.size V w)
    (h : wpQuiet Try.prog l.toArray (fun w' => ∃ W : Later V, w' = W.w) (fun a' => ∀ w', (∃ W : Later V, w' = W.w) → Q .normal a' w') l a) : (Code.region id l.toArray true).wp Try.prog Q a w :=
  wp_region_quiet (C := fun w' => ∃ W : Later V, w' = W.w) hm hB ⟨⟨_, hw.drew⟩, rfl⟩ (by simpa using h)
theorem Later.cell {V : World} {p : Addr} {v : Value} (h : V.cell? p = some v) (hp : p.block < V.heap.size) (W : Later V) : W.w.cell? p = some v := (W.h.cell hp).trans h
theorem Bx.at {V : World} {p : Nat} {us : List Value} (h : Bx V p us) (i : Nat) {v : Value} (e : us[i]? = some v) (W : Later V) : W.w.cell? ⟨p, i, none⟩ = some v := (h.later W.h).c i e
theorem Calls.later {V : World} {W : Later V} {f : FuncId} {args : Array Value} {v : Value} (h : Calls Try.prog f args W.w fun e w' => e = .returned v ∧ Below W.w.heap.size W.w w') : Calls Try.prog f args W.w fun e w'' => e = .returned v ∧ ∃ W' : Later V, w'' = W'.w :=
  h.mono fun _ w2 ⟨he, hb⟩ => ⟨he, ⟨w2, W.h.trans (hb.mono W.h.size)⟩, rfl⟩
theorem Calls.later_same {V : World} {W : Later V} {f : FuncId} {args : Array Value} {v : Value} (h : Calls Try.prog f args W.w fun e w' => e = .returned v ∧ w' = W.w) : Calls Try.prog f args W.w fun e w'' => e = .returned v ∧ ∃ W' : Later V, w'' = W'.w :=
  h.mono fun _ _ ⟨he, hb⟩ => ⟨he, W, hb⟩
end Go.Proofs.Ytimkadnnhfllnaa
