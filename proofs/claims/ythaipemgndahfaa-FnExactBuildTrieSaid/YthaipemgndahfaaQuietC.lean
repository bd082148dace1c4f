/- Regions that draw their order and whose calls make memory but hand back one value: walked once, in a class of worlds. -/
import Derived.Deep.QuietTactic
import Derived.BigQuiet
import Derived.Below
namespace Go.Proofs.Ythaipemgndahfaa
open Go.RowKit

/-- A world that fits p. -/
structure InC (p : World → Prop) where
  val : World
  ok : p val
theorem wp_region_class {P : Program} (p : World → Prop) {id : Nat} {Q : Exit → Act → World → Prop} {a : Act} {w : World} {l : List Oper} (hm : P.follows .mixedOrders = true) (hB : Region.lexB .any l.toArray = true) (hp : p w.drew)
    (h : wpQuiet P l.toArray (fun w' => ∃ u : InC p, w' = u.val) (fun a' => ∀ w', (∃ u : InC p, w' = u.val) → Q .normal a' w') l a) : (Code.region id l.toArray true).wp P Q a w :=
  wp_region_quiet (C := fun w' => ∃ u : InC p, w' = u.val) hm hB ⟨⟨w.drew, hp⟩, rfl⟩ (by simpa using h)
theorem call_class {P : Program} {p : World → Prop} {f : FuncId} {args : Array Value} {v : Value} {u : InC p} (h : Calls P f args u.val fun e w' => e = .returned v ∧ Below u.val.heap.size u.val w') (hp : ∀ w', Below u.val.heap.size u.val w' → p w') :
    Calls P f args u.val fun e w'' => e = .returned v ∧ ∃ u' : InC p, w'' = u'.val :=
  h.mono fun _ w' ⟨he, hb⟩ => ⟨he, ⟨⟨w', hp w' hb⟩, rfl⟩⟩
theorem call_class_same {P : Program} {p : World → Prop} {f : FuncId} {args : Array Value} {v : Value} {u : InC p} (h : Calls P f args u.val fun e w' => e = .returned v ∧ u.val = w') :
    Calls P f args u.val fun e w'' => e = .returned v ∧ ∃ u' : InC p, w'' = u'.val :=
  h.mono fun _ _ ⟨he, hb⟩ => ⟨he, ⟨u, hb.symm⟩⟩
end Go.Proofs.Ythaipemgndahfaa
