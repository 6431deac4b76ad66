/- A region that draws its order, whose operations read what was there when it began and whose callees make memory and write nothing that was there: one walk, in the order of the text, serves every order. -/
import Derived.WalkKit
import Derived.BigQuiet
namespace Go.Proofs.Ytbdhmjojamoafaa
open Go.RowKit

/-- The worlds in which all that lay in w lies as it did. -/
structure Past (w : World) where
  now : World
  ok : Below w.heap.size w now

theorem chain {w a b : World} (h : Below w.heap.size w a) (k : Below a.heap.size a b) : Below w.heap.size w b := h.trans (k.mono h.size)

theorem wp_region_past {P : Program} {id : Nat} {Q : Exit → Act → World → Prop} {a : Act} {w : World} {l : List Oper} (hm : P.follows .mixedOrders = true) (hB : Region.lexB .any l.toArray = true)
    (h : wpQuiet P l.toArray (fun w' => ∃ n : Past w, w' = n.now) (fun a' => ∀ w', (∃ n : Past w, w' = n.now) → Q .normal a' w') l a) : (Code.region id l.toArray true).wp P Q a w :=
  wp_region_quiet (C := fun w' => ∃ n : Past w, w' = n.now) hm hB ⟨⟨w.drew, (Below.refl _ _).drew⟩, rfl⟩ (by simpa using h)

theorem in_past {P : Program} {f : FuncId} {args : Array Value} {w : World} {n : Past w} {v : Value}
    (h : Calls P f args n.now fun e w' => e = .returned v ∧ Below n.now.heap.size n.now w') : Calls P f args n.now fun e w'' => e = .returned v ∧ ∃ m : Past w, w'' = m.now :=
  h.mono fun _ w' ⟨he, hb⟩ => ⟨he, ⟨w', chain n.ok hb⟩, rfl⟩
theorem in_past_same {P : Program} {f : FuncId} {args : Array Value} {w : World} {n : Past w} {v : Value}
    (h : Calls P f args n.now fun e w' => e = .returned v ∧ w' = n.now) : Calls P f args n.now fun e w'' => e = .returned v ∧ ∃ m : Past w, w'' = m.now :=
  h.mono fun _ _ ⟨he, hb⟩ => ⟨he, n, hb⟩

theorem past_cell {w : World} {p : Addr} {v : Value} (h : w.cell? p = some v) (n : Past w) : n.now.cell? p = some v :=
  (n.ok.cell (World.block_lt_of_cell? w p h)).trans h
end Go.Proofs.Ytbdhmjojamoafaa
