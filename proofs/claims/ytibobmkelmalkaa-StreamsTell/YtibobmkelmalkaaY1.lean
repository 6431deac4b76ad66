/- The small functions of package exprs: kidsOf, together, isNull, wrongNode. -/
import Derived.Test.YtibobmkelmalkaaX0
import Derived.Test.YtibobmkelmalkaaPast
import Derived.Test.YtibobmkelmalkaaW2
namespace Go.Proofs.Ytibobmkelmalkaa
open Go.RowKit

/-- An expression as a value: its node, and where its kids lie. -/
abbrev exV (k : Int) (v : Vl) (c : Int) (a : Option Addr) (n cap : Nat) : Value :=
  .agg #[.int .i64 k, .int .i64 v.1, .int .i64 v.2.1, .string v.2.2, .int .i64 c, .slice a n cap]
abbrev agV (v : Vl) : Value := .agg #[.int .i64 v.1, .int .i64 v.2.1, .string v.2.2]

def togR (a b : Int) : Int × Int := resT (tog a b)
theorem togR_1 (a : Int) : togR a a = (a, 0) := by simp [togR, tog, resT]
theorem togR_2 (a : Int) : togR a 1 = (a, 0) := by simp [togR, tog, resT]
theorem togR_3 {b : Int} (h : ¬ b = 1) : togR 1 b = (b, 0) := by
  have h' : ¬ 1 = b := fun e => h e.symm
  simp [togR, tog, resT, h, h']
theorem togR_4 {a b : Int} (h1 : ¬ a = b) (h2 : ¬ b = 1) (h3 : ¬ a = 1) : togR a b = (0, 9) := by simp [togR, tog, resT, h1, h2, h3]
/-- An expression's six cells. -/
structure Six (W : World) (b off : Nat) (k : Int) (v : Vl) (c : Int) (a : Option Addr) (n cap : Nat) : Prop where
  c0 : W.cell? ⟨b, off, none⟩ = some (.int .i64 k)
  c1 : W.cell? ⟨b, off + 1, none⟩ = some (.int .i64 v.1)
  c2 : W.cell? ⟨b, off + 2, none⟩ = some (.int .i64 v.2.1)
  c3 : W.cell? ⟨b, off + 3, none⟩ = some (.string v.2.2)
  c4 : W.cell? ⟨b, off + 4, none⟩ = some (.int .i64 c)
  c5 : W.cell? ⟨b, off + 5, none⟩ = some (.slice a n cap)
theorem Six.next {W w1 : World} {B b off : Nat} {k : Int} {v : Vl} {c : Int} {a : Option Addr} {n cap : Nat} (h : Six W b off k v c a n cap) (hb : Below B W w1) (hB : b < B) : Six w1 b off k v c a n cap :=
  ⟨(hb.cell (p := ⟨b, _, none⟩) hB).trans h.c0, (hb.cell (p := ⟨b, _, none⟩) hB).trans h.c1, (hb.cell (p := ⟨b, _, none⟩) hB).trans h.c2, (hb.cell (p := ⟨b, _, none⟩) hB).trans h.c3, (hb.cell (p := ⟨b, _, none⟩) hB).trans h.c4, (hb.cell (p := ⟨b, _, none⟩) hB).trans h.c5⟩
theorem Six.new (w : World) (k : Int) (v : Vl) (c : Int) (a : Option Addr) (n cap t : Nat) : Six (w.alloc (.cells #[.int .i64 k, .int .i64 v.1, .int .i64 v.2.1, .string v.2.2, .int .i64 c, .slice a n cap] t)) w.heap.size 0 k v c a n cap :=
  ⟨by simp, by simp, by simp, by simp, by simp, by simp⟩

theorem nodeW_much {k : Int} {n : Nat} {m d : Int} (h : 200 < m ∨ 20 < d) : nodeW k n m d = 4 := by simp [nodeW, h]
theorem nodeW_kind {k : Int} {n : Nat} {m d : Int} (h : ¬ 200 < m) (h' : ¬ 20 < d) (h2 : k < 1 ∨ 18 < k) : nodeW k n m d = 1 := by simp [nodeW, h, h', h2]
theorem nodeW_many {k : Int} {n : Nat} {m d : Int} (h : ¬ 200 < m) (h' : ¬ 20 < d) (h2 : ¬ k < 1) (h3 : ¬ 18 < k) (h4 : ¬ n = kidsN k) : nodeW k n m d = 5 := by simp [nodeW, h, h', h2, h3, h4]
theorem nodeW_ok {k : Int} {n : Nat} {m d : Int} (h : ¬ 200 < m) (h' : ¬ 20 < d) (h2 : ¬ k < 1) (h3 : ¬ 18 < k) (h4 : n = kidsN k) : nodeW k n m d = 0 := by simp [nodeW, h, h', h2, h3, h4]

end Go.Proofs.Ytibobmkelmalkaa
