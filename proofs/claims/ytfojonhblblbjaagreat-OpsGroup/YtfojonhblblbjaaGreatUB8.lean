/- Together: S6, J8, J9, J10, S7, S8, S9, G1, G2. -/
import Derived.Shelf.Lay
import Derived.Test.YtfojonhblblbjaaGreatUB0
import Derived.Test.YtfojonhblblbjaaGreatUB7
/- Rows with keys, in the order of their keys, plainly; and in memory. -/
namespace Go.Proofs.YtfojonhblblbjaaGreat
open Go.RowKit Go.Lib Go.Shelf

/-- Keys, and a row with its weight. -/
abbrev Kp : Type := List Vl × Zp
/-- x stands ahead of y: its keys do, or they are the same, and its row does. -/
def StK (x y : Kp) : Prop := cmpL x.1 y.1 < 0 ∨ (cmpL x.1 y.1 = 0 ∧ cmpL x.2.1 y.2.1 < 0)
instance (x y : Kp) : Decidable (StK x y) := by unfold StK; exact inferInstance
theorem StK.trans {x y z : Kp} (h1 : StK x y) (h2 : StK y z) : StK x z := by
 rcases h1 with h1 | ⟨h1, g1⟩
 ·rcases h2 with h2 | ⟨h2, _⟩
  ·exact .inl (cmpL_lt_le h1 (by omega))
  ·exact .inl (cmpL_lt_le h1 (by omega))
 ·rcases h2 with h2 | ⟨h2, g2⟩
  ·exact .inl (cmpL_le_lt (by omega) h2)
  ·refine .inr ⟨?_, cmpL_lt_le g1 (by omega)⟩
   have a1 := cmpL_trans x.1 y.1 z.1 (by omega) (by omega)
   have n1 := cmpL_neg x.1 y.1
   have n2 := cmpL_neg y.1 z.1
   have n3 := cmpL_neg x.1 z.1
   have a2 := cmpL_trans z.1 y.1 x.1 (by omega) (by omega)
   omega
theorem StK.not {x y : Kp} (h1 : StK x y) (h2 : StK y x) : False := by
 have n1 := cmpL_neg x.1 y.1
 have n2 := cmpL_neg x.2.1 y.2.1
 rcases h1 with h1 | ⟨h1, g1⟩ <;> rcases h2 with h2 | ⟨h2, g2⟩ <;> omega
def insK (x : Kp) : List Kp → List Kp
 | [] => [x]
 | y :: r => if StK x y then x :: y :: r else y :: insK x r
def ordK : List Kp → List Kp
 | [] => []
 | x :: r => insK x (ordK r)
theorem insK_perm (x : Kp) : ∀ l, (insK x l).Perm (x :: l)
 | [] => List.Perm.refl _
 | y :: r => by
  unfold insK
  split
  ·exact List.Perm.refl _
  ·exact ((insK_perm x r).cons y).trans (List.Perm.swap x y r)
theorem ordK_perm : ∀ l, (ordK l).Perm l
 | [] => List.Perm.refl _
 | x :: r => (insK_perm x (ordK r)).trans ((ordK_perm r).cons x)
theorem insK_sorted (x : Kp) : ∀ l, l.Pairwise StK → (∀ y ∈ l, StK x y ∨ StK y x) → (insK x l).Pairwise StK
 | [], _, _ => by simp [insK]
 | y :: r, h, ht => by
  obtain ⟨h1, h2⟩ := List.pairwise_cons.1 h
  unfold insK
  split
  ·rename_i c
   exact List.pairwise_cons.2 ⟨fun z hz => by
    rcases List.mem_cons.1 hz with rfl | hz
    ·exact c
    ·exact c.trans (h1 z hz), h⟩
  ·rename_i c
   have c' : StK y x := by rcases ht y (by simp) with h | h; exact absurd h c; exact h
   exact List.pairwise_cons.2 ⟨fun z hz => by
    rcases List.mem_cons.1 ((insK_perm x r).mem_iff.1 hz) with rfl | hz
    ·exact c'
    ·exact h1 z hz, insK_sorted x r h2 fun z hz => ht z (by simp [hz])⟩
theorem ordK_sorted : ∀ l, l.Pairwise (fun x y => StK x y ∨ StK y x) → (ordK l).Pairwise StK
 | [], _ => List.Pairwise.nil
 | x :: r, h => by
  obtain ⟨h1, h2⟩ := List.pairwise_cons.1 h
  exact insK_sorted x _ (ordK_sorted r h2) fun y hy => h1 y ((ordK_perm r).mem_iff.1 hy)
theorem sorted_uniq : ∀ (l1 l2 : List Kp), l1.Perm l2 → l1.Pairwise StK → l2.Pairwise StK → l1 = l2
 | [], l2, p, _, _ => (List.Perm.nil_eq p)
 | x :: t, [], p, _, _ => by have := p.length_eq; simp at this
 | x :: t, y :: s, p, h1, h2 => by
  obtain ⟨a1, a2⟩ := List.pairwise_cons.1 h1
  obtain ⟨b1, b2⟩ := List.pairwise_cons.1 h2
  have e : x = y := by
   by_cases e : x = y
   ·exact e
   ·exfalso
    have hx : x ∈ s := by
     rcases List.mem_cons.1 (p.mem_iff.1 (List.mem_cons_self)) with h | h
     ·exact absurd h e
     ·exact h
    have hy : y ∈ t := by
     rcases List.mem_cons.1 (p.mem_iff.2 (List.mem_cons_self)) with h | h
     ·exact absurd h.symm e
     ·exact h
    exact StK.not (a1 y hy) (b1 x hx)
  subst e
  rw [sorted_uniq t s (List.Perm.cons_inv p) a2 b2]
/-- The rows of a set that are there, with their keys. -/
def withK (xs : List Ex) (z : List Zp) : List Kp := (z.filter fun p => decide (0 < p.2)).map fun p => (rowX xs p.1, p)
def inOrd (xs : List Ex) (z : List Zp) : List Kp := ordK (withK xs z)
theorem withK_rise {xs : List Ex} {z : List Zp} (h : Rise z) : (withK xs z).Pairwise fun x y => cmpL x.2.1 y.2.1 < 0 := by
 unfold withK
 rw [List.pairwise_map]
 exact List.Pairwise.filter _ h
theorem withK_len (xs : List Ex) (z : List Zp) : (withK xs z).length ≤ z.length := by
 unfold withK
 rw [List.length_map]
 exact List.length_filter_le _ _
theorem inOrd_perm (xs : List Ex) (z : List Zp) : (inOrd xs z).Perm (withK xs z) := ordK_perm _
theorem inOrd_sorted {xs : List Ex} {z : List Zp} (h : Rise z) : (inOrd xs z).Pairwise StK := ordK_sorted _ ((withK_rise h).imp fun {x y} hr => by
 have n := cmpL_neg x.1 y.1
 by_cases c1 : cmpL x.1 y.1 < 0
 ·exact .inl (.inl c1)
 ·by_cases c2 : cmpL x.1 y.1 = 0
  ·exact .inl (.inr ⟨c2, hr⟩)
  ·exact .inr (.inl (by omega)))
theorem inOrd_len (xs : List Ex) (z : List Zp) : (inOrd xs z).length ≤ z.length := by rw [(inOrd_perm xs z).length_eq]; exact withK_len xs z

/-! ### In memory -/
structure ElK (W : World) (b o : Nat) (x : Kp) : Prop where
 w : W.cell? ⟨b, o + 2, none⟩ = some (.int .i64 x.2.2)
 r : ∃ ra rc, W.cell? ⟨b, o + 1, none⟩ = some (.slice ra x.2.1.length rc) ∧ SlAt W ra x.2.1
 k : ∃ ka kc, W.cell? ⟨b, o, none⟩ = some (.slice ka x.1.length kc) ∧ SlAt W ka x.1
def KdAt (W : World) (a : Option Addr) (l : List Kp) : Prop := l = [] ∨ ∃ b off, a = some ⟨b, off, none⟩ ∧ b < W.heap.size ∧ ∀ i (hi : i < l.length), ElK W b (off + i * 3) l[i]
theorem ElK.next {W w1 : World} {b o : Nat} {x : Kp} (h : ElK W b o x) (hlt : b < W.heap.size) (hb : Below W.heap.size W w1) : ElK w1 b o x := by
 obtain ⟨h1, ⟨ra, rc, h2, h3⟩, ka, kc, h4, h5⟩ := h
 exact ⟨(hb.cell (p := ⟨b, _, none⟩) hlt).trans h1, ⟨ra, rc, (hb.cell (p := ⟨b, _, none⟩) hlt).trans h2, h3.next hb⟩, ka, kc, (hb.cell (p := ⟨b, _, none⟩) hlt).trans h4, h5.next hb⟩
theorem KdAt.next {W w1 : World} {a : Option Addr} {l : List Kp} (h : KdAt W a l) (hb : Below W.heap.size W w1) : KdAt w1 a l := by
 rcases h with h | ⟨b, off, e, hlt, hr⟩
 ·exact .inl h
 ·exact .inr ⟨b, off, e, Nat.lt_of_lt_of_le hlt hb.size, fun i hi => (hr i hi).next hlt hb⟩
theorem KdAt.elem {W : World} {a : Option Addr} {l : List Kp} (h : KdAt W a l) {k : Nat} (hk : k < l.length) : ∃ b off, a = some ⟨b, off, none⟩ ∧ b < W.heap.size ∧ ElK W b (off + k * 3) l[k] := by
 rcases h with h | ⟨b, off, e, hlt, hr⟩
 ·subst h; simp at hk
 ·exact ⟨b, off, e, hlt, hr k hk⟩

/-- Keys and a row, and where they lie. -/
structure Kr where
 ka : Option Addr
 kc : Nat
 keys : List Vl
 ra : Option Addr
 rc : Nat
 row : List Vl
 w : Int
/-- A slice that lies in another block than g. -/
def Off (g : Nat) (a : Option Addr) (l : List Vl) : Prop := l = [] ∨ ∀ b off, a = some ⟨b, off, none⟩ → b ≠ g
abbrev Kg (w : World) (g : Nat) : Type := { x : Kr // (SlAt w x.ka x.keys ∧ Off g x.ka x.keys) ∧ SlAt w x.ra x.row ∧ Off g x.ra x.row }
instance (w : World) (g : Nat) : Inhabited (Kg w g) := ⟨⟨⟨none, 0, [], none, 0, [], 0⟩, ⟨⟨by simp, .inl rfl⟩, .inl rfl⟩, ⟨by simp, .inl rfl⟩, .inl rfl⟩⟩
section
variable (w : World) (g : Nat)
def encK (x : Kg w g) : List Value := [.slice x.1.ka x.1.keys.length x.1.kc, .slice x.1.ra x.1.row.length x.1.rc, .int .i64 x.1.w]
def cfK (x y : Kg w g) : Int := cmpL x.1.keys y.1.keys
def preK (x y : Kg w g) : Prop := cmpL x.1.row y.1.row < 0
def plK (x : Kg w g) : Kp := (x.1.keys, x.1.row, x.1.w)
theorem ordrK : Ordr (cfK w g) (preK w g) where
 neg x y := by have := cmpL_neg x.1.keys y.1.keys; unfold cfK; omega
 trans x y z h1 h2 := cmpL_trans _ _ _ h1 h2
 ptrans x y z h1 h2 := cmpL_lt_le h1 (by unfold preK at h2; omega)
end
theorem sort_block {α : Type} [Inhabited α] (enc : α → List Value) (k : Nat) (w : World) (blk off m : Nat) (dk : Array α) (os : Array Obj) {j : Nat} (hj : j < w.heap.size) (hne : j ≠ blk) : (sortWorldK enc k w blk off m dk os).heap[j]? = w.heap[j]? := by
 show ((Go.Sort.mapBlock _ _ _).heap ++ os)[j]? = _
 rw [Array.getElem?_append_left (by simp [Go.Sort.mapBlock, Go.Sort.ahead]; omega)]
 simp only [Go.Sort.mapBlock, Go.Sort.ahead, Array.getElem?_modify]
 rw [if_neg (by omega)]
theorem sl_sort {α : Type} [Inhabited α] {enc : α → List Value} {k : Nat} {w w' : World} {blk off : Nat} {dk : Array α} {a : Option Addr} {l : List Vl} (h : SlAt w a l) (ho : Off blk a l) (hS : SWK enc k w blk off dk w') : SlAt w' a l := by
 have hle := hS.le
 obtain ⟨m, os, rfl⟩ := hS
 refine ⟨h.1, ?_⟩
 rcases ho with ho | ho
 ·exact .inl ho
 rcases h.2 with h | ⟨b, o, e, hr, hlt⟩
 ·exact .inl h
 ·refine .inr ⟨b, o, e, fun i hi => ?_, Nat.lt_of_lt_of_le hlt hle⟩
  have k := sort_block enc k w blk off m dk os hlt (ho b o e)
  obtain ⟨c0, c1, c2⟩ := hr i hi
  exact ⟨(World.cell?_of_block (a := ⟨b, _, none⟩) k).trans c0, (World.cell?_of_block (a := ⟨b, _, none⟩) k).trans c1, (World.cell?_of_block (a := ⟨b, _, none⟩) k).trans c2⟩
theorem below_sort {α : Type} [Inhabited α] {enc : α → List Value} {k : Nat} {w0 w w' : World} {blk off : Nat} {dk : Array α} (hb : Below w0.heap.size w0 w) (hk : w0.heap.size ≤ blk) (hS : SWK enc k w blk off dk w') : Below w0.heap.size w0 w' := by
 obtain ⟨m, os, rfl⟩ := hS
 exact below_sortWorld hb hk

set_option maxRecDepth 100000 in
set_option maxHeartbeats 1000000 in
theorem inOrder1_at (ka ra ka' ra' : Option Addr) (kc rc kc' rc' : Nat) (x x' : Int) (l l' r r' : List Vl) (w : World) (h : SlAt w ka l) (h' : SlAt w ka' l') :
  Calls Tryz.prog 83 #[.agg #[.slice ka l.length kc, .slice ra r.length rc, .int .i64 x], .agg #[.slice ka' l'.length kc', .slice ra' r'.length rc', .int .i64 x']] w fun e w' => e = .returned (.int .i64 (cmpL l l')) ∧ ∃ q os', w' = Go.Sort.grow (w.drewN q) os' := by
 have b2 : Below w.heap.size w ((w.alloc (.cells #[.slice ka l.length kc, .slice ra r.length rc, .int .i64 x] 73)).alloc (.cells #[.slice ka' l'.length kc', .slice ra' r'.length rc', .int .i64 x'] 73)) := ((Below.refl _ _).alloc (Nat.le_refl _) _).alloc (by simp) _
 go_enter Tryz.func83, Tryz.ntmps83
 go_wp2_with fail
 refine (rows_d _ _ _ _ _ _ _ (h.next b2) (h'.next b2)).mono ?_
 rintro e w1 ⟨rfl, hb1, hd1⟩
 go_wp2_with fail
 go_ret
 exact ⟨rfl, grow_of_below (chain b2 hb1) hd1⟩
theorem cmpLaysK (w : World) (blk off size : Nat) : CmpLays Tryz.prog 83 #[] (encK w blk) 3 (cfK w blk) blk off size w :=
 fun m os _ _ x y => inOrder1_at _ _ _ _ _ _ _ _ _ _ _ _ _ _ _ (sl_sort x.2.1.1 x.2.1.2 ⟨m, os, rfl⟩) (sl_sort y.2.1.1 y.2.1.2 ⟨m, os, rfl⟩)
end Go.Proofs.YtfojonhblblbjaaGreat
namespace Go.Proofs
open Go.Shelf Go.RowKit Go.Lib
shelf_lay_g SlLaysF0.n20 Slsf 20 at Tryz 153 as Tryz.insK
end Go.Proofs
namespace Go.Proofs.YtfojonhblblbjaaGreat
open Go.RowKit Go.Lib Go.Shelf Go.Sort

theorem insAtK (wS : World) (blk off cap : Nat) (d : Array (Kg wS blk)) (R : RowK (encK wS blk) 3 wS blk off d) (hsz : d.size ≤ 1000000) : InsAt Tryz.prog 3 (encK wS blk) (cfK wS blk) 83 #[] blk off cap d wS := fun a b dk w hs S hab hbd => by
 have eg : ∀ args w, (callFunc 83 args).run Tryz.prog w = .ok (.enter 83 args) w := enters_of Tryz.func83 (by kernel_rfl) rfl
 have hH := S.holds R.hblk R.hH hs.symm
 have hC : CmpLays Tryz.prog 83 #[] (encK wS blk) 3 (cfK wS blk) blk off dk.size w := fun m os dj hj x y => by
  have S2 := S.on R.hblk m dj os hj
  exact inOrder1_at _ _ _ _ _ _ _ _ _ _ _ _ _ _ _ (sl_sort x.2.1.1 x.2.1.2 S2) (sl_sort y.2.1.1 y.2.1.2 S2)
 refine (AnyQ.insertionSortCmpFunc Tryz.insK 3 Tryz.isAgg73 Tryz.sizeOf73 (encK wS blk) R.hk R.h1 (cfK wS blk) 83 #[] blk off cap a b dk w eg hC hH (S.lt R.hblk) hab hbd (by omega)).mono ?_
 rintro e w' ⟨rfl, n, os, rfl⟩
 refine ⟨rfl, S.on R.hblk _ _ _ ?_⟩
 exact (insertionS (pre := fun _ _ => True) ⟨(ordrK wS blk).neg, (ordrK wS blk).trans, fun _ _ _ _ _ => trivial⟩ a b dk hab hbd (fun _ _ _ _ _ => trivial)).1.1
end Go.Proofs.YtfojonhblblbjaaGreat
/- The walk of ops.joined. -/
namespace Go.Proofs.YtfojonhblblbjaaGreat
open Go.RowKit Go.Lib Go.Shelf

/-- What is handed on of two sets, with the room and its variable named. -/
def PairsIn (cols : List Int) (x : Ex) (w0 wp : World) (a b : Option Addr) (ca cb : Nat) (l r : List Zp) (v : Value) (R rv : Nat) : Prop :=
 ∃ (lo : Nat) (wc : World) (hv : Nat) (u : Value), v = .agg #[.slice a l.length ca, .slice b r.length cb, .func (.func 159) #[] #[.pointer (some ⟨rv, 0, none⟩), .pointer (some ⟨hv, 0, none⟩)]] ∧
  PNew wp R rv ∧ hv < R ∧ wp.cell? ⟨hv, 0, none⟩ = some u ∧ Conds cols lo u x wc ∧ wc.heap.size ≤ R ∧ Since lo wc wp ∧ w0.heap.size ≤ R ∧ Below w0.heap.size w0 wp
/-- All pairs of two sets may be asked. -/
structure Askable (cols : List Int) (l r : List Zp) : Prop where
 ll : l.length ≤ 400
 rl : r.length ≤ 400
 row : ∀ p ∈ l, ∀ q ∈ r, p.1.length + q.1.length ≤ 8
 fit : ∀ p ∈ l, ∀ q ∈ r, FitP cols (p.1 ++ q.1)
 mul : ∀ p ∈ l, ∀ q ∈ r, -1000000000000 ≤ p.2 * q.2 ∧ p.2 * q.2 ≤ 1000000000000

end Go.Proofs.YtfojonhblblbjaaGreat
/- The walk of ops.ofPairs. -/
namespace Go.Proofs.YtfojonhblblbjaaGreat
open Go.RowKit Go.Lib Go.Shelf

theorem PairsIn.later {cols : List Int} {x : Ex} {w0 wp W : World} {a b : Option Addr} {ca cb : Nat} {l r : List Zp} {v : Value} {R rv : Nat} (h : PairsIn cols x w0 wp a b ca cb l r v R rv) (hI : PInv wp R rv wp) (hb : Below wp.heap.size wp W) : PairsIn cols x w0 W a b ca cb l r v R rv ∧ PInv W R rv W := by
 obtain ⟨lo, wc, hv, u, e, hn, h2, h3, h4, h5, h6, h7, h8⟩ := h
 have hr := hn.r
 have hrv := hn.v
 have hI' := hI.later hn (Nat.le_refl _) hb
 have z := hb.size
 exact ⟨⟨lo, wc, hv, u, e, ⟨hr, by omega⟩, h2, (hb.cell (p := ⟨hv, 0, none⟩) (by show hv < _; omega)).trans h3, h4, h5, h6.trans (Since.of hb), h7, chain h8 hb⟩, ⟨rfl, rfl, rfl, Nat.le_refl _, fun _ _ _ _ => rfl, hI'.var, hI'.warm, hI'.room⟩⟩
theorem PairsIn.down {cols : List Int} {x : Ex} {w w0 wp : World} {a b : Option Addr} {ca cb : Nat} {l r : List Zp} {v : Value} {R rv : Nat} (h : PairsIn cols x w0 wp a b ca cb l r v R rv) (hb : Below w.heap.size w w0) : PairsIn cols x w wp a b ca cb l r v R rv := by
 obtain ⟨lo, wc, hv, u, e, hn, h2, h3, h4, h5, h6, h7, h8⟩ := h
 exact ⟨lo, wc, hv, u, e, hn, h2, h3, h4, h5, h6, Nat.le_trans hb.size h7, chain hb h8⟩
end Go.Proofs.YtfojonhblblbjaaGreat
/- The walks of slices.IndexFunc and slices.ContainsFunc over rows, and of ops.isMatched. -/
namespace Go.Proofs.YtfojonhblblbjaaGreat
open Go.RowKit Go.Lib Go.Shelf

theorem isThere_at (ra : Option Addr) (n rc : Nat) (x : Int) (w : World) :
  Calls Tryz.prog 81 #[.agg #[.slice ra n rc, .int .i64 x]] w fun e w' => e = .returned (.bool (decide (0 < x))) ∧ Below w.heap.size w w' := by
 go_enter Tryz.func81, Tryz.ntmps81
 go_wp2_with fail
 go_ret
 exact ⟨rfl, (Below.refl _ _).alloc (Nat.le_refl _) _⟩

end Go.Proofs.YtfojonhblblbjaaGreat
/- The walk of ops.inOrder: rows with keys, gathered and sorted. -/
namespace Go.Proofs.YtfojonhblblbjaaGreat
open Go.RowKit Go.Lib Go.Shelf

/-- Rows with keys in a slice of one's own: the keys' values lie in blocks of values, the rows' in w0. -/
def EncK (w0 W : World) (xs : List Value) (l : List Kp) : Prop := xs.length = l.length * 3 ∧ ∀ i (hi : i < l.length), ∃ ka kc ra rc, xs[i * 3]? = some (.slice ka l[i].1.length kc) ∧ xs[i * 3 + 1]? = some (.slice ra l[i].2.1.length rc) ∧ xs[i * 3 + 2]? = some (.int .i64 l[i].2.2) ∧ (SlAt W ka l[i].1 ∧ TyAt W ka) ∧ SlAt w0 ra l[i].2.1
def OwnK (w0 : World) (base : Nat) (W : World) (v : Value) (l : List Kp) : Prop := ∃ xs, W.ownsRow base 73 3 v l.length xs ∧ EncK w0 W xs l
theorem OwnK.nil (w0 : World) (base : Nat) (W : World) : OwnK w0 base W (.slice none 0 0) [] := ⟨[], by simpa using World.ownsRow_nil _ _ _ _, rfl, fun i hi => by simp at hi⟩
theorem EncK.next {w0 W w1 : World} {xs : List Value} {l : List Kp} (h : EncK w0 W xs l) (hb : Below W.heap.size W w1) : EncK w0 w1 xs l := by
 obtain ⟨h2, h3⟩ := h
 refine ⟨h2, fun i hi => ?_⟩
 obtain ⟨ka, kc, ra, rc, e0, e1, e2, ⟨e3, e4⟩, e5⟩ := h3 i hi
 exact ⟨ka, kc, ra, rc, e0, e1, e2, ⟨e3.next hb, e4.next hb⟩, e5⟩
theorem OwnK.next {w0 W w1 : World} {base : Nat} {v : Value} {l : List Kp} (h : OwnK w0 base W v l) (hb : Below W.heap.size W w1) : OwnK w0 base w1 v l := by
 obtain ⟨xs, h1, h2⟩ := h
 exact ⟨xs, own_next h1 hb, h2.next hb⟩
theorem sl_grown3 {W w1 : World} {base n : Nat} {v : Value} {xs : List Value} {a : Option Addr} {r : List Vl} (h : SlAt W a r) (ht : TyAt W a) (ho : W.ownsRow base 73 3 v n xs) (hg : W.grownBy w1 v.ownBlock) : SlAt w1 a r ∧ TyAt w1 a := by
 have key : ∀ b off, a = some ⟨b, off, none⟩ → w1.heap[b]? = W.heap[b]? := by
  intro b off e
  obtain ⟨c, z, h1⟩ := ht b off e
  have hlt : b < W.heap.size := lt_of_heap h1
  refine hg.block b hlt ?_
  obtain ⟨_, ⟨rfl, _⟩ | ⟨g, cap, cur, rfl, _, hh, _⟩⟩ := ho
  ·simp [Value.ownBlock]
  ·simp only [Value.ownBlock]
   intro e
   injection e with e
   subst e
   rw [hh] at h1
   simp at h1
 refine ⟨⟨h.1, ?_⟩, ?_⟩
 ·rcases h.2 with h | ⟨b, off, e, hr, hlt⟩
  ·exact .inl h
  ·refine .inr ⟨b, off, e, fun i hi => ?_, Nat.lt_of_lt_of_le hlt hg.size⟩
   have k := key b off e
   obtain ⟨c0, c1, c2⟩ := hr i hi
   exact ⟨(World.cell?_of_block (a := ⟨b, _, none⟩) k).trans c0, (World.cell?_of_block (a := ⟨b, _, none⟩) k).trans c1, (World.cell?_of_block (a := ⟨b, _, none⟩) k).trans c2⟩
 ·intro b off e
  obtain ⟨c, z, h1⟩ := ht b off e
  exact ⟨c, z, (key b off e).trans h1⟩
theorem OwnK.push {w0 W w1 : World} {base : Nat} {v v' : Value} {xs : List Value} {l : List Kp} {ka ra : Option Addr} {kc rc : Nat} {x : Kp}
  (ho : W.ownsRow base 73 3 v l.length xs) (he : EncK w0 W xs l) (hs : SlAt W ka x.1) (ht : TyAt W ka) (hr : SlAt w0 ra x.2.1)
  (ho' : w1.ownsRow base 73 3 v' (l.length + 1) (xs ++ [.slice ka x.1.length kc, .slice ra x.2.1.length rc, .int .i64 x.2.2])) (hg : W.grownBy w1 v.ownBlock) : OwnK w0 base w1 v' (l ++ [x]) := by
 have lx := he.1
 refine ⟨_, by simpa using ho', by simp [he.1]; omega, ?_⟩
 intro i hi
 by_cases hi' : i < l.length
 ·obtain ⟨ka', kc', ra', rc', h1, h2, h3, ⟨h4, h5⟩, h6⟩ := he.2 i hi'
  have g := sl_grown3 h4 h5 ho hg
  rw [List.getElem_append_left hi']
  exact ⟨ka', kc', ra', rc', by rw [List.getElem?_append_left (by omega), h1], by rw [List.getElem?_append_left (by omega), h2], by rw [List.getElem?_append_left (by omega), h3], g, h6⟩
 ·have : i = l.length := by simp at hi; omega
  subst this
  have g := sl_grown3 hs ht ho hg
  refine ⟨ka, kc, ra, rc, ?_, ?_, ?_, ?_, ?_⟩
  ·rw [List.getElem?_append_right (by omega)]; simp [lx]
  ·rw [List.getElem?_append_right (by omega)]; simp [lx]
  ·rw [List.getElem?_append_right (by omega)]; simp [lx]
  ·simpa using g
  ·simpa using hr
theorem withK_take {xs : List Ex} {m : List Zp} {k : Nat} (h : k < m.length) : ((m.take (k + 1)).map fun p => (rowX xs p.1, p)) = ((m.take k).map fun p => (rowX xs p.1, p)) ++ [(rowX xs m[k].1, m[k])] := by
 rw [List.take_succ_eq_append_getElem h, List.map_append]; rfl
theorem infoK : (Tryz.prog.info? 73).map (fun i => (i.zero, i.size, i.bytes)) = some (some (.agg #[.slice none 0 0, .slice none 0 0, .int .i64 0]), 3, 56) := by kernel_rfl

end Go.Proofs.YtfojonhblblbjaaGreat
/- The walk of ops.inOrder. -/
namespace Go.Proofs.YtfojonhblblbjaaGreat
open Go.RowKit Go.Lib Go.Shelf

/-- The slice of one's own as an array for the sort. -/
theorem OwnK.arr {w0 W : World} {base : Nat} {v : Value} {l : List Kp} (h : OwnK w0 base W v l) (hb : Below w0.heap.size w0 W) (hbs : w0.heap.size ≤ base) : (l = [] ∧ v = .slice none 0 0) ∨ ∃ (g cap : Nat) (d : Array (Kg W g)), v = .slice (some ⟨g, 0, none⟩) l.length cap ∧ base ≤ g ∧ g < W.heap.size ∧ d.size = l.length ∧ d.toList.map (plK W g) = l ∧ Go.Sort.HoldsK (encK W g) 3 W g 0 d := by
 obtain ⟨xs, h1, h2, h3⟩ := h
 have h1' := h1
 obtain ⟨hx, ⟨rfl, h0⟩ | ⟨g, cap, cur, rfl, hg, hh, hn, hc, hs, ht⟩⟩ := h1
 ·exact .inl ⟨List.eq_nil_of_length_eq_zero h0, rfl⟩
 ·right
  have offK : ∀ a r, TyAt W a → Off g a r := fun a r ha => .inr fun b off e hbg => by
   obtain ⟨c, z, h1⟩ := ha b off e
   rw [hbg, hh] at h1
   simp at h1
  have offR : ∀ a r, SlAt w0 a r → Off g a r := fun a r ha => by
   rcases ha.2 with e | ⟨b, o, e, hr, hlt⟩
   ·exact .inl e
   ·exact .inr fun b' o' e' hbg => by
     rw [e] at e'
     have e' := Option.some.inj e'
     injection e' with e1
     have := (h1'.lt g rfl).1
     omega
  obtain ⟨f, hf⟩ := Go.Deep.choose_lt (α := Kg W g) (n := l.length) (p := fun i x => ∀ hi : i < l.length, plK W g x = l[i] ∧ xs[i * 3]? = some (.slice x.1.ka x.1.keys.length x.1.kc) ∧ xs[i * 3 + 1]? = some (.slice x.1.ra x.1.row.length x.1.rc) ∧ xs[i * 3 + 2]? = some (.int .i64 x.1.w)) (fun i hi => by
   obtain ⟨ka, kc, ra, rc, e0, e1, e2, ⟨e3, e4⟩, e5⟩ := h3 i hi
   exact ⟨⟨⟨ka, kc, l[i].1, ra, rc, l[i].2.1, l[i].2.2⟩, ⟨e3, offK _ _ e4⟩, e5.next hb, offR _ _ e5⟩, fun _ => ⟨rfl, e0, e1, e2⟩⟩)
  have hd : ∀ i, i < l.length → ((Array.range l.length).map f)[i]! = f i := fun i hi => by simp [hi]
  refine ⟨g, cap, (Array.range l.length).map f, rfl, (h1'.lt g rfl).1, (h1'.lt g rfl).2, by simp, ?_, ?_⟩
  ·apply List.ext_getElem
   ·simp
   ·intro i g1 g2
    have := (hf i g2 g2).1
    simpa using this
  ·intro j hj
   have hj' : j < l.length * 3 := by simpa using hj
   refine ⟨?_, by rw [Nat.zero_add]; exact h1'.frozenAt j⟩
   have hi : j / 3 < l.length := by omega
   obtain ⟨_, g0, g1, g2⟩ := hf (j / 3) hi hi
   rw [Nat.zero_add, h1'.cellAt j hj']
   show _ = some (Go.Sort.flatK (encK W g) 3 ((Array.range l.length).map f))[j]!
   rw [Go.Sort.get_flatK _ _ _ _ (by simpa using hj'), hd _ hi]
   have h3' : j % 3 = 0 ∨ j % 3 = 1 ∨ j % 3 = 2 := by omega
   rcases h3' with e | e | e
   ·rw [e]; rw [show j / 3 * 3 = j by omega] at g0; rw [g0]; rfl
   ·rw [e]; rw [show j / 3 * 3 + 1 = j by omega] at g1; rw [g1]; rfl
   ·rw [e]; rw [show j / 3 * 3 + 2 = j by omega] at g2; rw [g2]; rfl
theorem holdsK_kd {w W : World} {g : Nat} {d : Array (Kg w g)} (hS : SWK (encK w g) 3 w g 0 d W) (hH : Go.Sort.HoldsK (encK w g) 3 W g 0 d) (hlt : g < W.heap.size) : KdAt W (some ⟨g, 0, none⟩) (d.toList.map (plK w g)) := by
 refine .inr ⟨g, 0, rfl, hlt, fun i hi => ?_⟩
 have hi' : i < d.size := by simpa using hi
 have e : d[i]! = d[i] := getElem!_pos d i hi'
 have h0 := (hH (i * 3) (by simp; omega)).1
 have h1 := (hH (i * 3 + 1) (by simp; omega)).1
 have h2 := (hH (i * 3 + 2) (by simp; omega)).1
 show ElK W g (0 + i * 3) _
 rw [Go.Sort.get_flatK _ _ _ _ (by omega), show i * 3 / 3 = i by omega, show i * 3 % 3 = 0 by omega, e] at h0
 rw [Go.Sort.get_flatK _ _ _ _ (by omega), show (i * 3 + 1) / 3 = i by omega, show (i * 3 + 1) % 3 = 1 by omega, e, ← Nat.add_assoc] at h1
 rw [Go.Sort.get_flatK _ _ _ _ (by omega), show (i * 3 + 2) / 3 = i by omega, show (i * 3 + 2) % 3 = 2 by omega, e, ← Nat.add_assoc] at h2
 simp only [List.getElem_map, Array.getElem_toList]
 exact ⟨h2, ⟨d[i].1.ra, d[i].1.rc, h1, sl_sort d[i].2.2.1 d[i].2.2.2 hS⟩, d[i].1.ka, d[i].1.kc, h0, sl_sort d[i].2.1.1 d[i].2.1.2 hS⟩
theorem rowK_of {W : World} {g : Nat} {d : Array (Kg W g)} (hH : Go.Sort.HoldsK (encK W g) 3 W g 0 d) (hlt : g < W.heap.size) : RowK (encK W g) 3 W g 0 d where
 hk _ := rfl
 h1 x v hv := by simp [encK] at hv; rcases hv with rfl | rfl | rfl <;> rfl
 hH := hH
 hblk := hlt
theorem ordered {W : World} {g : Nat} {d d' : Array (Kg W g)} {xs : List Ex} {z : List Zp} (hz : Rise z) (hd : d.toList.map (plK W g) = withK xs z) (hp : Go.Sort.PermIn 0 d.size d d') (hs : SortS (cfK W g) (preK W g) 0 d.size d') : d'.toList.map (plK W g) = inOrd xs z := by
 have hl : d'.size = d.size := hp.1
 refine sorted_uniq _ _ ?_ ?_ (inOrd_sorted hz)
 ·refine List.Perm.trans ?_ ((inOrd_perm xs z).symm)
  rw [← hd]
  refine List.Perm.map _ ?_
  have := hp.2.2
  rw [Array.extract_eq_self_of_le (by omega), Array.extract_eq_self_of_le (by omega)] at this
  exact this
 ·rw [List.pairwise_map, List.pairwise_iff_getElem]
  intro i j hi hj hij
  have hi' : i < d'.size := by simpa using hi
  have hj' : j < d'.size := by simpa using hj
  have := hs i j (Nat.zero_le _) hij (by omega)
  rw [getElem!_pos d' i hi', getElem!_pos d' j hj'] at this
  exact this
theorem preS_of {W : World} {g : Nat} {d : Array (Kg W g)} {xs : List Ex} {z : List Zp} (hz : Rise z) (hd : d.toList.map (plK W g) = withK xs z) : PreS (preK W g) 0 d.size d := fun i j _ hij hj => by
 have hr := withK_rise (xs := xs) hz
 rw [← hd, List.pairwise_map, List.pairwise_iff_getElem] at hr
 have := hr i j (by simpa using (by omega : i < d.size)) (by simpa using hj) hij
 rw [getElem!_pos d i (by omega), getElem!_pos d j hj]
 exact this

/-- The sort of a slice of one's own. -/
theorem sorted_at (W : World) (g cap : Nat) (d : Array (Kg W g)) (xs : List Ex) (z : List Zp) (hz : Rise z) (hl : d.size ≤ 1000000) (hlt : g < W.heap.size) (hd : d.toList.map (plK W g) = withK xs z) (hH : Go.Sort.HoldsK (encK W g) 3 W g 0 d) (w0 : World) (hw : w0.heap.size ≤ g) (hb : Below w0.heap.size w0 W) :
  Calls Tryz.prog 82 #[.slice (some ⟨g, 0, none⟩) d.size cap, .func (.func 83) #[] #[]] W fun e w' => e = .returned (.tuple #[]) ∧ KdAt w' (some ⟨g, 0, none⟩) (inOrd xs z) ∧ Below w0.heap.size w0 w' := by
 have R := rowK_of hH hlt
 have eg : ∀ args w, (callFunc 83 args).run Tryz.prog w = .ok (.enter 83 args) w := enters_of Tryz.func83 (by kernel_rfl) rfl
 have eSw : ∀ args w, (callFunc 212 args).run Tryz.prog w = .ok (.enter 212 args) w := enters_of Tryz.func212 (by kernel_rfl) rfl
 have eRo : ∀ args w, (callFunc 195 args).run Tryz.prog w = .ok (.enter 195 args) w := enters_of Tryz.func195 (by kernel_rfl) rfl
 have eSy : ∀ args w, (callFunc 154 args).run Tryz.prog w = .ok (.enter 154 args) w := enters_of Tryz.func154 (by kernel_rfl) rfl
 have eIn : ∀ args w, (callFunc 153 args).run Tryz.prog w = .ok (.enter 153 args) w := enters_of Tryz.func153 (by kernel_rfl) rfl
 have eSt : ∀ args w, (callFunc 120 args).run Tryz.prog w = .ok (.enter 120 args) w := enters_of Tryz.func120 (by kernel_rfl) rfl
 refine (sortStable_at 3 Tryz.klay (encK W g) (ordrK W g) 83 #[] g 0 cap d W hl (SWK.start hH) (preS_of hz hd) eIn eSy eSt (insAtK W g 0 cap d R hl) (sym_at 3 Tryz.klay (encK W g) (cfK W g) (preK W g) (ordrK W g) 83 #[] g 0 cap d W (by omega) eg (cmpLaysK W g 0 d.size) R eSw eRo eSy)).mono ?_
 rintro e w' ⟨rfl, d', hp, hs, S⟩
 refine ⟨rfl, ?_, below_sort hb hw S⟩
 rw [← ordered hz hd hp hs]
 exact holdsK_kd S (S.holds hlt hH hp.1) (S.lt hlt)
end Go.Proofs.YtfojonhblblbjaaGreat
/- The walk of ops.inOrder. -/
namespace Go.Proofs.YtfojonhblblbjaaGreat
open Go.RowKit Go.Lib Go.Shelf

set_option maxRecDepth 100000 in
set_option maxHeartbeats 1000000 in
theorem insNone_at (cap : Nat) (w : World) : Calls Tryz.prog 153 #[.slice none 0 cap, .int .i64 0, .int .i64 0, .func (.func 83) #[] #[]] w fun e w' => e = .returned (.tuple #[]) ∧ w' = w := by
 go_enter Tryz.func153, Tryz.ntmps153
 go_wp2
 refine wp_loop_rounds 1 ?_
 rw [rounds_succ]
 go_wp2
 go_end0
 exact ⟨rfl, rfl⟩
set_option maxRecDepth 100000 in
set_option maxHeartbeats 1000000 in
theorem stableNone_at (cap : Nat) (w : World) : Calls Tryz.prog 120 #[.slice none 0 cap, .int .i64 0, .func (.func 83) #[] #[]] w fun e w' => e = .returned (.tuple #[]) ∧ w' = w := by
 go_enter Tryz.func120, Tryz.ntmps120
 go_wp2
 refine wp_loop_rounds 1 ?_
 rw [rounds_succ]
 go_wp2_with fail
 refine (insNone_at cap w).mono ?_
 rintro e w1 ⟨rfl, rfl⟩
 dsimp only
 go_wp2
 refine wp_loop_rounds 1 ?_
 rw [rounds_succ]
 go_wp2
 go_end0
 exact ⟨rfl, rfl⟩
set_option maxRecDepth 100000 in
set_option maxHeartbeats 1000000 in
theorem sortNone_at (cap : Nat) (w : World) : Calls Tryz.prog 82 #[.slice none 0 cap, .func (.func 83) #[] #[]] w fun e w' => e = .returned (.tuple #[]) ∧ Below w.heap.size w w' := by
 go_enter Tryz.func82, Tryz.ntmps82
 go_wp2_with fail
 refine (stableNone_at cap w).mono ?_
 rintro e w1 ⟨rfl, rfl⟩
 dsimp only
 go_wp2
 go_end0
 exact ⟨rfl, Below.refl _ _⟩

set_option maxRecDepth 100000 in
set_option maxHeartbeats 8000000 in
theorem inOrder_at (cols : List Int) (xs : List Ex) (u : Value) (lo : Nat) (a : Option Addr) (cap : Nat) (l : List Zp) (w : World) (hu : ListF cols lo u xs w) (hz : InpOk cols l) (h : ZsAt w a l) :
  Calls Tryz.prog 43 #[.slice a l.length cap, u] w fun e w' => ∃ a' c', e = .returned (.slice a' (inOrd xs l).length c') ∧ KdAt w' a' (inOrd xs l) ∧ Below w.heap.size w w' := by
 obtain ⟨i0, hi, hj0, hj1, hj2⟩ := info_parts infoK
 have hl := set_len hz
 have hR : Rise l := ((wrongZ_iff l).1 hz.set).2.2
 obtain ⟨g, cb, rfl, eg, hd⟩ := hu
 have HD : Hid (∀ (row : List Vl) (a : Option Addr) (cap : Nat) (W : World), FitP cols row → SlAt W a row → Since lo w W → Calls Tryz.prog g (#[.slice a row.length cap] ++ cb) W fun e w' => e = .returned (.slice (some ⟨W.heap.size, 0, none⟩) xs.length xs.length) ∧ RowNew W.heap.size w' (rowX xs row) ∧ Below W.heap.size W w') := hd
 have HO : Hid (InpOk cols l) := hz
 have HR : Hid (Rise l) := hR
 clear hd hz hR
 have con := picked_at 81 #[] (fun p => decide (0 < p.2)) a cap l w w (fun W => Below w.heap.size w W) h (by omega) (enters_of Tryz.func81 (by kernel_rfl) rfl) (Below.refl _ _) (fun _ hW => hW) (fun W W' hW hb => hW.trans hb) (fun x _ ra rc W hW _ _ => by
  refine (isThere_at ra x.1.length rc x.2 W).mono ?_
  rintro e w' ⟨rfl, hb⟩
  exact ⟨rfl, chain hW hb, (Since.of hb)⟩)
 generalize hm : (l.filter fun p => decide (0 < p.2)) = m at con
 have HM : Hid ((l.filter fun p => decide (0 < p.2)) = m) := hm
 have hml : m.length ≤ l.length := by rw [← hm]; exact List.length_filter_le _ _
 have HF : Hid (∀ p ∈ m, FitP cols p.1) := fun p hp => by
  rw [← HM.out] at hp
  exact HO.out.fit p (List.mem_filter.1 hp).1
 clear hm
 go_enter Tryz.func43, Tryz.ntmps43
 go_wp2_with fail
 refine con.mono ?_
 rintro e w1 ⟨v1, rfl, O1, hb1, z1⟩
 clear con
 obtain ⟨a1, c1, rfl, zs1, _⟩ := O1.zs hb1
 clear O1
 dsimp only
 go_wp2_with fail
 go_loopw [5, 11] (fun v i wr => ∃ k : Nat, k ≤ m.length ∧ i = .int .i64 k ∧ OwnK w1 w1.heap.size wr v ((m.take k).map fun p => (rowX xs p.1, p)) ∧ Below w1.heap.size w1 wr) (fun _ i _ => m.length - (intOf i).toNat)
 case atStart => exact ⟨0, Nat.zero_le _, rfl, OwnK.nil _ _ _, Below.refl _ _⟩
 case round =>
  obtain ⟨k, hk, rfl, HK, hb⟩ := hrel
  have hzr := hb.size
  by_cases hlt : k < m.length
  ·obtain ⟨b, off, rfl, hbl, d1, ar, cr, d0, sr⟩ := zs1.elem hlt
   have c1' := (hb.cell (p := ⟨b, _, none⟩) hbl).trans d1
   have c0' := (hb.cell (p := ⟨b, _, none⟩) hbl).trans d0
   have hbl' : b < wr.heap.size := Nat.lt_of_lt_of_le hbl hzr
   have HS : Hid (SlAt w1 ar m[k].1) := sr
   have hal : Below wr.heap.size wr (wr.alloc (.cells #[.slice ar m[k].1.length cr, .int .i64 m[k].2] 53)) := (Below.refl _ _).alloc (Nat.le_refl _) _
   have q0 := heap_new wr #[.slice ar m[k].1.length cr, .int .i64 m[k].2] 53
   have HT : Hid (((m.take (k + 1)).map fun p => (rowX xs p.1, p)) = ((m.take k).map fun p => (rowX xs p.1, p)) ++ [(rowX xs m[k].1, m[k])]) := withK_take hlt
   have hfit := HF.out m[k] (List.getElem_mem hlt)
   have HFk : Hid (FitP cols m[k].1) := hfit
   have hrl : xs.length = (rowX xs m[k].1).length := by simp [rowX]
   have HRL : Hid (xs.length = (rowX xs m[k].1).length) := hrl
   clear d0 d1 sr hfit hrl
   go_wp2_with fail
   generalize hwa : wr.alloc (.cells #[.slice ar m[k].1.length cr, .int .i64 m[k].2] 53) = wa at *
   clear hwa
   have hCC : ∀ W W' : World, W.heap[wr.heap.size]? = some (.cells #[.slice ar m[k].1.length cr, .int .i64 m[k].2] 53 (0, 0)) → Below W.heap.size W W' → W'.heap[wr.heap.size]? = some (.cells #[.slice ar m[k].1.length cr, .int .i64 m[k].2] 53 (0, 0)) := fun W W' h hb => (hb.block _ (lt_of_heap h)).trans h
   have hdr : Below wa.heap.size wa wa.drew := (Below.refl _ _).drew
   have CW : wa.drew.heap[wr.heap.size]? = some (.cells #[.slice ar m[k].1.length cr, .int .i64 m[k].2] 53 (0, 0)) := hCC _ _ q0 hdr
   refine wp_region_cls (fun W => W.heap[wr.heap.size]? = some (.cells #[.slice ar m[k].1.length cr, .int .i64 m[k].2] 53 (0, 0))) (by kernel_rfl) ?_
   refine wpY_take hCC (some 15) (i := 0) (v := u5) rfl rfl (by kernel_rfl) (by kernel_rfl) (by kernel_rfl) (fun _ _ _ h => h) (Or.inl ⟨rfl, fun n hn => ?_⟩) CW ?_
   ·go_simp
   simp only [Act.put, List.setIfInBounds_toArray, List.set_cons_zero, List.set_cons_succ]
   refine wpY_take hCC (some 16) (i := 1) (v := .func (.func g) #[] cb) rfl rfl (by kernel_rfl) (by kernel_rfl) (by kernel_rfl) (fun _ _ _ h => h) (Or.inl ⟨rfl, fun n hn => ?_⟩) CW ?_
   ·go_simp
   simp only [Act.put, List.setIfInBounds_toArray, List.set_cons_zero, List.set_cons_succ]
   refine wpY_take hCC (some 17) (i := 2) (v := .pointer (some ⟨wr.heap.size, 0, none⟩)) rfl rfl (by kernel_rfl) (by kernel_rfl) (by kernel_rfl) (fun _ _ _ h => h) (Or.inl ⟨rfl, fun n hn => ?_⟩) CW ?_
   ·go_simp
   simp only [Act.put, List.setIfInBounds_toArray, List.set_cons_zero, List.set_cons_succ]
   refine wpY_take hCC (some 18) (i := 3) (v := .slice ar m[k].1.length cr) rfl rfl (by kernel_rfl) (by kernel_rfl) (by kernel_rfl) (fun _ _ _ h => h) (Or.inl ⟨rfl, fun n hn => ?_⟩) CW ?_
   ·have hcell : n.cell? ⟨wr.heap.size, 0, none⟩ = some (.slice ar m[k].1.length cr) := cell_of (i := 0) hn rfl
    go_simp
   simp only [Act.put, List.setIfInBounds_toArray, List.set_cons_zero, List.set_cons_succ]
   refine wpY_take hCC (some 20) (i := 5) (v := .agg #[.slice ar m[k].1.length cr, .int .i64 m[k].2]) rfl rfl (by kernel_rfl) (by kernel_rfl) (by kernel_rfl) (fun _ _ _ h => h) (Or.inl ⟨rfl, fun n hn => ?_⟩) CW ?_
   ·have hcell : n.cell? ⟨wr.heap.size, 0, none⟩ = some (.slice ar m[k].1.length cr) := cell_of (i := 0) hn rfl
    have hcell1 : n.cell? ⟨wr.heap.size, 1, none⟩ = some (.int .i64 m[k].2) := cell_of (i := 1) hn rfl
    go_simp
   simp only [Act.put, List.setIfInBounds_toArray, List.set_cons_zero, List.set_cons_succ]
   refine wpY_step (rs := [4]) (by kernel_rfl) (by simp) ?_
   intro w3 hb3 jj hj
   obtain rfl : jj = 4 := by simpa using hj
   clear hj
   have D3 := chain (chain hal hdr) hb3
   have B3 := chain hb D3
   have CW3 := hCC _ _ CW hb3
   have con := HD.out m[k].1 ar cr w3 HFk.out (HS.out.next B3) (Since.of (chain hb1 B3))
   refine wpOp_step rfl (fun K hK => ?_)
   go_simp
   first | (refine con.mono ?_) | (go_at_fn g; refine con.mono ?_)
   rintro e w4 ⟨rfl, hRN, hb4⟩
   have D4 := chain D3 hb4
   have CW4 := hCC _ _ CW3 hb4
   refine hK _ _ ⟨CW4, ?_⟩
   clear hK K con CW3
   refine wpY_take hCC (some 21) (i := 6) (v := .agg #[.slice (some ⟨w3.heap.size, 0, none⟩) xs.length xs.length, .slice ar m[k].1.length cr, .int .i64 m[k].2]) rfl rfl (by kernel_rfl) (by kernel_rfl) (by kernel_rfl) (fun _ _ _ h => h) (Or.inl ⟨rfl, fun n hn => ?_⟩) CW4 ?_
   ·go_simp
   simp only [Act.put, List.setIfInBounds_toArray, List.set_cons_zero, List.set_cons_succ]
   refine wpY_step (rs := [7]) (by kernel_rfl) (by simp) ?_
   intro w5 hb5 jj hj
   obtain rfl : jj = 7 := by simpa using hj
   clear hj
   refine wpOp_step rfl (fun K hK => ?_)
   go_simp
   have D5 := chain D4 hb5
   have CW5 := hCC _ _ CW4 hb5
   have hal5 : Below w5.heap.size w5 (w5.alloc (.cells #[.slice (some ⟨w3.heap.size, 0, none⟩) xs.length xs.length, .slice ar m[k].1.length cr, .int .i64 m[k].2] 73)) := (Below.refl _ _).alloc (Nat.le_refl _) _
   have q6 := heap_new w5 #[.slice (some ⟨w3.heap.size, 0, none⟩) xs.length xs.length, .slice ar m[k].1.length cr, .int .i64 m[k].2] 73
   have D6 := chain D5 hal5
   have CW6 := hCC _ _ CW5 hal5
   have S6 := (hRN.1.next hb5).next hal5
   have T6 := (hRN.2.next hb5).next hal5
   refine hK _ _ ⟨CW6, ?_⟩
   clear hK K CW5 CW4 hRN
   generalize hw6 : w5.alloc (.cells #[.slice (some ⟨w3.heap.size, 0, none⟩) xs.length xs.length, .slice ar m[k].1.length cr, .int .i64 m[k].2] 73) = w6 at *
   clear hw6
   refine wpY_step (rs := [8]) (by kernel_rfl) (by simp) ?_
   intro w7 hb7 jj hj
   obtain rfl : jj = 8 := by simpa using hj
   clear hj
   have D7 := chain D6 hb7
   have CW7 := hCC _ _ CW6 hb7
   have S7 := S6.next hb7
   have T7 := T6.next hb7
   have q7 := (hb7.block _ (lt_of_heap q6)).trans q6
   obtain ⟨ys, o7, en7⟩ := HK.next D7
   have zz := D7.size
   have hnb : ∀ g', u5.ownBlock = some g' → g' < wr.heap.size ∧ w1.heap.size ≤ g' := fun g' hg' => by
    obtain ⟨ys0, o0, _⟩ := HK
    exact ⟨(o0.lt g' hg').2, (o0.lt g' hg').1⟩
   refine wpOp_step rfl (fun K hK => ?_)
   refine Eq.mpr (if_pos (by kernel_rfl)) ?_
   refine wp_append_at (some 23) rfl (Operand.tmp 15) (Operand.tmp 22) 70 rfl w1.heap.size 73 i0 _ 3 56 Tryz.underlying70 hi hj0 hj1 hj2 rfl (by decide) u5 _ ys rfl o7 ⟨w5.heap.size, 0, none⟩ 1 1 [.slice (some ⟨w3.heap.size, 0, none⟩) xs.length xs.length, .slice ar m[k].1.length cr, .int .i64 m[k].2] rfl rfl ?Ac1 ?Ac2 ?Ac3 ?Ac4 ?Ac5 ?_
   case Ac1 =>
    intro j u hj
    match j, hj with
    | 0, hj => simp at hj; subst hj; exact cell_of (i := 0) q7 rfl
    | 1, hj => simp at hj; subst hj; exact cell_of (i := 1) q7 rfl
    | 2, hj => simp at hj; subst hj; exact cell_of (i := 2) q7 rfl
   case Ac2 => intro u hu; simp at hu; rcases hu with rfl | rfl | rfl <;> rfl
   case Ac3 => simp only [List.length_map, List.length_take]; unfold maxLen; omega
   case Ac4 => simp only [List.length_map, List.length_take]; omega
   case Ac5 => omega
   intro v' w8 o8 g8 _
   have CW8 : w8.heap[wr.heap.size]? = some (.cells #[.slice ar m[k].1.length cr, .int .i64 m[k].2] 53 (0, 0)) := (g8.block _ (lt_of_heap CW7) (fun e => by have := (hnb _ e.symm).1; omega)).trans CW7
   have OK8 : OwnK w1 w1.heap.size w8 v' (((m.take k).map fun p => (rowX xs p.1, p)) ++ [(rowX xs m[k].1, m[k])]) := OwnK.push (kc := xs.length) (rc := cr) o7 en7 S7 T7 HS.out (by have := HRL.out; rw [← this]; exact o8) g8
   have b8 : Below w1.heap.size w1 w8 := (hb.trans (D7.mono hzr)).trans ((Below.refl _ _).grown g8 (by omega) (fun q hq => (hnb q hq).2))
   refine hK _ _ ⟨CW8, ?_⟩
   clear hK K CW7 CW6 S7 T7 S6 T6 o7 en7 o8 D7 D6 D5 D4 D3 q6 q7 g8 HK
   simp only [Act.put, List.setIfInBounds_toArray, List.set_cons_zero, List.set_cons_succ]
   refine wpY_take hCC (some 5) (i := 9) (v := v') rfl rfl (by kernel_rfl) (by kernel_rfl) (by kernel_rfl) (fun _ _ _ h => h) (Or.inl ⟨rfl, fun n hn => ?_⟩) CW8 ?_
   ·go_simp
   simp only [Act.put, List.setIfInBounds_toArray, List.set_cons_zero, List.set_cons_succ]
   refine wpY_done (by kernel_rfl) ?_
   intro w9 hb9
   have OK9 := OK8.next hb9
   have b9 := chain b8 hb9
   clear OK8 b8 CW8 hb9
   go_wp2_with fail
   go_roundw
   case rel => exact ⟨k + 1, by omega, by go_num, by rw [HT.out]; exact OK9, b9⟩
   case measure => simp [intOf]; omega
  ·have e : k = m.length := by omega
   subst e
   rw [List.take_length] at HK
   have hwk : (m.map fun p => (rowX xs p.1, p)) = withK xs l := by unfold withK; rw [HM.out]
   rw [hwk] at HK
   have hb' := chain hb1 hb
   have hil : (inOrd xs l).length = (withK xs l).length := (inOrd_perm xs l).length_eq
   have hwl := withK_len xs l
   rcases HK.arr hb (Nat.le_refl _) with ⟨hn, rfl⟩ | ⟨gb, kc, dd, rfl, hg1, hg2, hds, hdm, hH⟩
   ·have hio : inOrd xs l = [] := List.eq_nil_of_length_eq_zero (by rw [hil, hn]; rfl)
    have con := sortNone_at 0 wr
    clear HK
    go_wp2_with fail
    refine con.mono ?_
    rintro e w2 ⟨rfl, hb2⟩
    clear con
    dsimp only
    go_wp2_with fail
    go_ret
    exact ⟨none, 0, by rw [hio]; rfl, .inl hio, chain hb' hb2⟩
   ·have con := sorted_at wr gb kc dd xs l HR.out (by omega) hg2 hdm hH w1 hg1 hb
    rw [hds, ← hil] at con
    rw [← hil]
    clear HK hH hdm hil hwk hds
    go_wp2_with fail
    refine con.mono ?_
    rintro e w2 ⟨rfl, kd, hb2⟩
    clear con
    dsimp only
    have HKD : Hid (KdAt w2 (some ⟨gb, 0, none⟩) (inOrd xs l)) := kd
    have hA := hb1.trans (hb2.mono hb1.size)
    clear kd
    go_wp2_with fail
    go_ret
    exact ⟨_, _, rfl, HKD.out, hA⟩
end Go.Proofs.YtfojonhblblbjaaGreat
/- Parts of rows that have the same keys: plainly, and in memory. -/
namespace Go.Proofs.YtfojonhblblbjaaGreat
open Go.RowKit Go.Lib Go.Shelf

/-- Keys, and the rows that have them. -/
abbrev Pt : Type := List Vl × List Zp
/-- A part is opened, where the last one has other keys. -/
def openP (ps : List Pt) (x : Kp) : List Pt := if h : ps.length = 0 then ps ++ [(x.1, [])] else if cmpL (ps[ps.length - 1]'(by omega)).1 x.1 = 0 then ps else ps ++ [(x.1, [])]
/-- One more row of the last part. -/
def putR (ps : List Pt) (r : Zp) : List Pt := if h : ps.length = 0 then ps else ps.set (ps.length - 1) ((ps[ps.length - 1]'(by omega)).1, (ps[ps.length - 1]'(by omega)).2 ++ [r])
def partL (L : List Kp) : List Pt := L.foldl (fun ps x => putR (openP ps x) x.2) []
theorem partL_take {L : List Kp} {k : Nat} (h : k < L.length) : partL (L.take (k + 1)) = putR (openP (partL (L.take k)) L[k]) L[k].2 := by
 unfold partL
 rw [List.take_succ_eq_append_getElem h, List.foldl_append]
 rfl
theorem openP_len (ps : List Pt) (x : Kp) : (openP ps x).length ≤ ps.length + 1 ∧ 0 < (openP ps x).length := by
 unfold openP
 split
 ·simp
 ·split
  ·omega
  ·simp
theorem putR_len (ps : List Pt) (r : Zp) : (putR ps r).length = ps.length := by
 unfold putR
 split
 ·rfl
 ·simp
theorem putR_at {ps : List Pt} {m : Nat} (h : ps.length = m + 1) (r : Zp) : putR ps r = ps.set m ((ps[m]'(by omega)).1, (ps[m]'(by omega)).2 ++ [r]) := by
 unfold putR
 rw [dif_neg (by omega)]
 simp only [h, Nat.add_sub_cancel]
theorem openP_nil {ps : List Pt} (h : ps.length = 0) (x : Kp) : openP ps x = ps ++ [(x.1, [])] := by unfold openP; rw [dif_pos h]
theorem openP_same {ps : List Pt} {m : Nat} (h : ps.length = m + 1) {x : Kp} (hc : cmpL (ps[m]'(by omega)).1 x.1 = 0) : openP ps x = ps := by
 unfold openP
 rw [dif_neg (by omega)]
 simp only [h, Nat.add_sub_cancel]
 rw [if_pos hc]
theorem openP_other {ps : List Pt} {m : Nat} (h : ps.length = m + 1) {x : Kp} (hc : ¬ cmpL (ps[m]'(by omega)).1 x.1 = 0) : openP ps x = ps ++ [(x.1, [])] := by
 unfold openP
 rw [dif_neg (by omega)]
 simp only [h, Nat.add_sub_cancel]
 rw [if_neg hc]
/-- No part has more rows than there are. -/
theorem partL_small (L : List Kp) : (partL L).length ≤ L.length ∧ ∀ p ∈ partL L, p.2.length ≤ L.length := by
 have aux : ∀ (L : List Kp) (ps : List Pt) (n : Nat), ps.length ≤ n → (∀ p ∈ ps, p.2.length ≤ n) → (L.foldl (fun ps x => putR (openP ps x) x.2) ps).length ≤ n + L.length ∧ ∀ p ∈ L.foldl (fun ps x => putR (openP ps x) x.2) ps, p.2.length ≤ n + L.length := by
  intro L
  induction L with
  | nil => intro ps n h1 h2; exact ⟨h1, h2⟩
  | cons x r ih =>
   intro ps n h1 h2
   have ho : ∀ p ∈ openP ps x, p.2.length ≤ n := fun p hp => by
    unfold openP at hp
    split at hp
    ·rcases List.mem_append.1 hp with hp | hp
     ·exact h2 p hp
     ·rw [List.mem_singleton.1 hp]; exact Nat.zero_le _
    ·split at hp
     ·exact h2 p hp
     ·rcases List.mem_append.1 hp with hp | hp
      ·exact h2 p hp
      ·rw [List.mem_singleton.1 hp]; exact Nat.zero_le _
   have := ih (putR (openP ps x) x.2) (n + 1) (by rw [putR_len]; have := (openP_len ps x).1; omega) (fun p hp => by
    unfold putR at hp
    split at hp
    ·have := ho p hp; omega
    ·rcases List.mem_or_eq_of_mem_set hp with hp | rfl
     ·have := ho p hp; omega
     ·have := ho _ (List.getElem_mem (l := openP ps x) (n := (openP ps x).length - 1) (by omega))
      simp only [List.length_append, List.length_singleton]; omega)
   simp only [List.foldl_cons, List.length_cons]
   refine ⟨by have := this.1; omega, fun p hp => by have := this.2 p hp; omega⟩
 have := aux L [] 0 (Nat.le_refl _) (fun p hp => by simp at hp)
 unfold partL
 simpa using this

theorem own_ne {W : World} {b b' : Nat} {e e' : TypeId} {s s' n n' : Nat} {v v' : Value} {xs xs' : List Value} (hne : e ≠ e') (h : W.ownsRow b e s v n xs) (h' : W.ownsRow b' e' s' v' n' xs') : v.ownBlock = none ∨ v.ownBlock ≠ v'.ownBlock := by
 rcases h.2 with ⟨rfl, _⟩ | ⟨g, cap, cur, rfl, _, hg, _⟩
 ·exact .inl rfl
 ·refine .inr fun e0 => ?_
  rcases h'.2 with ⟨rfl, _⟩ | ⟨g', cap', cur', rfl, _, hg', _⟩
  ·simp [Value.ownBlock] at e0
  ·have e1 : g = g' := by simpa [Value.ownBlock] using e0
   subst e1
   rw [hg] at hg'
   injection hg' with hg'
   injection hg' with _ he _
   exact hne he
theorem own_not {W : World} {B : Nat} {e : TypeId} {s n : Nat} {v : Value} {xs : List Value} (h : W.ownsRow B e s v n xs) {q : Nat} {cs : Array Value} {T : TypeId} {f : Nat × Nat} (hq : W.heap[q]? = some (.cells cs T f)) (hne : T ≠ e) : v.ownBlock ≠ some q := by
 intro e0
 rcases h.2 with ⟨rfl, _⟩ | ⟨g, cap, cur, rfl, _, hg, _⟩
 ·simp [Value.ownBlock] at e0
 ·have e1 : g = q := by simpa [Value.ownBlock] using e0
  subst e1
  rw [hg] at hq
  injection hq with hq
  injection hq with _ he _
  exact hne he.symm
theorem own_mono {W : World} {b b' : Nat} {e : TypeId} {s n : Nat} {v : Value} {xs : List Value} (h : W.ownsRow b e s v n xs) (hb : b' ≤ b) : W.ownsRow b' e s v n xs := by
 obtain ⟨h0, h1⟩ := h
 refine ⟨h0, ?_⟩
 rcases h1 with h1 | ⟨g, cap, cur, e, hg, h3⟩
 ·exact .inl h1
 ·exact .inr ⟨g, cap, cur, e, Nat.le_trans hb hg, h3⟩
theorem own_shapeF {W : World} {base e size n : Nat} {v : Value} {xs : List Value} (h : W.ownsRow base e size v n xs) : ∃ a c, v = .slice a n c := by
 obtain ⟨_, ⟨rfl, h0⟩ | ⟨g, c1, cur, rfl, _⟩⟩ := h
 ·exact ⟨none, 0, by rw [h0]⟩
 ·exact ⟨_, c1, rfl⟩
/-- Parts in a slice of the call's own: keys and rows lie in w0; each part's rows in a slice of its own, the last one's behind all others'. -/
structure PsIn (w0 : World) (B : Nat) (W : World) (v : Value) (ps : List Pt) (xs : List Value) (Bl : Nat) (rv : Nat → Value) (zs : Nat → List Value) : Prop where
 own : W.ownsRow B 91 2 v ps.length xs
 lo : B ≤ Bl
 hi : Bl ≤ W.heap.size
 key : ∀ i (h : i < ps.length), ∃ ka kc, xs[i * 2]? = some (.slice ka ps[i].1.length kc) ∧ SlAt w0 ka ps[i].1
 cell : ∀ i (_ : i < ps.length), xs[i * 2 + 1]? = some (rv i)
 row : ∀ i (h : i < ps.length), W.ownsRow (if i + 1 = ps.length then Bl else B) 53 2 (rv i) ps[i].2.length (zs i) ∧ EncB w0 (zs i) ps[i].2
 low : ∀ i, i + 1 < ps.length → ∀ g, (rv i).ownBlock = some g → g < Bl
def PsAt (w0 : World) (B : Nat) (W : World) (v : Value) (ps : List Pt) : Prop := ∃ xs Bl rv zs, PsIn w0 B W v ps xs Bl rv zs
theorem PsIn.next {w0 : World} {B : Nat} {W w1 : World} {v : Value} {ps : List Pt} {xs : List Value} {Bl : Nat} {rv : Nat → Value} {zs : Nat → List Value} (h : PsIn w0 B W v ps xs Bl rv zs) (hb : Below W.heap.size W w1) : PsIn w0 B w1 v ps xs Bl rv zs :=
 ⟨own_next h.own hb, h.lo, Nat.le_trans h.hi hb.size, h.key, h.cell, fun i hi => ⟨own_next (h.row i hi).1 hb, (h.row i hi).2⟩, h.low⟩
theorem PsAt.next {w0 : World} {B : Nat} {W w1 : World} {v : Value} {ps : List Pt} (h : PsAt w0 B W v ps) (hb : Below W.heap.size W w1) : PsAt w0 B w1 v ps := by
 obtain ⟨xs, Bl, rv, zs, h⟩ := h
 exact ⟨xs, Bl, rv, zs, h.next hb⟩
theorem PsAt.nil (w0 : World) (B : Nat) (W : World) (hB : B ≤ W.heap.size) : PsAt w0 B W (.slice none 0 0) [] :=
 ⟨[], B, fun _ => .slice none 0 0, fun _ => [], World.ownsRow_nil _ _ _ _, Nat.le_refl _, hB, fun _ hi => absurd hi (Nat.not_lt_zero _), fun _ hi => absurd hi (Nat.not_lt_zero _), fun _ hi => absurd hi (Nat.not_lt_zero _), fun _ hi => absurd hi (Nat.not_lt_zero _)⟩
theorem PsIn.rowB {w0 : World} {B : Nat} {W : World} {v : Value} {ps : List Pt} {xs : List Value} {Bl : Nat} {rv : Nat → Value} {zs : Nat → List Value} (h : PsIn w0 B W v ps xs Bl rv zs) {i : Nat} (hi : i < ps.length) : W.ownsRow B 53 2 (rv i) ps[i].2.length (zs i) := by
 refine own_mono (h.row i hi).1 ?_
 split
 ·exact h.lo
 ·exact Nat.le_refl _
theorem PsIn.push {w0 : World} {B : Nat} {W w1 : World} {v v' : Value} {ps : List Pt} {xs : List Value} {Bl : Nat} {rv : Nat → Value} {zs : Nat → List Value} (h : PsIn w0 B W v ps xs Bl rv zs) {ka : Option Addr} {kc : Nat} {k : List Vl} (hs : SlAt w0 ka k) (hg : W.grownBy w1 v.ownBlock)
  (ho : w1.ownsRow B 91 2 v' (ps.length + 1) (xs ++ [.slice ka k.length kc, .slice none 0 0])) : PsAt w0 B w1 v' (ps ++ [(k, [])]) := by
 have lx := h.own.1
 refine ⟨_, w1.heap.size, fun i => if i = ps.length then .slice none 0 0 else rv i, fun i => if i = ps.length then [] else zs i, by simpa using ho, Nat.le_trans h.lo (Nat.le_trans h.hi hg.size), Nat.le_refl _, fun i hi => ?_, fun i hi => ?_, fun i hi => ?_, fun i hi g hgi => ?_⟩
 ·by_cases hi' : i < ps.length
  ·obtain ⟨ka', kc', e0, s0⟩ := h.key i hi'
   rw [List.getElem_append_left hi']
   exact ⟨ka', kc', by rw [List.getElem?_append_left (by omega)]; exact e0, s0⟩
  ·have e : i = ps.length := by simp at hi; omega
   subst e
   refine ⟨ka, kc, ?_, ?_⟩
   ·rw [List.getElem?_append_right (by omega)]; simp [lx]
   ·simpa using hs
 ·by_cases hi' : i < ps.length
  ·rw [if_neg (by omega), List.getElem?_append_left (by omega)]; exact h.cell i hi'
  ·have e : i = ps.length := by simp at hi; omega
   subst e
   rw [if_pos rfl, List.getElem?_append_right (by omega)]; simp [lx]
 ·by_cases hi' : i < ps.length
  ·rw [List.getElem_append_left hi', if_neg (by simp; omega), if_neg (by omega), if_neg (by omega)]
   exact ⟨(h.rowB hi').kept hg (own_ne (by decide) (h.rowB hi') h.own), (h.row i hi').2⟩
  ·have e : i = ps.length := by simp at hi; omega
   subst e
   simp only [List.length_append, List.length_singleton, if_true, List.getElem_concat_length]
   exact ⟨World.ownsRow_nil _ _ _ _, rfl, fun j hj => absurd hj (Nat.not_lt_zero _)⟩
 ·have hi' : i < ps.length := by simp at hi; omega
  rw [if_neg (by omega)] at hgi
  exact Nat.lt_of_lt_of_le ((h.rowB hi').lt g hgi).2 hg.size
theorem PsIn.put {w0 : World} {B : Nat} {W w8 w9 : World} {g c m : Nat} {ps : List Pt} {xs : List Value} {Bl : Nat} {rv : Nat → Value} {zs : Nat → List Value} (h : PsIn w0 B W (.slice (some ⟨g, 0, none⟩) (m + 1) c) ps xs Bl rv zs) (hm : ps.length = m + 1) {ra : Option Addr} {rc : Nat} {r : Zp} {v8 : Value}
  (sr : SlAt w0 ra r.1) (g8 : W.grownBy w8 (rv m).ownBlock) (o8 : w8.ownsRow Bl 53 2 v8 ((ps[m]'(by omega)).2.length + 1) (zs m ++ [.slice ra r.1.length rc, .int .i64 r.2])) (hb : Below w8.heap.size w8 w9) :
  PsAt w0 B (w9.setCell ⟨g, m * 2 + 1, none⟩ v8) (.slice (some ⟨g, 0, none⟩) (m + 1) c) (putR ps r) := by
 have hmlt : m < ps.length := by omega
 have lx := h.own.1
 have ho := h.own
 rw [hm] at ho
 have rl : W.ownsRow Bl 53 2 (rv m) (ps[m]'hmlt).2.length (zs m) := by
  have := (h.row m hmlt).1
  rwa [if_pos hm.symm] at this
 have og : ∀ {b e s n v ys}, e ≠ 91 → w9.ownsRow b e s v n ys → (w9.setCell ⟨g, m * 2 + 1, none⟩ v8).ownsRow b e s v n ys := fun {b e s n v ys} hne hr => by
  have o9 : w9.ownsRow B 91 2 (.slice (some ⟨g, 0, none⟩) (m + 1) c) (m + 1) xs := own_next (ho.kept g8 (own_ne (by decide) ho (rl))) hb
  rcases own_ne hne hr o9 with e0 | e0
  ·exact ownsRow_setCell_other hr (by rw [e0]; simp) _
  ·exact ownsRow_setCell_other hr (by simpa [Value.ownBlock] using e0) _
 have o9 : w9.ownsRow B 91 2 (.slice (some ⟨g, 0, none⟩) (m + 1) c) (m + 1) xs := own_next (ho.kept g8 (own_ne (by decide) ho rl)) hb
 have hsz : (w9.setCell ⟨g, m * 2 + 1, none⟩ v8).heap.size = w9.heap.size := by simp [World.setCell]
 rw [putR_at hm]
 refine ⟨xs.set (m * 2 + 1) v8, Bl, fun i => if i = m then v8 else rv i, fun i => if i = m then zs m ++ [.slice ra r.1.length rc, .int .i64 r.2] else zs i, ?_, h.lo, ?_, fun i hi => ?_, fun i hi => ?_, fun i hi => ?_, fun i hi g' hgi => ?_⟩
 ·rw [List.length_set, hm]
  exact (o9.stored (m * 2 + 1) v8).1
 ·rw [hsz]; exact Nat.le_trans h.hi (Nat.le_trans g8.size hb.size)
 ·have hi0 : i < ps.length := by simpa using hi
  obtain ⟨ka', kc', e0, s0⟩ := h.key i hi0
  rw [List.getElem?_set_ne (by omega), List.getElem_set]
  split
  ·rename_i e; subst e; exact ⟨ka', kc', e0, s0⟩
  ·exact ⟨ka', kc', e0, s0⟩
 ·have hi0 : i < ps.length := by simpa using hi
  by_cases e : i = m
  ·subst e
   rw [if_pos rfl, List.getElem?_set_self (by omega)]
  ·rw [if_neg e, List.getElem?_set_ne (by omega)]; exact h.cell i hi0
 ·have hi0 : i < ps.length := by simpa using hi
  by_cases e : i = m
  ·subst e
   simp only [List.length_set, if_true, List.getElem_set_self, List.length_append, List.length_singleton]
   rw [if_pos hm.symm]
   refine ⟨og (by decide) (own_next o8 hb), ?_⟩
   exact EncB.push (h.row i hi0).2 (x := r) sr
  ·simp only [List.length_set]
   rw [if_neg e, if_neg e, if_neg (by omega), List.getElem_set_ne (fun e' => e e'.symm)]
   have ri := h.rowB hi0
   refine ⟨og (by decide) (own_next (ri.kept g8 ?_) hb), (h.row i hi0).2⟩
   by_cases e0 : (rv i).ownBlock = none
   ·exact .inl e0
   ·obtain ⟨gi, hgi⟩ := Option.ne_none_iff_exists'.1 e0
    refine .inr fun e1 => ?_
    have h1 := h.low i (by omega) gi hgi
    have h2 := (rl.lt gi (e1 ▸ hgi)).1
    omega
 ·have hi0 : i + 1 < ps.length := by simpa using hi
  rw [if_neg (by omega)] at hgi
  exact h.low i hi0 g' hgi
end Go.Proofs.YtfojonhblblbjaaGreat
/- The walk of ops.parted. -/
namespace Go.Proofs.YtfojonhblblbjaaGreat
open Go.RowKit Go.Lib Go.Shelf

theorem infoP : (Tryz.prog.info? 91).map (fun i => (i.zero, i.size, i.bytes)) = some (some (.agg #[.slice none 0 0, .slice none 0 0]), 2, 48) := by kernel_rfl

set_option maxRecDepth 100000 in
set_option maxHeartbeats 4000000 in
theorem parted_at (a : Option Addr) (cap : Nat) (L : List Kp) (w : World) (h : KdAt w a L) (hl : L.length ≤ 400) :
  Calls Tryz.prog 56 #[.slice a L.length cap] w fun e w' => ∃ v, e = .returned v ∧ PsAt w w.heap.size w' v (partL L) ∧ Below w.heap.size w w' := by
 obtain ⟨i0, hi, hj0, hj1, hj2⟩ := info_parts Tryz.info42
 obtain ⟨ip, hip, hp0, hp1, hp2⟩ := info_parts infoP
 go_enter Tryz.func56, Tryz.ntmps56
 go_wp2_with fail
 go_loopw [3, 9] (fun v i wr => ∃ k : Nat, k ≤ L.length ∧ i = .int .i64 k ∧ PsAt w w.heap.size wr v (partL (L.take k)) ∧ Below w.heap.size w wr) (fun _ i _ => L.length - (intOf i).toNat)
 case atStart => exact ⟨0, Nat.zero_le _, rfl, PsAt.nil _ _ _ (Nat.le_refl _), Below.refl _ _⟩
 case round =>
  obtain ⟨k, hk, rfl, HPs, hb⟩ := hrel
  have hz := hb.size
  by_cases hlt : k < L.length
  ·obtain ⟨b, off, rfl, hbl, e2, ⟨ra, rc, e1, sr⟩, ka, kc, e0, sk⟩ := h.elem hlt
   have p2 := (hb.cell (p := ⟨b, _, none⟩) hbl).trans e2
   have p1 := (hb.cell (p := ⟨b, _, none⟩) hbl).trans e1
   have p0 := (hb.cell (p := ⟨b, _, none⟩) hbl).trans e0
   have hbl' : b < wr.heap.size := Nat.lt_of_lt_of_le hbl hz
   have HSr : Hid (SlAt w ra L[k].2.1) := sr
   have HSk : Hid (SlAt w ka L[k].1) := sk
   have HT : Hid (partL (L.take (k + 1)) = putR (openP (partL (L.take k)) L[k]) L[k].2) := partL_take hlt
   have hsz := partL_small (L.take k)
   rw [List.length_take] at hsz
   have HSm : Hid (∀ p ∈ partL (L.take k), p.2.length ≤ 400) := fun p hp => by have := hsz.2 p hp; omega
   have hpn : (partL (L.take k)).length ≤ 400 := by have := hsz.1; omega
   obtain ⟨va, vc, ev⟩ : ∃ va vc, u3 = .slice va (partL (L.take k)).length vc := by obtain ⟨_, _, _, _, I⟩ := HPs; exact own_shapeF I.own
   subst ev
   have hal : Below wr.heap.size wr (wr.alloc (.cells #[.slice ka L[k].1.length kc, .slice ra L[k].2.1.length rc, .int .i64 L[k].2.2] 73)) := (Below.refl _ _).alloc (Nat.le_refl _) _
   have q0 := heap_new wr #[.slice ka L[k].1.length kc, .slice ra L[k].2.1.length rc, .int .i64 L[k].2.2] 73
   have hbk := chain hb hal
   have HPk := HPs.next hal
   clear e0 e1 e2 sr sk hsz HPs
   go_upto_region 5 with fail
   clear p0 p1 p2
   generalize wr.alloc (.cells #[.slice ka L[k].1.length kc, .slice ra L[k].2.1.length rc, .int .i64 L[k].2.2] 73) = wk at *
   obtain ⟨ps, eps⟩ : ∃ ps, ps = partL (L.take k) := ⟨_, rfl⟩
   by_cases h0 : ps.length = 0
   ·have HOp : Hid (openP (partL (L.take k)) L[k] = ps ++ [(L[k].1, [])]) := by show _ = _; rw [← eps]; exact openP_nil h0 _
    rw [← eps] at HPk HSm hpn ⊢
    clear eps
    obtain rfl : ps = [] := List.eq_nil_of_length_eq_zero h0
    haveI : Nonempty (Past wk) := ⟨⟨wk, Below.refl _ _⟩⟩
    refine wp_region_past (by kernel_rfl) (by kernel_rfl) ?_
    repeat (go_big_quiet_step (fail))
    refine wpQuiet_nil ?_
    rintro wq ⟨⟨v7, hb7⟩, h7⟩
    obtain rfl : wq = v7 := h7
    have HPq := HPk.next hb7
    have hbq := chain hbk hb7
    have qq := (hb7.block _ (lt_of_heap q0)).trans q0
    clear HPk h0
    obtain ⟨xs, Bl, rv, zs, In⟩ := HPq
    have ho := In.own
    have HInq : Hid (PsIn w w.heap.size wq (.slice va 0 vc) ([] : List Pt) xs Bl rv zs) := In
    have kq : wq.cell? ⟨wr.heap.size, 0, none⟩ = some (.slice ka L[k].1.length kc) := cell_of (i := 0) qq rfl
    have hzq := hbq.size
    clear In
    go_wp2_with (first | (at_builtin; refine wpList_append_own _ rfl _ _ 88 rfl w.heap.size 91 ip _ 2 48 Tryz.underlying88 hip hp0 hp1 hp2 rfl (by decide) _ _ _ rfl (ho.alloc _) ⟨wq.heap.size, 0, none⟩ 1 1 [.slice ka L[k].1.length kc, .slice none 0 0] rfl rfl ?Bc1 ?Bc2 ?Bc3 ?Bc4 ?Bc5 ?_))
    case Bc1 =>
     intro i u hu
     match i, hu with
     | 0, hu => simp at hu; subst hu; simp [Addr.add]
     | 1, hu => simp at hu; subst hu; simp [Addr.add]
    case Bc2 => intro u hu; simp at hu; rcases hu with rfl | rfl <;> rfl
    case Bc3 => unfold maxLen; omega
    case Bc4 => omega
    case Bc5 => simp; omega
    intro v' wx ox gx _
    have halq : Below wq.heap.size wq (wq.alloc (.cells #[.slice ka L[k].1.length kc, .slice none 0 0] 91)) := (Below.refl _ _).alloc (Nat.le_refl _) _
    have oq := ho.alloc (.cells #[.slice ka L[k].1.length kc, .slice none 0 0] 91)
    have HPx : PsAt w w.heap.size wx v' (([] : List Pt) ++ [(L[k].1, [])]) := (HInq.out.next halq).push HSk.out gx (by first | exact ox | (rw [hm]; exact ox))
    have hbx : Below w.heap.size w wx := (chain hbq halq).grown gx (by simp; omega) (fun q hq => (oq.lt q hq).1)
    have qx : wx.heap[wr.heap.size]? = some (.cells #[.slice ka L[k].1.length kc, .slice ra L[k].2.1.length rc, .int .i64 L[k].2.2] 73 (0, 0)) := by
     have qa := (halq.block _ (lt_of_heap qq)).trans qq
     exact (gx.block _ (lt_of_heap qa) (fun e => own_not oq qa (by decide) e.symm)).trans qa
    have q0x := qx
    obtain ⟨ps1, eps1⟩ : ∃ ps1, ps1 = ([] : List Pt) ++ [(L[k].1, [])] := ⟨_, rfl⟩
    obtain ⟨m, hmm⟩ : ∃ m, m = 0 := ⟨_, rfl⟩
    have hm4 : m ≤ 400 := by omega
    rw [← eps1] at HPx
    have hm1 : ps1.length = m + 1 := by rw [hmm, eps1, List.length_append]; first | rfl | (rw [hm]; rfl)
    have eo : openP (partL (L.take k)) L[k] = ps1 := by rw [eps1]; exact HOp.out
    have hsm : ∀ p ∈ ps1, p.2.length ≤ 400 := fun p hp => by
     rw [eps1] at hp
     rcases List.mem_append.1 hp with hp | hp
     ·exact HSm.out p hp
     ·rw [List.mem_singleton.1 hp]; exact Nat.zero_le _
    obtain ⟨g, c, evx⟩ : ∃ g c, v' = .slice (some ⟨g, 0, none⟩) ps1.length c := by
     obtain ⟨xs', _, _, _, I'⟩ := HPx
     rcases I'.own.2 with ⟨_, h2⟩ | ⟨g2, c2, _, h2, _⟩
     ·omega
     ·exact ⟨g2, c2, h2⟩
    subst evx
    clear eps1 ox gx oq HInq ho kq halq hmm
    have hmlt : m < ps1.length := by omega
    obtain ⟨xs, Bl, rv, zs, In⟩ := HPx
    have HIn : Hid (PsIn w w.heap.size wx (.slice (some ⟨g, 0, none⟩) ps1.length c) ps1 xs Bl rv zs) := In
    have hgB : w.heap.size ≤ g := (In.own.lt g rfl).1
    have hgx : g < wx.heap.size := (In.own.lt g rfl).2
    have hgl : g = wr.heap.size → False := fun e => own_not In.own q0x (by decide) (show some g = some wr.heap.size by rw [e])
    obtain ⟨rva, rvc, erv⟩ : ∃ rva rvc, rv m = .slice rva ps1[m].2.length rvc := own_shapeF (In.row m hmlt).1
    have cx : wx.cell? ⟨g, m * 2 + 1, none⟩ = some (.slice rva ps1[m].2.length rvc) := by
     have := In.own
     rw [this.cellAt _ (by omega), In.cell m hmlt, erv]
    have hrow1 : ps1[m].2.length ≤ 400 := hsm ps1[m] (List.getElem_mem hmlt)
    have ev : Value.slice (some ⟨g, 0, none⟩) (m + 1) c = .slice (some ⟨g, 0, none⟩) ps1.length c := by rw [hm1]
    have m0 : (0 : Int) ≤ (m : Int) := by omega
    have m1 : (m : Int) < (m : Int) + 1 := by omega
    have m2 : (m : Int) ≤ 400 := by omega
    clear In
    try rw [hm1]
    go_upto_region 8 with fail
    have hCC : ∀ W W' : World, (W.heap[wr.heap.size]? = some (.cells #[.slice ka L[k].1.length kc, .slice ra L[k].2.1.length rc, .int .i64 L[k].2.2] 73 (0, 0))) → Below W.heap.size W W' → (W'.heap[wr.heap.size]? = some (.cells #[.slice ka L[k].1.length kc, .slice ra L[k].2.1.length rc, .int .i64 L[k].2.2] 73 (0, 0))) := fun W W' h hb => (hb.block _ (lt_of_heap h)).trans h
    have hdr : Below wx.heap.size wx wx.drew := (Below.refl _ _).drew
    have CW : (wx.drew.heap[wr.heap.size]? = some (.cells #[.slice ka L[k].1.length kc, .slice ra L[k].2.1.length rc, .int .i64 L[k].2.2] 73 (0, 0))) := hCC _ _ q0x hdr
    refine wp_region_cls (fun W => (W.heap[wr.heap.size]? = some (.cells #[.slice ka L[k].1.length kc, .slice ra L[k].2.1.length rc, .int .i64 L[k].2.2] 73 (0, 0)))) (by kernel_rfl) ?_
    refine wpY_take hCC (some 40) (i := 0) (v := .pointer (some ⟨g, m * 2, none⟩)) rfl rfl (by kernel_rfl) (by kernel_rfl) (by kernel_rfl) (fun _ _ _ h => h) (Or.inl ⟨rfl, fun n hn => ?_⟩) CW ?_
    ·go_simp
    simp only [Act.put, List.setIfInBounds_toArray, List.set_cons_zero, List.set_cons_succ]
    refine wpY_take hCC (some 41) (i := 1) (v := .pointer (some ⟨g, m * 2, none⟩)) rfl rfl (by kernel_rfl) (by kernel_rfl) (by kernel_rfl) (fun _ _ _ h => h) (Or.inl ⟨rfl, fun n hn => ?_⟩) CW ?_
    ·go_simp
    simp only [Act.put, List.setIfInBounds_toArray, List.set_cons_zero, List.set_cons_succ]
    refine wpY_take hCC (some 42) (i := 2) (v := .pointer (some ⟨g, m * 2, none⟩)) rfl rfl (by kernel_rfl) (by kernel_rfl) (by kernel_rfl) (fun _ _ _ h => h) (Or.inl ⟨rfl, fun n hn => ?_⟩) CW ?_
    ·go_simp
    simp only [Act.put, List.setIfInBounds_toArray, List.set_cons_zero, List.set_cons_succ]
    refine wpY_take hCC (some 43) (i := 3) (v := .pointer (some ⟨g, m * 2 + 1, none⟩)) rfl rfl (by kernel_rfl) (by kernel_rfl) (by kernel_rfl) (fun _ _ _ h => h) (Or.inl ⟨rfl, fun n hn => ?_⟩) CW ?_
    ·go_simp
    simp only [Act.put, List.setIfInBounds_toArray, List.set_cons_zero, List.set_cons_succ]
    refine wpY_take hCC (some 45) (i := 5) (v := .pointer (some ⟨wr.heap.size, 1, none⟩)) rfl rfl (by kernel_rfl) (by kernel_rfl) (by kernel_rfl) (fun _ _ _ h => h) (Or.inl ⟨rfl, fun n hn => ?_⟩) CW ?_
    ·go_simp
    simp only [Act.put, List.setIfInBounds_toArray, List.set_cons_zero, List.set_cons_succ]
    refine wpY_take hCC (some 46) (i := 6) (v := .agg #[.slice ra L[k].2.1.length rc, .int .i64 L[k].2.2]) rfl rfl (by kernel_rfl) (by kernel_rfl) (by kernel_rfl) (fun _ _ _ h => h) (Or.inl ⟨rfl, fun n hn => ?_⟩) CW ?_
    ·have hc : n.cell? ⟨wr.heap.size, 1, none⟩ = some (.slice ra L[k].2.1.length rc) := cell_of (i := 1) hn rfl
     have hc1 : n.cell? ⟨wr.heap.size, 2, none⟩ = some (.int .i64 L[k].2.2) := cell_of (i := 2) hn rfl
     go_simp
    simp only [Act.put, List.setIfInBounds_toArray, List.set_cons_zero, List.set_cons_succ]
    refine wpY_step (rs := [4, 7]) (by kernel_rfl) (by simp) ?_
    intro w3 hb3 jj hj
    have D3 := chain hdr hb3
    have CW3 := hCC _ _ CW hb3
    rcases (by simpa using hj : jj = 4 ∨ jj = 7) with rfl | rfl
    ·clear hj
     have c3 := (D3.cell (p := ⟨g, m * 2 + 1, none⟩) hgx).trans cx
     refine wpOp_step rfl (fun K hK => ?_)
     go_simp
     refine hK _ _ ⟨CW3, ?_⟩
     clear hK K
     try simp only [Act.put, List.setIfInBounds_toArray, List.set_cons_zero, List.set_cons_succ]
     refine wpY_step (rs := [7]) (by kernel_rfl) (by simp) ?_
     intro w5 hb5 jj hj
     obtain rfl : jj = 7 := by simpa using hj
     clear hj
     refine wpOp_step rfl (fun K hK => ?_)
     go_simp
     have hal5 : Below w5.heap.size w5 (w5.alloc (.cells #[.slice ra L[k].2.1.length rc, .int .i64 L[k].2.2] 53)) := (Below.refl _ _).alloc (Nat.le_refl _) _
     have q6 := heap_new w5 #[.slice ra L[k].2.1.length rc, .int .i64 L[k].2.2] 53
     have D6 := chain (chain D3 hb5) hal5
     have CWt := hCC _ _ (hCC _ _ CW3 hb5) hal5
     refine hK _ _ ⟨CWt, ?_⟩
     clear hK K c3 CW3
     generalize w5.alloc (.cells #[.slice ra L[k].2.1.length rc, .int .i64 L[k].2.2] 53) = w6 at *
     try simp only [Act.put, List.setIfInBounds_toArray, List.set_cons_zero, List.set_cons_succ]
     refine wpY_step (rs := [8]) (by kernel_rfl) (by simp) ?_
     intro w7 hb7 jj hj
     obtain rfl : jj = 8 := by simpa using hj
     clear hj
     have D7 := chain D6 hb7
     have CW7 := hCC _ _ CWt hb7
     have q7 := (hb7.block _ (lt_of_heap q6)).trans q6
     have I7 := HIn.out.next D7
     have rl7 : w7.ownsRow Bl 53 2 (.slice rva ps1[m].2.length rvc) ps1[m].2.length (zs m) := by
      have := (I7.row m hmlt).1
      rw [if_pos hm1.symm, erv] at this
      exact this
     have hBl7 := I7.hi
     refine wpOp_step rfl (fun K hK => ?_)
     refine Eq.mpr (if_pos (by kernel_rfl)) ?_
     refine wp_append_at (some 48) rfl (Operand.tmp 44) (Operand.tmp 47) 28 rfl Bl 53 i0 _ 2 32 Tryz.underlying28 hi hj0 hj1 hj2 rfl (by decide) (.slice rva ps1[m].2.length rvc) ps1[m].2.length (zs m) rfl rl7 ⟨w5.heap.size, 0, none⟩ 1 1 [.slice ra L[k].2.1.length rc, .int .i64 L[k].2.2] rfl rfl ?Ac1 ?Ac2 ?Ac3 ?Ac4 ?Ac5 ?_
     case Ac1 =>
      intro j u hj
      match j, hj with
      | 0, hj => simp at hj; subst hj; exact cell_of (i := 0) q7 rfl
      | 1, hj => simp at hj; subst hj; exact cell_of (i := 1) q7 rfl
     case Ac2 => intro u hu; simp at hu; rcases hu with rfl | rfl <;> rfl
     case Ac3 => unfold maxLen; omega
     case Ac4 => omega
     case Ac5 => exact hBl7
     intro v8 w8 o8 g8 _
     have nb8 : ∀ q, Value.ownBlock (.slice rva ps1[m].2.length rvc) = some q → w.heap.size ≤ q ∧ q < w7.heap.size ∧ (q = wr.heap.size → False) ∧ (q = g → False) := fun q hq => by
      have h1 := rl7.lt q hq
      refine ⟨Nat.le_trans I7.lo h1.1, h1.2, fun e => ?_, fun e => ?_⟩
      ·exact own_not rl7 CW7 (by decide) (by rw [hq, e])
      ·have o7 := I7.own
       rcases own_ne (by decide) rl7 o7 with h2 | h2
       ·rw [h2] at hq; cases hq
       ·exact h2 (by rw [hq, e]; rfl)
     have CW8 : (w8.heap[wr.heap.size]? = some (.cells #[.slice ka L[k].1.length kc, .slice ra L[k].2.1.length rc, .int .i64 L[k].2.2] 73 (0, 0))) := (g8.block _ (lt_of_heap CW7) (fun e => (nb8 _ e.symm).2.2.1 rfl)).trans CW7
     have c8 : w8.cell? ⟨g, m * 2 + 1, none⟩ = some (.slice rva ps1[m].2.length rvc) ∧ w8.frozen? ⟨g, m * 2 + 1, none⟩ = false := by
      have o7 := I7.own
      rw [hm1] at o7
      have hb8 : w8.heap[g]? = w7.heap[g]? := g8.block g (o7.lt g rfl).2 (fun e => (nb8 _ e.symm).2.2.2 rfl)
      refine ⟨(World.cell?_of_block (a := ⟨g, m * 2 + 1, none⟩) hb8).trans ?_, (World.frozen?_of_block (a := ⟨g, m * 2 + 1, none⟩) hb8).trans (o7.frozenAt _)⟩
      rw [o7.cellAt _ (by omega), I7.cell m hmlt, erv]
     have hg8 : g < w8.heap.size := by
      have o7 := I7.own
      rw [hm1] at o7
      exact Nat.lt_of_lt_of_le (o7.lt g rfl).2 g8.size
     refine hK _ _ ⟨CW8, ?_⟩
     clear hK K
     try simp only [Act.put, List.setIfInBounds_toArray, List.set_cons_zero, List.set_cons_succ]
     refine wpY_take hCC (some 49) (i := 9) (v := .pointer (some ⟨g, m * 2, none⟩)) rfl rfl (by kernel_rfl) (by kernel_rfl) (by kernel_rfl) (fun _ _ _ h => h) (Or.inl ⟨rfl, fun n hn => ?_⟩) CW8 ?_
     ·go_simp
     simp only [Act.put, List.setIfInBounds_toArray, List.set_cons_zero, List.set_cons_succ]
     refine wpY_take hCC (some 50) (i := 10) (v := .pointer (some ⟨g, m * 2 + 1, none⟩)) rfl rfl (by kernel_rfl) (by kernel_rfl) (by kernel_rfl) (fun _ _ _ h => h) (Or.inl ⟨rfl, fun n hn => ?_⟩) CW8 ?_
     ·go_simp
     simp only [Act.put, List.setIfInBounds_toArray, List.set_cons_zero, List.set_cons_succ]
     refine wpY_step (rs := [11]) (by kernel_rfl) (by simp) ?_
     intro w9 hb9 jj hj
     obtain rfl : jj = 11 := by simpa using hj
     clear hj
     have c9 : w9.cell? ⟨g, m * 2 + 1, none⟩ = some (.slice rva ps1[m].2.length rvc) := (hb9.cell (p := ⟨g, m * 2 + 1, none⟩) hg8).trans c8.1
     have f9 : w9.frozen? ⟨g, m * 2 + 1, none⟩ = false := (hb9.frozen (p := ⟨g, m * 2 + 1, none⟩) hg8).trans c8.2
     have CW9 := hCC _ _ CW8 hb9
     obtain ⟨v8a, v8c, ev8⟩ : ∃ v8a v8c, v8 = .slice v8a (ps1[m].2.length + 1) v8c := own_shapeF o8
     have P9 : PsAt w w.heap.size (w9.setCell ⟨g, m * 2 + 1, none⟩ v8) (.slice (some ⟨g, 0, none⟩) (m + 1) c) (putR ps1 L[k].2) := by
      have I7' := I7
      rw [← ev] at I7'
      exact PsIn.put I7' hm1 (rc := rc) HSr.out (by rw [erv]; exact g8) o8 hb9
     have B9 : Below w.heap.size w (w9.setCell ⟨g, m * 2 + 1, none⟩ v8) := ((chain ((chain hbx D7).trans ((Below.refl _ _).grown g8 (Nat.le_trans hbx.size D7.size) (fun q hq => (nb8 q hq).1))) hb9)).setCell (p := ⟨g, m * 2 + 1, none⟩) hgB _
     have CW10 : ((w9.setCell ⟨g, m * 2 + 1, none⟩ v8).heap[wr.heap.size]? = some (.cells #[.slice ka L[k].1.length kc, .slice ra L[k].2.1.length rc, .int .i64 L[k].2.2] 73 (0, 0))) := (Below.heap_setCell _ _ _ _ (fun e => hgl e.symm)).trans CW9
     subst ev8
     refine wpOp_step rfl (fun K hK => ?_)
     go_simp
     refine hK _ _ ⟨CW10, ?_⟩
     clear hK K CW7 CW8 CW9 c8 c9 f9 nb8 rl7 I7 q7 o8 g8
     generalize w9.setCell ⟨g, m * 2 + 1, none⟩ (.slice v8a (ps1[m].2.length + 1) v8c) = wS at *
     try simp only [Act.put, List.setIfInBounds_toArray, List.set_cons_zero, List.set_cons_succ]
     refine wpY_done (by kernel_rfl) ?_
     intro wT hbT
     have PT := P9.next hbT
     have BT := chain B9 hbT
     clear P9 B9 CW10 CW CWt
     go_wp2_with fail
     go_roundw
     case rel => exact ⟨k + 1, by omega, by go_num, by rw [HT.out, eo]; first | exact PT | (rw [hm1]; exact PT), BT⟩
     case measure => simp [intOf]; omega
    ·clear hj
     refine wpOp_step rfl (fun K hK => ?_)
     go_simp
     have hal4 : Below w3.heap.size w3 (w3.alloc (.cells #[.slice ra L[k].2.1.length rc, .int .i64 L[k].2.2] 53)) := (Below.refl _ _).alloc (Nat.le_refl _) _
     have q4 := heap_new w3 #[.slice ra L[k].2.1.length rc, .int .i64 L[k].2.2] 53
     have D4 := chain D3 hal4
     have CW4 := hCC _ _ CW3 hal4
     refine hK _ _ ⟨CW4, ?_⟩
     clear hK K
     generalize w3.alloc (.cells #[.slice ra L[k].2.1.length rc, .int .i64 L[k].2.2] 53) = w4 at *
     try simp only [Act.put, List.setIfInBounds_toArray, List.set_cons_zero, List.set_cons_succ]
     refine wpY_step (rs := [4]) (by kernel_rfl) (by simp) ?_
     intro w6 hb6 jj hj
     obtain rfl : jj = 4 := by simpa using hj
     clear hj
     have D6 := chain D4 hb6
     have CWt := hCC _ _ CW4 hb6
     have q6 := (hb6.block _ (lt_of_heap q4)).trans q4
     have c6 := (D6.cell (p := ⟨g, m * 2 + 1, none⟩) hgx).trans cx
     refine wpOp_step rfl (fun K hK => ?_)
     go_simp
     refine hK _ _ ⟨CWt, ?_⟩
     clear hK K c6 CW3 CW4
     try simp only [Act.put, List.setIfInBounds_toArray, List.set_cons_zero, List.set_cons_succ]
     refine wpY_step (rs := [8]) (by kernel_rfl) (by simp) ?_
     intro w7 hb7 jj hj
     obtain rfl : jj = 8 := by simpa using hj
     clear hj
     have D7 := chain D6 hb7
     have CW7 := hCC _ _ CWt hb7
     have q7 := (hb7.block _ (lt_of_heap q6)).trans q6
     have I7 := HIn.out.next D7
     have rl7 : w7.ownsRow Bl 53 2 (.slice rva ps1[m].2.length rvc) ps1[m].2.length (zs m) := by
      have := (I7.row m hmlt).1
      rw [if_pos hm1.symm, erv] at this
      exact this
     have hBl7 := I7.hi
     refine wpOp_step rfl (fun K hK => ?_)
     refine Eq.mpr (if_pos (by kernel_rfl)) ?_
     refine wp_append_at (some 48) rfl (Operand.tmp 44) (Operand.tmp 47) 28 rfl Bl 53 i0 _ 2 32 Tryz.underlying28 hi hj0 hj1 hj2 rfl (by decide) (.slice rva ps1[m].2.length rvc) ps1[m].2.length (zs m) rfl rl7 ⟨w3.heap.size, 0, none⟩ 1 1 [.slice ra L[k].2.1.length rc, .int .i64 L[k].2.2] rfl rfl ?Ac1 ?Ac2 ?Ac3 ?Ac4 ?Ac5 ?_
     case Ac1 =>
      intro j u hj
      match j, hj with
      | 0, hj => simp at hj; subst hj; exact cell_of (i := 0) q7 rfl
      | 1, hj => simp at hj; subst hj; exact cell_of (i := 1) q7 rfl
     case Ac2 => intro u hu; simp at hu; rcases hu with rfl | rfl <;> rfl
     case Ac3 => unfold maxLen; omega
     case Ac4 => omega
     case Ac5 => exact hBl7
     intro v8 w8 o8 g8 _
     have nb8 : ∀ q, Value.ownBlock (.slice rva ps1[m].2.length rvc) = some q → w.heap.size ≤ q ∧ q < w7.heap.size ∧ (q = wr.heap.size → False) ∧ (q = g → False) := fun q hq => by
      have h1 := rl7.lt q hq
      refine ⟨Nat.le_trans I7.lo h1.1, h1.2, fun e => ?_, fun e => ?_⟩
      ·exact own_not rl7 CW7 (by decide) (by rw [hq, e])
      ·have o7 := I7.own
       rcases own_ne (by decide) rl7 o7 with h2 | h2
       ·rw [h2] at hq; cases hq
       ·exact h2 (by rw [hq, e]; rfl)
     have CW8 : (w8.heap[wr.heap.size]? = some (.cells #[.slice ka L[k].1.length kc, .slice ra L[k].2.1.length rc, .int .i64 L[k].2.2] 73 (0, 0))) := (g8.block _ (lt_of_heap CW7) (fun e => (nb8 _ e.symm).2.2.1 rfl)).trans CW7
     have c8 : w8.cell? ⟨g, m * 2 + 1, none⟩ = some (.slice rva ps1[m].2.length rvc) ∧ w8.frozen? ⟨g, m * 2 + 1, none⟩ = false := by
      have o7 := I7.own
      rw [hm1] at o7
      have hb8 : w8.heap[g]? = w7.heap[g]? := g8.block g (o7.lt g rfl).2 (fun e => (nb8 _ e.symm).2.2.2 rfl)
      refine ⟨(World.cell?_of_block (a := ⟨g, m * 2 + 1, none⟩) hb8).trans ?_, (World.frozen?_of_block (a := ⟨g, m * 2 + 1, none⟩) hb8).trans (o7.frozenAt _)⟩
      rw [o7.cellAt _ (by omega), I7.cell m hmlt, erv]
     have hg8 : g < w8.heap.size := by
      have o7 := I7.own
      rw [hm1] at o7
      exact Nat.lt_of_lt_of_le (o7.lt g rfl).2 g8.size
     refine hK _ _ ⟨CW8, ?_⟩
     clear hK K
     try simp only [Act.put, List.setIfInBounds_toArray, List.set_cons_zero, List.set_cons_succ]
     refine wpY_take hCC (some 49) (i := 9) (v := .pointer (some ⟨g, m * 2, none⟩)) rfl rfl (by kernel_rfl) (by kernel_rfl) (by kernel_rfl) (fun _ _ _ h => h) (Or.inl ⟨rfl, fun n hn => ?_⟩) CW8 ?_
     ·go_simp
     simp only [Act.put, List.setIfInBounds_toArray, List.set_cons_zero, List.set_cons_succ]
     refine wpY_take hCC (some 50) (i := 10) (v := .pointer (some ⟨g, m * 2 + 1, none⟩)) rfl rfl (by kernel_rfl) (by kernel_rfl) (by kernel_rfl) (fun _ _ _ h => h) (Or.inl ⟨rfl, fun n hn => ?_⟩) CW8 ?_
     ·go_simp
     simp only [Act.put, List.setIfInBounds_toArray, List.set_cons_zero, List.set_cons_succ]
     refine wpY_step (rs := [11]) (by kernel_rfl) (by simp) ?_
     intro w9 hb9 jj hj
     obtain rfl : jj = 11 := by simpa using hj
     clear hj
     have c9 : w9.cell? ⟨g, m * 2 + 1, none⟩ = some (.slice rva ps1[m].2.length rvc) := (hb9.cell (p := ⟨g, m * 2 + 1, none⟩) hg8).trans c8.1
     have f9 : w9.frozen? ⟨g, m * 2 + 1, none⟩ = false := (hb9.frozen (p := ⟨g, m * 2 + 1, none⟩) hg8).trans c8.2
     have CW9 := hCC _ _ CW8 hb9
     obtain ⟨v8a, v8c, ev8⟩ : ∃ v8a v8c, v8 = .slice v8a (ps1[m].2.length + 1) v8c := own_shapeF o8
     have P9 : PsAt w w.heap.size (w9.setCell ⟨g, m * 2 + 1, none⟩ v8) (.slice (some ⟨g, 0, none⟩) (m + 1) c) (putR ps1 L[k].2) := by
      have I7' := I7
      rw [← ev] at I7'
      exact PsIn.put I7' hm1 (rc := rc) HSr.out (by rw [erv]; exact g8) o8 hb9
     have B9 : Below w.heap.size w (w9.setCell ⟨g, m * 2 + 1, none⟩ v8) := ((chain ((chain hbx D7).trans ((Below.refl _ _).grown g8 (Nat.le_trans hbx.size D7.size) (fun q hq => (nb8 q hq).1))) hb9)).setCell (p := ⟨g, m * 2 + 1, none⟩) hgB _
     have CW10 : ((w9.setCell ⟨g, m * 2 + 1, none⟩ v8).heap[wr.heap.size]? = some (.cells #[.slice ka L[k].1.length kc, .slice ra L[k].2.1.length rc, .int .i64 L[k].2.2] 73 (0, 0))) := (Below.heap_setCell _ _ _ _ (fun e => hgl e.symm)).trans CW9
     subst ev8
     refine wpOp_step rfl (fun K hK => ?_)
     go_simp
     refine hK _ _ ⟨CW10, ?_⟩
     clear hK K CW7 CW8 CW9 c8 c9 f9 nb8 rl7 I7 q7 o8 g8
     generalize w9.setCell ⟨g, m * 2 + 1, none⟩ (.slice v8a (ps1[m].2.length + 1) v8c) = wS at *
     try simp only [Act.put, List.setIfInBounds_toArray, List.set_cons_zero, List.set_cons_succ]
     refine wpY_done (by kernel_rfl) ?_
     intro wT hbT
     have PT := P9.next hbT
     have BT := chain B9 hbT
     clear P9 B9 CW10 CW CWt
     go_wp2_with fail
     go_roundw
     case rel => exact ⟨k + 1, by omega, by go_num, by rw [HT.out, eo]; first | exact PT | (rw [hm1]; exact PT), BT⟩
     case measure => simp [intOf]; omega
   ·obtain ⟨mm, hm⟩ : ∃ mm, ps.length = mm + 1 := ⟨ps.length - 1, by omega⟩
    have hmm : mm < ps.length := by omega
    rw [← eps] at HPk HSm hpn ⊢
    have Eps : Hid (ps = partL (L.take k)) := eps
    clear eps
    rw [hm] at HPk ⊢
    obtain ⟨g0, eva⟩ : ∃ g0, va = some ⟨g0, 0, none⟩ := by
     obtain ⟨_, _, _, _, I⟩ := HPk
     rcases I.own.2 with ⟨_, h2⟩ | ⟨g2, c2, _, h2, _⟩
     ·omega
     ·exact ⟨g2, by injection h2⟩
    subst eva
    obtain ⟨la, lc, ck, sk, hgk⟩ : ∃ la lc, wk.cell? ⟨g0, mm * 2, none⟩ = some (.slice la ps[mm].1.length lc) ∧ SlAt w la ps[mm].1 ∧ g0 < wk.heap.size := by
     obtain ⟨xs, _, _, _, I⟩ := HPk
     obtain ⟨la, lc, x0, s0⟩ := I.key mm hmm
     have o := I.own
     rw [hm] at o
     exact ⟨la, lc, by rw [o.cellAt _ (by omega)]; exact x0, s0, (o.lt g0 rfl).2⟩
    have HSl : Hid (SlAt w la ps[mm].1) := sk
    have m0 : (0 : Int) ≤ (mm : Int) := by omega
    have m1 : (mm : Int) < (mm : Int) + 1 := by omega
    have m2 : (mm : Int) ≤ 400 := by omega
    have mne : ¬ (mm : Int) + 1 = 0 := by omega
    have hCC : ∀ W W' : World, (W.heap[wr.heap.size]? = some (.cells #[.slice ka L[k].1.length kc, .slice ra L[k].2.1.length rc, .int .i64 L[k].2.2] 73 (0, 0)) ∧ W.cell? ⟨g0, mm * 2, none⟩ = some (.slice la ps[mm].1.length lc)) → Below W.heap.size W W' → (W'.heap[wr.heap.size]? = some (.cells #[.slice ka L[k].1.length kc, .slice ra L[k].2.1.length rc, .int .i64 L[k].2.2] 73 (0, 0)) ∧ W'.cell? ⟨g0, mm * 2, none⟩ = some (.slice la ps[mm].1.length lc)) := fun W W' h hb => ⟨(hb.block _ (lt_of_heap h.1)).trans h.1, (hb.cell (World.block_lt_of_cell? _ _ h.2)).trans h.2⟩
    have hdr : Below wk.heap.size wk wk.drew := (Below.refl _ _).drew
    have CW : (wk.drew.heap[wr.heap.size]? = some (.cells #[.slice ka L[k].1.length kc, .slice ra L[k].2.1.length rc, .int .i64 L[k].2.2] 73 (0, 0)) ∧ wk.drew.cell? ⟨g0, mm * 2, none⟩ = some (.slice la ps[mm].1.length lc)) := hCC _ _ ⟨q0, ck⟩ hdr
    clear sk h0
    refine wp_region_cls (fun W => (W.heap[wr.heap.size]? = some (.cells #[.slice ka L[k].1.length kc, .slice ra L[k].2.1.length rc, .int .i64 L[k].2.2] 73 (0, 0)) ∧ W.cell? ⟨g0, mm * 2, none⟩ = some (.slice la ps[mm].1.length lc))) (by kernel_rfl) ?_
    refine wpY_take hCC (some 13) (i := 0) (v := .slice (some ⟨g0, 0, none⟩) (mm + 1) vc) rfl rfl (by kernel_rfl) (by kernel_rfl) (by kernel_rfl) (fun _ _ _ h => h) (Or.inl ⟨rfl, fun n hn => ?_⟩) CW ?_
    ·go_simp
    simp only [Act.put, List.setIfInBounds_toArray, List.set_cons_zero, List.set_cons_succ]
    refine wpY_take hCC (some 14) (i := 1) (v := .int .i64 ((mm : Int) + 1)) rfl rfl (by kernel_rfl) (by kernel_rfl) (by kernel_rfl) (fun _ _ _ h => h) (Or.inl ⟨rfl, fun n hn => ?_⟩) CW ?_
    ·go_simp
    simp only [Act.put, List.setIfInBounds_toArray, List.set_cons_zero, List.set_cons_succ]
    refine wpY_take hCC (some 15) (i := 2) (v := .bool false) rfl rfl (by kernel_rfl) (by kernel_rfl) (by kernel_rfl) (fun _ _ _ h => h) (Or.inl ⟨rfl, fun n hn => ?_⟩) CW ?_
    ·go_simp
    simp only [Act.put, List.setIfInBounds_toArray, List.set_cons_zero, List.set_cons_succ]
    refine wpY_take hCC (some 16) (i := 3) (v := .bool false) rfl rfl (by kernel_rfl) (by kernel_rfl) (by kernel_rfl) (fun _ _ _ h => h) (Or.inl ⟨rfl, fun n hn => ?_⟩) CW ?_
    ·go_simp
    simp only [Act.put, List.setIfInBounds_toArray, List.set_cons_zero, List.set_cons_succ]
    refine wpY_take hCC (some 17) (i := 4) (v := .slice (some ⟨g0, 0, none⟩) (mm + 1) vc) rfl rfl (by kernel_rfl) (by kernel_rfl) (by kernel_rfl) (fun _ _ _ h => h) (Or.inl ⟨rfl, fun n hn => ?_⟩) CW ?_
    ·go_simp
    simp only [Act.put, List.setIfInBounds_toArray, List.set_cons_zero, List.set_cons_succ]
    refine wpY_take hCC (some 18) (i := 5) (v := .slice (some ⟨g0, 0, none⟩) (mm + 1) vc) rfl rfl (by kernel_rfl) (by kernel_rfl) (by kernel_rfl) (fun _ _ _ h => h) (Or.inl ⟨rfl, fun n hn => ?_⟩) CW ?_
    ·go_simp
    simp only [Act.put, List.setIfInBounds_toArray, List.set_cons_zero, List.set_cons_succ]
    refine wpY_take hCC (some 19) (i := 6) (v := .int .i64 ((mm : Int) + 1)) rfl rfl (by kernel_rfl) (by kernel_rfl) (by kernel_rfl) (fun _ _ _ h => h) (Or.inl ⟨rfl, fun n hn => ?_⟩) CW ?_
    ·go_simp
    simp only [Act.put, List.setIfInBounds_toArray, List.set_cons_zero, List.set_cons_succ]
    refine wpY_take hCC (some 20) (i := 7) (v := .int .i64 (mm : Int)) rfl rfl (by kernel_rfl) (by kernel_rfl) (by kernel_rfl) (fun _ _ _ h => h) (Or.inl ⟨rfl, fun n hn => ?_⟩) CW ?_
    ·go_simp
     exact IntWalk.i64_in _ ⟨by omega, by omega⟩
    simp only [Act.put, List.setIfInBounds_toArray, List.set_cons_zero, List.set_cons_succ]
    refine wpY_take hCC (some 21) (i := 8) (v := .pointer (some ⟨g0, mm * 2, none⟩)) rfl rfl (by kernel_rfl) (by kernel_rfl) (by kernel_rfl) (fun _ _ _ h => h) (Or.inl ⟨rfl, fun n hn => ?_⟩) CW ?_
    ·go_simp
    simp only [Act.put, List.setIfInBounds_toArray, List.set_cons_zero, List.set_cons_succ]
    refine wpY_take hCC (some 22) (i := 9) (v := .pointer (some ⟨g0, mm * 2, none⟩)) rfl rfl (by kernel_rfl) (by kernel_rfl) (by kernel_rfl) (fun _ _ _ h => h) (Or.inl ⟨rfl, fun n hn => ?_⟩) CW ?_
    ·go_simp
    simp only [Act.put, List.setIfInBounds_toArray, List.set_cons_zero, List.set_cons_succ]
    refine wpY_take hCC (some 23) (i := 10) (v := .slice la ps[mm].1.length lc) rfl rfl (by kernel_rfl) (by kernel_rfl) (by kernel_rfl) (fun _ _ _ h => h) (Or.inl ⟨rfl, fun n hn => ?_⟩) CW ?_
    ·have hc := hn.2
     go_simp
    simp only [Act.put, List.setIfInBounds_toArray, List.set_cons_zero, List.set_cons_succ]
    refine wpY_take hCC (some 24) (i := 11) (v := .pointer (some ⟨wr.heap.size, 0, none⟩)) rfl rfl (by kernel_rfl) (by kernel_rfl) (by kernel_rfl) (fun _ _ _ h => h) (Or.inl ⟨rfl, fun n hn => ?_⟩) CW ?_
    ·go_simp
    simp only [Act.put, List.setIfInBounds_toArray, List.set_cons_zero, List.set_cons_succ]
    refine wpY_take hCC (some 25) (i := 12) (v := .slice ka L[k].1.length kc) rfl rfl (by kernel_rfl) (by kernel_rfl) (by kernel_rfl) (fun _ _ _ h => h) (Or.inl ⟨rfl, fun n hn => ?_⟩) CW ?_
    ·have hc : n.cell? ⟨wr.heap.size, 0, none⟩ = some (.slice ka L[k].1.length kc) := cell_of (i := 0) hn.1 rfl
     go_simp
    simp only [Act.put, List.setIfInBounds_toArray, List.set_cons_zero, List.set_cons_succ]
    refine wpY_step (rs := [13]) (by kernel_rfl) (by simp) ?_
    intro w3 hb3 jj hj
    obtain rfl : jj = 13 := by simpa using hj
    clear hj
    have CW3 := hCC _ _ CW hb3
    have D3 := chain hdr hb3
    have con := rows_at la ka lc kc ps[mm].1 L[k].1 w3 (HSl.out.next (chain hbk D3)) (HSk.out.next (chain hbk D3))
    generalize hcm : cmpL ps[mm].1 L[k].1 = cm at con
    have HCm : Hid (cmpL ps[mm].1 L[k].1 = cm) := hcm
    clear hcm
    refine wpOp_step rfl (fun K hK => ?_)
    go_simp
    refine con.mono ?_
    rintro e w4 ⟨rfl, hb4⟩
    clear con
    have CW4 := hCC _ _ CW3 hb4
    have D4 := chain D3 hb4
    refine hK _ _ ⟨CW4, ?_⟩
    clear hK K CW3
    refine wpY_take hCC (some 27) (i := 14) (v := .bool (cm != 0)) rfl rfl (by kernel_rfl) (by kernel_rfl) (by kernel_rfl) (fun _ _ _ h => h) (Or.inl ⟨rfl, fun n hn => ?_⟩) CW4 ?_
    ·go_simp
    simp only [Act.put, List.setIfInBounds_toArray, List.set_cons_zero, List.set_cons_succ]
    refine wpY_take hCC (some 28) (i := 15) (v := .bool (cm != 0)) rfl rfl (by kernel_rfl) (by kernel_rfl) (by kernel_rfl) (fun _ _ _ h => h) (Or.inl ⟨rfl, fun n hn => ?_⟩) CW4 ?_
    ·go_simp
    simp only [Act.put, List.setIfInBounds_toArray, List.set_cons_zero, List.set_cons_succ]
    refine wpY_done (by kernel_rfl) ?_
    intro wq hbw
    have D5 := chain D4 hbw
    have HPq := HPk.next D5
    have hbq := chain hbk D5
    have qq := (D5.block _ (lt_of_heap q0)).trans q0
    clear CW CW4 hCC D4 D3 D5 hbw HPk
    by_cases hc0 : cm = 0
    ·have hcb : (cm != 0) = false := by simp [hc0]
     rw [hcb]
     have eo : openP (partL (L.take k)) L[k] = ps := by rw [← Eps.out]; exact openP_same hm (by rw [HCm.out]; exact hc0)
     clear Eps hcb
     obtain ⟨wx, hwx⟩ : ∃ z, z = wq := ⟨_, rfl⟩
     subst hwx
     obtain ⟨m, hmx⟩ : ∃ z, z = mm := ⟨_, rfl⟩
     subst hmx
     obtain ⟨ps1, hpx⟩ : ∃ z, z = ps := ⟨_, rfl⟩
     subst hpx
     obtain ⟨g, hgx0⟩ : ∃ z, z = g0 := ⟨_, rfl⟩
     subst hgx0
     obtain ⟨c, hcx⟩ : ∃ z, z = vc := ⟨_, rfl⟩
     subst hcx
     have hm1 := hm
     have q0x := qq
     have hbx := hbq
     have hsm := HSm.out
     have HPx : PsAt w w.heap.size wx (.slice (some ⟨g, 0, none⟩) ps1.length c) ps1 := by rw [hm]; exact HPq
     clear HPq
     go_wp2_with fail
     have hmlt : m < ps1.length := by omega
     obtain ⟨xs, Bl, rv, zs, In⟩ := HPx
     have HIn : Hid (PsIn w w.heap.size wx (.slice (some ⟨g, 0, none⟩) ps1.length c) ps1 xs Bl rv zs) := In
     have hgB : w.heap.size ≤ g := (In.own.lt g rfl).1
     have hgx : g < wx.heap.size := (In.own.lt g rfl).2
     have hgl : g = wr.heap.size → False := fun e => own_not In.own q0x (by decide) (show some g = some wr.heap.size by rw [e])
     obtain ⟨rva, rvc, erv⟩ : ∃ rva rvc, rv m = .slice rva ps1[m].2.length rvc := own_shapeF (In.row m hmlt).1
     have cx : wx.cell? ⟨g, m * 2 + 1, none⟩ = some (.slice rva ps1[m].2.length rvc) := by
      have := In.own
      rw [this.cellAt _ (by omega), In.cell m hmlt, erv]
     have hrow1 : ps1[m].2.length ≤ 400 := hsm ps1[m] (List.getElem_mem hmlt)
     have ev : Value.slice (some ⟨g, 0, none⟩) (m + 1) c = .slice (some ⟨g, 0, none⟩) ps1.length c := by rw [hm1]
     have m0 : (0 : Int) ≤ (m : Int) := by omega
     have m1 : (m : Int) < (m : Int) + 1 := by omega
     have m2 : (m : Int) ≤ 400 := by omega
     clear In
     try rw [hm1]
     go_upto_region 8 with fail
     have hCC : ∀ W W' : World, (W.heap[wr.heap.size]? = some (.cells #[.slice ka L[k].1.length kc, .slice ra L[k].2.1.length rc, .int .i64 L[k].2.2] 73 (0, 0))) → Below W.heap.size W W' → (W'.heap[wr.heap.size]? = some (.cells #[.slice ka L[k].1.length kc, .slice ra L[k].2.1.length rc, .int .i64 L[k].2.2] 73 (0, 0))) := fun W W' h hb => (hb.block _ (lt_of_heap h)).trans h
     have hdr : Below wx.heap.size wx wx.drew := (Below.refl _ _).drew
     have CW : (wx.drew.heap[wr.heap.size]? = some (.cells #[.slice ka L[k].1.length kc, .slice ra L[k].2.1.length rc, .int .i64 L[k].2.2] 73 (0, 0))) := hCC _ _ q0x hdr
     refine wp_region_cls (fun W => (W.heap[wr.heap.size]? = some (.cells #[.slice ka L[k].1.length kc, .slice ra L[k].2.1.length rc, .int .i64 L[k].2.2] 73 (0, 0)))) (by kernel_rfl) ?_
     refine wpY_take hCC (some 40) (i := 0) (v := .pointer (some ⟨g, m * 2, none⟩)) rfl rfl (by kernel_rfl) (by kernel_rfl) (by kernel_rfl) (fun _ _ _ h => h) (Or.inl ⟨rfl, fun n hn => ?_⟩) CW ?_
     ·go_simp
     simp only [Act.put, List.setIfInBounds_toArray, List.set_cons_zero, List.set_cons_succ]
     refine wpY_take hCC (some 41) (i := 1) (v := .pointer (some ⟨g, m * 2, none⟩)) rfl rfl (by kernel_rfl) (by kernel_rfl) (by kernel_rfl) (fun _ _ _ h => h) (Or.inl ⟨rfl, fun n hn => ?_⟩) CW ?_
     ·go_simp
     simp only [Act.put, List.setIfInBounds_toArray, List.set_cons_zero, List.set_cons_succ]
     refine wpY_take hCC (some 42) (i := 2) (v := .pointer (some ⟨g, m * 2, none⟩)) rfl rfl (by kernel_rfl) (by kernel_rfl) (by kernel_rfl) (fun _ _ _ h => h) (Or.inl ⟨rfl, fun n hn => ?_⟩) CW ?_
     ·go_simp
     simp only [Act.put, List.setIfInBounds_toArray, List.set_cons_zero, List.set_cons_succ]
     refine wpY_take hCC (some 43) (i := 3) (v := .pointer (some ⟨g, m * 2 + 1, none⟩)) rfl rfl (by kernel_rfl) (by kernel_rfl) (by kernel_rfl) (fun _ _ _ h => h) (Or.inl ⟨rfl, fun n hn => ?_⟩) CW ?_
     ·go_simp
     simp only [Act.put, List.setIfInBounds_toArray, List.set_cons_zero, List.set_cons_succ]
     refine wpY_take hCC (some 45) (i := 5) (v := .pointer (some ⟨wr.heap.size, 1, none⟩)) rfl rfl (by kernel_rfl) (by kernel_rfl) (by kernel_rfl) (fun _ _ _ h => h) (Or.inl ⟨rfl, fun n hn => ?_⟩) CW ?_
     ·go_simp
     simp only [Act.put, List.setIfInBounds_toArray, List.set_cons_zero, List.set_cons_succ]
     refine wpY_take hCC (some 46) (i := 6) (v := .agg #[.slice ra L[k].2.1.length rc, .int .i64 L[k].2.2]) rfl rfl (by kernel_rfl) (by kernel_rfl) (by kernel_rfl) (fun _ _ _ h => h) (Or.inl ⟨rfl, fun n hn => ?_⟩) CW ?_
     ·have hc : n.cell? ⟨wr.heap.size, 1, none⟩ = some (.slice ra L[k].2.1.length rc) := cell_of (i := 1) hn rfl
      have hc1 : n.cell? ⟨wr.heap.size, 2, none⟩ = some (.int .i64 L[k].2.2) := cell_of (i := 2) hn rfl
      go_simp
     simp only [Act.put, List.setIfInBounds_toArray, List.set_cons_zero, List.set_cons_succ]
     refine wpY_step (rs := [4, 7]) (by kernel_rfl) (by simp) ?_
     intro w3 hb3 jj hj
     have D3 := chain hdr hb3
     have CW3 := hCC _ _ CW hb3
     rcases (by simpa using hj : jj = 4 ∨ jj = 7) with rfl | rfl
     ·clear hj
      have c3 := (D3.cell (p := ⟨g, m * 2 + 1, none⟩) hgx).trans cx
      refine wpOp_step rfl (fun K hK => ?_)
      go_simp
      refine hK _ _ ⟨CW3, ?_⟩
      clear hK K
      try simp only [Act.put, List.setIfInBounds_toArray, List.set_cons_zero, List.set_cons_succ]
      refine wpY_step (rs := [7]) (by kernel_rfl) (by simp) ?_
      intro w5 hb5 jj hj
      obtain rfl : jj = 7 := by simpa using hj
      clear hj
      refine wpOp_step rfl (fun K hK => ?_)
      go_simp
      have hal5 : Below w5.heap.size w5 (w5.alloc (.cells #[.slice ra L[k].2.1.length rc, .int .i64 L[k].2.2] 53)) := (Below.refl _ _).alloc (Nat.le_refl _) _
      have q6 := heap_new w5 #[.slice ra L[k].2.1.length rc, .int .i64 L[k].2.2] 53
      have D6 := chain (chain D3 hb5) hal5
      have CWt := hCC _ _ (hCC _ _ CW3 hb5) hal5
      refine hK _ _ ⟨CWt, ?_⟩
      clear hK K c3 CW3
      generalize w5.alloc (.cells #[.slice ra L[k].2.1.length rc, .int .i64 L[k].2.2] 53) = w6 at *
      try simp only [Act.put, List.setIfInBounds_toArray, List.set_cons_zero, List.set_cons_succ]
      refine wpY_step (rs := [8]) (by kernel_rfl) (by simp) ?_
      intro w7 hb7 jj hj
      obtain rfl : jj = 8 := by simpa using hj
      clear hj
      have D7 := chain D6 hb7
      have CW7 := hCC _ _ CWt hb7
      have q7 := (hb7.block _ (lt_of_heap q6)).trans q6
      have I7 := HIn.out.next D7
      have rl7 : w7.ownsRow Bl 53 2 (.slice rva ps1[m].2.length rvc) ps1[m].2.length (zs m) := by
       have := (I7.row m hmlt).1
       rw [if_pos hm1.symm, erv] at this
       exact this
      have hBl7 := I7.hi
      refine wpOp_step rfl (fun K hK => ?_)
      refine Eq.mpr (if_pos (by kernel_rfl)) ?_
      refine wp_append_at (some 48) rfl (Operand.tmp 44) (Operand.tmp 47) 28 rfl Bl 53 i0 _ 2 32 Tryz.underlying28 hi hj0 hj1 hj2 rfl (by decide) (.slice rva ps1[m].2.length rvc) ps1[m].2.length (zs m) rfl rl7 ⟨w5.heap.size, 0, none⟩ 1 1 [.slice ra L[k].2.1.length rc, .int .i64 L[k].2.2] rfl rfl ?Ac1 ?Ac2 ?Ac3 ?Ac4 ?Ac5 ?_
      case Ac1 =>
       intro j u hj
       match j, hj with
       | 0, hj => simp at hj; subst hj; exact cell_of (i := 0) q7 rfl
       | 1, hj => simp at hj; subst hj; exact cell_of (i := 1) q7 rfl
      case Ac2 => intro u hu; simp at hu; rcases hu with rfl | rfl <;> rfl
      case Ac3 => unfold maxLen; omega
      case Ac4 => omega
      case Ac5 => exact hBl7
      intro v8 w8 o8 g8 _
      have nb8 : ∀ q, Value.ownBlock (.slice rva ps1[m].2.length rvc) = some q → w.heap.size ≤ q ∧ q < w7.heap.size ∧ (q = wr.heap.size → False) ∧ (q = g → False) := fun q hq => by
       have h1 := rl7.lt q hq
       refine ⟨Nat.le_trans I7.lo h1.1, h1.2, fun e => ?_, fun e => ?_⟩
       ·exact own_not rl7 CW7 (by decide) (by rw [hq, e])
       ·have o7 := I7.own
        rcases own_ne (by decide) rl7 o7 with h2 | h2
        ·rw [h2] at hq; cases hq
        ·exact h2 (by rw [hq, e]; rfl)
      have CW8 : (w8.heap[wr.heap.size]? = some (.cells #[.slice ka L[k].1.length kc, .slice ra L[k].2.1.length rc, .int .i64 L[k].2.2] 73 (0, 0))) := (g8.block _ (lt_of_heap CW7) (fun e => (nb8 _ e.symm).2.2.1 rfl)).trans CW7
      have c8 : w8.cell? ⟨g, m * 2 + 1, none⟩ = some (.slice rva ps1[m].2.length rvc) ∧ w8.frozen? ⟨g, m * 2 + 1, none⟩ = false := by
       have o7 := I7.own
       rw [hm1] at o7
       have hb8 : w8.heap[g]? = w7.heap[g]? := g8.block g (o7.lt g rfl).2 (fun e => (nb8 _ e.symm).2.2.2 rfl)
       refine ⟨(World.cell?_of_block (a := ⟨g, m * 2 + 1, none⟩) hb8).trans ?_, (World.frozen?_of_block (a := ⟨g, m * 2 + 1, none⟩) hb8).trans (o7.frozenAt _)⟩
       rw [o7.cellAt _ (by omega), I7.cell m hmlt, erv]
      have hg8 : g < w8.heap.size := by
       have o7 := I7.own
       rw [hm1] at o7
       exact Nat.lt_of_lt_of_le (o7.lt g rfl).2 g8.size
      refine hK _ _ ⟨CW8, ?_⟩
      clear hK K
      try simp only [Act.put, List.setIfInBounds_toArray, List.set_cons_zero, List.set_cons_succ]
      refine wpY_take hCC (some 49) (i := 9) (v := .pointer (some ⟨g, m * 2, none⟩)) rfl rfl (by kernel_rfl) (by kernel_rfl) (by kernel_rfl) (fun _ _ _ h => h) (Or.inl ⟨rfl, fun n hn => ?_⟩) CW8 ?_
      ·go_simp
      simp only [Act.put, List.setIfInBounds_toArray, List.set_cons_zero, List.set_cons_succ]
      refine wpY_take hCC (some 50) (i := 10) (v := .pointer (some ⟨g, m * 2 + 1, none⟩)) rfl rfl (by kernel_rfl) (by kernel_rfl) (by kernel_rfl) (fun _ _ _ h => h) (Or.inl ⟨rfl, fun n hn => ?_⟩) CW8 ?_
      ·go_simp
      simp only [Act.put, List.setIfInBounds_toArray, List.set_cons_zero, List.set_cons_succ]
      refine wpY_step (rs := [11]) (by kernel_rfl) (by simp) ?_
      intro w9 hb9 jj hj
      obtain rfl : jj = 11 := by simpa using hj
      clear hj
      have c9 : w9.cell? ⟨g, m * 2 + 1, none⟩ = some (.slice rva ps1[m].2.length rvc) := (hb9.cell (p := ⟨g, m * 2 + 1, none⟩) hg8).trans c8.1
      have f9 : w9.frozen? ⟨g, m * 2 + 1, none⟩ = false := (hb9.frozen (p := ⟨g, m * 2 + 1, none⟩) hg8).trans c8.2
      have CW9 := hCC _ _ CW8 hb9
      obtain ⟨v8a, v8c, ev8⟩ : ∃ v8a v8c, v8 = .slice v8a (ps1[m].2.length + 1) v8c := own_shapeF o8
      have P9 : PsAt w w.heap.size (w9.setCell ⟨g, m * 2 + 1, none⟩ v8) (.slice (some ⟨g, 0, none⟩) (m + 1) c) (putR ps1 L[k].2) := by
       have I7' := I7
       rw [← ev] at I7'
       exact PsIn.put I7' hm1 (rc := rc) HSr.out (by rw [erv]; exact g8) o8 hb9
      have B9 : Below w.heap.size w (w9.setCell ⟨g, m * 2 + 1, none⟩ v8) := ((chain ((chain hbx D7).trans ((Below.refl _ _).grown g8 (Nat.le_trans hbx.size D7.size) (fun q hq => (nb8 q hq).1))) hb9)).setCell (p := ⟨g, m * 2 + 1, none⟩) hgB _
      have CW10 : ((w9.setCell ⟨g, m * 2 + 1, none⟩ v8).heap[wr.heap.size]? = some (.cells #[.slice ka L[k].1.length kc, .slice ra L[k].2.1.length rc, .int .i64 L[k].2.2] 73 (0, 0))) := (Below.heap_setCell _ _ _ _ (fun e => hgl e.symm)).trans CW9
      subst ev8
      refine wpOp_step rfl (fun K hK => ?_)
      go_simp
      refine hK _ _ ⟨CW10, ?_⟩
      clear hK K CW7 CW8 CW9 c8 c9 f9 nb8 rl7 I7 q7 o8 g8
      generalize w9.setCell ⟨g, m * 2 + 1, none⟩ (.slice v8a (ps1[m].2.length + 1) v8c) = wS at *
      try simp only [Act.put, List.setIfInBounds_toArray, List.set_cons_zero, List.set_cons_succ]
      refine wpY_done (by kernel_rfl) ?_
      intro wT hbT
      have PT := P9.next hbT
      have BT := chain B9 hbT
      clear P9 B9 CW10 CW CWt
      go_wp2_with fail
      go_roundw
      case rel => exact ⟨k + 1, by omega, by go_num, by rw [HT.out, eo]; first | exact PT | (rw [hm1]; exact PT), BT⟩
      case measure => simp [intOf]; omega
     ·clear hj
      refine wpOp_step rfl (fun K hK => ?_)
      go_simp
      have hal4 : Below w3.heap.size w3 (w3.alloc (.cells #[.slice ra L[k].2.1.length rc, .int .i64 L[k].2.2] 53)) := (Below.refl _ _).alloc (Nat.le_refl _) _
      have q4 := heap_new w3 #[.slice ra L[k].2.1.length rc, .int .i64 L[k].2.2] 53
      have D4 := chain D3 hal4
      have CW4 := hCC _ _ CW3 hal4
      refine hK _ _ ⟨CW4, ?_⟩
      clear hK K
      generalize w3.alloc (.cells #[.slice ra L[k].2.1.length rc, .int .i64 L[k].2.2] 53) = w4 at *
      try simp only [Act.put, List.setIfInBounds_toArray, List.set_cons_zero, List.set_cons_succ]
      refine wpY_step (rs := [4]) (by kernel_rfl) (by simp) ?_
      intro w6 hb6 jj hj
      obtain rfl : jj = 4 := by simpa using hj
      clear hj
      have D6 := chain D4 hb6
      have CWt := hCC _ _ CW4 hb6
      have q6 := (hb6.block _ (lt_of_heap q4)).trans q4
      have c6 := (D6.cell (p := ⟨g, m * 2 + 1, none⟩) hgx).trans cx
      refine wpOp_step rfl (fun K hK => ?_)
      go_simp
      refine hK _ _ ⟨CWt, ?_⟩
      clear hK K c6 CW3 CW4
      try simp only [Act.put, List.setIfInBounds_toArray, List.set_cons_zero, List.set_cons_succ]
      refine wpY_step (rs := [8]) (by kernel_rfl) (by simp) ?_
      intro w7 hb7 jj hj
      obtain rfl : jj = 8 := by simpa using hj
      clear hj
      have D7 := chain D6 hb7
      have CW7 := hCC _ _ CWt hb7
      have q7 := (hb7.block _ (lt_of_heap q6)).trans q6
      have I7 := HIn.out.next D7
      have rl7 : w7.ownsRow Bl 53 2 (.slice rva ps1[m].2.length rvc) ps1[m].2.length (zs m) := by
       have := (I7.row m hmlt).1
       rw [if_pos hm1.symm, erv] at this
       exact this
      have hBl7 := I7.hi
      refine wpOp_step rfl (fun K hK => ?_)
      refine Eq.mpr (if_pos (by kernel_rfl)) ?_
      refine wp_append_at (some 48) rfl (Operand.tmp 44) (Operand.tmp 47) 28 rfl Bl 53 i0 _ 2 32 Tryz.underlying28 hi hj0 hj1 hj2 rfl (by decide) (.slice rva ps1[m].2.length rvc) ps1[m].2.length (zs m) rfl rl7 ⟨w3.heap.size, 0, none⟩ 1 1 [.slice ra L[k].2.1.length rc, .int .i64 L[k].2.2] rfl rfl ?Ac1 ?Ac2 ?Ac3 ?Ac4 ?Ac5 ?_
      case Ac1 =>
       intro j u hj
       match j, hj with
       | 0, hj => simp at hj; subst hj; exact cell_of (i := 0) q7 rfl
       | 1, hj => simp at hj; subst hj; exact cell_of (i := 1) q7 rfl
      case Ac2 => intro u hu; simp at hu; rcases hu with rfl | rfl <;> rfl
      case Ac3 => unfold maxLen; omega
      case Ac4 => omega
      case Ac5 => exact hBl7
      intro v8 w8 o8 g8 _
      have nb8 : ∀ q, Value.ownBlock (.slice rva ps1[m].2.length rvc) = some q → w.heap.size ≤ q ∧ q < w7.heap.size ∧ (q = wr.heap.size → False) ∧ (q = g → False) := fun q hq => by
       have h1 := rl7.lt q hq
       refine ⟨Nat.le_trans I7.lo h1.1, h1.2, fun e => ?_, fun e => ?_⟩
       ·exact own_not rl7 CW7 (by decide) (by rw [hq, e])
       ·have o7 := I7.own
        rcases own_ne (by decide) rl7 o7 with h2 | h2
        ·rw [h2] at hq; cases hq
        ·exact h2 (by rw [hq, e]; rfl)
      have CW8 : (w8.heap[wr.heap.size]? = some (.cells #[.slice ka L[k].1.length kc, .slice ra L[k].2.1.length rc, .int .i64 L[k].2.2] 73 (0, 0))) := (g8.block _ (lt_of_heap CW7) (fun e => (nb8 _ e.symm).2.2.1 rfl)).trans CW7
      have c8 : w8.cell? ⟨g, m * 2 + 1, none⟩ = some (.slice rva ps1[m].2.length rvc) ∧ w8.frozen? ⟨g, m * 2 + 1, none⟩ = false := by
       have o7 := I7.own
       rw [hm1] at o7
       have hb8 : w8.heap[g]? = w7.heap[g]? := g8.block g (o7.lt g rfl).2 (fun e => (nb8 _ e.symm).2.2.2 rfl)
       refine ⟨(World.cell?_of_block (a := ⟨g, m * 2 + 1, none⟩) hb8).trans ?_, (World.frozen?_of_block (a := ⟨g, m * 2 + 1, none⟩) hb8).trans (o7.frozenAt _)⟩
       rw [o7.cellAt _ (by omega), I7.cell m hmlt, erv]
      have hg8 : g < w8.heap.size := by
       have o7 := I7.own
       rw [hm1] at o7
       exact Nat.lt_of_lt_of_le (o7.lt g rfl).2 g8.size
      refine hK _ _ ⟨CW8, ?_⟩
      clear hK K
      try simp only [Act.put, List.setIfInBounds_toArray, List.set_cons_zero, List.set_cons_succ]
      refine wpY_take hCC (some 49) (i := 9) (v := .pointer (some ⟨g, m * 2, none⟩)) rfl rfl (by kernel_rfl) (by kernel_rfl) (by kernel_rfl) (fun _ _ _ h => h) (Or.inl ⟨rfl, fun n hn => ?_⟩) CW8 ?_
      ·go_simp
      simp only [Act.put, List.setIfInBounds_toArray, List.set_cons_zero, List.set_cons_succ]
      refine wpY_take hCC (some 50) (i := 10) (v := .pointer (some ⟨g, m * 2 + 1, none⟩)) rfl rfl (by kernel_rfl) (by kernel_rfl) (by kernel_rfl) (fun _ _ _ h => h) (Or.inl ⟨rfl, fun n hn => ?_⟩) CW8 ?_
      ·go_simp
      simp only [Act.put, List.setIfInBounds_toArray, List.set_cons_zero, List.set_cons_succ]
      refine wpY_step (rs := [11]) (by kernel_rfl) (by simp) ?_
      intro w9 hb9 jj hj
      obtain rfl : jj = 11 := by simpa using hj
      clear hj
      have c9 : w9.cell? ⟨g, m * 2 + 1, none⟩ = some (.slice rva ps1[m].2.length rvc) := (hb9.cell (p := ⟨g, m * 2 + 1, none⟩) hg8).trans c8.1
      have f9 : w9.frozen? ⟨g, m * 2 + 1, none⟩ = false := (hb9.frozen (p := ⟨g, m * 2 + 1, none⟩) hg8).trans c8.2
      have CW9 := hCC _ _ CW8 hb9
      obtain ⟨v8a, v8c, ev8⟩ : ∃ v8a v8c, v8 = .slice v8a (ps1[m].2.length + 1) v8c := own_shapeF o8
      have P9 : PsAt w w.heap.size (w9.setCell ⟨g, m * 2 + 1, none⟩ v8) (.slice (some ⟨g, 0, none⟩) (m + 1) c) (putR ps1 L[k].2) := by
       have I7' := I7
       rw [← ev] at I7'
       exact PsIn.put I7' hm1 (rc := rc) HSr.out (by rw [erv]; exact g8) o8 hb9
      have B9 : Below w.heap.size w (w9.setCell ⟨g, m * 2 + 1, none⟩ v8) := ((chain ((chain hbx D7).trans ((Below.refl _ _).grown g8 (Nat.le_trans hbx.size D7.size) (fun q hq => (nb8 q hq).1))) hb9)).setCell (p := ⟨g, m * 2 + 1, none⟩) hgB _
      have CW10 : ((w9.setCell ⟨g, m * 2 + 1, none⟩ v8).heap[wr.heap.size]? = some (.cells #[.slice ka L[k].1.length kc, .slice ra L[k].2.1.length rc, .int .i64 L[k].2.2] 73 (0, 0))) := (Below.heap_setCell _ _ _ _ (fun e => hgl e.symm)).trans CW9
      subst ev8
      refine wpOp_step rfl (fun K hK => ?_)
      go_simp
      refine hK _ _ ⟨CW10, ?_⟩
      clear hK K CW7 CW8 CW9 c8 c9 f9 nb8 rl7 I7 q7 o8 g8
      generalize w9.setCell ⟨g, m * 2 + 1, none⟩ (.slice v8a (ps1[m].2.length + 1) v8c) = wS at *
      try simp only [Act.put, List.setIfInBounds_toArray, List.set_cons_zero, List.set_cons_succ]
      refine wpY_done (by kernel_rfl) ?_
      intro wT hbT
      have PT := P9.next hbT
      have BT := chain B9 hbT
      clear P9 B9 CW10 CW CWt
      go_wp2_with fail
      go_roundw
      case rel => exact ⟨k + 1, by omega, by go_num, by rw [HT.out, eo]; first | exact PT | (rw [hm1]; exact PT), BT⟩
      case measure => simp [intOf]; omega
    ·have hcb : (cm != 0) = true := by simp [hc0]
     rw [hcb]
     have HOp : Hid (openP (partL (L.take k)) L[k] = ps ++ [(L[k].1, [])]) := by show _ = _; rw [← Eps.out]; exact openP_other hm (by rw [HCm.out]; exact hc0)
     clear Eps hcb
     obtain ⟨xs, Bl, rv, zs, In⟩ := HPq
     have ho := In.own
     have HInq : Hid (PsIn w w.heap.size wq (.slice (some ⟨g0, 0, none⟩) (mm + 1) vc) ps xs Bl rv zs) := In
     have kq : wq.cell? ⟨wr.heap.size, 0, none⟩ = some (.slice ka L[k].1.length kc) := cell_of (i := 0) qq rfl
     have hzq := hbq.size
     clear In
     go_wp2_with (first | (at_builtin; refine wpList_append_own _ rfl _ _ 88 rfl w.heap.size 91 ip _ 2 48 Tryz.underlying88 hip hp0 hp1 hp2 rfl (by decide) _ _ _ rfl (ho.alloc _) ⟨wq.heap.size, 0, none⟩ 1 1 [.slice ka L[k].1.length kc, .slice none 0 0] rfl rfl ?Bc1 ?Bc2 ?Bc3 ?Bc4 ?Bc5 ?_))
     case Bc1 =>
      intro i u hu
      match i, hu with
      | 0, hu => simp at hu; subst hu; simp [Addr.add]
      | 1, hu => simp at hu; subst hu; simp [Addr.add]
     case Bc2 => intro u hu; simp at hu; rcases hu with rfl | rfl <;> rfl
     case Bc3 => unfold maxLen; omega
     case Bc4 => omega
     case Bc5 => simp; omega
     intro v' wx ox gx _
     have halq : Below wq.heap.size wq (wq.alloc (.cells #[.slice ka L[k].1.length kc, .slice none 0 0] 91)) := (Below.refl _ _).alloc (Nat.le_refl _) _
     have oq := ho.alloc (.cells #[.slice ka L[k].1.length kc, .slice none 0 0] 91)
     have HPx : PsAt w w.heap.size wx v' (ps ++ [(L[k].1, [])]) := (HInq.out.next halq).push HSk.out gx (by first | exact ox | (rw [hm]; exact ox))
     have hbx : Below w.heap.size w wx := (chain hbq halq).grown gx (by simp; omega) (fun q hq => (oq.lt q hq).1)
     have qx : wx.heap[wr.heap.size]? = some (.cells #[.slice ka L[k].1.length kc, .slice ra L[k].2.1.length rc, .int .i64 L[k].2.2] 73 (0, 0)) := by
      have qa := (halq.block _ (lt_of_heap qq)).trans qq
      exact (gx.block _ (lt_of_heap qa) (fun e => own_not oq qa (by decide) e.symm)).trans qa
     have q0x := qx
     obtain ⟨ps1, eps1⟩ : ∃ ps1, ps1 = ps ++ [(L[k].1, [])] := ⟨_, rfl⟩
     obtain ⟨m, hmm⟩ : ∃ m, m = (mm + 1) := ⟨_, rfl⟩
     have hm4 : m ≤ 400 := by omega
     rw [← eps1] at HPx
     have hm1 : ps1.length = m + 1 := by rw [hmm, eps1, List.length_append]; first | rfl | (rw [hm]; rfl)
     have eo : openP (partL (L.take k)) L[k] = ps1 := by rw [eps1]; exact HOp.out
     have hsm : ∀ p ∈ ps1, p.2.length ≤ 400 := fun p hp => by
      rw [eps1] at hp
      rcases List.mem_append.1 hp with hp | hp
      ·exact HSm.out p hp
      ·rw [List.mem_singleton.1 hp]; exact Nat.zero_le _
     obtain ⟨g, c, evx⟩ : ∃ g c, v' = .slice (some ⟨g, 0, none⟩) ps1.length c := by
      obtain ⟨xs', _, _, _, I'⟩ := HPx
      rcases I'.own.2 with ⟨_, h2⟩ | ⟨g2, c2, _, h2, _⟩
      ·omega
      ·exact ⟨g2, c2, h2⟩
     subst evx
     clear eps1 ox gx oq HInq ho kq halq hmm
     have hmlt : m < ps1.length := by omega
     obtain ⟨xs, Bl, rv, zs, In⟩ := HPx
     have HIn : Hid (PsIn w w.heap.size wx (.slice (some ⟨g, 0, none⟩) ps1.length c) ps1 xs Bl rv zs) := In
     have hgB : w.heap.size ≤ g := (In.own.lt g rfl).1
     have hgx : g < wx.heap.size := (In.own.lt g rfl).2
     have hgl : g = wr.heap.size → False := fun e => own_not In.own q0x (by decide) (show some g = some wr.heap.size by rw [e])
     obtain ⟨rva, rvc, erv⟩ : ∃ rva rvc, rv m = .slice rva ps1[m].2.length rvc := own_shapeF (In.row m hmlt).1
     have cx : wx.cell? ⟨g, m * 2 + 1, none⟩ = some (.slice rva ps1[m].2.length rvc) := by
      have := In.own
      rw [this.cellAt _ (by omega), In.cell m hmlt, erv]
     have hrow1 : ps1[m].2.length ≤ 400 := hsm ps1[m] (List.getElem_mem hmlt)
     have ev : Value.slice (some ⟨g, 0, none⟩) (m + 1) c = .slice (some ⟨g, 0, none⟩) ps1.length c := by rw [hm1]
     have m0 : (0 : Int) ≤ (m : Int) := by omega
     have m1 : (m : Int) < (m : Int) + 1 := by omega
     have m2 : (m : Int) ≤ 400 := by omega
     clear In
     try rw [hm1]
     go_upto_region 8 with fail
     have hCC : ∀ W W' : World, (W.heap[wr.heap.size]? = some (.cells #[.slice ka L[k].1.length kc, .slice ra L[k].2.1.length rc, .int .i64 L[k].2.2] 73 (0, 0))) → Below W.heap.size W W' → (W'.heap[wr.heap.size]? = some (.cells #[.slice ka L[k].1.length kc, .slice ra L[k].2.1.length rc, .int .i64 L[k].2.2] 73 (0, 0))) := fun W W' h hb => (hb.block _ (lt_of_heap h)).trans h
     have hdr : Below wx.heap.size wx wx.drew := (Below.refl _ _).drew
     have CW : (wx.drew.heap[wr.heap.size]? = some (.cells #[.slice ka L[k].1.length kc, .slice ra L[k].2.1.length rc, .int .i64 L[k].2.2] 73 (0, 0))) := hCC _ _ q0x hdr
     refine wp_region_cls (fun W => (W.heap[wr.heap.size]? = some (.cells #[.slice ka L[k].1.length kc, .slice ra L[k].2.1.length rc, .int .i64 L[k].2.2] 73 (0, 0)))) (by kernel_rfl) ?_
     refine wpY_take hCC (some 40) (i := 0) (v := .pointer (some ⟨g, m * 2, none⟩)) rfl rfl (by kernel_rfl) (by kernel_rfl) (by kernel_rfl) (fun _ _ _ h => h) (Or.inl ⟨rfl, fun n hn => ?_⟩) CW ?_
     ·go_simp
     simp only [Act.put, List.setIfInBounds_toArray, List.set_cons_zero, List.set_cons_succ]
     refine wpY_take hCC (some 41) (i := 1) (v := .pointer (some ⟨g, m * 2, none⟩)) rfl rfl (by kernel_rfl) (by kernel_rfl) (by kernel_rfl) (fun _ _ _ h => h) (Or.inl ⟨rfl, fun n hn => ?_⟩) CW ?_
     ·go_simp
     simp only [Act.put, List.setIfInBounds_toArray, List.set_cons_zero, List.set_cons_succ]
     refine wpY_take hCC (some 42) (i := 2) (v := .pointer (some ⟨g, m * 2, none⟩)) rfl rfl (by kernel_rfl) (by kernel_rfl) (by kernel_rfl) (fun _ _ _ h => h) (Or.inl ⟨rfl, fun n hn => ?_⟩) CW ?_
     ·go_simp
     simp only [Act.put, List.setIfInBounds_toArray, List.set_cons_zero, List.set_cons_succ]
     refine wpY_take hCC (some 43) (i := 3) (v := .pointer (some ⟨g, m * 2 + 1, none⟩)) rfl rfl (by kernel_rfl) (by kernel_rfl) (by kernel_rfl) (fun _ _ _ h => h) (Or.inl ⟨rfl, fun n hn => ?_⟩) CW ?_
     ·go_simp
     simp only [Act.put, List.setIfInBounds_toArray, List.set_cons_zero, List.set_cons_succ]
     refine wpY_take hCC (some 45) (i := 5) (v := .pointer (some ⟨wr.heap.size, 1, none⟩)) rfl rfl (by kernel_rfl) (by kernel_rfl) (by kernel_rfl) (fun _ _ _ h => h) (Or.inl ⟨rfl, fun n hn => ?_⟩) CW ?_
     ·go_simp
     simp only [Act.put, List.setIfInBounds_toArray, List.set_cons_zero, List.set_cons_succ]
     refine wpY_take hCC (some 46) (i := 6) (v := .agg #[.slice ra L[k].2.1.length rc, .int .i64 L[k].2.2]) rfl rfl (by kernel_rfl) (by kernel_rfl) (by kernel_rfl) (fun _ _ _ h => h) (Or.inl ⟨rfl, fun n hn => ?_⟩) CW ?_
     ·have hc : n.cell? ⟨wr.heap.size, 1, none⟩ = some (.slice ra L[k].2.1.length rc) := cell_of (i := 1) hn rfl
      have hc1 : n.cell? ⟨wr.heap.size, 2, none⟩ = some (.int .i64 L[k].2.2) := cell_of (i := 2) hn rfl
      go_simp
     simp only [Act.put, List.setIfInBounds_toArray, List.set_cons_zero, List.set_cons_succ]
     refine wpY_step (rs := [4, 7]) (by kernel_rfl) (by simp) ?_
     intro w3 hb3 jj hj
     have D3 := chain hdr hb3
     have CW3 := hCC _ _ CW hb3
     rcases (by simpa using hj : jj = 4 ∨ jj = 7) with rfl | rfl
     ·clear hj
      have c3 := (D3.cell (p := ⟨g, m * 2 + 1, none⟩) hgx).trans cx
      refine wpOp_step rfl (fun K hK => ?_)
      go_simp
      refine hK _ _ ⟨CW3, ?_⟩
      clear hK K
      try simp only [Act.put, List.setIfInBounds_toArray, List.set_cons_zero, List.set_cons_succ]
      refine wpY_step (rs := [7]) (by kernel_rfl) (by simp) ?_
      intro w5 hb5 jj hj
      obtain rfl : jj = 7 := by simpa using hj
      clear hj
      refine wpOp_step rfl (fun K hK => ?_)
      go_simp
      have hal5 : Below w5.heap.size w5 (w5.alloc (.cells #[.slice ra L[k].2.1.length rc, .int .i64 L[k].2.2] 53)) := (Below.refl _ _).alloc (Nat.le_refl _) _
      have q6 := heap_new w5 #[.slice ra L[k].2.1.length rc, .int .i64 L[k].2.2] 53
      have D6 := chain (chain D3 hb5) hal5
      have CWt := hCC _ _ (hCC _ _ CW3 hb5) hal5
      refine hK _ _ ⟨CWt, ?_⟩
      clear hK K c3 CW3
      generalize w5.alloc (.cells #[.slice ra L[k].2.1.length rc, .int .i64 L[k].2.2] 53) = w6 at *
      try simp only [Act.put, List.setIfInBounds_toArray, List.set_cons_zero, List.set_cons_succ]
      refine wpY_step (rs := [8]) (by kernel_rfl) (by simp) ?_
      intro w7 hb7 jj hj
      obtain rfl : jj = 8 := by simpa using hj
      clear hj
      have D7 := chain D6 hb7
      have CW7 := hCC _ _ CWt hb7
      have q7 := (hb7.block _ (lt_of_heap q6)).trans q6
      have I7 := HIn.out.next D7
      have rl7 : w7.ownsRow Bl 53 2 (.slice rva ps1[m].2.length rvc) ps1[m].2.length (zs m) := by
       have := (I7.row m hmlt).1
       rw [if_pos hm1.symm, erv] at this
       exact this
      have hBl7 := I7.hi
      refine wpOp_step rfl (fun K hK => ?_)
      refine Eq.mpr (if_pos (by kernel_rfl)) ?_
      refine wp_append_at (some 48) rfl (Operand.tmp 44) (Operand.tmp 47) 28 rfl Bl 53 i0 _ 2 32 Tryz.underlying28 hi hj0 hj1 hj2 rfl (by decide) (.slice rva ps1[m].2.length rvc) ps1[m].2.length (zs m) rfl rl7 ⟨w5.heap.size, 0, none⟩ 1 1 [.slice ra L[k].2.1.length rc, .int .i64 L[k].2.2] rfl rfl ?Ac1 ?Ac2 ?Ac3 ?Ac4 ?Ac5 ?_
      case Ac1 =>
       intro j u hj
       match j, hj with
       | 0, hj => simp at hj; subst hj; exact cell_of (i := 0) q7 rfl
       | 1, hj => simp at hj; subst hj; exact cell_of (i := 1) q7 rfl
      case Ac2 => intro u hu; simp at hu; rcases hu with rfl | rfl <;> rfl
      case Ac3 => unfold maxLen; omega
      case Ac4 => omega
      case Ac5 => exact hBl7
      intro v8 w8 o8 g8 _
      have nb8 : ∀ q, Value.ownBlock (.slice rva ps1[m].2.length rvc) = some q → w.heap.size ≤ q ∧ q < w7.heap.size ∧ (q = wr.heap.size → False) ∧ (q = g → False) := fun q hq => by
       have h1 := rl7.lt q hq
       refine ⟨Nat.le_trans I7.lo h1.1, h1.2, fun e => ?_, fun e => ?_⟩
       ·exact own_not rl7 CW7 (by decide) (by rw [hq, e])
       ·have o7 := I7.own
        rcases own_ne (by decide) rl7 o7 with h2 | h2
        ·rw [h2] at hq; cases hq
        ·exact h2 (by rw [hq, e]; rfl)
      have CW8 : (w8.heap[wr.heap.size]? = some (.cells #[.slice ka L[k].1.length kc, .slice ra L[k].2.1.length rc, .int .i64 L[k].2.2] 73 (0, 0))) := (g8.block _ (lt_of_heap CW7) (fun e => (nb8 _ e.symm).2.2.1 rfl)).trans CW7
      have c8 : w8.cell? ⟨g, m * 2 + 1, none⟩ = some (.slice rva ps1[m].2.length rvc) ∧ w8.frozen? ⟨g, m * 2 + 1, none⟩ = false := by
       have o7 := I7.own
       rw [hm1] at o7
       have hb8 : w8.heap[g]? = w7.heap[g]? := g8.block g (o7.lt g rfl).2 (fun e => (nb8 _ e.symm).2.2.2 rfl)
       refine ⟨(World.cell?_of_block (a := ⟨g, m * 2 + 1, none⟩) hb8).trans ?_, (World.frozen?_of_block (a := ⟨g, m * 2 + 1, none⟩) hb8).trans (o7.frozenAt _)⟩
       rw [o7.cellAt _ (by omega), I7.cell m hmlt, erv]
      have hg8 : g < w8.heap.size := by
       have o7 := I7.own
       rw [hm1] at o7
       exact Nat.lt_of_lt_of_le (o7.lt g rfl).2 g8.size
      refine hK _ _ ⟨CW8, ?_⟩
      clear hK K
      try simp only [Act.put, List.setIfInBounds_toArray, List.set_cons_zero, List.set_cons_succ]
      refine wpY_take hCC (some 49) (i := 9) (v := .pointer (some ⟨g, m * 2, none⟩)) rfl rfl (by kernel_rfl) (by kernel_rfl) (by kernel_rfl) (fun _ _ _ h => h) (Or.inl ⟨rfl, fun n hn => ?_⟩) CW8 ?_
      ·go_simp
      simp only [Act.put, List.setIfInBounds_toArray, List.set_cons_zero, List.set_cons_succ]
      refine wpY_take hCC (some 50) (i := 10) (v := .pointer (some ⟨g, m * 2 + 1, none⟩)) rfl rfl (by kernel_rfl) (by kernel_rfl) (by kernel_rfl) (fun _ _ _ h => h) (Or.inl ⟨rfl, fun n hn => ?_⟩) CW8 ?_
      ·go_simp
      simp only [Act.put, List.setIfInBounds_toArray, List.set_cons_zero, List.set_cons_succ]
      refine wpY_step (rs := [11]) (by kernel_rfl) (by simp) ?_
      intro w9 hb9 jj hj
      obtain rfl : jj = 11 := by simpa using hj
      clear hj
      have c9 : w9.cell? ⟨g, m * 2 + 1, none⟩ = some (.slice rva ps1[m].2.length rvc) := (hb9.cell (p := ⟨g, m * 2 + 1, none⟩) hg8).trans c8.1
      have f9 : w9.frozen? ⟨g, m * 2 + 1, none⟩ = false := (hb9.frozen (p := ⟨g, m * 2 + 1, none⟩) hg8).trans c8.2
      have CW9 := hCC _ _ CW8 hb9
      obtain ⟨v8a, v8c, ev8⟩ : ∃ v8a v8c, v8 = .slice v8a (ps1[m].2.length + 1) v8c := own_shapeF o8
      have P9 : PsAt w w.heap.size (w9.setCell ⟨g, m * 2 + 1, none⟩ v8) (.slice (some ⟨g, 0, none⟩) (m + 1) c) (putR ps1 L[k].2) := by
       have I7' := I7
       rw [← ev] at I7'
       exact PsIn.put I7' hm1 (rc := rc) HSr.out (by rw [erv]; exact g8) o8 hb9
      have B9 : Below w.heap.size w (w9.setCell ⟨g, m * 2 + 1, none⟩ v8) := ((chain ((chain hbx D7).trans ((Below.refl _ _).grown g8 (Nat.le_trans hbx.size D7.size) (fun q hq => (nb8 q hq).1))) hb9)).setCell (p := ⟨g, m * 2 + 1, none⟩) hgB _
      have CW10 : ((w9.setCell ⟨g, m * 2 + 1, none⟩ v8).heap[wr.heap.size]? = some (.cells #[.slice ka L[k].1.length kc, .slice ra L[k].2.1.length rc, .int .i64 L[k].2.2] 73 (0, 0))) := (Below.heap_setCell _ _ _ _ (fun e => hgl e.symm)).trans CW9
      subst ev8
      refine wpOp_step rfl (fun K hK => ?_)
      go_simp
      refine hK _ _ ⟨CW10, ?_⟩
      clear hK K CW7 CW8 CW9 c8 c9 f9 nb8 rl7 I7 q7 o8 g8
      generalize w9.setCell ⟨g, m * 2 + 1, none⟩ (.slice v8a (ps1[m].2.length + 1) v8c) = wS at *
      try simp only [Act.put, List.setIfInBounds_toArray, List.set_cons_zero, List.set_cons_succ]
      refine wpY_done (by kernel_rfl) ?_
      intro wT hbT
      have PT := P9.next hbT
      have BT := chain B9 hbT
      clear P9 B9 CW10 CW CWt
      go_wp2_with fail
      go_roundw
      case rel => exact ⟨k + 1, by omega, by go_num, by rw [HT.out, eo]; first | exact PT | (rw [hm1]; exact PT), BT⟩
      case measure => simp [intOf]; omega
     ·clear hj
      refine wpOp_step rfl (fun K hK => ?_)
      go_simp
      have hal4 : Below w3.heap.size w3 (w3.alloc (.cells #[.slice ra L[k].2.1.length rc, .int .i64 L[k].2.2] 53)) := (Below.refl _ _).alloc (Nat.le_refl _) _
      have q4 := heap_new w3 #[.slice ra L[k].2.1.length rc, .int .i64 L[k].2.2] 53
      have D4 := chain D3 hal4
      have CW4 := hCC _ _ CW3 hal4
      refine hK _ _ ⟨CW4, ?_⟩
      clear hK K
      generalize w3.alloc (.cells #[.slice ra L[k].2.1.length rc, .int .i64 L[k].2.2] 53) = w4 at *
      try simp only [Act.put, List.setIfInBounds_toArray, List.set_cons_zero, List.set_cons_succ]
      refine wpY_step (rs := [4]) (by kernel_rfl) (by simp) ?_
      intro w6 hb6 jj hj
      obtain rfl : jj = 4 := by simpa using hj
      clear hj
      have D6 := chain D4 hb6
      have CWt := hCC _ _ CW4 hb6
      have q6 := (hb6.block _ (lt_of_heap q4)).trans q4
      have c6 := (D6.cell (p := ⟨g, m * 2 + 1, none⟩) hgx).trans cx
      refine wpOp_step rfl (fun K hK => ?_)
      go_simp
      refine hK _ _ ⟨CWt, ?_⟩
      clear hK K c6 CW3 CW4
      try simp only [Act.put, List.setIfInBounds_toArray, List.set_cons_zero, List.set_cons_succ]
      refine wpY_step (rs := [8]) (by kernel_rfl) (by simp) ?_
      intro w7 hb7 jj hj
      obtain rfl : jj = 8 := by simpa using hj
      clear hj
      have D7 := chain D6 hb7
      have CW7 := hCC _ _ CWt hb7
      have q7 := (hb7.block _ (lt_of_heap q6)).trans q6
      have I7 := HIn.out.next D7
      have rl7 : w7.ownsRow Bl 53 2 (.slice rva ps1[m].2.length rvc) ps1[m].2.length (zs m) := by
       have := (I7.row m hmlt).1
       rw [if_pos hm1.symm, erv] at this
       exact this
      have hBl7 := I7.hi
      refine wpOp_step rfl (fun K hK => ?_)
      refine Eq.mpr (if_pos (by kernel_rfl)) ?_
      refine wp_append_at (some 48) rfl (Operand.tmp 44) (Operand.tmp 47) 28 rfl Bl 53 i0 _ 2 32 Tryz.underlying28 hi hj0 hj1 hj2 rfl (by decide) (.slice rva ps1[m].2.length rvc) ps1[m].2.length (zs m) rfl rl7 ⟨w3.heap.size, 0, none⟩ 1 1 [.slice ra L[k].2.1.length rc, .int .i64 L[k].2.2] rfl rfl ?Ac1 ?Ac2 ?Ac3 ?Ac4 ?Ac5 ?_
      case Ac1 =>
       intro j u hj
       match j, hj with
       | 0, hj => simp at hj; subst hj; exact cell_of (i := 0) q7 rfl
       | 1, hj => simp at hj; subst hj; exact cell_of (i := 1) q7 rfl
      case Ac2 => intro u hu; simp at hu; rcases hu with rfl | rfl <;> rfl
      case Ac3 => unfold maxLen; omega
      case Ac4 => omega
      case Ac5 => exact hBl7
      intro v8 w8 o8 g8 _
      have nb8 : ∀ q, Value.ownBlock (.slice rva ps1[m].2.length rvc) = some q → w.heap.size ≤ q ∧ q < w7.heap.size ∧ (q = wr.heap.size → False) ∧ (q = g → False) := fun q hq => by
       have h1 := rl7.lt q hq
       refine ⟨Nat.le_trans I7.lo h1.1, h1.2, fun e => ?_, fun e => ?_⟩
       ·exact own_not rl7 CW7 (by decide) (by rw [hq, e])
       ·have o7 := I7.own
        rcases own_ne (by decide) rl7 o7 with h2 | h2
        ·rw [h2] at hq; cases hq
        ·exact h2 (by rw [hq, e]; rfl)
      have CW8 : (w8.heap[wr.heap.size]? = some (.cells #[.slice ka L[k].1.length kc, .slice ra L[k].2.1.length rc, .int .i64 L[k].2.2] 73 (0, 0))) := (g8.block _ (lt_of_heap CW7) (fun e => (nb8 _ e.symm).2.2.1 rfl)).trans CW7
      have c8 : w8.cell? ⟨g, m * 2 + 1, none⟩ = some (.slice rva ps1[m].2.length rvc) ∧ w8.frozen? ⟨g, m * 2 + 1, none⟩ = false := by
       have o7 := I7.own
       rw [hm1] at o7
       have hb8 : w8.heap[g]? = w7.heap[g]? := g8.block g (o7.lt g rfl).2 (fun e => (nb8 _ e.symm).2.2.2 rfl)
       refine ⟨(World.cell?_of_block (a := ⟨g, m * 2 + 1, none⟩) hb8).trans ?_, (World.frozen?_of_block (a := ⟨g, m * 2 + 1, none⟩) hb8).trans (o7.frozenAt _)⟩
       rw [o7.cellAt _ (by omega), I7.cell m hmlt, erv]
      have hg8 : g < w8.heap.size := by
       have o7 := I7.own
       rw [hm1] at o7
       exact Nat.lt_of_lt_of_le (o7.lt g rfl).2 g8.size
      refine hK _ _ ⟨CW8, ?_⟩
      clear hK K
      try simp only [Act.put, List.setIfInBounds_toArray, List.set_cons_zero, List.set_cons_succ]
      refine wpY_take hCC (some 49) (i := 9) (v := .pointer (some ⟨g, m * 2, none⟩)) rfl rfl (by kernel_rfl) (by kernel_rfl) (by kernel_rfl) (fun _ _ _ h => h) (Or.inl ⟨rfl, fun n hn => ?_⟩) CW8 ?_
      ·go_simp
      simp only [Act.put, List.setIfInBounds_toArray, List.set_cons_zero, List.set_cons_succ]
      refine wpY_take hCC (some 50) (i := 10) (v := .pointer (some ⟨g, m * 2 + 1, none⟩)) rfl rfl (by kernel_rfl) (by kernel_rfl) (by kernel_rfl) (fun _ _ _ h => h) (Or.inl ⟨rfl, fun n hn => ?_⟩) CW8 ?_
      ·go_simp
      simp only [Act.put, List.setIfInBounds_toArray, List.set_cons_zero, List.set_cons_succ]
      refine wpY_step (rs := [11]) (by kernel_rfl) (by simp) ?_
      intro w9 hb9 jj hj
      obtain rfl : jj = 11 := by simpa using hj
      clear hj
      have c9 : w9.cell? ⟨g, m * 2 + 1, none⟩ = some (.slice rva ps1[m].2.length rvc) := (hb9.cell (p := ⟨g, m * 2 + 1, none⟩) hg8).trans c8.1
      have f9 : w9.frozen? ⟨g, m * 2 + 1, none⟩ = false := (hb9.frozen (p := ⟨g, m * 2 + 1, none⟩) hg8).trans c8.2
      have CW9 := hCC _ _ CW8 hb9
      obtain ⟨v8a, v8c, ev8⟩ : ∃ v8a v8c, v8 = .slice v8a (ps1[m].2.length + 1) v8c := own_shapeF o8
      have P9 : PsAt w w.heap.size (w9.setCell ⟨g, m * 2 + 1, none⟩ v8) (.slice (some ⟨g, 0, none⟩) (m + 1) c) (putR ps1 L[k].2) := by
       have I7' := I7
       rw [← ev] at I7'
       exact PsIn.put I7' hm1 (rc := rc) HSr.out (by rw [erv]; exact g8) o8 hb9
      have B9 : Below w.heap.size w (w9.setCell ⟨g, m * 2 + 1, none⟩ v8) := ((chain ((chain hbx D7).trans ((Below.refl _ _).grown g8 (Nat.le_trans hbx.size D7.size) (fun q hq => (nb8 q hq).1))) hb9)).setCell (p := ⟨g, m * 2 + 1, none⟩) hgB _
      have CW10 : ((w9.setCell ⟨g, m * 2 + 1, none⟩ v8).heap[wr.heap.size]? = some (.cells #[.slice ka L[k].1.length kc, .slice ra L[k].2.1.length rc, .int .i64 L[k].2.2] 73 (0, 0))) := (Below.heap_setCell _ _ _ _ (fun e => hgl e.symm)).trans CW9
      subst ev8
      refine wpOp_step rfl (fun K hK => ?_)
      go_simp
      refine hK _ _ ⟨CW10, ?_⟩
      clear hK K CW7 CW8 CW9 c8 c9 f9 nb8 rl7 I7 q7 o8 g8
      generalize w9.setCell ⟨g, m * 2 + 1, none⟩ (.slice v8a (ps1[m].2.length + 1) v8c) = wS at *
      try simp only [Act.put, List.setIfInBounds_toArray, List.set_cons_zero, List.set_cons_succ]
      refine wpY_done (by kernel_rfl) ?_
      intro wT hbT
      have PT := P9.next hbT
      have BT := chain B9 hbT
      clear P9 B9 CW10 CW CWt
      go_wp2_with fail
      go_roundw
      case rel => exact ⟨k + 1, by omega, by go_num, by rw [HT.out, eo]; first | exact PT | (rw [hm1]; exact PT), BT⟩
      case measure => simp [intOf]; omega
  ·have e : k = L.length := by omega
   subst e
   rw [List.take_length] at HPs
   obtain ⟨va, vc, ev⟩ : ∃ va vc, u3 = .slice va (partL L).length vc := by obtain ⟨_, _, _, _, I⟩ := HPs; exact own_shapeF I.own
   subst ev
   go_wp2_with fail
   go_ret
   exact ⟨_, rfl, HPs, hb⟩
end Go.Proofs.YtfojonhblblbjaaGreat
