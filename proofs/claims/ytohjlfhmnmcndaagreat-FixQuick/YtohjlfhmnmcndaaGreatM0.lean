/- Together: Al, Plain, W1, W3, W4, W5, Ord, Rows1, W2. -/
import Derived.Test.YtohjlfhmnmcndaaGreatProg
import Derived.Lib.SmallJoins
import Derived.OrdersHeld
import Derived.Laws.AppendOwnNone
import Derived.Laws.CopyOwn
import Derived.Deep.Cut
import Derived.Deep.RegionWith
import Derived.Shelf.Abstract
import Derived.WalkKit
import Derived.Test.YtohjlfhmnmcndaaGreatRows
import Derived.WalkSpells
import Derived.WalkLawsBesides
import Derived.Laws.StructEq
namespace Go.Proofs.YtohjlfhmnmcndaaGreat
open Go.RowKit Go.Lib Go.Shelf
theorem aa (w:World) (o:Obj):Below w.heap.size w (w.alloc o):=(Below.refl _ _).alloc (Nat.le_refl _) _
theorem Nj:type_of% @Nat.le_refl:=@Nat.le_refl
theorem Nk:type_of% @Below.refl:=@Below.refl
theorem Nl:type_of% @bodyPost_ret:=@bodyPost_ret
theorem Nn:type_of% @Nat.lt_of_lt_of_le:=@Nat.lt_of_lt_of_le
theorem No:type_of% @frozen_of_row:=@frozen_of_row
theorem Np:type_of% @Nat.zero_add:=@Nat.zero_add
theorem Nq:type_of% @List.drop_eq_getElem_cons:=@List.drop_eq_getElem_cons
theorem Nr:type_of% @Nat.zero_le:=@Nat.zero_le
theorem Ns:type_of% @List.getElem_mem:=@List.getElem_mem
theorem Nt:type_of% @World.block_lt_of_cell?:=@World.block_lt_of_cell?
theorem Nu:type_of% @List.eq_nil_of_length_eq_zero:=@List.eq_nil_of_length_eq_zero
theorem Nv:type_of% @World.cell?_setCell_other:=@World.cell?_setCell_other
theorem Nw:type_of% @Nat.le_trans:=@Nat.le_trans
theorem Nx:type_of% @List.length_append:=@List.length_append
theorem Ny:type_of% @List.getElem_append_left:=@List.getElem_append_left
theorem Nz:type_of% @List.take_succ_eq_append_getElem:=@List.take_succ_eq_append_getElem
theorem NA:type_of% @World.cell?_of_block:=@World.cell?_of_block
theorem NB:type_of% @List.getElem?_set_ne:=@List.getElem?_set_ne
theorem NC:type_of% @List.getElem?_append_left:=@List.getElem?_append_left
theorem NF:type_of% @List.getElem?_eq_getElem:=@List.getElem?_eq_getElem
theorem NG:type_of% @List.getElem?_append_right:=@List.getElem?_append_right
theorem NH:type_of% @List.mem_cons:=@List.mem_cons
theorem NI:type_of% @List.drop_eq_nil_of_le:=@List.drop_eq_nil_of_le
theorem NJ:type_of% @List.pairwise_cons:=@List.pairwise_cons
theorem NK:type_of% @List.setIfInBounds_toArray:=@List.setIfInBounds_toArray
theorem NL:type_of% @List.take_length:=@List.take_length
theorem NM:type_of% @List.map_toArray:=@List.map_toArray
theorem NN:type_of% @List.length_take:=@List.length_take
theorem NO:type_of% @List.map_cons:=@List.map_cons
theorem NP:type_of% @World.ownsRow_nil:=@World.ownsRow_nil
theorem NQ:type_of% @Bool.and_eq_true:=@Bool.and_eq_true
theorem NR:type_of% @Below.heap_setCell:=@Below.heap_setCell
theorem NS:type_of% @List.map_nil:=@List.map_nil
theorem NT:type_of% @List.getD_eq_getElem?_getD:=@List.getD_eq_getElem?_getD
theorem NU:type_of% @Option.some.inj:=@Option.some.inj
theorem NV:type_of% @Nat.le_of_lt:=@Nat.le_of_lt
theorem NW:type_of% @List.getElem?_eq_none:=@List.getElem?_eq_none
theorem NX:type_of% @List.set_cons_zero:=@List.set_cons_zero
theorem NY:type_of% @Nat.lt_or_ge:=@Nat.lt_or_ge
theorem NZ:type_of% @wpList_append_own:=@wpList_append_own
theorem N0:type_of% @List.set_cons_succ:=@List.set_cons_succ
theorem N4:type_of% @List.length_cons:=@List.length_cons
theorem N7:type_of% @Nat.not_lt_zero:=@Nat.not_lt_zero
theorem N8:type_of% @World.frozen?_setCell:=@World.frozen?_setCell
theorem N9:type_of% @List.mem_append:=@List.mem_append
theorem Oa:type_of% @List.getElem_cons_zero:=@List.getElem_cons_zero
theorem Ob:type_of% @List.getElem_append_right:=@List.getElem_append_right
theorem Oc:type_of% @Array.getElem?_eq_getElem:=@Array.getElem?_eq_getElem
theorem Od:type_of% @List.length_map:=@List.length_map
theorem Oe:type_of% @List.getElem_map:=@List.getElem_map
theorem Og:type_of% @World.cell?_alloc_at:=@World.cell?_alloc_at
theorem Oh:type_of% @List.mem_singleton:=@List.mem_singleton
theorem Oi:type_of% @List.length_filter_le:=@List.length_filter_le
theorem Ol:type_of% @List.mem_filter:=@List.mem_filter
theorem Om:type_of% @List.map_append:=@List.map_append
theorem On:type_of% @Option.bind_eq_some_iff:=@Option.bind_eq_some_iff
theorem Oo:type_of% @Int.le_refl:=@Int.le_refl
theorem Oq:type_of% @World.ownsRow_made:=@World.ownsRow_made
theorem Ot:type_of% @List.getElem_cons_succ:=@List.getElem_cons_succ
theorem Ou:type_of% @World.cell?_setCell_same:=@World.cell?_setCell_same
theorem Ov:type_of% @List.getElem_of_mem:=@List.getElem_of_mem
theorem Ow:type_of% @List.mem_map:=@List.mem_map
theorem Ox:type_of% @Bool.false_eq_true:=@Bool.false_eq_true
theorem Oy:type_of% @World.size_alloc:=@World.size_alloc
theorem Oz:type_of% @Nat.add_zero:=@Nat.add_zero
theorem OD:type_of% @List.cons_append:=@List.cons_append
theorem OF:type_of% @Array.getElem?_eq_none:=@Array.getElem?_eq_none
theorem OG:type_of% @List.append_nil:=@List.append_nil
theorem OI:type_of% @List.getElem_range:=@List.getElem_range
theorem OK:type_of% @Array.getElem_toList:=@Array.getElem_toList
theorem OL:type_of% @List.foldl_cons:=@List.foldl_cons
theorem OM:type_of% @Int.natCast_add:=@Int.natCast_add
theorem ON:type_of% @World.cell?_setCell_same':=@World.cell?_setCell_same'
theorem OO:type_of% @Option.some.injEq:=@Option.some.injEq
theorem OP:type_of% @World.frozen?_of_block:=@World.frozen?_of_block
theorem OQ:type_of% @World.frozen?_alloc_at:=@World.frozen?_alloc_at
theorem OR:type_of% @World.cell?_spot:=@World.cell?_spot
theorem OS:type_of% @List.getElem_concat_length:=@List.getElem_concat_length
theorem OT:type_of% @Array.getElem?_eq_some_iff:=@Array.getElem?_eq_some_iff
theorem OU:type_of% @Array.getElem?_toList:=@Array.getElem?_toList
theorem OV:type_of% @List.length_nil:=@List.length_nil
theorem OW:type_of% @World.cells?_some:=@World.cells?_some
theorem OX:type_of% @List.take_succ_cons:=@List.take_succ_cons
theorem OY:type_of% @List.all_eq_true:=@List.all_eq_true
theorem OZ:type_of% @rounds_succ:=@rounds_succ
theorem Pa:type_of% @World.size_setCell:=@World.size_setCell
theorem Pb:type_of% @Array.append_empty:=@Array.append_empty
theorem Pc:type_of% @List.all_cons:=@List.all_cons
theorem Pd:type_of% @List.length_singleton:=@List.length_singleton
theorem Pe:type_of% @List.concat_eq_append:=@List.concat_eq_append
theorem Pf:type_of% @List.append_assoc:=@List.append_assoc
theorem Pg:type_of% @Array.getD_eq_getD_getElem?:=@Array.getD_eq_getD_getElem?
end Go.Proofs.YtohjlfhmnmcndaaGreat
namespace Go.Proofs.YtohjlfhmnmcndaaGreat
set_option maxRecDepth 100000
set_option maxHeartbeats 16000000
def cls (k n:Int):Option Bool:=if k=2 then (if n=1 then some true else if n=0 then some false else none) else none
def tk:Option Bool→Int | none=>1 | some _=>2
def tn:Option Bool→Int | some true=>1 | _=>0
def K6:Option Bool→Option Bool→Option Bool
 | some false,_=>some false
 | _,some false=>some false
 | some true,some true=>some true
 | _,_=>none
def ML:Option Bool→Option Bool→Option Bool
 | some true,_=>some true
 | _,some true=>some true
 | some false,some false=>some false
 | _,_=>none
def rH:Option Bool→Option Bool
 | some b=>some (!b)
 | none=>none
theorem FO (k n:Int):(k == 2 && n == 1)=(cls k n == some true):=by
 unfold cls;by_cases h:k=2
 ·by_cases h1:n=1
  ·simp [h,h1]
  ·by_cases h0:n=0 <;> simp [h,h1,h0]
 ·simp [h]
theorem EB (k n:Int):(k == 2 && n == 0)=(cls k n == some false):=by
 unfold cls;by_cases h:k=2
 ·by_cases h1:n=1
  ·simp [h,h1]
  ·by_cases h0:n=0 <;> simp [h,h1,h0]
 ·simp [h]
def aI (k n:Int) (s:ByteArray):Int :=
 if k=1 then 0
 else if k=2 then (if n=0∨n=1 then 0 else 3)
 else if k=3 then (if -1000000000000000≤n∧n≤1000000000000000 then 0 else 3)
 else if k=4 then (if s.size≤60 then 0 else 4)
 else 1
def iF (a b:Int):Int:=if a<b then -1 else if b<a then 1 else 0
def ix (a b:ByteArray):Int:=if Op.bytesLess a.toList b.toList then -1 else if a.toList == b.toList then 0 else 1
def dW (k n:Int) (s:ByteArray) (k' n':Int) (s':ByteArray):Int :=
 if k≠k' then iF k k' else if k=2∨k=3 then iF n n' else if k=4 then ix s s' else 0
theorem pA {α : Type} (l : List α) (i : Nat) (a : α) : l.toArray.setIfInBounds i a = (l.set i a).toArray := NK ..
theorem pB {α : Type} {x : α} {xs : List α} {a : α} : (x :: xs).set 0 a = a :: xs := NX ..
theorem pC {α : Type} {x : α} {xs : List α} {i : Nat} {a : α} : (x :: xs).set (i + 1) a = x :: xs.set i a := N0 ..
end Go.Proofs.YtohjlfhmnmcndaaGreat
namespace Go.Proofs.YtohjlfhmnmcndaaGreat
open Go.RowKit
set_option maxRecDepth 100000
set_option maxHeartbeats 16000000
theorem lT {w w1:World} {o1:Obj} (hb:Below (w.alloc o1).heap.size (w.alloc o1) w1):Below w.heap.size w w1 :=
 ((Nk _ _).alloc (Nj _) _).trans (hb.mono (by simp))
theorem KR {w w1:World} {o1 o2:Obj} (hb:Below ((w.alloc o1).alloc o2).heap.size ((w.alloc o1).alloc o2) w1):Below w.heap.size w w1 :=
 (((Nk _ _).alloc (Nj _) _).alloc (by simp) _).trans (hb.mono (by simp; omega))
theorem jE {w w1:World} {o1 o2 o3:Obj} (hb:Below (((w.alloc o1).alloc o2).alloc o3).heap.size (((w.alloc o1).alloc o2).alloc o3) w1):Below w.heap.size w w1 :=
 ((((Nk _ _).alloc (Nj _) _).alloc (by simp) _).alloc (by simp; omega) _).trans (hb.mono (by simp; omega))
theorem aD {B b:Nat} {w w2:World} {x y z:Value} (h:Below B w w2) (hB:B≤b) :
  Below B w (((w2.setCell ⟨b,0,none⟩ x).setCell ⟨b,1,none⟩ y).setCell ⟨b,2,none⟩ z) :=
 ((h.setCell hB _).setCell hB _).setCell hB _
structure gH (W:World) (b:Nat) (x y z:Value):Prop where
 lt:b<W.heap.size
 c0:W.cell? ⟨b,0,none⟩=some x
 c1:W.cell? ⟨b,1,none⟩=some y
 c2:W.cell? ⟨b,2,none⟩=some z
 f0:W.frozen? ⟨b,0,none⟩=false
 f1:W.frozen? ⟨b,1,none⟩=false
 f2:W.frozen? ⟨b,2,none⟩=false
theorem gH.next {W w1:World} {b:Nat} {x y z:Value} (h:gH W b x y z) (hb:Below W.heap.size W w1):gH w1 b x y z :=
 ⟨Nn h.lt hb.size,(hb.cell (p:=⟨b,0,none⟩) h.lt).trans h.c0,(hb.cell (p:=⟨b,1,none⟩) h.lt).trans h.c1,(hb.cell (p:=⟨b,2,none⟩) h.lt).trans h.c2,
  (hb.frozen (p:=⟨b,0,none⟩) h.lt).trans h.f0,(hb.frozen (p:=⟨b,1,none⟩) h.lt).trans h.f1,(hb.frozen (p:=⟨b,2,none⟩) h.lt).trans h.f2⟩
theorem gH.alloc {W:World} {b:Nat} {x y z:Value} (h:gH W b x y z) (o:Obj):gH (W.alloc o) b x y z :=
 h.next ((Nk _ _).alloc (Nj _) _)
theorem gH.new (w:World) (x y z:Value) (t:Nat):gH (w.alloc (.cells #[x,y,z] t)) w.heap.size x y z :=
 ⟨by simp,by simp,by simp,by simp,by simp,by simp,by simp⟩
theorem fA {a b:Bool} (h:a=b):Ending.returned (.bool a) = .returned (.bool b):=by rw [h]
theorem dZ (w:World) :
  Calls Tryz.prog 165 #[] w fun e w'=>e = .returned (.agg #[.int .i64 1,.int .i64 0,.string ⟨#[]⟩])∧Below w.heap.size w w':=by
 go_enter Tryz.func165,Tryz.ntmps165;go_wp2
 exact Nl (v:=.agg #[.int .i64 1,.int .i64 0,.string ⟨#[]⟩]) (by simp [results,Tryz.results165,go_sem]) rfl ⟨rfl,(Nk _ _).alloc (Nj _) _⟩
theorem kf (w:World) :
  Calls Tryz.prog 186 #[.bool true] w fun e w'=>e = .returned (.agg #[.int .i64 2,.int .i64 1,.string ⟨#[]⟩])∧Below w.heap.size w w':=by
 go_enter Tryz.func186,Tryz.ntmps186;go_wp2
 exact Nl (v:=.agg #[.int .i64 2,.int .i64 1,.string ⟨#[]⟩]) (by simp [results,Tryz.results186,go_sem]) rfl ⟨rfl,(Nk _ _).alloc (Nj _) _⟩
theorem kB (w:World) :
  Calls Tryz.prog 186 #[.bool false] w fun e w'=>e = .returned (.agg #[.int .i64 2,.int .i64 0,.string ⟨#[]⟩])∧Below w.heap.size w w':=by
 go_enter Tryz.func186,Tryz.ntmps186;go_wp2
 exact Nl (v:=.agg #[.int .i64 2,.int .i64 0,.string ⟨#[]⟩]) (by simp [results,Tryz.results186,go_sem]) rfl ⟨rfl,(Nk _ _).alloc (Nj _) _⟩
theorem rE (b:Bool) (w:World) :
  Calls Tryz.prog 186 #[.bool b] w fun e w'=>e = .returned (.agg #[.int .i64 2,.int .i64 (tn (some b)),.string ⟨#[]⟩])∧Below w.heap.size w w':=by
 cases b
 ·exact kB w
 ·exact kf w
theorem kl (k n:Int) (s:ByteArray) (w:World) :
  Calls Tryz.prog 150 #[.agg #[.int .i64 k,.int .i64 n,.string s]] w fun e w'=>e = .returned (.bool (cls k n == some true))∧Below w.heap.size w w':=by
 rw [← FO];go_enter Tryz.func150,Tryz.ntmps150;go_wp2
 all_goals go_ret
 ·exact ⟨fA (by simp [*]),(Nk _ _).alloc (Nj _) _⟩
 ·exact ⟨fA (by simp [*]),(Nk _ _).alloc (Nj _) _⟩
theorem lN (k n:Int) (s:ByteArray) (w:World) :
  Calls Tryz.prog 230 #[.agg #[.int .i64 k,.int .i64 n,.string s]] w fun e w'=>e = .returned (.bool (cls k n == some false))∧Below w.heap.size w w':=by
 rw [← EB];go_enter Tryz.func230,Tryz.ntmps230;go_wp2
 all_goals go_ret
 ·exact ⟨fA (by simp [*]),(Nk _ _).alloc (Nj _) _⟩
 ·exact ⟨fA (by simp [*]),(Nk _ _).alloc (Nj _) _⟩
theorem aA {k:IntKind} {a b:Int} (h:a=b):Ending.returned (.int k a) = .returned (.int k b):=by rw [h]
theorem zH (n:Int) (s:ByteArray):aI 1 n s=0:=by simp [aI]
theorem ux (s:ByteArray):aI 2 0 s=0:=by simp [aI]
theorem vL (s:ByteArray):aI 2 1 s=0:=by simp [aI]
theorem mr (n:Int) (s:ByteArray) (h0:¬ n=0) (h1:¬ n=1):aI 2 n s=3:=by simp [aI,h0,h1]
theorem s9 (n:Int) (s:ByteArray) (h0:¬ n < -1000000000000000) (h1:¬ 1000000000000000<n):aI 3 n s=0:=by
 have g0:-1000000000000000≤n:=by omega
 have g1:n≤1000000000000000:=by omega
 simp [aI,g0,g1]
theorem oL (n:Int) (s:ByteArray) (h0:n < -1000000000000000):aI 3 n s=3:=by
 have g0:¬ -1000000000000000≤n:=by omega
 simp [aI,g0]
theorem pf (n:Int) (s:ByteArray) (h0:1000000000000000<n):aI 3 n s=3:=by
 have g0:¬ n≤1000000000000000:=by omega
 simp [aI,g0]
theorem xI (n:Int) (s:ByteArray) (h:s.size≤60):aI 4 n s=0:=by simp [aI,h]
theorem uS (n:Int) (s:ByteArray) (h:60<s.size):aI 4 n s=4:=by
 have g:¬ s.size≤60:=by omega
 simp [aI,g]
theorem nX (k n:Int) (s:ByteArray) (h1:¬ k=1) (h2:¬ k=2) (h3:¬ k=3) (h4:¬ k=4):aI k n s=1:=by simp [aI,h1,h2,h3,h4]
theorem iN (k n:Int) (s:ByteArray) (w:World) :
  Calls Tryz.prog 114 #[.agg #[.int .i64 k,.int .i64 n,.string s]] w fun e w'=>e = .returned (.int .i64 (aI k n s))∧Below w.heap.size w w':=by
 by_cases h1:k=1
 ·subst h1;go_enter Tryz.func114,Tryz.ntmps114;go_wp2
  go_ret;exact ⟨aA (zH _ _).symm,(Nk _ _).alloc (Nj _) _⟩
 by_cases h2:k=2
 ·subst h2;by_cases n0:n=0
  ·subst n0;go_enter Tryz.func114,Tryz.ntmps114;go_wp2
   go_ret;exact ⟨aA (ux _).symm,(Nk _ _).alloc (Nj _) _⟩
  by_cases n1:n=1
  ·subst n1;go_enter Tryz.func114,Tryz.ntmps114;go_wp2
   go_ret;exact ⟨aA (vL _).symm,(Nk _ _).alloc (Nj _) _⟩
  have l:n<0∨1<n:=by omega
  rcases l with l | l
  ·have b0:(n == 0)=false:=by simpa using n0
   have b1:(n == 1)=false:=by simpa using n1
   have c0:(n != 0)=true:=by simpa using n0
   have c1:(n != 1)=true:=by simpa using n1
   go_enter Tryz.func114,Tryz.ntmps114;go_wp2
   go_ret;exact ⟨aA (mr _ _ n0 n1).symm,(Nk _ _).alloc (Nj _) _⟩
  ·have b0:(n == 0)=false:=by simpa using n0
   have b1:(n == 1)=false:=by simpa using n1
   have c0:(n != 0)=true:=by simpa using n0
   have c1:(n != 1)=true:=by simpa using n1
   have l0:¬ n<0:=by omega
   go_enter Tryz.func114,Tryz.ntmps114;go_wp2
   go_ret;exact ⟨aA (mr _ _ n0 n1).symm,(Nk _ _).alloc (Nj _) _⟩
 by_cases h3:k=3
 ·subst h3;by_cases n0:n < -1000000000000000
  ·have n0':¬ -1000000000000000≤n:=by omega
   go_enter Tryz.func114,Tryz.ntmps114;go_wp2
   go_ret;exact ⟨aA (oL _ _ (by omega)).symm,(Nk _ _).alloc (Nj _) _⟩
  by_cases n1:1000000000000000<n
  ·have n0':-1000000000000000≤n:=by omega
   have n1':¬ n≤1000000000000000:=by omega
   go_enter Tryz.func114,Tryz.ntmps114;go_wp2
   go_ret;exact ⟨aA (pf _ _ (by omega)).symm,(Nk _ _).alloc (Nj _) _⟩
  have n0':-1000000000000000≤n:=by omega
  have n1':n≤1000000000000000:=by omega
  go_enter Tryz.func114,Tryz.ntmps114;go_wp2
  go_ret;exact ⟨aA (s9 _ _ (by omega) (by omega)).symm,(Nk _ _).alloc (Nj _) _⟩
 by_cases h4:k=4
 ·subst h4;by_cases n0:60<s.size
  ·have n0':60<(s.size:Int):=by omega
   go_enter Tryz.func114,Tryz.ntmps114;go_wp2
   go_ret;exact ⟨aA (uS _ _ n0).symm,(Nk _ _).alloc (Nj _) _⟩
  have n0':¬ 60<(s.size:Int):=by omega
  go_enter Tryz.func114,Tryz.ntmps114;go_wp2
  go_ret;exact ⟨aA (xI _ _ (by omega)).symm,(Nk _ _).alloc (Nj _) _⟩
 have b1:(k == 1)=false:=by simpa using h1
 have b2:(k == 2)=false:=by simpa using h2
 have b3:(k == 3)=false:=by simpa using h3
 have b4:(k == 4)=false:=by simpa using h4
 have l:k<1∨4<k:=by omega
 rcases l with l | l
 ·go_enter Tryz.func114,Tryz.ntmps114;go_wp2
  go_ret;exact ⟨aA (nX _ _ _ h1 h2 h3 h4).symm,(Nk _ _).alloc (Nj _) _⟩
 ·have l0:¬ k<1:=by omega
  go_enter Tryz.func114,Tryz.ntmps114;go_wp2
  go_ret;exact ⟨aA (nX _ _ _ h1 h2 h3 h4).symm,(Nk _ _).alloc (Nj _) _⟩
theorem fY (k n:Int) (s:ByteArray) (w:World) :
  Calls Tryz.prog 76 #[.agg #[.int .i64 k,.int .i64 n,.string s]] w fun e w'=>e = .returned (.int .i64 (aI k n s))∧Below w.heap.size w w':=by
 by_cases h1:k=1
 ·subst h1;go_enter Tryz.func76,Tryz.ntmps76;go_wp2
  go_ret;exact ⟨aA (zH _ _).symm,(Nk _ _).alloc (Nj _) _⟩
 by_cases h2:k=2
 ·subst h2;by_cases n0:n=0
  ·subst n0;go_enter Tryz.func76,Tryz.ntmps76;go_wp2
   go_ret;exact ⟨aA (ux _).symm,(Nk _ _).alloc (Nj _) _⟩
  by_cases n1:n=1
  ·subst n1;go_enter Tryz.func76,Tryz.ntmps76;go_wp2
   go_ret;exact ⟨aA (vL _).symm,(Nk _ _).alloc (Nj _) _⟩
  have l:n<0∨1<n:=by omega
  rcases l with l | l
  ·have b0:(n == 0)=false:=by simpa using n0
   have b1:(n == 1)=false:=by simpa using n1
   have c0:(n != 0)=true:=by simpa using n0
   have c1:(n != 1)=true:=by simpa using n1
   go_enter Tryz.func76,Tryz.ntmps76;go_wp2
   go_ret;exact ⟨aA (mr _ _ n0 n1).symm,(Nk _ _).alloc (Nj _) _⟩
  ·have b0:(n == 0)=false:=by simpa using n0
   have b1:(n == 1)=false:=by simpa using n1
   have c0:(n != 0)=true:=by simpa using n0
   have c1:(n != 1)=true:=by simpa using n1
   have l0:¬ n<0:=by omega
   go_enter Tryz.func76,Tryz.ntmps76;go_wp2
   go_ret;exact ⟨aA (mr _ _ n0 n1).symm,(Nk _ _).alloc (Nj _) _⟩
 by_cases h3:k=3
 ·subst h3;by_cases n0:n < -1000000000000000
  ·have n0':¬ -1000000000000000≤n:=by omega
   go_enter Tryz.func76,Tryz.ntmps76;go_wp2
   go_ret;exact ⟨aA (oL _ _ (by omega)).symm,(Nk _ _).alloc (Nj _) _⟩
  by_cases n1:1000000000000000<n
  ·have n0':-1000000000000000≤n:=by omega
   have n1':¬ n≤1000000000000000:=by omega
   go_enter Tryz.func76,Tryz.ntmps76;go_wp2
   go_ret;exact ⟨aA (pf _ _ (by omega)).symm,(Nk _ _).alloc (Nj _) _⟩
  have n0':-1000000000000000≤n:=by omega
  have n1':n≤1000000000000000:=by omega
  go_enter Tryz.func76,Tryz.ntmps76;go_wp2
  go_ret;exact ⟨aA (s9 _ _ (by omega) (by omega)).symm,(Nk _ _).alloc (Nj _) _⟩
 by_cases h4:k=4
 ·subst h4;by_cases n0:60<s.size
  ·have n0':60<(s.size:Int):=by omega
   go_enter Tryz.func76,Tryz.ntmps76;go_wp2
   go_ret;exact ⟨aA (uS _ _ n0).symm,(Nk _ _).alloc (Nj _) _⟩
  have n0':¬ 60<(s.size:Int):=by omega
  go_enter Tryz.func76,Tryz.ntmps76;go_wp2
  go_ret;exact ⟨aA (xI _ _ (by omega)).symm,(Nk _ _).alloc (Nj _) _⟩
 have b1:(k == 1)=false:=by simpa using h1
 have b2:(k == 2)=false:=by simpa using h2
 have b3:(k == 3)=false:=by simpa using h3
 have b4:(k == 4)=false:=by simpa using h4
 have l:k<1∨4<k:=by omega
 rcases l with l | l
 ·go_enter Tryz.func76,Tryz.ntmps76;go_wp2
  go_ret;exact ⟨aA (nX _ _ _ h1 h2 h3 h4).symm,(Nk _ _).alloc (Nj _) _⟩
 ·have l0:¬ k<1:=by omega
  go_enter Tryz.func76,Tryz.ntmps76;go_wp2
  go_ret;exact ⟨aA (nX _ _ _ h1 h2 h3 h4).symm,(Nk _ _).alloc (Nj _) _⟩
def Row (W:World) (b off:Nat) (l:List (Int × Int × ByteArray)):Prop :=
 ∀ (i:Nat) (h:i<l.length),W.cell? ⟨b,off+i*3,none⟩=some (.int .i64 l[i].1)∧W.cell? ⟨b,off+i*3+1,none⟩=some (.int .i64 l[i].2.1)∧W.cell? ⟨b,off+i*3+2,none⟩=some (.string l[i].2.2)
def gC (l:List (Int × Int × ByteArray)):Bool:=l.all fun v=>aI v.1 v.2.1 v.2.2 == 0
theorem Row.next {W w1:World} {b off:Nat} {l:List (Int × Int × ByteArray)} (h:Row W b off l) (hlt:b<W.heap.size) (hb:Below W.heap.size W w1):Row w1 b off l :=
 fun i hi=>⟨(hb.cell (p:=⟨b,_,none⟩) hlt).trans (h i hi).1,(hb.cell (p:=⟨b,_,none⟩) hlt).trans (h i hi).2.1,(hb.cell (p:=⟨b,_,none⟩) hlt).trans (h i hi).2.2⟩
theorem qV {a b:Int} (h:a<b):iF a b = -1:=by simp [iF,h]
theorem rq {a b:Int} (h:b<a):iF a b=1:=by
 have:¬ a<b:=by omega
 simp [iF,h,this]
theorem wy (a:Int):iF a a=0:=by simp [iF]
theorem Bp (a b:Int) (w:World) :
  Calls Tryz.prog 134 #[.int .i64 a,.int .i64 b] w fun e w'=>e = .returned (.int .i64 (iF a b))∧w'=w:=by
 rcases Int.lt_trichotomy a b with h | h | h
 ·go_enter Tryz.func134,Tryz.ntmps134;go_wp2
  go_ret;exact ⟨aA (qV h).symm,rfl⟩
 ·subst h;go_enter Tryz.func134,Tryz.ntmps134;go_wp2
  go_ret;exact ⟨aA (wy _).symm,rfl⟩
 ·have h':¬ a<b:=by omega
  go_enter Tryz.func134,Tryz.ntmps134;go_wp2
  go_ret;exact ⟨aA (rq h).symm,rfl⟩
theorem oH (a b:Int) (w:World) :
  Calls Tryz.prog 135 #[.int .i64 a,.int .i64 b] w fun e w'=>e = .returned (.int .i64 (iF a b))∧w'=w:=by
 rcases Int.lt_trichotomy a b with h | h | h
 ·go_enter Tryz.func135,Tryz.ntmps135;go_wp2
  go_ret;exact ⟨aA (qV h).symm,rfl⟩
 ·subst h;go_enter Tryz.func135,Tryz.ntmps135;go_wp2
  go_ret;exact ⟨aA (wy _).symm,rfl⟩
 ·have h':¬ a<b:=by omega
  go_enter Tryz.func135,Tryz.ntmps135;go_wp2
  go_ret;exact ⟨aA (rq h).symm,rfl⟩
theorem AE (a b:ByteArray) (w:World) :
  Calls Tryz.prog 136 #[.string a,.string b] w fun e w'=>e = .returned (.int .i64 (ix a b))∧w'=w:=by
 go_enter Tryz.func136,Tryz.ntmps136;go_wp2
 ·go_ret;exact ⟨aA (by simp [ix, *]),rfl⟩
 ·go_ret;exact ⟨aA (by simp_all [ix]),rfl⟩
 ·go_ret;exact ⟨aA (by simp_all [ix]),rfl⟩
theorem Gw {k k' n n':Int} {s s':ByteArray} (h:¬ k=k'):dW k n s k' n' s'=iF k k':=by simp [dW,h]
theorem Fp {n n':Int} {s s':ByteArray}:dW 2 n s 2 n' s'=iF n n':=by simp [dW]
theorem Hy {n n':Int} {s s':ByteArray}:dW 3 n s 3 n' s'=iF n n':=by simp [dW]
theorem GW {n n':Int} {s s':ByteArray}:dW 4 n s 4 n' s'=ix s s':=by simp [dW]
theorem FN {k n n':Int} {s s':ByteArray} (h2:¬ k=2) (h3:¬ k=3) (h4:¬ k=4):dW k n s k n' s'=0:=by simp [dW,h2,h3,h4]
theorem oY (k n k' n':Int) (s s':ByteArray) (w:World) :
  Calls Tryz.prog 106 #[.agg #[.int .i64 k,.int .i64 n,.string s],.agg #[.int .i64 k',.int .i64 n',.string s']] w fun e w'=>e = .returned (.int .i64 (dW k n s k' n' s'))∧Below w.heap.size w w'∧w.drawn≤w'.drawn:=by
 by_cases hk:k=k'
 ·subst hk;by_cases h2:k=2
  ·subst h2;go_enter Tryz.func106,Tryz.ntmps106;go_wp2_with fail
   refine (oH _ _ _).mono ?_;rintro e w1 ⟨rfl,rfl⟩;go_wp2
   go_ret;exact ⟨aA Fp.symm,((Nk _ _).alloc (Nj _) _).alloc (by simp) _,Nj _⟩
  by_cases h3:k=3
  ·subst h3;go_enter Tryz.func106,Tryz.ntmps106;go_wp2_with fail
   refine (oH _ _ _).mono ?_;rintro e w1 ⟨rfl,rfl⟩;go_wp2
   go_ret;exact ⟨aA Hy.symm,((Nk _ _).alloc (Nj _) _).alloc (by simp) _,Nj _⟩
  by_cases h4:k=4
  ·subst h4;go_enter Tryz.func106,Tryz.ntmps106;go_wp2_with fail
   refine (AE _ _ _).mono ?_;rintro e w1 ⟨rfl,rfl⟩;go_wp2
   go_ret;exact ⟨aA GW.symm,((Nk _ _).alloc (Nj _) _).alloc (by simp) _,Nj _⟩
  have b2:(k == 2)=false:=by simpa using h2
  have b3:(k == 3)=false:=by simpa using h3
  have b4:(k == 4)=false:=by simpa using h4
  go_enter Tryz.func106,Tryz.ntmps106;go_wp2
  go_ret;exact ⟨aA (FN h2 h3 h4).symm,((Nk _ _).alloc (Nj _) _).alloc (by simp) _,Nj _⟩
 ·have bk:(k == k')=false:=by simpa using hk
  have bk':(k != k')=true:=by simpa using hk
  go_enter Tryz.func106,Tryz.ntmps106;go_wp2_with fail
  refine (Bp _ _ _).mono ?_;rintro e w1 ⟨rfl,rfl⟩;go_wp2
  go_ret;exact ⟨aA (Gw hk).symm,((Nk _ _).alloc (Nj _) _).alloc (by simp) _,Nj _⟩
theorem l9 (k n k' n':Int) (s s':ByteArray) (w:World) :
  Calls Tryz.prog 106 #[.agg #[.int .i64 k,.int .i64 n,.string s],.agg #[.int .i64 k',.int .i64 n',.string s']] w fun e w'=>e = .returned (.int .i64 (dW k n s k' n' s'))∧Below w.heap.size w w' :=
 (oY k n k' n' s s' w).mono fun _ _ h=>⟨h.1,h.2.1⟩
end Go.Proofs.YtohjlfhmnmcndaaGreat
namespace Go.Proofs.YtohjlfhmnmcndaaGreat
set_option maxRecDepth 100000
set_option maxHeartbeats 16000000
theorem pe:∀ x:List UInt8,Op.bytesLess x x=false
 | []=>rfl
 | a :: x=>by
  have:=pe x
  simp [Op.bytesLess,this,UInt8.lt_irrefl]
theorem yU:∀ x y:List UInt8,Op.bytesLess x y=true→Op.bytesLess y x=false
 | [],[]=>fun _=>rfl
 | [],_ :: _=>fun _=>rfl
 | _ :: _,[]=>fun h=>by simp [Op.bytesLess] at h
 | a :: x,b :: y=>fun h=>by
  simp only [Op.bytesLess,Bool.or_eq_true,decide_eq_true_eq,NQ,beq_iff_eq] at h
  rcases h with h | ⟨rfl,h⟩
  ·have h1:¬ b<a:=UInt8.lt_asymm h
   have h2:¬ b=a:=fun e=>UInt8.lt_irrefl _ (e ▸ h)
   simp [Op.bytesLess,h1,h2]
  ·simp [Op.bytesLess,yU x y h,UInt8.lt_irrefl]
theorem ye:∀ x y:List UInt8,Op.bytesLess x y=false→¬ x=y→Op.bytesLess y x=true
 | [],[]=>fun _ h=>absurd rfl h
 | [],_ :: _=>fun h _=>by simp [Op.bytesLess] at h
 | _ :: _,[]=>fun _ _=>rfl
 | a :: x,b :: y=>fun h hne=>by
  simp only [Op.bytesLess,Bool.or_eq_false_iff,decide_eq_false_iff_not,Bool.and_eq_false_imp,beq_iff_eq] at h
  by_cases e:a=b
  ·subst e
   have h2:=ye x y (h.2 rfl) (fun e=>hne (by rw [e]))
   simp [Op.bytesLess,h2]
  ·have:b<a:=by
    rcases UInt8.lt_or_lt_of_ne e with h' | h'
    ·exact absurd h' h.1
    ·exact h'
   simp [Op.bytesLess,this]
theorem yW:∀ x y z:List UInt8,Op.bytesLess x y=true→Op.bytesLess y z=true→Op.bytesLess x z=true
 | _,[],_=>fun h _=>by cases ‹List UInt8› <;> simp [Op.bytesLess] at h
 | _,_ :: _,[]=>fun _ h=>by simp [Op.bytesLess] at h
 | [],_ :: _,_ :: _=>fun _ _=>rfl
 | a :: x,b :: y,c :: z=>fun h k=>by
  simp only [Op.bytesLess,Bool.or_eq_true,decide_eq_true_eq,NQ,beq_iff_eq] at h k ⊢
  rcases h with h | ⟨rfl,h⟩
  ·rcases k with k | ⟨rfl,k⟩
   ·exact .inl (UInt8.lt_trans h k)
   ·exact .inl h
  ·rcases k with k | ⟨rfl,k⟩
   ·exact .inl k
   ·exact .inr ⟨rfl,yW x y z h k⟩
theorem xR (a b:Int):iF a b = -iF b a:=by unfold iF; split <;> split <;> (try split) <;> omega
theorem uP (a b:Int):iF a b=0↔a=b:=by unfold iF; split <;> (try split) <;> omega
theorem wM (a b:Int):iF a b≤0↔a≤b:=by unfold iF; split <;> (try split) <;> omega
theorem Ih (a b:ByteArray):ix a b = -ix b a:=by
 unfold ix;by_cases e:a.toList=b.toList
 ·simp [e,pe]
 ·have e':¬ b.toList=a.toList:=fun h=>e h.symm
  cases h:Op.bytesLess a.toList b.toList
  ·have:=ye _ _ h e;simp [this,e]
  ·have:=yU _ _ h;simp [this,e']
theorem Dw (a b:ByteArray):ix a b=0↔a.toList=b.toList:=by
 unfold ix;by_cases e:a.toList=b.toList
 ·simp [e,pe]
 ·cases h:Op.bytesLess a.toList b.toList <;> simp [e]
theorem JD (a b c:ByteArray) (h:ix a b≤0) (k:ix b c≤0):ix a c≤0:=by
 unfold ix at *;by_cases e:a.toList=b.toList
 ·rw [e]; exact k
 by_cases e':b.toList=c.toList
 ·rw [← e']; exact h
 have h1:Op.bytesLess a.toList b.toList=true:=by
  cases h':Op.bytesLess a.toList b.toList
  ·simp [h',e] at h
  ·rfl
 have k1:Op.bytesLess b.toList c.toList=true:=by
  cases h':Op.bytesLess b.toList c.toList
  ·simp [h',e'] at k
  ·rfl
 simp [yW _ _ _ h1 k1]
theorem Gp (k n k' n':Int) (s s':ByteArray):dW k n s k' n' s' = -dW k' n' s' k n s:=by
 unfold dW;by_cases e:k=k'
 ·subst e;by_cases h:k=2∨k=3
  ·simp [h]; exact xR _ _
  ·by_cases h4:k=4
   ·simp [h4]; exact Ih _ _
   ·simp [h,h4]
 ·have e':¬ k'=k:=fun h=>e h.symm
  simp [e,e']; exact xR _ _
theorem zU (k n k' n' k'' n'':Int) (s s' s'':ByteArray) (h:dW k n s k' n' s'≤0) (j:dW k' n' s' k'' n'' s''≤0):dW k n s k'' n'' s''≤0:=by
 unfold dW at *;by_cases e:k=k'
 ·subst e;by_cases e':k=k''
  ·subst e';by_cases h2:k=2∨k=3
   ·simp [h2] at h j ⊢;rw [wM] at *;omega
   ·by_cases h4:k=4
    ·simp [h4] at h j ⊢;exact JD _ _ _ h j
    ·simp [h2,h4]
  ·simp [e'] at j ⊢;exact j
 ·by_cases e':k'=k''
  ·subst e';simp [e] at h ⊢;exact h
  ·simp [e] at h;simp [e'] at j;rw [wM] at h j;have:¬ k=k'':=by omega
   simp [this];rw [wM];omega
end Go.Proofs.YtohjlfhmnmcndaaGreat
namespace Go.Proofs.YtohjlfhmnmcndaaGreat
open Go.RowKit
set_option maxRecDepth 100000
set_option maxHeartbeats 16000000
abbrev Vl:Type:=Int × Int × ByteArray
def cZ (x y:Vl):Int:=dW x.1 x.2.1 x.2.2 y.1 y.2.1 y.2.2
def aG:List Vl→List Vl→Int
 | [],[]=>0
 | [],_ :: _=>-1
 | _ :: _,[]=>1
 | x :: r,y :: t=>if cZ x y=0 then aG r t else cZ x y
theorem Cr (a b:Int):-1≤iF a b∧iF a b≤1:=by unfold iF; split <;> (try split) <;> omega
theorem Jo (a b:ByteArray):-1≤ix a b∧ix a b≤1:=by unfold ix; split <;> (try split) <;> omega
theorem JC (x y:Vl):-1≤cZ x y∧cZ x y≤1:=by
 unfold cZ dW
 split
 ·exact Cr _ _
 ·split
  ·exact Cr _ _
  ·split
   ·exact Jo _ _
   ·omega
theorem qY:∀ l t:List Vl,-1≤aG l t∧aG l t≤1
 | [],[]=>by simp [aG]
 | [],_ :: _=>by simp [aG]
 | _ :: _,[]=>by simp [aG]
 | x :: r,y :: t=>by
  unfold aG
  split
  ·exact qY r t
  ·exact JC x y
theorem nN (x y:Vl):cZ x y = -cZ y x:=Gp _ _ _ _ _ _
theorem aZ:∀ l t:List Vl,aG t l = -aG l t
 | [],[]=>rfl
 | [],_ :: _=>rfl
 | _ :: _,[]=>rfl
 | x :: r,y :: t=>by
  have h:=nN x y
  unfold aG
  by_cases e:cZ y x=0
  ·have e':cZ x y=0:=by omega
   simp only [e,e',if_true]
   exact aZ r t
  ·have e':¬ cZ x y=0:=by omega
   simp only [e,e',if_false]
   omega
theorem mE (l t:List Vl) (k:Nat) (h:k<l.length) (h':k<t.length):aG (l.drop k) (t.drop k)=if cZ l[k] t[k]=0 then aG (l.drop (k+1)) (t.drop (k+1)) else cZ l[k] t[k]:=by
 rw [Nq h,Nq h'];rfl
theorem vg (l t:List Vl) (k:Nat) (h:k<l.length) (h':t.length≤k):aG (l.drop k) (t.drop k)=1:=by
 rw [Nq h,NI h'];rfl
theorem ti (l t:List Vl) (k:Nat) (h:l.length≤k) (h':k<t.length):aG (l.drop k) (t.drop k) = -1:=by
 rw [Nq h',NI h];rfl
theorem vX (l t:List Vl) (k:Nat) (h:l.length≤k) (h':t.length≤k):aG (l.drop k) (t.drop k)=0:=by
 rw [NI h,NI h'];rfl
def aM (W:World) (a:Option Addr) (l:List Vl):Prop :=
 l.length≤maxLen∧(l = []∨∃ b off,a=some ⟨b,off,none⟩∧Row W b off l∧b<W.heap.size)
theorem aM.next {W w1:World} {a:Option Addr} {l:List Vl} (h:aM W a l) (hb:Below W.heap.size W w1):aM w1 a l:=by
 obtain ⟨h0,h | ⟨b,off,e,hr,hlt⟩⟩:=h
 ·exact ⟨h0,.inl h⟩
 ·exact ⟨h0,.inr ⟨b,off,e,hr.next hlt hb,Nn hlt hb.size⟩⟩
theorem aM.elem {W:World} {a:Option Addr} {l:List Vl} (h:aM W a l) {k:Nat} (hk:k<l.length) :
  ∃ b off,a=some ⟨b,off,none⟩∧b<W.heap.size∧W.cell? ⟨b,off+k*3,none⟩=some (.int .i64 l[k].1)∧W.cell? ⟨b,off+k*3+1,none⟩=some (.int .i64 l[k].2.1)∧W.cell? ⟨b,off+k*3+2,none⟩=some (.string l[k].2.2):=by
 obtain ⟨_,h | ⟨b,off,e,hr,hlt⟩⟩:=h
 ·subst h; simp at hk
 ·exact ⟨b,off,e,hlt,hr k hk⟩
theorem tW (a a':Option Addr) (cap cap':Nat) (l l':List Vl) (w:World) (h:aM w a l) (h':aM w a' l') :
  Calls Tryz.prog 105 #[.slice a l.length cap,.slice a' l'.length cap',.func (.func 106) #[] #[]] w fun e w'=>e = .returned (.int .i64 (aG l l'))∧Below w.heap.size w w'∧w.drawn≤w'.drawn:=by
 have hl:=h.1;have hl':=h'.1;unfold maxLen at hl hl';go_enter Tryz.func105,Tryz.ntmps105;go_wp2
 go_loopw [13] (fun i w1=>∃ k:Nat,k≤l.length∧k≤l'.length∧i = .int .i64 k∧Hid (aG l l'=aG (l.drop k) (l'.drop k))∧Below w.heap.size w w1∧w.drawn≤w1.drawn) (fun i _=>l.length - (intOf i).toNat)
 case atStart=>exact ⟨0,Nr _,Nr _,rfl,rfl,Nk _ _,Nj _⟩
 case round =>
  obtain ⟨k,hk,hk',rfl,HC,hb,hd⟩:=hrel;have HD:Hid (w.drawn≤wr.drawn):=hd;clear hd;have hz:=hb.size;by_cases hlt:k<l.length
  ·obtain ⟨b,off,rfl,hbl,c0,c1,c2⟩:=(h.next hb).elem hlt;by_cases hlt':k<l'.length
   ·have hb2:=((Nk wr.heap.size wr).alloc (Nj _) (.cells #[.int .i64 l[k].1,.int .i64 l[k].2.1,.string l[k].2.2] 24))
    obtain ⟨b',off',rfl,hbl',d0,d1,d2⟩:=((h'.next hb).next hb2).elem hlt';clear hb2;by_cases e:cZ l[k] l'[k]=0
    ·have E:Hid (cZ l[k] l'[k]=0):=e;clear e;go_wp2_with fail
     refine (oY _ _ _ _ _ _ _).mono ?_;rintro e w1 ⟨rfl,hb1,hd1⟩;have HD1:Hid (wr.drawn≤w1.drawn):=hd1;clear hd1;rw [show dW l[k].1 l[k].2.1 l[k].2.2 l'[k].1 l'[k].2.1 l'[k].2.2=0 from E.out];go_wp2
     go_roundw
     case rel=>exact ⟨k+1,by omega,by omega,by go_num,HC.out.trans (by rw [mE l l' k hlt hlt',if_pos E.out]),hb.trans ((((Nk _ _).alloc hz _).alloc (by simp; omega) _).trans (hb1.mono (by simp; omega))),Nw HD.out HD1.out⟩
     case measure=>simp [intOf]; omega
    ·have E:Hid (¬ cZ l[k] l'[k]=0):=e;have E2:(dW l[k].1 l[k].2.1 l[k].2.2 l'[k].1 l'[k].2.1 l'[k].2.2 != 0)=true:=by simpa [cZ] using e
     clear e;go_wp2_with fail
     refine (oY _ _ _ _ _ _ _).mono ?_;rintro e w1 ⟨rfl,hb1,hd1⟩;have HD1:Hid (wr.drawn≤w1.drawn):=hd1;clear hd1;go_wp2
     go_ret;exact ⟨aA (by rw [HC.out,mE l l' k hlt hlt',if_neg E.out]; rfl),hb.trans ((((Nk _ _).alloc hz _).alloc (by simp; omega) _).trans (hb1.mono (by simp; omega))),Nw HD.out HD1.out⟩
   ·go_wp2
    go_ret;exact ⟨aA (by rw [HC.out,vg l l' k hlt (by omega)]),hb.alloc hz _,HD.out⟩
  ·by_cases hlt':k<l'.length
   ·have e:k=l.length:=by omega
    have hll:l.length<l'.length:=by omega
    go_wp2
    go_ret;exact ⟨aA (by rw [HC.out,ti l l' k (by omega) hlt']),hb,HD.out⟩
   ·have hll:¬ l.length<l'.length:=by omega
    go_wp2
    go_ret;exact ⟨aA (by rw [HC.out,vX l l' k (by omega) (by omega)]),hb,HD.out⟩
theorem A5 (a a':Option Addr) (cap cap':Nat) (l l':List Vl) (w:World) (h:aM w a l) (h':aM w a' l') :
  Calls Tryz.prog 73 #[.slice a l.length cap,.slice a' l'.length cap'] w fun e w'=>e = .returned (.int .i64 (aG l l'))∧Below w.heap.size w w'∧w.drawn≤w'.drawn:=by
 go_enter Tryz.func73,Tryz.ntmps73;go_wp2_with fail
 refine (tW _ _ _ _ _ _ _ h h').mono ?_;rintro e w1 ⟨rfl,hb1,hd1⟩;go_wp2
 go_ret;exact ⟨rfl,hb1,hd1⟩
theorem nJ (a a':Option Addr) (cap cap':Nat) (l l':List Vl) (w:World) (h:aM w a l) (h':aM w a' l') :
  Calls Tryz.prog 73 #[.slice a l.length cap,.slice a' l'.length cap'] w fun e w'=>e = .returned (.int .i64 (aG l l'))∧Below w.heap.size w w' :=
 (A5 a a' cap cap' l l' w h h').mono fun _ _ h=>⟨h.1,h.2.1⟩
structure ur (w W:World) (x y z x' y' z':Value):Prop where
 b:Below w.heap.size w W
 p:gH W w.heap.size x y z
 q:gH W (w.heap.size+1) x' y' z'
 r:gH W (w.heap.size+2) (.int .i64 0) (.int .i64 0) (.string ⟨#[]⟩)
theorem ur.next {w W W1:World} {x y z x' y' z':Value} (h:ur w W x y z x' y' z') (hb:Below W.heap.size W W1):ur w W1 x y z x' y' z':=⟨h.b.trans (hb.mono h.b.size),h.p.next hb,h.q.next hb,h.r.next hb⟩
theorem ur.new (w:World) (k n k' n':Int) (s s':ByteArray):ur w (((w.alloc (.cells #[.int .i64 k,.int .i64 n,.string s] 24)).alloc (.cells #[.int .i64 k',.int .i64 n',.string s'] 24)).alloc (.cells #[.int .i64 0,.int .i64 0,.string ⟨#[]⟩] 24)) (.int .i64 k) (.int .i64 n) (.string s) (.int .i64 k') (.int .i64 n') (.string s'):=by
 have q:=(gH.new (w.alloc (.cells #[.int .i64 k,.int .i64 n,.string s] 24)) (.int .i64 k') (.int .i64 n') (.string s') 24).alloc (.cells #[.int .i64 0,.int .i64 0,.string ⟨#[]⟩] 24);have r:=gH.new ((w.alloc (.cells #[.int .i64 k,.int .i64 n,.string s] 24)).alloc (.cells #[.int .i64 k',.int .i64 n',.string s'] 24)) (.int .i64 0) (.int .i64 0) (.string ⟨#[]⟩) 24;simp only [Oy] at q r;exact ⟨(((Nk _ _).alloc (Nj _) _).alloc (by simp) _).alloc (by simp; omega) _,((gH.new w (.int .i64 k) (.int .i64 n) (.string s) 24).alloc _).alloc _,q,r⟩
structure CZ (w W:World) (x y z:Value):Prop where
 b:Below w.heap.size w W
 p:gH W w.heap.size x y z
 r:gH W (w.heap.size+1) (.int .i64 0) (.int .i64 0) (.string ⟨#[]⟩)
theorem CZ.next {w W W1:World} {x y z:Value} (h:CZ w W x y z) (hb:Below W.heap.size W W1):CZ w W1 x y z:=⟨h.b.trans (hb.mono h.b.size),h.p.next hb,h.r.next hb⟩
theorem CZ.new (w:World) (k n:Int) (s:ByteArray):CZ w ((w.alloc (.cells #[.int .i64 k,.int .i64 n,.string s] 24)).alloc (.cells #[.int .i64 0,.int .i64 0,.string ⟨#[]⟩] 24)) (.int .i64 k) (.int .i64 n) (.string s):=by
 have r:=gH.new (w.alloc (.cells #[.int .i64 k,.int .i64 n,.string s] 24)) (.int .i64 0) (.int .i64 0) (.string ⟨#[]⟩) 24;simp only [Oy] at r;exact ⟨((Nk _ _).alloc (Nj _) _).alloc (by simp) _,(gH.new w (.int .i64 k) (.int .i64 n) (.string s) 24).alloc _,r⟩
theorem JX (k n k' n' : Int) (s s' : ByteArray) (w : World) :
    Calls Tryz.prog 232 #[.agg #[.int .i64 k, .int .i64 n, .string s], .agg #[.int .i64 k', .int .i64 n', .string s']] w fun e w' => e = .returned (.agg #[.int .i64 (tk (K6 (cls k n) (cls k' n'))), .int .i64 (tn (K6 (cls k n) (cls k' n'))), .string ⟨#[]⟩]) ∧ Below w.heap.size w w' := by
  have T := ur.new w k n k' n' s s'
  rcases h1 : cls k n with _ | _ | _ <;> rcases h2 : cls k' n' with _ | _ | _
  all_goals (
    go_enter Tryz.func232, Tryz.ntmps232
    go_wp2_with fail
    generalize ((w.alloc (.cells #[.int .i64 k, .int .i64 n, .string s] 24)).alloc (.cells #[.int .i64 k', .int .i64 n', .string s'] 24)).alloc (.cells #[.int .i64 0, .int .i64 0, .string ⟨#[]⟩] 24) = W0 at *
    repeat (first | refine (lN _ _ _ _).mono ?_ | refine (kl _ _ _ _).mono ?_ | refine (kB _).mono ?_ | refine (kf _).mono ?_ | refine (dZ _).mono ?_
            rintro e w1 ⟨rfl, hb⟩
            replace T := T.next hb
            clear hb
            have ⟨a0, a1, a2, a3, a4, a5, a6⟩ := T.p
            have ⟨b0, b1, b2, b3, b4, b5, b6⟩ := T.q
            have ⟨r0, r1, r2, r3, r4, r5, r6⟩ := T.r
            try simp only [h1, h2]
            go_wp2_with fail)
    have HB := T.b
    first | exact Nl (v := .agg #[.int .i64 1, .int .i64 0, .string ⟨#[]⟩]) (by simp [results, Tryz.results232, go_sem, r1, r2, r3]) rfl ⟨rfl, aD HB (by omega)⟩ | exact Nl (v := .agg #[.int .i64 2, .int .i64 0, .string ⟨#[]⟩]) (by simp [results, Tryz.results232, go_sem, r1, r2, r3]) rfl ⟨rfl, aD HB (by omega)⟩ | exact Nl (v := .agg #[.int .i64 2, .int .i64 1, .string ⟨#[]⟩]) (by simp [results, Tryz.results232, go_sem, r1, r2, r3]) rfl ⟨rfl, aD HB (by omega)⟩)
theorem LD (k n k' n' : Int) (s s' : ByteArray) (w : World) :
    Calls Tryz.prog 233 #[.agg #[.int .i64 k, .int .i64 n, .string s], .agg #[.int .i64 k', .int .i64 n', .string s']] w fun e w' => e = .returned (.agg #[.int .i64 (tk (ML (cls k n) (cls k' n'))), .int .i64 (tn (ML (cls k n) (cls k' n'))), .string ⟨#[]⟩]) ∧ Below w.heap.size w w' := by
  have T := ur.new w k n k' n' s s'
  rcases h1 : cls k n with _ | _ | _ <;> rcases h2 : cls k' n' with _ | _ | _
  all_goals (
    go_enter Tryz.func233, Tryz.ntmps233
    go_wp2_with fail
    generalize ((w.alloc (.cells #[.int .i64 k, .int .i64 n, .string s] 24)).alloc (.cells #[.int .i64 k', .int .i64 n', .string s'] 24)).alloc (.cells #[.int .i64 0, .int .i64 0, .string ⟨#[]⟩] 24) = W0 at *
    repeat (first | refine (lN _ _ _ _).mono ?_ | refine (kl _ _ _ _).mono ?_ | refine (kB _).mono ?_ | refine (kf _).mono ?_ | refine (dZ _).mono ?_
            rintro e w1 ⟨rfl, hb⟩
            replace T := T.next hb
            clear hb
            have ⟨a0, a1, a2, a3, a4, a5, a6⟩ := T.p
            have ⟨b0, b1, b2, b3, b4, b5, b6⟩ := T.q
            have ⟨r0, r1, r2, r3, r4, r5, r6⟩ := T.r
            try simp only [h1, h2]
            go_wp2_with fail)
    have HB := T.b
    first | exact Nl (v := .agg #[.int .i64 1, .int .i64 0, .string ⟨#[]⟩]) (by simp [results, Tryz.results233, go_sem, r1, r2, r3]) rfl ⟨rfl, aD HB (by omega)⟩ | exact Nl (v := .agg #[.int .i64 2, .int .i64 0, .string ⟨#[]⟩]) (by simp [results, Tryz.results233, go_sem, r1, r2, r3]) rfl ⟨rfl, aD HB (by omega)⟩ | exact Nl (v := .agg #[.int .i64 2, .int .i64 1, .string ⟨#[]⟩]) (by simp [results, Tryz.results233, go_sem, r1, r2, r3]) rfl ⟨rfl, aD HB (by omega)⟩)
theorem CL (k n : Int) (s : ByteArray) (w : World) :
    Calls Tryz.prog 206 #[.agg #[.int .i64 k, .int .i64 n, .string s]] w fun e w' => e = .returned (.agg #[.int .i64 (tk (rH (cls k n))), .int .i64 (tn (rH (cls k n))), .string ⟨#[]⟩]) ∧ Below w.heap.size w w' := by
  have T := CZ.new w k n s
  rcases h1 : cls k n with _ | _ | _
  all_goals (
    go_enter Tryz.func206, Tryz.ntmps206
    go_wp2_with fail
    generalize (w.alloc (.cells #[.int .i64 k, .int .i64 n, .string s] 24)).alloc (.cells #[.int .i64 0, .int .i64 0, .string ⟨#[]⟩] 24) = W0 at *
    repeat (first | refine (lN _ _ _ _).mono ?_ | refine (kl _ _ _ _).mono ?_ | refine (kB _).mono ?_ | refine (kf _).mono ?_ | refine (dZ _).mono ?_
            rintro e w1 ⟨rfl, hb⟩
            replace T := T.next hb
            clear hb
            have ⟨a0, a1, a2, a3, a4, a5, a6⟩ := T.p
            have ⟨r0, r1, r2, r3, r4, r5, r6⟩ := T.r
            try simp only [h1]
            go_wp2_with fail)
    have HB := T.b
    first | exact Nl (v := .agg #[.int .i64 1, .int .i64 0, .string ⟨#[]⟩]) (by simp [results, Tryz.results206, go_sem, r1, r2, r3]) rfl ⟨rfl, aD HB (by omega)⟩ | exact Nl (v := .agg #[.int .i64 2, .int .i64 0, .string ⟨#[]⟩]) (by simp [results, Tryz.results206, go_sem, r1, r2, r3]) rfl ⟨rfl, aD HB (by omega)⟩ | exact Nl (v := .agg #[.int .i64 2, .int .i64 1, .string ⟨#[]⟩]) (by simp [results, Tryz.results206, go_sem, r1, r2, r3]) rfl ⟨rfl, aD HB (by omega)⟩)
end Go.Proofs.YtohjlfhmnmcndaaGreat
