/- Together: Plain, PA, W1, W3, W4, W5, Ord, Rows1, W2. -/
import Derived.WalkKit
import Derived.Test.YtohjlfhmnmcndaaGreatRows
import Derived.WalkSpells
import Derived.WalkLawsBesides
import Derived.Laws.StructEq
/- Plain functions on numbers that say what the small functions of package vals come to. No program in sight. -/
namespace Go.Proofs.YtohjlfhmnmcndaaGreat

/-- What a value says: true, false, or nothing. -/
def cls (k n:Int):Option Bool:=if k=2 then (if n=1 then some true else if n=0 then some false else none) else none
/-- The kind of the answer of a truth that is known, or is not. -/
def tk:Option Bool→Int | none=>1 | some _=>2
def tn:Option Bool→Int | some true=>1 | _=>0
def and3:Option Bool→Option Bool→Option Bool
 | some false,_=>some false
 | _,some false=>some false
 | some true,some true=>some true
 | _,_=>none
def or3:Option Bool→Option Bool→Option Bool
 | some true,_=>some true
 | _,some true=>some true
 | some false,some false=>some false
 | _,_=>none
def not3:Option Bool→Option Bool
 | some b=>some (!b)
 | none=>none
theorem cls_true (k n:Int):(k == 2 && n == 1)=(cls k n == some true):=by
 unfold cls;by_cases h:k=2
 ·by_cases h1:n=1
  ·simp [h,h1]
  ·by_cases h0:n=0 <;> simp [h,h1,h0]
 ·simp [h]
theorem cls_false (k n:Int):(k == 2 && n == 0)=(cls k n == some false):=by
 unfold cls;by_cases h:k=2
 ·by_cases h1:n=1
  ·simp [h,h1]
  ·by_cases h0:n=0 <;> simp [h,h1,h0]
 ·simp [h]
/-- What is wrong with a value: 0, if nothing is. -/
def wrongF (k n:Int) (s:ByteArray):Int :=
 if k=1 then 0
 else if k=2 then (if n=0∨n=1 then 0 else 3)
 else if k=3 then (if -1000000000000000≤n∧n≤1000000000000000 then 0 else 3)
 else if k=4 then (if s.size≤60 then 0 else 4)
 else 1
/-- The order of two numbers. -/
def cmpI (a b:Int):Int:=if a<b then -1 else if b<a then 1 else 0
/-- The order of two texts. -/
def cmpS (a b:ByteArray):Int:=if Op.bytesLess a.toList b.toList then -1 else if a.toList == b.toList then 0 else 1
def cmpV (k n:Int) (s:ByteArray) (k' n':Int) (s':ByteArray):Int :=
 if k≠k' then cmpI k k' else if k=2∨k=3 then cmpI n n' else if k=4 then cmpS s s' else 0
theorem pA {α : Type} (l : List α) (i : Nat) (a : α) : l.toArray.setIfInBounds i a = (l.set i a).toArray := List.setIfInBounds_toArray ..
theorem pB {α : Type} {x : α} {xs : List α} {a : α} : (x :: xs).set 0 a = a :: xs := List.set_cons_zero ..
theorem pC {α : Type} {x : α} {xs : List α} {i : Nat} {a : α} : (x :: xs).set (i + 1) a = x :: xs.set i a := List.set_cons_succ ..
/-- Ways along edges. -/
inductive Rch (E:Nat→Nat→Bool):Nat→Nat→Prop
 | base {i j:Nat}:E i j=true→Rch E i j
 | step {i k j:Nat}:Rch E i k→E k j=true→Rch E i j
/-- One edge more. -/
def stpR (E S:Nat→Nat→Bool) (i j:Nat):Bool:=(List.range 10).any fun k=>S i k && E k j
def uniR (S T:Nat→Nat→Bool) (i j:Nat):Bool:=S i j || T i j
def relN (E:Nat→Nat→Bool):Nat→Nat→Nat→Bool
 | 0=>E
 | n+1=>uniR (relN E n) (stpR E (relN E n))
/-- All within ten. -/
def Ten (S:Nat→Nat→Bool):Prop:=∀ i j,S i j=true→i<10∧j<10
theorem stpR_iff {E S:Nat→Nat→Bool} {i j:Nat}:stpR E S i j=true↔∃ k,k<10∧S i k=true∧E k j=true:=by
 unfold stpR;rw [List.any_eq_true];simp only [List.mem_range,Bool.and_eq_true]
theorem uniR_iff {S T:Nat→Nat→Bool} {i j:Nat}:uniR S T i j=true↔S i j=true∨T i j=true:=by simp [uniR]
theorem Ten.stp {E S:Nat→Nat→Bool} (hE:Ten E) (hS:Ten S):Ten (stpR E S):=fun i j h=>by
 obtain ⟨k,_,h1,h2⟩:=stpR_iff.1 h
 exact ⟨(hS i k h1).1,(hE k j h2).2⟩
theorem Ten.uni {S T:Nat→Nat→Bool} (hS:Ten S) (hT:Ten T):Ten (uniR S T):=fun i j h=>(uniR_iff.1 h).elim (hS i j) (hT i j)
theorem Ten.rel {E:Nat→Nat→Bool} (hE:Ten E):∀ n,Ten (relN E n)
 | 0=>hE
 | n+1=>(Ten.rel hE n).uni (hE.stp (Ten.rel hE n))
theorem rel_rch {E:Nat→Nat→Bool}:∀ n {i j:Nat},relN E n i j=true→Rch E i j
 | 0,_,_,h=>.base h
 | n+1,i,j,h=>(uniR_iff.1 h).elim (rel_rch n) fun h=>by
  obtain ⟨k,_,h1,h2⟩:=stpR_iff.1 h
  exact .step (rel_rch n h1) h2
theorem rel_base {E:Nat→Nat→Bool}:∀ n {i j:Nat},E i j=true→relN E n i j=true
 | 0,_,_,h=>h
 | n+1,_,_,h=>uniR_iff.2 (.inl (rel_base n h))
theorem rch_rel {E:Nat→Nat→Bool} (hE:Ten E) {n:Nat} (h:∀ i j,relN E (n+1) i j=relN E n i j) {i j:Nat} (hr:Rch E i j):relN E n i j=true:=by
 induction hr with
 | base h=>exact rel_base n h
 | step _ he ih =>
  rw [← h];exact uniR_iff.2 (.inr (stpR_iff.2 ⟨_,(hE _ _ he).1,ih,he⟩))
def rcn (S:Nat→Nat→Bool) (i:Nat):Nat:=(List.range 10).countP (S i)
theorem count_le {p q:Nat→Bool}:∀ (l:List Nat),(∀ x ∈ l,p x=true→q x=true)→l.countP p≤l.countP q∧(l.countP p=l.countP q→∀ x ∈ l,p x=q x)
 | [],_=>⟨Nat.le_refl _,fun _ x hx=>by cases hx⟩
 | x :: r,h=>by
  have ih:=count_le r fun y hy=>h y (by simp [hy])
  have h0:=h x (by simp)
  rw [List.countP_cons,List.countP_cons]
  cases hp:p x <;> cases hq:q x <;> simp only [hp,hq,Bool.false_eq_true,if_false,if_true,Nat.add_zero] at h0 ⊢
  ·refine ⟨ih.1,fun e y hy=>?_⟩
   rcases List.mem_cons.1 hy with rfl | hy
   ·rw [hp,hq]
   ·exact ih.2 e y hy
  ·exact ⟨by omega,fun e=>by omega⟩
  ·cases h0 trivial
  ·refine ⟨by omega,fun e y hy=>?_⟩
   rcases List.mem_cons.1 hy with rfl | hy
   ·rw [hp,hq]
   ·exact ih.2 (by omega) y hy
theorem row_next {E:Nat→Nat→Bool} {i n:Nat} (h:∀ j,relN E (n+1) i j=relN E n i j):∀ j,relN E (n+2) i j=relN E (n+1) i j:=fun j=>by
 show uniR (relN E (n+1)) (stpR E (relN E (n+1))) i j=uniR (relN E n) (stpR E (relN E n)) i j
 unfold uniR stpR
 simp only [h]
theorem row_end {E:Nat→Nat→Bool} (hE:Ten E) (i:Nat):∀ n,n≤rcn (relN E n) i∨∀ j,relN E (n+1) i j=relN E n i j
 | 0=>.inl (Nat.zero_le _)
 | n+1=>by
  rcases row_end hE i n with h | h
  ·have c:=count_le (p:=relN E n i) (q:=relN E (n+1) i) (List.range 10) fun x _ hx=>uniR_iff.2 (.inl hx)
   by_cases e:(List.range 10).countP (relN E n i)=(List.range 10).countP (relN E (n+1) i)
   ·refine .inr (row_next fun j=>?_)
    by_cases hj:j<10
    ·exact (c.2 e j (List.mem_range.2 hj)).symm
    ·have a:=fun h=>hj ((Ten.rel hE (n+1)) i j h).2
     have b:=fun h=>hj ((Ten.rel hE n) i j h).2
     rw [Bool.eq_false_iff.2 a,Bool.eq_false_iff.2 b]
   ·refine .inl ?_
    unfold rcn at h ⊢
    have:=c.1
    omega
  ·exact .inr (row_next h)
theorem rel_end {E:Nat→Nat→Bool} (hE:Ten E) (i j:Nat):relN E 12 i j=relN E 11 i j:=by
 rcases row_end hE i 11 with h | h
 ·have:rcn (relN E 11) i≤(List.range 10).length:=List.countP_le_length;simp at this;omega
 ·exact h j
/-- Warshall: through place k, too. -/
def warR (k:Nat) (M:Nat→Nat→Bool) (i j:Nat):Bool:=M i j || (M i k && M k j)
def warN (E:Nat→Nat→Bool):Nat→Nat→Nat→Bool
 | 0=>E
 | n+1=>warR n (warN E n)
theorem warR_iff {k:Nat} {M:Nat→Nat→Bool} {i j:Nat}:warR k M i j=true↔M i j=true∨(M i k=true∧M k j=true):=by simp [warR]
theorem rch_trans {E:Nat→Nat→Bool} {i k j:Nat} (h1:Rch E i k) (h2:Rch E k j):Rch E i j:=by
 induction h2 with
 | base h=>exact .step h1 h
 | step _ h ih=>exact .step ih h
theorem war_rch {E:Nat→Nat→Bool}:∀ n {i j:Nat},warN E n i j=true→Rch E i j
 | 0,_,_,h=>.base h
 | n+1,_,_,h=>(warR_iff.1 h).elim (war_rch n) fun h=>rch_trans (war_rch n h.1) (war_rch n h.2)
theorem war_base {E:Nat→Nat→Bool}:∀ n {i j:Nat},E i j=true→warN E n i j=true
 | 0,_,_,h=>h
 | n+1,_,_,h=>warR_iff.2 (.inl (war_base n h))
theorem war_trans {E:Nat→Nat→Bool}:∀ n (k i j:Nat),k<n→warN E n i k=true→warN E n k j=true→warN E n i j=true
 | n+1,k,i,j,hk,h1,h2=>by
  have T:=war_trans (E:=E) n
  have h1:=warR_iff.1 h1
  have h2:=warR_iff.1 h2
  refine warR_iff.2 ?_
  by_cases e:k=n
  ·subst e
   exact .inr ⟨h1.elim id fun h=>h.1,h2.elim id fun h=>h.2⟩
  have hk:k<n:=by omega
  rcases h1 with h1 | ⟨h1,h1'⟩ <;> rcases h2 with h2 | ⟨h2,h2'⟩
  ·exact .inl (T k i j hk h1 h2)
  ·exact .inr ⟨T k i n hk h1 h2,h2'⟩
  ·exact .inr ⟨h1,T k n j hk h1' h2⟩
  ·exact .inr ⟨h1,h2'⟩
theorem war_all {E:Nat→Nat→Bool} (hE:Ten E) {i j:Nat} (h:Rch E i j):warN E 10 i j=true:=by
 induction h with
 | base h=>exact war_base 10 h
 | step _ h ih=>exact war_trans 10 _ _ _ (hE _ _ h).1 ih (war_base 10 h)
theorem war_rel {E:Nat→Nat→Bool} (hE:Ten E) {n:Nat} (h:∀ i j,relN E (n+1) i j=relN E n i j) (i j:Nat):relN E n i j=warN E 10 i j:=by
 cases h1:relN E n i j <;> cases h2:warN E 10 i j
 ·rfl
 ·rw [rch_rel hE h (war_rch 10 h2)] at h1; cases h1
 ·rw [war_all hE (rel_rch n h1)] at h2; cases h2
 ·rfl
/-- Half way: those places ahead of c are done. -/
def midR (k:Nat) (M:Nat→Nat→Bool) (c i j:Nat):Bool:=if i*10+j<c then warR k M i j else M i j
theorem mid_k {k c i:Nat} {M:Nat→Nat→Bool}:midR k M c i k=M i k:=by
 unfold midR warR
 split <;> cases M i k <;> simp
theorem mid_k' {k c j:Nat} {M:Nat→Nat→Bool}:midR k M c k j=M k j:=by
 unfold midR warR
 split <;> cases M k j <;> simp
theorem mid_new {k i j:Nat} {M:Nat→Nat→Bool}:(midR k M (i*10+j) i j || (midR k M (i*10+j) i k && midR k M (i*10+j) k j))=midR k M (i*10+j+1) i j:=by
 rw [mid_k,mid_k'];unfold midR;rw [if_neg (by omega),if_pos (by omega)];rfl
theorem mid_old {k i j i' j':Nat} {M:Nat→Nat→Bool} (hj:j<10) (hj':j'<10) (h:¬ (i'=i∧j'=j)):midR k M (i*10+j+1) i' j'=midR k M (i*10+j) i' j':=by
 unfold midR;by_cases c:i'*10+j'<i*10+j
 ·rw [if_pos c,if_pos (by omega)]
 ·rw [if_neg c,if_neg (by omega)]
theorem mid_0 {k:Nat} {M:Nat→Nat→Bool}:midR k M 0=M:=by
 funext i j
 unfold midR;rw [if_neg (by omega)]
theorem mid_all {k i j:Nat} {M:Nat→Nat→Bool} (hi:i<10) (hj:j<10):midR k M 100 i j=warR k M i j:=by
 unfold midR;rw [if_pos (by omega)]
end Go.Proofs.YtohjlfhmnmcndaaGreat
namespace Go.Proofs.YtohjlfhmnmcndaaGreat
open Go.RowKit

theorem below1 {w w1:World} {o1:Obj} (hb:Below (w.alloc o1).heap.size (w.alloc o1) w1):Below w.heap.size w w1 :=
 ((Below.refl _ _).alloc (Nat.le_refl _) _).trans (hb.mono (by simp))
theorem below2 {w w1:World} {o1 o2:Obj} (hb:Below ((w.alloc o1).alloc o2).heap.size ((w.alloc o1).alloc o2) w1):Below w.heap.size w w1 :=
 (((Below.refl _ _).alloc (Nat.le_refl _) _).alloc (by simp) _).trans (hb.mono (by simp; omega))
theorem below3 {w w1:World} {o1 o2 o3:Obj} (hb:Below (((w.alloc o1).alloc o2).alloc o3).heap.size (((w.alloc o1).alloc o2).alloc o3) w1):Below w.heap.size w w1 :=
 ((((Below.refl _ _).alloc (Nat.le_refl _) _).alloc (by simp) _).alloc (by simp; omega) _).trans (hb.mono (by simp; omega))
theorem below_set3 {B b:Nat} {w w2:World} {x y z:Value} (h:Below B w w2) (hB:B≤b) :
  Below B w (((w2.setCell ⟨b,0,none⟩ x).setCell ⟨b,1,none⟩ y).setCell ⟨b,2,none⟩ z) :=
 ((h.setCell hB _).setCell hB _).setCell hB _

/-- Block b of the world W holds just these three cells, and they may be written. -/
structure Box (W:World) (b:Nat) (x y z:Value):Prop where
 lt:b<W.heap.size
 c0:W.cell? ⟨b,0,none⟩=some x
 c1:W.cell? ⟨b,1,none⟩=some y
 c2:W.cell? ⟨b,2,none⟩=some z
 f0:W.frozen? ⟨b,0,none⟩=false
 f1:W.frozen? ⟨b,1,none⟩=false
 f2:W.frozen? ⟨b,2,none⟩=false
theorem Box.next {W w1:World} {b:Nat} {x y z:Value} (h:Box W b x y z) (hb:Below W.heap.size W w1):Box w1 b x y z :=
 ⟨Nat.lt_of_lt_of_le h.lt hb.size,(hb.cell (p:=⟨b,0,none⟩) h.lt).trans h.c0,(hb.cell (p:=⟨b,1,none⟩) h.lt).trans h.c1,(hb.cell (p:=⟨b,2,none⟩) h.lt).trans h.c2,
  (hb.frozen (p:=⟨b,0,none⟩) h.lt).trans h.f0,(hb.frozen (p:=⟨b,1,none⟩) h.lt).trans h.f1,(hb.frozen (p:=⟨b,2,none⟩) h.lt).trans h.f2⟩
theorem Box.alloc {W:World} {b:Nat} {x y z:Value} (h:Box W b x y z) (o:Obj):Box (W.alloc o) b x y z :=
 h.next ((Below.refl _ _).alloc (Nat.le_refl _) _)
theorem Box.new (w:World) (x y z:Value) (t:Nat):Box (w.alloc (.cells #[x,y,z] t)) w.heap.size x y z :=
 ⟨by simp,by simp,by simp,by simp,by simp,by simp,by simp⟩

theorem ret_bool {a b:Bool} (h:a=b):Ending.returned (.bool a) = .returned (.bool b):=by rw [h]

set_option maxHeartbeats 400000 in
theorem null_any (w:World) :
  Calls Tryz.prog 165 #[] w fun e w'=>e = .returned (.agg #[.int .i64 1,.int .i64 0,.string ⟨#[]⟩])∧Below w.heap.size w w':=by
 go_enter Tryz.func165,Tryz.ntmps165;go_wp2
 exact bodyPost_ret (v:=.agg #[.int .i64 1,.int .i64 0,.string ⟨#[]⟩]) (by simp [results,Tryz.results165,go_sem]) rfl ⟨rfl,(Below.refl _ _).alloc (Nat.le_refl _) _⟩
set_option maxHeartbeats 400000 in
theorem bool_true (w:World) :
  Calls Tryz.prog 186 #[.bool true] w fun e w'=>e = .returned (.agg #[.int .i64 2,.int .i64 1,.string ⟨#[]⟩])∧Below w.heap.size w w':=by
 go_enter Tryz.func186,Tryz.ntmps186;go_wp2
 exact bodyPost_ret (v:=.agg #[.int .i64 2,.int .i64 1,.string ⟨#[]⟩]) (by simp [results,Tryz.results186,go_sem]) rfl ⟨rfl,(Below.refl _ _).alloc (Nat.le_refl _) _⟩
set_option maxHeartbeats 400000 in
theorem bool_false (w:World) :
  Calls Tryz.prog 186 #[.bool false] w fun e w'=>e = .returned (.agg #[.int .i64 2,.int .i64 0,.string ⟨#[]⟩])∧Below w.heap.size w w':=by
 go_enter Tryz.func186,Tryz.ntmps186;go_wp2
 exact bodyPost_ret (v:=.agg #[.int .i64 2,.int .i64 0,.string ⟨#[]⟩]) (by simp [results,Tryz.results186,go_sem]) rfl ⟨rfl,(Below.refl _ _).alloc (Nat.le_refl _) _⟩
theorem bool_any (b:Bool) (w:World) :
  Calls Tryz.prog 186 #[.bool b] w fun e w'=>e = .returned (.agg #[.int .i64 2,.int .i64 (tn (some b)),.string ⟨#[]⟩])∧Below w.heap.size w w':=by
 cases b
 ·exact bool_false w
 ·exact bool_true w
set_option maxHeartbeats 400000 in
theorem true_any (k n:Int) (s:ByteArray) (w:World) :
  Calls Tryz.prog 150 #[.agg #[.int .i64 k,.int .i64 n,.string s]] w fun e w'=>e = .returned (.bool (cls k n == some true))∧Below w.heap.size w w':=by
 rw [← cls_true];go_enter Tryz.func150,Tryz.ntmps150;go_wp2
 all_goals go_ret
 ·exact ⟨ret_bool (by simp [*]),(Below.refl _ _).alloc (Nat.le_refl _) _⟩
 ·exact ⟨ret_bool (by simp [*]),(Below.refl _ _).alloc (Nat.le_refl _) _⟩
set_option maxHeartbeats 400000 in
theorem isFalse_any (k n:Int) (s:ByteArray) (w:World) :
  Calls Tryz.prog 230 #[.agg #[.int .i64 k,.int .i64 n,.string s]] w fun e w'=>e = .returned (.bool (cls k n == some false))∧Below w.heap.size w w':=by
 rw [← cls_false];go_enter Tryz.func230,Tryz.ntmps230;go_wp2
 all_goals go_ret
 ·exact ⟨ret_bool (by simp [*]),(Below.refl _ _).alloc (Nat.le_refl _) _⟩
 ·exact ⟨ret_bool (by simp [*]),(Below.refl _ _).alloc (Nat.le_refl _) _⟩
theorem ret_int {k:IntKind} {a b:Int} (h:a=b):Ending.returned (.int k a) = .returned (.int k b):=by rw [h]
theorem wrong_k1 (n:Int) (s:ByteArray):wrongF 1 n s=0:=by simp [wrongF]
theorem wrong_k20 (s:ByteArray):wrongF 2 0 s=0:=by simp [wrongF]
theorem wrong_k21 (s:ByteArray):wrongF 2 1 s=0:=by simp [wrongF]
theorem wrong_k2x (n:Int) (s:ByteArray) (h0:¬ n=0) (h1:¬ n=1):wrongF 2 n s=3:=by simp [wrongF,h0,h1]
theorem wrong_k3 (n:Int) (s:ByteArray) (h0:¬ n < -1000000000000000) (h1:¬ 1000000000000000<n):wrongF 3 n s=0:=by
 have g0:-1000000000000000≤n:=by omega
 have g1:n≤1000000000000000:=by omega
 simp [wrongF,g0,g1]
theorem wrong_k3l (n:Int) (s:ByteArray) (h0:n < -1000000000000000):wrongF 3 n s=3:=by
 have g0:¬ -1000000000000000≤n:=by omega
 simp [wrongF,g0]
theorem wrong_k3g (n:Int) (s:ByteArray) (h0:1000000000000000<n):wrongF 3 n s=3:=by
 have g0:¬ n≤1000000000000000:=by omega
 simp [wrongF,g0]
theorem wrong_k4 (n:Int) (s:ByteArray) (h:s.size≤60):wrongF 4 n s=0:=by simp [wrongF,h]
theorem wrong_k4g (n:Int) (s:ByteArray) (h:60<s.size):wrongF 4 n s=4:=by
 have g:¬ s.size≤60:=by omega
 simp [wrongF,g]
theorem wrong_kx (k n:Int) (s:ByteArray) (h1:¬ k=1) (h2:¬ k=2) (h3:¬ k=3) (h4:¬ k=4):wrongF k n s=1:=by simp [wrongF,h1,h2,h3,h4]

set_option maxHeartbeats 1000000 in
theorem wrong_any (k n:Int) (s:ByteArray) (w:World) :
  Calls Tryz.prog 114 #[.agg #[.int .i64 k,.int .i64 n,.string s]] w fun e w'=>e = .returned (.int .i64 (wrongF k n s))∧Below w.heap.size w w':=by
 by_cases h1:k=1
 ·subst h1;go_enter Tryz.func114,Tryz.ntmps114;go_wp2
  go_ret;exact ⟨ret_int (wrong_k1 _ _).symm,(Below.refl _ _).alloc (Nat.le_refl _) _⟩
 by_cases h2:k=2
 ·subst h2;by_cases n0:n=0
  ·subst n0;go_enter Tryz.func114,Tryz.ntmps114;go_wp2
   go_ret;exact ⟨ret_int (wrong_k20 _).symm,(Below.refl _ _).alloc (Nat.le_refl _) _⟩
  by_cases n1:n=1
  ·subst n1;go_enter Tryz.func114,Tryz.ntmps114;go_wp2
   go_ret;exact ⟨ret_int (wrong_k21 _).symm,(Below.refl _ _).alloc (Nat.le_refl _) _⟩
  have l:n<0∨1<n:=by omega
  rcases l with l | l
  ·have b0:(n == 0)=false:=by simpa using n0
   have b1:(n == 1)=false:=by simpa using n1
   have c0:(n != 0)=true:=by simpa using n0
   have c1:(n != 1)=true:=by simpa using n1
   go_enter Tryz.func114,Tryz.ntmps114;go_wp2
   go_ret;exact ⟨ret_int (wrong_k2x _ _ n0 n1).symm,(Below.refl _ _).alloc (Nat.le_refl _) _⟩
  ·have b0:(n == 0)=false:=by simpa using n0
   have b1:(n == 1)=false:=by simpa using n1
   have c0:(n != 0)=true:=by simpa using n0
   have c1:(n != 1)=true:=by simpa using n1
   have l0:¬ n<0:=by omega
   go_enter Tryz.func114,Tryz.ntmps114;go_wp2
   go_ret;exact ⟨ret_int (wrong_k2x _ _ n0 n1).symm,(Below.refl _ _).alloc (Nat.le_refl _) _⟩
 by_cases h3:k=3
 ·subst h3;by_cases n0:n < -1000000000000000
  ·have n0':¬ -1000000000000000≤n:=by omega
   go_enter Tryz.func114,Tryz.ntmps114;go_wp2
   go_ret;exact ⟨ret_int (wrong_k3l _ _ (by omega)).symm,(Below.refl _ _).alloc (Nat.le_refl _) _⟩
  by_cases n1:1000000000000000<n
  ·have n0':-1000000000000000≤n:=by omega
   have n1':¬ n≤1000000000000000:=by omega
   go_enter Tryz.func114,Tryz.ntmps114;go_wp2
   go_ret;exact ⟨ret_int (wrong_k3g _ _ (by omega)).symm,(Below.refl _ _).alloc (Nat.le_refl _) _⟩
  have n0':-1000000000000000≤n:=by omega
  have n1':n≤1000000000000000:=by omega
  go_enter Tryz.func114,Tryz.ntmps114;go_wp2
  go_ret;exact ⟨ret_int (wrong_k3 _ _ (by omega) (by omega)).symm,(Below.refl _ _).alloc (Nat.le_refl _) _⟩
 by_cases h4:k=4
 ·subst h4;by_cases n0:60<s.size
  ·have n0':60<(s.size:Int):=by omega
   go_enter Tryz.func114,Tryz.ntmps114;go_wp2
   go_ret;exact ⟨ret_int (wrong_k4g _ _ n0).symm,(Below.refl _ _).alloc (Nat.le_refl _) _⟩
  have n0':¬ 60<(s.size:Int):=by omega
  go_enter Tryz.func114,Tryz.ntmps114;go_wp2
  go_ret;exact ⟨ret_int (wrong_k4 _ _ (by omega)).symm,(Below.refl _ _).alloc (Nat.le_refl _) _⟩
 have b1:(k == 1)=false:=by simpa using h1
 have b2:(k == 2)=false:=by simpa using h2
 have b3:(k == 3)=false:=by simpa using h3
 have b4:(k == 4)=false:=by simpa using h4
 have l:k<1∨4<k:=by omega
 rcases l with l | l
 ·go_enter Tryz.func114,Tryz.ntmps114;go_wp2
  go_ret;exact ⟨ret_int (wrong_kx _ _ _ h1 h2 h3 h4).symm,(Below.refl _ _).alloc (Nat.le_refl _) _⟩
 ·have l0:¬ k<1:=by omega
  go_enter Tryz.func114,Tryz.ntmps114;go_wp2
  go_ret;exact ⟨ret_int (wrong_kx _ _ _ h1 h2 h3 h4).symm,(Below.refl _ _).alloc (Nat.le_refl _) _⟩
set_option maxHeartbeats 1000000 in
theorem refWrong_any (k n:Int) (s:ByteArray) (w:World) :
  Calls Tryz.prog 76 #[.agg #[.int .i64 k,.int .i64 n,.string s]] w fun e w'=>e = .returned (.int .i64 (wrongF k n s))∧Below w.heap.size w w':=by
 by_cases h1:k=1
 ·subst h1;go_enter Tryz.func76,Tryz.ntmps76;go_wp2
  go_ret;exact ⟨ret_int (wrong_k1 _ _).symm,(Below.refl _ _).alloc (Nat.le_refl _) _⟩
 by_cases h2:k=2
 ·subst h2;by_cases n0:n=0
  ·subst n0;go_enter Tryz.func76,Tryz.ntmps76;go_wp2
   go_ret;exact ⟨ret_int (wrong_k20 _).symm,(Below.refl _ _).alloc (Nat.le_refl _) _⟩
  by_cases n1:n=1
  ·subst n1;go_enter Tryz.func76,Tryz.ntmps76;go_wp2
   go_ret;exact ⟨ret_int (wrong_k21 _).symm,(Below.refl _ _).alloc (Nat.le_refl _) _⟩
  have l:n<0∨1<n:=by omega
  rcases l with l | l
  ·have b0:(n == 0)=false:=by simpa using n0
   have b1:(n == 1)=false:=by simpa using n1
   have c0:(n != 0)=true:=by simpa using n0
   have c1:(n != 1)=true:=by simpa using n1
   go_enter Tryz.func76,Tryz.ntmps76;go_wp2
   go_ret;exact ⟨ret_int (wrong_k2x _ _ n0 n1).symm,(Below.refl _ _).alloc (Nat.le_refl _) _⟩
  ·have b0:(n == 0)=false:=by simpa using n0
   have b1:(n == 1)=false:=by simpa using n1
   have c0:(n != 0)=true:=by simpa using n0
   have c1:(n != 1)=true:=by simpa using n1
   have l0:¬ n<0:=by omega
   go_enter Tryz.func76,Tryz.ntmps76;go_wp2
   go_ret;exact ⟨ret_int (wrong_k2x _ _ n0 n1).symm,(Below.refl _ _).alloc (Nat.le_refl _) _⟩
 by_cases h3:k=3
 ·subst h3;by_cases n0:n < -1000000000000000
  ·have n0':¬ -1000000000000000≤n:=by omega
   go_enter Tryz.func76,Tryz.ntmps76;go_wp2
   go_ret;exact ⟨ret_int (wrong_k3l _ _ (by omega)).symm,(Below.refl _ _).alloc (Nat.le_refl _) _⟩
  by_cases n1:1000000000000000<n
  ·have n0':-1000000000000000≤n:=by omega
   have n1':¬ n≤1000000000000000:=by omega
   go_enter Tryz.func76,Tryz.ntmps76;go_wp2
   go_ret;exact ⟨ret_int (wrong_k3g _ _ (by omega)).symm,(Below.refl _ _).alloc (Nat.le_refl _) _⟩
  have n0':-1000000000000000≤n:=by omega
  have n1':n≤1000000000000000:=by omega
  go_enter Tryz.func76,Tryz.ntmps76;go_wp2
  go_ret;exact ⟨ret_int (wrong_k3 _ _ (by omega) (by omega)).symm,(Below.refl _ _).alloc (Nat.le_refl _) _⟩
 by_cases h4:k=4
 ·subst h4;by_cases n0:60<s.size
  ·have n0':60<(s.size:Int):=by omega
   go_enter Tryz.func76,Tryz.ntmps76;go_wp2
   go_ret;exact ⟨ret_int (wrong_k4g _ _ n0).symm,(Below.refl _ _).alloc (Nat.le_refl _) _⟩
  have n0':¬ 60<(s.size:Int):=by omega
  go_enter Tryz.func76,Tryz.ntmps76;go_wp2
  go_ret;exact ⟨ret_int (wrong_k4 _ _ (by omega)).symm,(Below.refl _ _).alloc (Nat.le_refl _) _⟩
 have b1:(k == 1)=false:=by simpa using h1
 have b2:(k == 2)=false:=by simpa using h2
 have b3:(k == 3)=false:=by simpa using h3
 have b4:(k == 4)=false:=by simpa using h4
 have l:k<1∨4<k:=by omega
 rcases l with l | l
 ·go_enter Tryz.func76,Tryz.ntmps76;go_wp2
  go_ret;exact ⟨ret_int (wrong_kx _ _ _ h1 h2 h3 h4).symm,(Below.refl _ _).alloc (Nat.le_refl _) _⟩
 ·have l0:¬ k<1:=by omega
  go_enter Tryz.func76,Tryz.ntmps76;go_wp2
  go_ret;exact ⟨ret_int (wrong_kx _ _ _ h1 h2 h3 h4).symm,(Below.refl _ _).alloc (Nat.le_refl _) _⟩

/-- From its offset on a block holds these values, three cells each. -/
def Row (W:World) (b off:Nat) (l:List (Int × Int × ByteArray)):Prop :=
 ∀ (i:Nat) (h:i<l.length),W.cell? ⟨b,off+i*3,none⟩=some (.int .i64 l[i].1)∧W.cell? ⟨b,off+i*3+1,none⟩=some (.int .i64 l[i].2.1)∧W.cell? ⟨b,off+i*3+2,none⟩=some (.string l[i].2.2)
def rightB (l:List (Int × Int × ByteArray)):Bool:=l.all fun v=>wrongF v.1 v.2.1 v.2.2 == 0

theorem Row.next {W w1:World} {b off:Nat} {l:List (Int × Int × ByteArray)} (h:Row W b off l) (hlt:b<W.heap.size) (hb:Below W.heap.size W w1):Row w1 b off l :=
 fun i hi=>⟨(hb.cell (p:=⟨b,_,none⟩) hlt).trans (h i hi).1,(hb.cell (p:=⟨b,_,none⟩) hlt).trans (h i hi).2.1,(hb.cell (p:=⟨b,_,none⟩) hlt).trans (h i hi).2.2⟩


theorem cmpI_lt {a b:Int} (h:a<b):cmpI a b = -1:=by simp [cmpI,h]
theorem cmpI_gt {a b:Int} (h:b<a):cmpI a b=1:=by
 have:¬ a<b:=by omega
 simp [cmpI,h,this]
theorem cmpI_eq (a:Int):cmpI a a=0:=by simp [cmpI]
set_option maxHeartbeats 400000 in
theorem cmpInt_any (a b:Int) (w:World) :
  Calls Tryz.prog 134 #[.int .i64 a,.int .i64 b] w fun e w'=>e = .returned (.int .i64 (cmpI a b))∧w'=w:=by
 rcases Int.lt_trichotomy a b with h | h | h
 ·go_enter Tryz.func134,Tryz.ntmps134;go_wp2
  go_ret;exact ⟨ret_int (cmpI_lt h).symm,rfl⟩
 ·subst h;go_enter Tryz.func134,Tryz.ntmps134;go_wp2
  go_ret;exact ⟨ret_int (cmpI_eq _).symm,rfl⟩
 ·have h':¬ a<b:=by omega
  go_enter Tryz.func134,Tryz.ntmps134;go_wp2
  go_ret;exact ⟨ret_int (cmpI_gt h).symm,rfl⟩
set_option maxHeartbeats 400000 in
theorem cmpInt64_any (a b:Int) (w:World) :
  Calls Tryz.prog 135 #[.int .i64 a,.int .i64 b] w fun e w'=>e = .returned (.int .i64 (cmpI a b))∧w'=w:=by
 rcases Int.lt_trichotomy a b with h | h | h
 ·go_enter Tryz.func135,Tryz.ntmps135;go_wp2
  go_ret;exact ⟨ret_int (cmpI_lt h).symm,rfl⟩
 ·subst h;go_enter Tryz.func135,Tryz.ntmps135;go_wp2
  go_ret;exact ⟨ret_int (cmpI_eq _).symm,rfl⟩
 ·have h':¬ a<b:=by omega
  go_enter Tryz.func135,Tryz.ntmps135;go_wp2
  go_ret;exact ⟨ret_int (cmpI_gt h).symm,rfl⟩
set_option maxHeartbeats 400000 in
theorem cmpStr_any (a b:ByteArray) (w:World) :
  Calls Tryz.prog 136 #[.string a,.string b] w fun e w'=>e = .returned (.int .i64 (cmpS a b))∧w'=w:=by
 go_enter Tryz.func136,Tryz.ntmps136;go_wp2
 ·go_ret;exact ⟨ret_int (by simp [cmpS, *]),rfl⟩
 ·go_ret;exact ⟨ret_int (by simp_all [cmpS]),rfl⟩
 ·go_ret;exact ⟨ret_int (by simp_all [cmpS]),rfl⟩
theorem cmpV_k {k k' n n':Int} {s s':ByteArray} (h:¬ k=k'):cmpV k n s k' n' s'=cmpI k k':=by simp [cmpV,h]
theorem cmpV_2 {n n':Int} {s s':ByteArray}:cmpV 2 n s 2 n' s'=cmpI n n':=by simp [cmpV]
theorem cmpV_3 {n n':Int} {s s':ByteArray}:cmpV 3 n s 3 n' s'=cmpI n n':=by simp [cmpV]
theorem cmpV_4 {n n':Int} {s s':ByteArray}:cmpV 4 n s 4 n' s'=cmpS s s':=by simp [cmpV]
theorem cmpV_x {k n n':Int} {s s':ByteArray} (h2:¬ k=2) (h3:¬ k=3) (h4:¬ k=4):cmpV k n s k n' s'=0:=by simp [cmpV,h2,h3,h4]

set_option maxHeartbeats 1000000 in
theorem compare_d (k n k' n':Int) (s s':ByteArray) (w:World) :
  Calls Tryz.prog 106 #[.agg #[.int .i64 k,.int .i64 n,.string s],.agg #[.int .i64 k',.int .i64 n',.string s']] w fun e w'=>e = .returned (.int .i64 (cmpV k n s k' n' s'))∧Below w.heap.size w w'∧w.drawn≤w'.drawn:=by
 by_cases hk:k=k'
 ·subst hk;by_cases h2:k=2
  ·subst h2;go_enter Tryz.func106,Tryz.ntmps106;go_wp2_with fail
   refine (cmpInt64_any _ _ _).mono ?_;rintro e w1 ⟨rfl,rfl⟩;go_wp2
   go_ret;exact ⟨ret_int cmpV_2.symm,((Below.refl _ _).alloc (Nat.le_refl _) _).alloc (by simp) _,Nat.le_refl _⟩
  by_cases h3:k=3
  ·subst h3;go_enter Tryz.func106,Tryz.ntmps106;go_wp2_with fail
   refine (cmpInt64_any _ _ _).mono ?_;rintro e w1 ⟨rfl,rfl⟩;go_wp2
   go_ret;exact ⟨ret_int cmpV_3.symm,((Below.refl _ _).alloc (Nat.le_refl _) _).alloc (by simp) _,Nat.le_refl _⟩
  by_cases h4:k=4
  ·subst h4;go_enter Tryz.func106,Tryz.ntmps106;go_wp2_with fail
   refine (cmpStr_any _ _ _).mono ?_;rintro e w1 ⟨rfl,rfl⟩;go_wp2
   go_ret;exact ⟨ret_int cmpV_4.symm,((Below.refl _ _).alloc (Nat.le_refl _) _).alloc (by simp) _,Nat.le_refl _⟩
  have b2:(k == 2)=false:=by simpa using h2
  have b3:(k == 3)=false:=by simpa using h3
  have b4:(k == 4)=false:=by simpa using h4
  go_enter Tryz.func106,Tryz.ntmps106;go_wp2
  go_ret;exact ⟨ret_int (cmpV_x h2 h3 h4).symm,((Below.refl _ _).alloc (Nat.le_refl _) _).alloc (by simp) _,Nat.le_refl _⟩
 ·have bk:(k == k')=false:=by simpa using hk
  have bk':(k != k')=true:=by simpa using hk
  go_enter Tryz.func106,Tryz.ntmps106;go_wp2_with fail
  refine (cmpInt_any _ _ _).mono ?_;rintro e w1 ⟨rfl,rfl⟩;go_wp2
  go_ret;exact ⟨ret_int (cmpV_k hk).symm,((Below.refl _ _).alloc (Nat.le_refl _) _).alloc (by simp) _,Nat.le_refl _⟩
theorem compare_any (k n k' n':Int) (s s':ByteArray) (w:World) :
  Calls Tryz.prog 106 #[.agg #[.int .i64 k,.int .i64 n,.string s],.agg #[.int .i64 k',.int .i64 n',.string s']] w fun e w'=>e = .returned (.int .i64 (cmpV k n s k' n' s'))∧Below w.heap.size w w' :=
 (compare_d k n k' n' s s' w).mono fun _ _ h=>⟨h.1,h.2.1⟩
end Go.Proofs.YtohjlfhmnmcndaaGreat
namespace Go.Proofs.YtohjlfhmnmcndaaGreat

theorem bl_irrefl:∀ x:List UInt8,Op.bytesLess x x=false
 | []=>rfl
 | a :: x=>by
  have:=bl_irrefl x
  simp [Op.bytesLess,this,UInt8.lt_irrefl]
theorem bl_asymm:∀ x y:List UInt8,Op.bytesLess x y=true→Op.bytesLess y x=false
 | [],[]=>fun _=>rfl
 | [],_ :: _=>fun _=>rfl
 | _ :: _,[]=>fun h=>by simp [Op.bytesLess] at h
 | a :: x,b :: y=>fun h=>by
  simp only [Op.bytesLess,Bool.or_eq_true,decide_eq_true_eq,Bool.and_eq_true,beq_iff_eq] at h
  rcases h with h | ⟨rfl,h⟩
  ·have h1:¬ b<a:=UInt8.lt_asymm h
   have h2:¬ b=a:=fun e=>UInt8.lt_irrefl _ (e ▸ h)
   simp [Op.bytesLess,h1,h2]
  ·simp [Op.bytesLess,bl_asymm x y h,UInt8.lt_irrefl]
theorem bl_total:∀ x y:List UInt8,Op.bytesLess x y=false→¬ x=y→Op.bytesLess y x=true
 | [],[]=>fun _ h=>absurd rfl h
 | [],_ :: _=>fun h _=>by simp [Op.bytesLess] at h
 | _ :: _,[]=>fun _ _=>rfl
 | a :: x,b :: y=>fun h hne=>by
  simp only [Op.bytesLess,Bool.or_eq_false_iff,decide_eq_false_iff_not,Bool.and_eq_false_imp,beq_iff_eq] at h
  by_cases e:a=b
  ·subst e
   have h2:=bl_total x y (h.2 rfl) (fun e=>hne (by rw [e]))
   simp [Op.bytesLess,h2]
  ·have:b<a:=by
    rcases UInt8.lt_or_lt_of_ne e with h' | h'
    ·exact absurd h' h.1
    ·exact h'
   simp [Op.bytesLess,this]
theorem bl_trans:∀ x y z:List UInt8,Op.bytesLess x y=true→Op.bytesLess y z=true→Op.bytesLess x z=true
 | _,[],_=>fun h _=>by cases ‹List UInt8› <;> simp [Op.bytesLess] at h
 | _,_ :: _,[]=>fun _ h=>by simp [Op.bytesLess] at h
 | [],_ :: _,_ :: _=>fun _ _=>rfl
 | a :: x,b :: y,c :: z=>fun h k=>by
  simp only [Op.bytesLess,Bool.or_eq_true,decide_eq_true_eq,Bool.and_eq_true,beq_iff_eq] at h k ⊢
  rcases h with h | ⟨rfl,h⟩
  ·rcases k with k | ⟨rfl,k⟩
   ·exact .inl (UInt8.lt_trans h k)
   ·exact .inl h
  ·rcases k with k | ⟨rfl,k⟩
   ·exact .inl k
   ·exact .inr ⟨rfl,bl_trans x y z h k⟩

theorem cmpI_neg (a b:Int):cmpI a b = -cmpI b a:=by unfold cmpI; split <;> split <;> (try split) <;> omega
theorem cmpI_zero (a b:Int):cmpI a b=0↔a=b:=by unfold cmpI; split <;> (try split) <;> omega
theorem cmpI_le (a b:Int):cmpI a b≤0↔a≤b:=by unfold cmpI; split <;> (try split) <;> omega
theorem cmpS_neg (a b:ByteArray):cmpS a b = -cmpS b a:=by
 unfold cmpS;by_cases e:a.toList=b.toList
 ·simp [e,bl_irrefl]
 ·have e':¬ b.toList=a.toList:=fun h=>e h.symm
  cases h:Op.bytesLess a.toList b.toList
  ·have:=bl_total _ _ h e;simp [this,e]
  ·have:=bl_asymm _ _ h;simp [this,e']
theorem cmpS_zero (a b:ByteArray):cmpS a b=0↔a.toList=b.toList:=by
 unfold cmpS;by_cases e:a.toList=b.toList
 ·simp [e,bl_irrefl]
 ·cases h:Op.bytesLess a.toList b.toList <;> simp [e]
theorem cmpS_le (a b c:ByteArray) (h:cmpS a b≤0) (k:cmpS b c≤0):cmpS a c≤0:=by
 unfold cmpS at *;by_cases e:a.toList=b.toList
 ·rw [e]; exact k
 by_cases e':b.toList=c.toList
 ·rw [← e']; exact h
 have h1:Op.bytesLess a.toList b.toList=true:=by
  cases h':Op.bytesLess a.toList b.toList
  ·simp [h',e] at h
  ·rfl
 have k1:Op.bytesLess b.toList c.toList=true:=by
  cases h':Op.bytesLess b.toList c.toList
  ·simp [h',e'] at k
  ·rfl
 simp [bl_trans _ _ _ h1 k1]
theorem cmpV_neg (k n k' n':Int) (s s':ByteArray):cmpV k n s k' n' s' = -cmpV k' n' s' k n s:=by
 unfold cmpV;by_cases e:k=k'
 ·subst e;by_cases h:k=2∨k=3
  ·simp [h]; exact cmpI_neg _ _
  ·by_cases h4:k=4
   ·simp [h4]; exact cmpS_neg _ _
   ·simp [h,h4]
 ·have e':¬ k'=k:=fun h=>e h.symm
  simp [e,e']; exact cmpI_neg _ _
theorem cmpV_trans (k n k' n' k'' n'':Int) (s s' s'':ByteArray) (h:cmpV k n s k' n' s'≤0) (j:cmpV k' n' s' k'' n'' s''≤0):cmpV k n s k'' n'' s''≤0:=by
 unfold cmpV at *;by_cases e:k=k'
 ·subst e;by_cases e':k=k''
  ·subst e';by_cases h2:k=2∨k=3
   ·simp [h2] at h j ⊢;rw [cmpI_le] at *;omega
   ·by_cases h4:k=4
    ·simp [h4] at h j ⊢;exact cmpS_le _ _ _ h j
    ·simp [h2,h4]
  ·simp [e'] at j ⊢;exact j
 ·by_cases e':k'=k''
  ·subst e';simp [e] at h ⊢;exact h
  ·simp [e] at h;simp [e'] at j;rw [cmpI_le] at h j;have:¬ k=k'':=by omega
   simp [this];rw [cmpI_le];omega
end Go.Proofs.YtohjlfhmnmcndaaGreat
namespace Go.Proofs.YtohjlfhmnmcndaaGreat
open Go.RowKit

abbrev Vl:Type:=Int × Int × ByteArray
def cmpP (x y:Vl):Int:=cmpV x.1 x.2.1 x.2.2 y.1 y.2.1 y.2.2
def cmpL:List Vl→List Vl→Int
 | [],[]=>0
 | [],_ :: _=>-1
 | _ :: _,[]=>1
 | x :: r,y :: t=>if cmpP x y=0 then cmpL r t else cmpP x y

theorem cmpI_bd (a b:Int):-1≤cmpI a b∧cmpI a b≤1:=by unfold cmpI; split <;> (try split) <;> omega
theorem cmpS_bd (a b:ByteArray):-1≤cmpS a b∧cmpS a b≤1:=by unfold cmpS; split <;> (try split) <;> omega
theorem cmpP_bd (x y:Vl):-1≤cmpP x y∧cmpP x y≤1:=by
 unfold cmpP cmpV
 split
 ·exact cmpI_bd _ _
 ·split
  ·exact cmpI_bd _ _
  ·split
   ·exact cmpS_bd _ _
   ·omega
theorem cmpL_bd:∀ l t:List Vl,-1≤cmpL l t∧cmpL l t≤1
 | [],[]=>by simp [cmpL]
 | [],_ :: _=>by simp [cmpL]
 | _ :: _,[]=>by simp [cmpL]
 | x :: r,y :: t=>by
  unfold cmpL
  split
  ·exact cmpL_bd r t
  ·exact cmpP_bd x y
theorem cmpP_neg (x y:Vl):cmpP x y = -cmpP y x:=cmpV_neg _ _ _ _ _ _
theorem cmpL_neg:∀ l t:List Vl,cmpL t l = -cmpL l t
 | [],[]=>rfl
 | [],_ :: _=>rfl
 | _ :: _,[]=>rfl
 | x :: r,y :: t=>by
  have h:=cmpP_neg x y
  unfold cmpL
  by_cases e:cmpP y x=0
  ·have e':cmpP x y=0:=by omega
   simp only [e,e',if_true]
   exact cmpL_neg r t
  ·have e':¬ cmpP x y=0:=by omega
   simp only [e,e',if_false]
   omega
theorem cmpL_drop (l t:List Vl) (k:Nat) (h:k<l.length) (h':k<t.length):cmpL (l.drop k) (t.drop k)=if cmpP l[k] t[k]=0 then cmpL (l.drop (k+1)) (t.drop (k+1)) else cmpP l[k] t[k]:=by
 rw [List.drop_eq_getElem_cons h,List.drop_eq_getElem_cons h'];rfl
theorem cmpL_long (l t:List Vl) (k:Nat) (h:k<l.length) (h':t.length≤k):cmpL (l.drop k) (t.drop k)=1:=by
 rw [List.drop_eq_getElem_cons h,List.drop_eq_nil_of_le h'];rfl
theorem cmpL_short (l t:List Vl) (k:Nat) (h:l.length≤k) (h':k<t.length):cmpL (l.drop k) (t.drop k) = -1:=by
 rw [List.drop_eq_getElem_cons h',List.drop_eq_nil_of_le h];rfl
theorem cmpL_same (l t:List Vl) (k:Nat) (h:l.length≤k) (h':t.length≤k):cmpL (l.drop k) (t.drop k)=0:=by
 rw [List.drop_eq_nil_of_le h,List.drop_eq_nil_of_le h'];rfl
/-- A slice holds these values: it is empty, or leads to them. -/
def SlAt (W:World) (a:Option Addr) (l:List Vl):Prop :=
 l.length≤maxLen∧(l = []∨∃ b off,a=some ⟨b,off,none⟩∧Row W b off l∧b<W.heap.size)
theorem SlAt.next {W w1:World} {a:Option Addr} {l:List Vl} (h:SlAt W a l) (hb:Below W.heap.size W w1):SlAt w1 a l:=by
 obtain ⟨h0,h | ⟨b,off,e,hr,hlt⟩⟩:=h
 ·exact ⟨h0,.inl h⟩
 ·exact ⟨h0,.inr ⟨b,off,e,hr.next hlt hb,Nat.lt_of_lt_of_le hlt hb.size⟩⟩
theorem SlAt.elem {W:World} {a:Option Addr} {l:List Vl} (h:SlAt W a l) {k:Nat} (hk:k<l.length) :
  ∃ b off,a=some ⟨b,off,none⟩∧b<W.heap.size∧W.cell? ⟨b,off+k*3,none⟩=some (.int .i64 l[k].1)∧W.cell? ⟨b,off+k*3+1,none⟩=some (.int .i64 l[k].2.1)∧W.cell? ⟨b,off+k*3+2,none⟩=some (.string l[k].2.2):=by
 obtain ⟨_,h | ⟨b,off,e,hr,hlt⟩⟩:=h
 ·subst h; simp at hk
 ·exact ⟨b,off,e,hlt,hr k hk⟩
set_option maxHeartbeats 1000000 in
theorem compareFunc_d (a a':Option Addr) (cap cap':Nat) (l l':List Vl) (w:World) (h:SlAt w a l) (h':SlAt w a' l') :
  Calls Tryz.prog 105 #[.slice a l.length cap,.slice a' l'.length cap',.func (.func 106) #[] #[]] w fun e w'=>e = .returned (.int .i64 (cmpL l l'))∧Below w.heap.size w w'∧w.drawn≤w'.drawn:=by
 have hl:=h.1;have hl':=h'.1;unfold maxLen at hl hl';go_enter Tryz.func105,Tryz.ntmps105;go_wp2
 go_loopw [13] (fun i w1=>∃ k:Nat,k≤l.length∧k≤l'.length∧i = .int .i64 k∧Hid (cmpL l l'=cmpL (l.drop k) (l'.drop k))∧Below w.heap.size w w1∧w.drawn≤w1.drawn) (fun i _=>l.length - (intOf i).toNat)
 case atStart=>exact ⟨0,Nat.zero_le _,Nat.zero_le _,rfl,rfl,Below.refl _ _,Nat.le_refl _⟩
 case round =>
  obtain ⟨k,hk,hk',rfl,HC,hb,hd⟩:=hrel;have HD:Hid (w.drawn≤wr.drawn):=hd;clear hd;have hz:=hb.size;by_cases hlt:k<l.length
  ·obtain ⟨b,off,rfl,hbl,c0,c1,c2⟩:=(h.next hb).elem hlt;by_cases hlt':k<l'.length
   ·have hb2:=((Below.refl wr.heap.size wr).alloc (Nat.le_refl _) (.cells #[.int .i64 l[k].1,.int .i64 l[k].2.1,.string l[k].2.2] 24))
    obtain ⟨b',off',rfl,hbl',d0,d1,d2⟩:=((h'.next hb).next hb2).elem hlt';clear hb2;by_cases e:cmpP l[k] l'[k]=0
    ·have E:Hid (cmpP l[k] l'[k]=0):=e;clear e;go_wp2_with fail
     refine (compare_d _ _ _ _ _ _ _).mono ?_;rintro e w1 ⟨rfl,hb1,hd1⟩;have HD1:Hid (wr.drawn≤w1.drawn):=hd1;clear hd1;rw [show cmpV l[k].1 l[k].2.1 l[k].2.2 l'[k].1 l'[k].2.1 l'[k].2.2=0 from E.out];go_wp2
     go_roundw
     case rel=>exact ⟨k+1,by omega,by omega,by go_num,HC.out.trans (by rw [cmpL_drop l l' k hlt hlt',if_pos E.out]),hb.trans ((((Below.refl _ _).alloc hz _).alloc (by simp; omega) _).trans (hb1.mono (by simp; omega))),Nat.le_trans HD.out HD1.out⟩
     case measure=>simp [intOf]; omega
    ·have E:Hid (¬ cmpP l[k] l'[k]=0):=e;have E2:(cmpV l[k].1 l[k].2.1 l[k].2.2 l'[k].1 l'[k].2.1 l'[k].2.2 != 0)=true:=by simpa [cmpP] using e
     clear e;go_wp2_with fail
     refine (compare_d _ _ _ _ _ _ _).mono ?_;rintro e w1 ⟨rfl,hb1,hd1⟩;have HD1:Hid (wr.drawn≤w1.drawn):=hd1;clear hd1;go_wp2
     go_ret;exact ⟨ret_int (by rw [HC.out,cmpL_drop l l' k hlt hlt',if_neg E.out]; rfl),hb.trans ((((Below.refl _ _).alloc hz _).alloc (by simp; omega) _).trans (hb1.mono (by simp; omega))),Nat.le_trans HD.out HD1.out⟩
   ·go_wp2
    go_ret;exact ⟨ret_int (by rw [HC.out,cmpL_long l l' k hlt (by omega)]),hb.alloc hz _,HD.out⟩
  ·by_cases hlt':k<l'.length
   ·have e:k=l.length:=by omega
    have hll:l.length<l'.length:=by omega
    go_wp2
    go_ret;exact ⟨ret_int (by rw [HC.out,cmpL_short l l' k (by omega) hlt']),hb,HD.out⟩
   ·have hll:¬ l.length<l'.length:=by omega
    go_wp2
    go_ret;exact ⟨ret_int (by rw [HC.out,cmpL_same l l' k (by omega) (by omega)]),hb,HD.out⟩
set_option maxHeartbeats 400000 in
theorem rows_d (a a':Option Addr) (cap cap':Nat) (l l':List Vl) (w:World) (h:SlAt w a l) (h':SlAt w a' l') :
  Calls Tryz.prog 73 #[.slice a l.length cap,.slice a' l'.length cap'] w fun e w'=>e = .returned (.int .i64 (cmpL l l'))∧Below w.heap.size w w'∧w.drawn≤w'.drawn:=by
 go_enter Tryz.func73,Tryz.ntmps73;go_wp2_with fail
 refine (compareFunc_d _ _ _ _ _ _ _ h h').mono ?_;rintro e w1 ⟨rfl,hb1,hd1⟩;go_wp2
 go_ret;exact ⟨rfl,hb1,hd1⟩
theorem rows_at (a a':Option Addr) (cap cap':Nat) (l l':List Vl) (w:World) (h:SlAt w a l) (h':SlAt w a' l') :
  Calls Tryz.prog 73 #[.slice a l.length cap,.slice a' l'.length cap'] w fun e w'=>e = .returned (.int .i64 (cmpL l l'))∧Below w.heap.size w w' :=
 (rows_d a a' cap cap' l l' w h h').mono fun _ _ h=>⟨h.1,h.2.1⟩

/-- Two values in memory, and the place of the answer. -/
structure Two3 (w W:World) (x y z x' y' z':Value):Prop where
 b:Below w.heap.size w W
 p:Box W w.heap.size x y z
 q:Box W (w.heap.size+1) x' y' z'
 r:Box W (w.heap.size+2) (.int .i64 0) (.int .i64 0) (.string ⟨#[]⟩)
theorem Two3.next {w W W1:World} {x y z x' y' z':Value} (h:Two3 w W x y z x' y' z') (hb:Below W.heap.size W W1):Two3 w W1 x y z x' y' z':=⟨h.b.trans (hb.mono h.b.size),h.p.next hb,h.q.next hb,h.r.next hb⟩
theorem Two3.new (w:World) (k n k' n':Int) (s s':ByteArray):Two3 w (((w.alloc (.cells #[.int .i64 k,.int .i64 n,.string s] 24)).alloc (.cells #[.int .i64 k',.int .i64 n',.string s'] 24)).alloc (.cells #[.int .i64 0,.int .i64 0,.string ⟨#[]⟩] 24)) (.int .i64 k) (.int .i64 n) (.string s) (.int .i64 k') (.int .i64 n') (.string s'):=by
 have q:=(Box.new (w.alloc (.cells #[.int .i64 k,.int .i64 n,.string s] 24)) (.int .i64 k') (.int .i64 n') (.string s') 24).alloc (.cells #[.int .i64 0,.int .i64 0,.string ⟨#[]⟩] 24);have r:=Box.new ((w.alloc (.cells #[.int .i64 k,.int .i64 n,.string s] 24)).alloc (.cells #[.int .i64 k',.int .i64 n',.string s'] 24)) (.int .i64 0) (.int .i64 0) (.string ⟨#[]⟩) 24;simp only [World.size_alloc] at q r;exact ⟨(((Below.refl _ _).alloc (Nat.le_refl _) _).alloc (by simp) _).alloc (by simp; omega) _,((Box.new w (.int .i64 k) (.int .i64 n) (.string s) 24).alloc _).alloc _,q,r⟩
/-- A value in memory, and the place of the answer. -/
structure One3 (w W:World) (x y z:Value):Prop where
 b:Below w.heap.size w W
 p:Box W w.heap.size x y z
 r:Box W (w.heap.size+1) (.int .i64 0) (.int .i64 0) (.string ⟨#[]⟩)
theorem One3.next {w W W1:World} {x y z:Value} (h:One3 w W x y z) (hb:Below W.heap.size W W1):One3 w W1 x y z:=⟨h.b.trans (hb.mono h.b.size),h.p.next hb,h.r.next hb⟩
theorem One3.new (w:World) (k n:Int) (s:ByteArray):One3 w ((w.alloc (.cells #[.int .i64 k,.int .i64 n,.string s] 24)).alloc (.cells #[.int .i64 0,.int .i64 0,.string ⟨#[]⟩] 24)) (.int .i64 k) (.int .i64 n) (.string s):=by
 have r:=Box.new (w.alloc (.cells #[.int .i64 k,.int .i64 n,.string s] 24)) (.int .i64 0) (.int .i64 0) (.string ⟨#[]⟩) 24;simp only [World.size_alloc] at r;exact ⟨((Below.refl _ _).alloc (Nat.le_refl _) _).alloc (by simp) _,(Box.new w (.int .i64 k) (.int .i64 n) (.string s) 24).alloc _,r⟩
set_option maxRecDepth 100000 in
set_option maxHeartbeats 8000000 in
theorem and_any (k n k' n' : Int) (s s' : ByteArray) (w : World) :
    Calls Tryz.prog 232 #[.agg #[.int .i64 k, .int .i64 n, .string s], .agg #[.int .i64 k', .int .i64 n', .string s']] w fun e w' => e = .returned (.agg #[.int .i64 (tk (and3 (cls k n) (cls k' n'))), .int .i64 (tn (and3 (cls k n) (cls k' n'))), .string ⟨#[]⟩]) ∧ Below w.heap.size w w' := by
  have T := Two3.new w k n k' n' s s'
  rcases h1 : cls k n with _ | _ | _ <;> rcases h2 : cls k' n' with _ | _ | _
  all_goals (
    go_enter Tryz.func232, Tryz.ntmps232
    go_wp2_with fail
    generalize ((w.alloc (.cells #[.int .i64 k, .int .i64 n, .string s] 24)).alloc (.cells #[.int .i64 k', .int .i64 n', .string s'] 24)).alloc (.cells #[.int .i64 0, .int .i64 0, .string ⟨#[]⟩] 24) = W0 at *
    repeat (first | refine (isFalse_any _ _ _ _).mono ?_ | refine (true_any _ _ _ _).mono ?_ | refine (bool_false _).mono ?_ | refine (bool_true _).mono ?_ | refine (null_any _).mono ?_
            rintro e w1 ⟨rfl, hb⟩
            replace T := T.next hb
            clear hb
            have ⟨a0, a1, a2, a3, a4, a5, a6⟩ := T.p
            have ⟨b0, b1, b2, b3, b4, b5, b6⟩ := T.q
            have ⟨r0, r1, r2, r3, r4, r5, r6⟩ := T.r
            try simp only [h1, h2]
            go_wp2_with fail)
    have HB := T.b
    first | exact bodyPost_ret (v := .agg #[.int .i64 1, .int .i64 0, .string ⟨#[]⟩]) (by simp [results, Tryz.results232, go_sem, r1, r2, r3]) rfl ⟨rfl, below_set3 HB (by omega)⟩ | exact bodyPost_ret (v := .agg #[.int .i64 2, .int .i64 0, .string ⟨#[]⟩]) (by simp [results, Tryz.results232, go_sem, r1, r2, r3]) rfl ⟨rfl, below_set3 HB (by omega)⟩ | exact bodyPost_ret (v := .agg #[.int .i64 2, .int .i64 1, .string ⟨#[]⟩]) (by simp [results, Tryz.results232, go_sem, r1, r2, r3]) rfl ⟨rfl, below_set3 HB (by omega)⟩)

set_option maxRecDepth 100000 in
set_option maxHeartbeats 8000000 in
theorem or_any (k n k' n' : Int) (s s' : ByteArray) (w : World) :
    Calls Tryz.prog 233 #[.agg #[.int .i64 k, .int .i64 n, .string s], .agg #[.int .i64 k', .int .i64 n', .string s']] w fun e w' => e = .returned (.agg #[.int .i64 (tk (or3 (cls k n) (cls k' n'))), .int .i64 (tn (or3 (cls k n) (cls k' n'))), .string ⟨#[]⟩]) ∧ Below w.heap.size w w' := by
  have T := Two3.new w k n k' n' s s'
  rcases h1 : cls k n with _ | _ | _ <;> rcases h2 : cls k' n' with _ | _ | _
  all_goals (
    go_enter Tryz.func233, Tryz.ntmps233
    go_wp2_with fail
    generalize ((w.alloc (.cells #[.int .i64 k, .int .i64 n, .string s] 24)).alloc (.cells #[.int .i64 k', .int .i64 n', .string s'] 24)).alloc (.cells #[.int .i64 0, .int .i64 0, .string ⟨#[]⟩] 24) = W0 at *
    repeat (first | refine (isFalse_any _ _ _ _).mono ?_ | refine (true_any _ _ _ _).mono ?_ | refine (bool_false _).mono ?_ | refine (bool_true _).mono ?_ | refine (null_any _).mono ?_
            rintro e w1 ⟨rfl, hb⟩
            replace T := T.next hb
            clear hb
            have ⟨a0, a1, a2, a3, a4, a5, a6⟩ := T.p
            have ⟨b0, b1, b2, b3, b4, b5, b6⟩ := T.q
            have ⟨r0, r1, r2, r3, r4, r5, r6⟩ := T.r
            try simp only [h1, h2]
            go_wp2_with fail)
    have HB := T.b
    first | exact bodyPost_ret (v := .agg #[.int .i64 1, .int .i64 0, .string ⟨#[]⟩]) (by simp [results, Tryz.results233, go_sem, r1, r2, r3]) rfl ⟨rfl, below_set3 HB (by omega)⟩ | exact bodyPost_ret (v := .agg #[.int .i64 2, .int .i64 0, .string ⟨#[]⟩]) (by simp [results, Tryz.results233, go_sem, r1, r2, r3]) rfl ⟨rfl, below_set3 HB (by omega)⟩ | exact bodyPost_ret (v := .agg #[.int .i64 2, .int .i64 1, .string ⟨#[]⟩]) (by simp [results, Tryz.results233, go_sem, r1, r2, r3]) rfl ⟨rfl, below_set3 HB (by omega)⟩)

set_option maxRecDepth 100000 in
set_option maxHeartbeats 8000000 in
theorem not_any (k n : Int) (s : ByteArray) (w : World) :
    Calls Tryz.prog 206 #[.agg #[.int .i64 k, .int .i64 n, .string s]] w fun e w' => e = .returned (.agg #[.int .i64 (tk (not3 (cls k n))), .int .i64 (tn (not3 (cls k n))), .string ⟨#[]⟩]) ∧ Below w.heap.size w w' := by
  have T := One3.new w k n s
  rcases h1 : cls k n with _ | _ | _
  all_goals (
    go_enter Tryz.func206, Tryz.ntmps206
    go_wp2_with fail
    generalize (w.alloc (.cells #[.int .i64 k, .int .i64 n, .string s] 24)).alloc (.cells #[.int .i64 0, .int .i64 0, .string ⟨#[]⟩] 24) = W0 at *
    repeat (first | refine (isFalse_any _ _ _ _).mono ?_ | refine (true_any _ _ _ _).mono ?_ | refine (bool_false _).mono ?_ | refine (bool_true _).mono ?_ | refine (null_any _).mono ?_
            rintro e w1 ⟨rfl, hb⟩
            replace T := T.next hb
            clear hb
            have ⟨a0, a1, a2, a3, a4, a5, a6⟩ := T.p
            have ⟨r0, r1, r2, r3, r4, r5, r6⟩ := T.r
            try simp only [h1]
            go_wp2_with fail)
    have HB := T.b
    first | exact bodyPost_ret (v := .agg #[.int .i64 1, .int .i64 0, .string ⟨#[]⟩]) (by simp [results, Tryz.results206, go_sem, r1, r2, r3]) rfl ⟨rfl, below_set3 HB (by omega)⟩ | exact bodyPost_ret (v := .agg #[.int .i64 2, .int .i64 0, .string ⟨#[]⟩]) (by simp [results, Tryz.results206, go_sem, r1, r2, r3]) rfl ⟨rfl, below_set3 HB (by omega)⟩ | exact bodyPost_ret (v := .agg #[.int .i64 2, .int .i64 1, .string ⟨#[]⟩]) (by simp [results, Tryz.results206, go_sem, r1, r2, r3]) rfl ⟨rfl, below_set3 HB (by omega)⟩)
end Go.Proofs.YtohjlfhmnmcndaaGreat
