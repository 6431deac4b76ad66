/- Together: Y1, Y2, Z4, J1, P1, Z5, Z6, Z7, Z8. -/
import Derived.Shelf.Abstract
import Derived.Laws.AppendOwnNone
import Derived.Shelf.SlSortCmp.WholeK
import Derived.Shelf.Lay
import Derived.Ground.SlsfProg
import Derived.Deep.Slices
import Derived.Test.YtohjlfhmnmcndaaGreatD1
import Derived.Test.YtohjlfhmnmcndaaGreatD0
/- The small functions of package exprs: kidsOf, together, isNull, wrongNode. -/
namespace Go.Proofs.YtohjlfhmnmcndaaGreat
open Go.RowKit

abbrev exA (x:Ex) (a:Option Addr) (c:Nat):Array Value:=#[.int .i64 x.k,.int .i64 x.v.1,.int .i64 x.v.2.1,.string x.v.2.2,.int .i64 x.c,.slice a x.ks.length c]
/-- An expression as a value: its node, and where its kids lie. -/
abbrev exV (k:Int) (v:Vl) (c:Int) (a:Option Addr) (n cap:Nat):Value :=
 .agg #[.int .i64 k,.int .i64 v.1,.int .i64 v.2.1,.string v.2.2,.int .i64 c,.slice a n cap]
abbrev agV (v:Vl):Value:=.agg #[.int .i64 v.1,.int .i64 v.2.1,.string v.2.2]

theorem kidsOf_at (k:Int) (w:World) :
  Calls Tryz.prog 242 #[.int .i64 k] w fun e w'=>e = .returned (.int .i64 (kidsN k:Nat))∧Below w.heap.size w w':=by
 unfold kidsN;by_cases h1:k=1
 ·subst h1; go_enter Tryz.func242,Tryz.ntmps242; go_wp2_with fail; go_ret; exact ⟨rfl,Below.refl _ _⟩
 by_cases h2:k=2
 ·subst h2; go_enter Tryz.func242,Tryz.ntmps242; go_wp2_with fail; go_ret; exact ⟨rfl,Below.refl _ _⟩
 by_cases h3:k=3
 ·subst h3; go_enter Tryz.func242,Tryz.ntmps242; go_wp2_with fail; go_ret; exact ⟨rfl,Below.refl _ _⟩
 by_cases h4:k=16
 ·subst h4; go_enter Tryz.func242,Tryz.ntmps242; go_wp2_with fail; go_ret; exact ⟨rfl,Below.refl _ _⟩
 by_cases h5:k=17
 ·subst h5; go_enter Tryz.func242,Tryz.ntmps242; go_wp2_with fail; go_ret; exact ⟨rfl,Below.refl _ _⟩
 rw [if_neg (by omega),if_neg (by omega),if_neg (by omega)];have q1:(k == 1)=false:=by simpa using h1
 have q2:(k == 2)=false:=by simpa using h2
 have q3:(k == 3)=false:=by simpa using h3
 have q4:(k == 16)=false:=by simpa using h4
 have q5:(k == 17)=false:=by simpa using h5
 go_enter Tryz.func242,Tryz.ntmps242;go_wp2
 go_ret;exact ⟨rfl,Below.refl _ _⟩
def togR (a b:Int):Int × Int:=resT (tog a b)
theorem togR_1 (a:Int):togR a a=(a,0):=by simp [togR,tog,resT]
theorem togR_2 (a:Int):togR a 1=(a,0):=by simp [togR,tog,resT]
theorem togR_3 {b:Int} (h:¬ b=1):togR 1 b=(b,0):=by
 have h':¬ 1=b:=fun e=>h e.symm
 simp [togR,tog,resT,h,h']
theorem togR_4 {a b:Int} (h1:¬ a=b) (h2:¬ b=1) (h3:¬ a=1):togR a b=(0,9):=by simp [togR,tog,resT,h1,h2,h3]
theorem together_at (a b:Int) (w:World) :
  Calls Tryz.prog 173 #[.int .i64 a,.int .i64 b] w fun e w'=>e = .returned (.tuple #[.int .i64 (togR a b).1,.int .i64 (togR a b).2])∧Below w.heap.size w w':=by
 by_cases h1:a=b
 ·subst h1;rw [togR_1];go_enter Tryz.func173,Tryz.ntmps173;go_wp2
  exact bodyPost_ret (v:=.tuple #[.int .i64 a,.int .i64 0]) (by simp [results,Tryz.results173,go_sem]) rfl ⟨rfl,Below.refl _ _⟩
 have q1:(a == b)=false:=by simpa using h1
 by_cases h2:b=1
 ·subst h2;rw [togR_2];go_enter Tryz.func173,Tryz.ntmps173;go_wp2
  exact bodyPost_ret (v:=.tuple #[.int .i64 a,.int .i64 0]) (by simp [results,Tryz.results173,go_sem]) rfl ⟨rfl,Below.refl _ _⟩
 have q2:(b == 1)=false:=by simpa using h2
 by_cases h3:a=1
 ·subst h3;rw [togR_3 h2];go_enter Tryz.func173,Tryz.ntmps173;go_wp2
  exact bodyPost_ret (v:=.tuple #[.int .i64 b,.int .i64 0]) (by simp [results,Tryz.results173,go_sem]) rfl ⟨rfl,Below.refl _ _⟩
 have q3:(a == 1)=false:=by simpa using h3
 rw [togR_4 h1 h2 h3];go_enter Tryz.func173,Tryz.ntmps173;go_wp2
 exact bodyPost_ret (v:=.tuple #[.int .i64 0,.int .i64 9]) (by simp [results,Tryz.results173,go_sem]) rfl ⟨rfl,Below.refl _ _⟩
theorem isNull_at (k n:Int) (s:ByteArray) (w:World) :
  Calls Tryz.prog 208 #[.agg #[.int .i64 k,.int .i64 n,.string s]] w fun e w'=>e = .returned (.bool (k == 1))∧Below w.heap.size w w':=by
 go_enter Tryz.func208,Tryz.ntmps208;go_wp2
 go_ret;exact ⟨rfl,((Below.refl _ _).alloc (Nat.le_refl _) _)⟩
/-- An expression's six cells. -/
structure Six (W:World) (b off:Nat) (k:Int) (v:Vl) (c:Int) (a:Option Addr) (n cap:Nat):Prop where
 c0:W.cell? ⟨b,off,none⟩=some (.int .i64 k)
 c1:W.cell? ⟨b,off+1,none⟩=some (.int .i64 v.1)
 c2:W.cell? ⟨b,off+2,none⟩=some (.int .i64 v.2.1)
 c3:W.cell? ⟨b,off+3,none⟩=some (.string v.2.2)
 c4:W.cell? ⟨b,off+4,none⟩=some (.int .i64 c)
 c5:W.cell? ⟨b,off+5,none⟩=some (.slice a n cap)
theorem Six.next {W w1:World} {B b off:Nat} {k:Int} {v:Vl} {c:Int} {a:Option Addr} {n cap:Nat} (h:Six W b off k v c a n cap) (hb:Below B W w1) (hB:b<B):Six w1 b off k v c a n cap :=
 ⟨(hb.cell (p:=⟨b,_,none⟩) hB).trans h.c0,(hb.cell (p:=⟨b,_,none⟩) hB).trans h.c1,(hb.cell (p:=⟨b,_,none⟩) hB).trans h.c2,(hb.cell (p:=⟨b,_,none⟩) hB).trans h.c3,(hb.cell (p:=⟨b,_,none⟩) hB).trans h.c4,(hb.cell (p:=⟨b,_,none⟩) hB).trans h.c5⟩
theorem Six.new (w:World) (k:Int) (v:Vl) (c:Int) (a:Option Addr) (n cap t:Nat):Six (w.alloc (.cells #[.int .i64 k,.int .i64 v.1,.int .i64 v.2.1,.string v.2.2,.int .i64 c,.slice a n cap] t)) w.heap.size 0 k v c a n cap :=
 ⟨by simp,by simp,by simp,by simp,by simp,by simp⟩

theorem nodeW_much {k:Int} {n:Nat} {m d:Int} (h:200<m∨20<d):nodeW k n m d=4:=by simp [nodeW,h]
theorem nodeW_kind {k:Int} {n:Nat} {m d:Int} (h:¬ 200<m) (h':¬ 20<d) (h2:k<1∨18<k):nodeW k n m d=1:=by simp [nodeW,h,h',h2]
theorem nodeW_many {k:Int} {n:Nat} {m d:Int} (h:¬ 200<m) (h':¬ 20<d) (h2:¬ k<1) (h3:¬ 18<k) (h4:¬ n=kidsN k):nodeW k n m d=5:=by simp [nodeW,h,h',h2,h3,h4]
theorem nodeW_ok {k:Int} {n:Nat} {m d:Int} (h:¬ 200<m) (h':¬ 20<d) (h2:¬ k<1) (h3:¬ 18<k) (h4:n=kidsN k):nodeW k n m d=0:=by simp [nodeW,h,h',h2,h3,h4]

set_option maxHeartbeats 1000000 in
theorem wrongNode_at (k:Int) (v:Vl) (c:Int) (a:Option Addr) (n cap:Nat) (m d:Int) (w:World) :
  Calls Tryz.prog 223 #[exV k v c a n cap,.int .i64 m,.int .i64 d] w fun e w'=>e = .returned (.int .i64 (nodeW k n m d))∧Below w.heap.size w w':=by
 by_cases h1:200<m;rw [nodeW_much (.inl h1)];rotate_left;by_cases h2:20<d;rw [nodeW_much (.inr h2)];rotate_left;by_cases h3:k<1;rw [nodeW_kind h1 h2 (.inl h3)];rotate_left;by_cases h4:18<k;rw [nodeW_kind h1 h2 (.inr h4)];rotate_left;obtain ⟨q,hq,hn⟩:∃ q:Bool,((n:Int) != ((kidsN k:Nat):Int))=q∧nodeW k n m d=if q then 5 else 0:=by
  by_cases h5:n=kidsN k
  ·exact ⟨false,by simp [h5],by rw [nodeW_ok h1 h2 h3 h4 h5]; rfl⟩
  ·exact ⟨true,by simp; omega,by rw [nodeW_many h1 h2 h3 h4 h5]; rfl⟩
 rw [hn];clear hn;go_enter Tryz.func223,Tryz.ntmps223;go_wp2_with fail
 have hA:Below w.heap.size w (w.alloc (.cells #[.int .i64 k,.int .i64 v.1,.int .i64 v.2.1,.string v.2.2,.int .i64 c,.slice a n cap] 27)):=((Below.refl _ _).alloc (Nat.le_refl _) _)
 have S:=Six.new w k v c a n cap 27;generalize w.alloc (.cells #[.int .i64 k,.int .i64 v.1,.int .i64 v.2.1,.string v.2.2,.int .i64 c,.slice a n cap] 27)=wA at *;have p0:=past_cell S.c0;have p5:=past_cell S.c5;simp only [Nat.zero_add] at p5;haveI:Nonempty (Past wA):=⟨⟨_,Below.refl _ _⟩⟩
 refine wp_region_past (by kernel_rfl) (by kernel_rfl) ?_
 repeat (go_big_quiet_step (first | (go_at_call 242; exact in_past (kidsOf_at _ _))))
 refine wpQuiet_nil ?_;rintro w3 ⟨⟨v3,hb3⟩,h3'⟩;obtain rfl:w3=v3:=h3';have hb:=chain hA hb3;clear p0 p5 S hA hb3;cases q
 ·go_wp2
  go_ret;exact ⟨rfl,hb⟩
 ·go_wp2
  go_ret;exact ⟨rfl,hb⟩
 all_goals
  go_enter Tryz.func223,Tryz.ntmps223;go_wp2
  go_ret;exact ⟨rfl,((Below.refl _ _).alloc (Nat.le_refl _) _)⟩

/-- A slice holds these numbers, and lies below B. -/
def IsAt (B:Nat) (W:World) (a:Option Addr) (l:List Int):Prop :=
 l.length≤maxLen∧(l = []∨∃ b off,a=some ⟨b,off,none⟩∧b<B∧∀ (i:Nat) (h:i<l.length),W.cell? ⟨b,off+i,none⟩=some (.int .i64 l[i]))
theorem IsAt.next {B B':Nat} {W w1:World} {a:Option Addr} {l:List Int} (h:IsAt B W a l) (hb:Below B' W w1) (hB:B≤B'):IsAt B w1 a l:=by
 obtain ⟨h0,h | ⟨b,off,e,hlt,hr⟩⟩:=h
 ·exact ⟨h0,.inl h⟩
 ·exact ⟨h0,.inr ⟨b,off,e,hlt,fun i hi=>(hb.cell (p:=⟨b,_,none⟩) (Nat.lt_of_lt_of_le hlt hB)).trans (hr i hi)⟩⟩
theorem IsAt.up {B B':Nat} {W:World} {a:Option Addr} {l:List Int} (h:IsAt B W a l) (hB:B≤B'):IsAt B' W a l:=by
 obtain ⟨h0,h | ⟨b,off,e,hlt,hr⟩⟩:=h
 ·exact ⟨h0,.inl h⟩
 ·exact ⟨h0,.inr ⟨b,off,e,Nat.lt_of_lt_of_le hlt hB,hr⟩⟩
theorem IsAt.elem {B:Nat} {W:World} {a:Option Addr} {l:List Int} (h:IsAt B W a l) {k:Nat} (hk:k<l.length) :
  ∃ b off,a=some ⟨b,off,none⟩∧b<B∧W.cell? ⟨b,off+k,none⟩=some (.int .i64 l[k]):=by
 obtain ⟨_,h | ⟨b,off,e,hlt,hr⟩⟩:=h
 ·subst h; simp at hk
 ·exact ⟨b,off,e,hlt,hr k hk⟩
theorem allO_end (t:Int) (l:List Int) (k:Nat) (h:l.length≤k):allO t (l.drop k)=some t:=by rw [List.drop_eq_nil_of_le h]; simp [allO]
theorem allO_no (t:Int) (l:List Int) (k:Nat) (h:k<l.length) (e:tog l[k] t=none):allO t (l.drop k)=none:=by
 rw [List.drop_eq_getElem_cons h,allO,List.all_cons,e]; rfl
theorem allO_next (t:Int) (l:List Int) (k:Nat) (h:k<l.length) {u:Int} (e:tog l[k] t=some u):allO t (l.drop k)=allO t (l.drop (k+1)):=by
 rw [List.drop_eq_getElem_cons h,allO,List.all_cons,e,allO]; rfl
set_option maxHeartbeats 1000000 in
theorem allOf_at (t:Int) (B:Nat) (a:Option Addr) (cap:Nat) (l:List Int) (w:World) (hB:B≤w.heap.size) (h:IsAt B w a l) :
  Calls Tryz.prog 243 #[.int .i64 t,.slice a l.length cap] w fun e w'=>e = .returned (.tuple #[.int .i64 (resT (allO t l)).1,.int .i64 (resT (allO t l)).2])∧Below w.heap.size w w':=by
 have hl:=h.1;unfold maxLen at hl;go_enter Tryz.func243,Tryz.ntmps243;go_wp2_with fail
 go_loopw [12] (fun i wr=>∃ k:Nat,k≤l.length∧i = .int .i64 k∧Hid (allO t l=allO t (l.drop k))∧Below w.heap.size w wr) (fun i _=>l.length - (intOf i).toNat)
 case atStart=>exact ⟨0,Nat.zero_le _,rfl,rfl,Below.refl _ _⟩
 case round =>
  obtain ⟨k,hk,rfl,HE,hb⟩:=hrel;by_cases hlt:k<l.length
  ·obtain ⟨b,off,rfl,hbl,c⟩:=(h.next hb hB).elem hlt;rcases ht:tog l[k] t with _ | u
   ·have hR:togR l[k] t=(0,9):=by simp [togR,ht,resT]
    have HT:Hid (tog l[k] t=none):=ht;clear ht;go_wp2_with fail
    refine (together_at _ _ _).mono ?_;rintro e w1 ⟨rfl,hb1⟩;simp only [hR];go_wp2
    exact bodyPost_ret (v:=.tuple #[.int .i64 0,.int .i64 9]) (by simp [results,Tryz.results243,go_sem]) rfl ⟨by rw [HE.out,allO_no t l k hlt HT.out]; rfl,chain hb hb1⟩
   ·have hR:togR l[k] t=(u,0):=by simp [togR,ht,resT]
    have HT:Hid (tog l[k] t=some u):=ht;clear ht;go_wp2_with fail
    refine (together_at _ _ _).mono ?_;rintro e w1 ⟨rfl,hb1⟩;simp only [hR];go_wp2
    go_roundw
    case rel=>exact ⟨k+1,by omega,by go_num,HE.out.trans (allO_next t l k hlt HT.out),chain hb hb1⟩
    case measure=>simp [intOf]; omega
  ·go_wp2
   exact bodyPost_ret (v:=.tuple #[.int .i64 t,.int .i64 0]) (by simp [results,Tryz.results243,go_sem]) rfl ⟨by rw [HE.out,allO_end t l k (by omega)]; rfl,hb⟩
theorem colType_at (B:Nat) (a:Option Addr) (cap:Nat) (l:List Int) (c:Int) (w:World) (h:IsAt B w a l) :
  Calls Tryz.prog 225 #[.slice a l.length cap,.int .i64 c] w fun e w'=>e = .returned (.tuple #[.int .i64 (colT l c).1,.int .i64 (colT l c).2])∧Below w.heap.size w w':=by
 by_cases h1:c<0
 ·have e:colT l c=(0,7):=by simp [colT,h1]
  rw [e];go_enter Tryz.func225,Tryz.ntmps225;go_wp2
  exact bodyPost_ret (v:=.tuple #[.int .i64 0,.int .i64 7]) (by simp [results,Tryz.results225,go_sem]) rfl ⟨rfl,Below.refl _ _⟩
 by_cases h2:l.length≤c
 ·have e:colT l c=(0,7):=by simp [colT,h2]
  rw [e];go_enter Tryz.func225,Tryz.ntmps225;go_wp2
  exact bodyPost_ret (v:=.tuple #[.int .i64 0,.int .i64 7]) (by simp [results,Tryz.results225,go_sem]) rfl ⟨rfl,Below.refl _ _⟩
 obtain ⟨j,rfl⟩:∃ j:Nat,c=j:=⟨c.toNat,by omega⟩
 have hj:j<l.length:=by omega
 have e:colT l j=(l[j],0):=by simp [colT,h2,List.getD,hj]
 rw [e];obtain ⟨b,off,rfl,hbl,cc⟩:=h.elem hj;go_enter Tryz.func225,Tryz.ntmps225;go_wp2
 exact bodyPost_ret (v:=.tuple #[.int .i64 l[j],.int .i64 0]) (by simp [results,Tryz.results225,go_sem]) rfl ⟨rfl,Below.refl _ _⟩
theorem litType_at (v:Vl) (w:World) :
  Calls Tryz.prog 224 #[agV v] w fun e w'=>e = .returned (.tuple #[.int .i64 (litT v).1,.int .i64 (litT v).2])∧Below w.heap.size w w':=by
 obtain ⟨k,n,s⟩:=v;by_cases h:wrongF k n s=0
 ·have e:litT (k,n,s)=(k,0):=by simp [litT,wrongP,h]
  rw [e];clear e;go_enter Tryz.func224,Tryz.ntmps224;go_wp2_with fail
  have A0:=Box.new w (.int .i64 k) (.int .i64 n) (.string s) 24;refine (wrong_any _ _ _ _).mono ?_;rintro e w1 ⟨rfl,hb1⟩;rw [h];have ⟨a0,a1,a2,a3,a4,a5,a6⟩:=A0.next hb1;go_wp2
  exact bodyPost_ret (v:=.tuple #[.int .i64 k,.int .i64 0]) (by simp [results,Tryz.results224,go_sem]) rfl ⟨rfl,below1 hb1⟩
 ·have e:litT (k,n,s)=(0,wrongF k n s):=by simp [litT,wrongP,h]
  rw [e];clear e;go_enter Tryz.func224,Tryz.ntmps224;go_wp2_with fail
  refine (wrong_any _ _ _ _).mono ?_;rintro e w1 ⟨rfl,hb1⟩;have q:(wrongF k n s != 0)=true:=by simpa using h
  go_wp2
  exact bodyPost_ret (v:=.tuple #[.int .i64 0,.int .i64 (wrongF k n s)]) (by simp [results,Tryz.results224,go_sem]) rfl ⟨rfl,below1 hb1⟩

/-- Rows with what is made of their weights, without those that are then gone, and without what values have not. -/
def weighL (f:Int→Int):List Zp→List Zp
 | []=>[]
 | x :: r=>if f x.2=0 then weighL f r else (bareL x.1,f x.2) :: weighL f r
theorem weighL_append (f:Int→Int) (l t:List Zp):weighL f (l ++ t)=weighL f l ++ weighL f t:=by
 induction l with
 | nil=>rfl
 | cons x r ih =>
  rw [List.cons_append,weighL,weighL,ih]
  split <;> simp
theorem weighL_take (f:Int→Int) (l:List Zp) (k:Nat) (h:k<l.length):weighL f (l.take (k+1))=weighL f (l.take k) ++ (if f l[k].2=0 then [] else [(bareL l[k].1,f l[k].2)]):=by
 rw [List.take_succ_eq_append_getElem h,weighL_append];simp [weighL]
theorem weighL_len (f:Int→Int) (l:List Zp):(weighL f l).length≤l.length:=by
 induction l with
 | nil=>simp [weighL]
 | cons x r ih =>
  rw [weighL]
  split <;> simp <;> omega
/-- A function value makes f of a weight, in whatever world that has grown out of this one, and makes memory alone. -/
def Makes (g:Nat) (cb:Array Value) (f:Int→Int) (w:World):Prop :=
 ∀ (x:Int) (W:World),inW x=true→Below w.heap.size w W→Calls Tryz.prog g (#[.int .i64 x] ++ cb) W fun e w'=>e = .returned (.int .i64 (f x))∧Below W.heap.size W w'

set_option maxHeartbeats 2000000 in
theorem weighed_at (g:Nat) (cb:Array Value) (f:Int→Int) (a:Option Addr) (cap:Nat) (l:List Zp) (w:World) (h:ZsAt w a l)
  (eg:∀ args w,(callFunc g args).run Tryz.prog w = .ok (.enter g args) w) (hm:Makes g cb f w) (hl:l.length≤200000) (hr:∀ x ∈ l,x.1.length≤8) (hw:∀ x ∈ l,inW x.2=true) :
  Calls Tryz.prog 70 #[.slice a l.length cap,.func (.func g) #[] cb] w fun e w'=>∃ v,e = .returned v∧OwnZ w.heap.size w' v (weighL f l)∧Below w.heap.size w w':=by
 obtain ⟨i0,hi,hj0,hj1,hj2⟩:=info_parts Tryz.info42;go_enter Tryz.func70,Tryz.ntmps70;go_wp2_with fail
 go_loopw [5,11] (fun v i wr=>∃ k:Nat,k≤l.length∧i = .int .i64 k∧OwnZ w.heap.size wr v (weighL f (l.take k))∧Below w.heap.size w wr) (fun _ i _=>l.length - (intOf i).toNat)
 case atStart=>exact ⟨0,Nat.zero_le _,rfl,⟨[],by simpa [weighL] using World.ownsRow_nil _ _ _ _,by simp [weighL,EncT]⟩,Below.refl _ _⟩
 case round =>
  obtain ⟨k,hk,rfl,HO,hb⟩:=hrel;have hz:=hb.size;by_cases hlt:k<l.length
  ·obtain ⟨b,off,rfl,hbl,c1,ar,cr,c0,sr⟩:=(h.next hb).elem hlt;have hin:=hw l[k] (List.getElem_mem hlt);have h8:=hr l[k] (List.getElem_mem hlt);have HI:Hid (inW l[k].2=true):=hin;have H8:Hid (l[k].1.length≤8):=h8;clear hin h8;have hlen:=weighL_len f (l.take k);simp only [List.length_take] at hlen;by_cases h0:f l[k].2=0
   ·have H0:Hid (f l[k].2=0):=h0;clear h0;go_wp2_with (go_at_fn g; refine (hm _ _ HI.out (hb.alloc hz _)).mono ?_; rintro e w1 ⟨rfl,hb1⟩; rw [H0.out])
    go_roundw
    case rel=>exact ⟨k+1,by omega,by go_num,by rw [weighL_take f l k hlt,if_pos H0.out,List.append_nil]; exact (HO.next ((Below.refl _ _).alloc (Nat.le_refl _) _)).next hb1,chain2 hb hb1⟩
    case measure=>simp [intOf]; omega
   ·have H0:Hid (¬ f l[k].2=0):=h0;have n0:(f l[k].2 != 0)=true:=by simpa using h0
    clear h0;obtain ⟨xs,ho,he⟩:=HO;go_wp2_with (go_at_fn g; refine (hm _ _ HI.out (hb.alloc hz _)).mono ?_; rintro e w1 ⟨rfl,hb1⟩; have q0:w1.cell? ⟨wr.heap.size,0,none⟩=some (.slice ar l[k].1.length cr):=(hb1.cell (p:=⟨wr.heap.size,0,none⟩) (by simp)).trans (by simp))
    have hb1':=chain2 hb hb1;have hz1:=hb1'.size;have s1:=(sr.next ((Below.refl _ _).alloc (Nat.le_refl _) _)).next hb1;have o1:=own_next (own_next ho ((Below.refl _ _).alloc (Nat.le_refl _) _)) hb1;have e1:=(he.next ((Below.refl _ _).alloc (Nat.le_refl _) _)).next hb1;refine (bareRow_at _ _ _ _ s1 H8.out).mono ?_;rintro e w2 ⟨rfl,⟨s2,t2⟩,hb2⟩;have o2:=own_next o1 hb2;have e2:=e1.next hb2;have hz2':=hb2.size;clear o1 e1 ho he s1;have bl:(bareL l[k].1).length=l[k].1.length:=by simp [bareL]
    have ss:=(s2.next ((Below.refl _ _).alloc (Nat.le_refl _) (.cells #[.slice (some ⟨w1.heap.size,0,none⟩) l[k].1.length l[k].1.length,.int .i64 (f l[k].2)] 58)))
    have st:=(t2.next ((Below.refl _ _).alloc (Nat.le_refl _) (.cells #[.slice (some ⟨w1.heap.size,0,none⟩) l[k].1.length l[k].1.length,.int .i64 (f l[k].2)] 58)))
    have eo:=e2.next ((Below.refl _ _).alloc (Nat.le_refl _) (.cells #[.slice (some ⟨w1.heap.size,0,none⟩) l[k].1.length l[k].1.length,.int .i64 (f l[k].2)] 58));go_wp2_with (at_builtin; (refine wpList_append_own _ rfl _ _ 34 rfl w.heap.size 58 i0 _ 2 32 Tryz.underlying34 hi hj0 hj1 hj2 rfl (by decide) _ _ _ rfl (o2.alloc _) ⟨w2.heap.size,0,none⟩ 1 1 [.slice (some ⟨w1.heap.size,0,none⟩) l[k].1.length l[k].1.length,.int .i64 (f l[k].2)] rfl rfl ?c1 ?c2 ?c3 ?c4 ?c5 ?_))
    case c1 =>
     intro j u hj
     match j,hj with
     | 0,hj=>simp at hj; subst hj; simp [Addr.add]
     | 1,hj=>simp at hj; subst hj; simp [Addr.add]
    case c2=>intro u hu; simp at hu; rcases hu with rfl | rfl <;> rfl
    case c3=>unfold maxLen; omega
    case c4=>omega
    case c5=>simp; omega
    intro v' w3 ho3 hg3 _;have R:=own_push (o2.alloc _) eo ss st (by rw [bl]; exact ho3) hg3;have hb3:Below w.heap.size w w3:=((chain1 hb1' hb2).alloc (by omega) _).grown hg3 (by simp; omega) (fun q hq=>((o2.alloc (.cells #[.slice (some ⟨w1.heap.size,0,none⟩) l[k].1.length l[k].1.length,.int .i64 (f l[k].2)] 58)).lt q hq).1);clear ho3 hg3 o2 e2 eo ss st s2 t2;go_wp2
    go_roundw
    case rel=>exact ⟨k+1,by omega,by go_num,by rw [weighL_take f l k hlt,if_neg H0.out]; exact R,hb3⟩
    case measure=>simp [intOf]; omega
  ·have e:k=l.length:=by omega
   subst e;rw [List.take_length] at HO;obtain ⟨av,cv,rfl,_⟩:=HO.zs;go_wp2
   go_ret;exact ⟨_,rfl,HO,hb⟩
end Go.Proofs.YtohjlfhmnmcndaaGreat
namespace Go.Proofs.YtohjlfhmnmcndaaGreat
open Go.RowKit Go.Lib

theorem run_append_none2 {P:Program} {w:World} (base:Nat) (t ty e:TypeId) (i:TypeInfo) (size:Nat) (ht:P.underlying t=some (.slice e)) (hi:P.info? e=some i)
  (v:Value) (n:Nat) (xs:List Value) (hown:w.ownsRow base e size v n xs) (c:Nat):(Builtin.append_ #[t,t] ty #[v,.slice none 0 c]).run P w = .ok v w:=by
 rcases hown.2 with ⟨rfl,rfl⟩ | ⟨g,cap,cur,rfl,_,_,hnc,_⟩
 ·simp [Builtin.append_,run_underlying ht,sizeOf,typeInfo,hi,Builtin.lenOf,Builtin.firstCells]
 ·simp [Builtin.append_,run_underlying ht,sizeOf,typeInfo,hi,Builtin.lenOf,Builtin.firstCells,hnc,storeCells]
/-- Cells behind a slice: n elements of so many cells each. -/
structure Raw (W:World) (a:Option Addr) (n size:Nat) (xs:List Value):Prop where
 len:xs.length=n*size
 one:∀ u ∈ xs,u.oneCell'=true
 nil:a=none→n=0
 at_:∀ ad,a=some ad→∀ j u,xs[j]? = some u→W.cell? (ad.add j)=some u
theorem Raw.next {W w1:World} {a:Option Addr} {n size:Nat} {xs:List Value} (h:Raw W a n size xs) (hb:Below W.heap.size W w1):Raw w1 a n size xs :=
 ⟨h.len,h.one,h.nil,fun ad e j u hj=>(hb.cell (World.block_lt_of_cell? _ _ (h.at_ ad e j u hj))).trans (h.at_ ad e j u hj)⟩
theorem Raw.alloc {W:World} {a:Option Addr} {n size:Nat} {xs:List Value} (h:Raw W a n size xs) (o:Obj):Raw (W.alloc o) a n size xs:=h.next ((Below.refl _ _).alloc (Nat.le_refl _) _)

theorem wpList_append_raw {P:Program} {w:World} {ops:Array Oper} {rest:List Oper} {o:Oper} {a:Act} {Q:Exit→Act→World→Prop} (hgd:o.guard=none) (s x:Operand) (t:TypeId)
  (ho:o.op = .call { callee:=.builtin .append,args:=#[s,x],argTypes:=#[t,t] })
  (base:Nat) (e:TypeId) (i:TypeInfo) (z:Value) (size bytes:Nat) (ht:P.underlying t=some (.slice e)) (hi:P.info? e=some i) (hz:i.zero=some z)
  (hsize:i.size=size) (hby:i.bytes=bytes) (hzs:z.cells.size=size) (hsz:0<size)
  (v:Value) (n:Nat) (xs:List Value) (hs:a.eval s=v) (hown:w.ownsRow base e size v n xs)
  (ao:Option Addr) (m c:Nat) (news:List Value) (hx:a.eval x = .slice ao m c) (hr:Raw w ao m size news)
  (h63:n+m≤maxLen) (hbytes:(n+m)*bytes≤140737488355328) (hbase:base≤w.heap.size)
  (h:∀ v' w',w'.ownsRow base e size v' (n+m) (xs ++ news)→w.grownBy w' v.ownBlock→wpList P ops Q rest (a.put o.dst v') w'):wpList P ops Q (o :: rest) a w:=by
 rcases ao with _ | ad
 ·have hm:=hr.nil rfl;subst hm;have hnews:news = []:=List.eq_nil_of_length_eq_zero (by simpa using hr.len);subst hnews;refine wpList_plain hgd fun K hK'=>?_
  have hrun:=run_append_none2 (P:=P) (w:=w) base t o.type e i size ht hi v n xs hown c;unfold Oper.wp;simp [execOp,ho,resolve,invoke,builtin,hs,hx,hrun,Result.andThen];exact hK' _ _ (by simpa using h v w (by simpa using hown) (World.grownBy.refl _ _))
 ·exact wpList_append_own _ hgd s x t ho base e i z size bytes ht hi hz hsize hby hzs hsz v n xs hs hown ad m c news hx hr.len (hr.at_ ad rfl) hr.one h63 hbytes hbase (fun v' w' h1 h2 _=>h v' w' h1 h2)
/-- .. within what there is room for. -/
theorem wpList_append_in {P:Program} (w:World) {ops:Array Oper} {rest:List Oper} {o:Oper} {a:Act} {Q:Exit→Act→World→Prop}
  (hg:o.guard=none) (s x:Operand) (t:TypeId) (hop:o.op=Op.call { callee:=Callee.builtin Builtin.append,args:=#[s,x],argTypes:=#[t,t] })
  (base:Nat) (e:TypeId) (i:TypeInfo) (size:Nat) (h1:P.underlying t=some (.slice e)) (h2:P.info? e=some i) (h4:i.size=size)
  (g k cap:Nat) (xs:List Value) (hs:a.eval s = .slice (some ⟨g,0,none⟩) k cap) (hown:w.ownsRow base e size (.slice (some ⟨g,0,none⟩) k cap) k xs) (ao:Option Addr) (m c:Nat) (news:List Value) (hx:a.eval x = .slice ao m c) (hr:Raw w ao m size news) (b1:k+m≤cap)
  (hK:∀ w',w'.ownsRow base e size (.slice (some ⟨g,0,none⟩) (k+m) cap) (k+m) (xs ++ news)→w.grownBy w' (some g)→wpList P ops Q rest (a.put o.dst (.slice (some ⟨g,0,none⟩) (k+m) cap)) w') :
  wpList P ops Q (o :: rest) a w:=by
 rcases ao with _ | ad
 ·have hm:=hr.nil rfl;subst hm;have hnews:news = []:=List.eq_nil_of_length_eq_zero (by simpa using hr.len);subst hnews;refine wpList_plain hg fun K hK'=>?_
  have hrun:=run_append_none2 (P:=P) (w:=w) base t o.type e i size h1 h2 _ k xs hown c;unfold Oper.wp;simp [execOp,hop,resolve,invoke,builtin,hs,hx,hrun,Result.andThen];exact hK' _ _ (by simpa using hK w (by simpa using hown) (World.grownBy.refl _ _))
 ·exact wpList_append_fits w hg s x t hop base e i size h1 h2 h4 g k cap xs hs hown ad m c news hx hr.len (hr.at_ ad rfl) hr.one b1 hK
theorem addr_addJ (b off i:Nat):(⟨b,off,none⟩:Addr).add i=⟨b,off+i,none⟩:=by
 unfold Addr.add;by_cases h:i=0 <;> simp [h]
/-- The cells of values. -/
def flatV:List Vl→List Value
 | []=>[]
 | v :: r=>.int .i64 v.1 :: .int .i64 v.2.1 :: .string v.2.2 :: flatV r
theorem flatV_len:∀ l,(flatV l).length=l.length*3
 | []=>rfl
 | v :: r=>by simp only [flatV,List.length_cons,flatV_len r]; omega
theorem flatV_append:∀ l t,flatV (l ++ t)=flatV l ++ flatV t
 | [],_=>rfl
 | v :: r,t=>by simp only [List.cons_append,flatV,flatV_append r t]
theorem flatV_get:∀ (l:List Vl) (j:Nat) (h:j<l.length),(flatV l)[j*3]? = some (.int .i64 l[j].1)∧(flatV l)[j*3+1]? = some (.int .i64 l[j].2.1)∧(flatV l)[j*3+2]? = some (.string l[j].2.2)
 | [],_,h=>by simp at h
 | v :: r,0,_=>by simp [flatV]
 | v :: r,j+1,h=>by
  have ih:=flatV_get r j (by simpa using h)
  have e0:(j+1)*3=j*3+1+1+1:=by omega
  have e1:(j+1)*3+1=j*3+1+1+1+1:=by omega
  have e2:(j+1)*3+2=j*3+2+1+1+1:=by omega
  rw [e1,e2,e0]
  simp only [flatV,List.getElem?_cons_succ,List.getElem_cons_succ]
  exact ih
theorem flatV_one:∀ l,∀ u ∈ flatV l,u.oneCell'=true
 | [],u,h=>by simp [flatV] at h
 | v :: r,u,h=>by
  simp only [flatV,List.mem_cons] at h
  rcases h with rfl | rfl | rfl | h
  ·rfl
  ·rfl
  ·rfl
  ·exact flatV_one r u h
theorem raw_vals {W:World} {a:Option Addr} {l:List Vl} (h:SlAt W a l):Raw W a l.length 3 (flatV l):=by
 refine ⟨flatV_len l,flatV_one l,?_,?_⟩
 ·intro e;rcases h.2 with h | ⟨b,off,e',_⟩
  ·rw [h]; rfl
  ·rw [e] at e'; cases e'
 ·intro ad e j u hj;have hlt:j<l.length*3:=by
   rcases Nat.lt_or_ge j (l.length*3) with h | h
   ·exact h
   ·rw [List.getElem?_eq_none (by rw [flatV_len]; exact h)] at hj; cases hj
  obtain ⟨b,off,e',_,c0,c1,c2⟩:=h.elem (k:=j / 3) (by omega);rw [e] at e';have e':=Option.some.inj e';subst e';rw [addr_addJ];obtain ⟨g0,g1,g2⟩:=flatV_get l (j / 3) (by omega);have hm:j % 3=0∨j % 3=1∨j % 3=2:=by omega
  rcases hm with hm | hm | hm
  ·have ej:j=j / 3*3:=by omega
   rw [ej,g0] at hj;rw [← hj,← c0]; congr 2; omega
  ·have ej:j=j / 3*3+1:=by omega
   rw [ej,g1] at hj;rw [← hj,← c1]; congr 2; omega
  ·have ej:j=j / 3*3+2:=by omega
   rw [ej,g2] at hj;rw [← hj,← c2]; congr 2; omega
theorem raw_ints {B:Nat} {W:World} {a:Option Addr} {l:List Int} (h:IsAt B W a l):Raw W a l.length 1 (l.map (Value.int .i64)):=by
 refine ⟨by simp,by intro u hu; obtain ⟨x,_,rfl⟩:=List.mem_map.1 hu; rfl,?_,?_⟩
 ·intro e;rcases h.2 with h | ⟨b,off,e',_⟩
  ·rw [h]; rfl
  ·rw [e] at e'; cases e'
 ·intro ad e j u hj;have hlt:j<l.length:=by
   rcases Nat.lt_or_ge j l.length with h | h
   ·exact h
   ·rw [List.getElem?_eq_none (by simpa using h)] at hj; cases hj
  obtain ⟨b,off,e',_,c0⟩:=h.elem hlt;rw [e] at e';have e':=Option.some.inj e';subst e';rw [addr_addJ,c0]
  simpa [hlt] using hj
theorem own_vals {W:World} {B n:Nat} {v:Value} {l:List Vl} (ho:W.ownsRow B 24 3 v n (flatV l)) (hn:n=l.length):∃ a cap,v = .slice a l.length cap∧SlAt W a l∧TyAt W a∧(l.length≤cap∨a=none):=by
 subst hn;have ho':=ho;obtain ⟨hx,⟨rfl,h0⟩ | ⟨g,cap,cur,rfl,hg,hh,hn,hc,hs,ht⟩⟩:=ho
 ·have:l = []:=List.eq_nil_of_length_eq_zero h0;subst this;exact ⟨none,0,rfl,⟨by simp,.inl rfl⟩,(fun b off e=>by cases e),.inr rfl⟩
 ·refine ⟨_,cap,rfl,⟨by omega,.inr ⟨g,0,rfl,fun i hi=>?_,(ho'.lt g rfl).2⟩⟩,?_,.inl hn⟩
  ·obtain ⟨g0,g1,g2⟩:=flatV_get l i hi;refine ⟨?_,?_,?_⟩
   ·rw [ho'.cellAt _ (by omega),← g0]; congr 1; omega
   ·rw [ho'.cellAt _ (by omega),← g1]; congr 1; omega
   ·rw [ho'.cellAt _ (by omega),← g2]; congr 1; omega
  ·intro b off e;have e:=Option.some.inj e;injection e with e1 e2
   subst e1;exact ⟨_,_,hh⟩
theorem own_ints {W:World} {B n:Nat} {v:Value} {l:List Int} (ho:W.ownsRow B 3 1 v n (l.map (Value.int .i64))) (hn:n=l.length):∃ a cap,v = .slice a l.length cap∧IsAt W.heap.size W a l:=by
 subst hn;have ho':=ho;obtain ⟨hx,⟨rfl,h0⟩ | ⟨g,cap,cur,rfl,hg,hh,hn,hc,hs,ht⟩⟩:=ho
 ·have:l = []:=List.eq_nil_of_length_eq_zero h0;subst this;exact ⟨none,0,rfl,⟨by simp,.inl rfl⟩⟩
 ·refine ⟨_,cap,rfl,⟨by omega,.inr ⟨g,0,rfl,(ho'.lt g rfl).2,fun i hi=>?_⟩⟩⟩;have:=ho'.cellAt i (by omega);rw [Nat.zero_add,this];simp [hi]
end Go.Proofs.YtohjlfhmnmcndaaGreat
namespace Go.Proofs.YtohjlfhmnmcndaaGreat

theorem cmpP_trans (x y z:Vl) (h:cmpP x y≤0) (j:cmpP y z≤0):cmpP x z≤0:=cmpV_trans _ _ _ _ _ _ _ _ _ h j
theorem cmpL_trans:∀ a b c:List Vl,cmpL a b≤0→cmpL b c≤0→cmpL a c≤0
 | [],_,[]=>by simp [cmpL]
 | [],_,_ :: _=>by simp [cmpL]
 | _ :: _,[],_=>by simp [cmpL]
 | _ :: _,_ :: _,[]=>by simp [cmpL]
 | x :: r,y :: t,z :: u=>by
  have ih:=cmpL_trans r t u
  have t1:=cmpP_trans x y z
  have t2:=cmpP_trans y x z
  have t3:=cmpP_trans z y x
  have t4:=cmpP_trans x z y
  have t5:=cmpP_trans y z x
  have t6:=cmpP_trans z x y
  have n1:=cmpP_neg x y
  have n2:=cmpP_neg y z
  have n3:=cmpP_neg x z
  unfold cmpL
  split <;> split <;> split <;> intro h1 h2 <;> first | exact ih h1 h2 | omega
theorem cmpL_refl (a:List Vl):cmpL a a=0:=by have:=cmpL_neg a a; omega
theorem cmpL_lt_le {a b c:List Vl} (h:cmpL a b<0) (k:cmpL b c≤0):cmpL a c<0:=by
 have t:=cmpL_trans b c a;have n1:=cmpL_neg a b;have n2:=cmpL_neg a c;omega
theorem cmpL_le_lt {a b c:List Vl} (h:cmpL a b≤0) (k:cmpL b c<0):cmpL a c<0:=by
 have t:=cmpL_trans c a b;have n1:=cmpL_neg b c;have n2:=cmpL_neg a c;omega
theorem cmpL_left {a b:List Vl} (h:cmpL a b=0) (c:List Vl):cmpL a c=cmpL b c:=by
 have t1:=cmpL_trans a b c;have t2:=cmpL_trans b a c;have t3:=cmpL_trans c a b;have t4:=cmpL_trans c b a;have n1:=cmpL_neg a b;have n2:=cmpL_neg a c;have n3:=cmpL_neg b c;have b1:=cmpL_bd a c;have b2:=cmpL_bd b c;omega
theorem cmpL_right {a b:List Vl} (h:cmpL a b=0) (c:List Vl):cmpL c a=cmpL c b:=by
 have:=cmpL_left h c;have n2:=cmpL_neg a c;have n3:=cmpL_neg b c;omega
theorem cmpV_bareL (k n k' n':Int) (s s':ByteArray):cmpV k (bareN k n) (bareS k s) k' n' s'=cmpV k n s k' n' s':=by
 unfold cmpV bareN bareS;by_cases h:k=k'
 ·subst h;by_cases h2:k=2∨k=3
  ·simp [h2]
  ·by_cases h4:k=4
   ·simp [h4]
   ·simp [h2,h4]
 ·simp [h]
theorem cmpP_bare (x y:Vl):cmpP (bareP x) y=cmpP x y:=cmpV_bareL _ _ _ _ _ _
theorem cmpL_bare:∀ a b:List Vl,cmpL (bareL a) b=cmpL a b
 | [],[]=>rfl
 | [],_ :: _=>rfl
 | _ :: _,[]=>rfl
 | x :: r,y :: t=>by
  have ih:=cmpL_bare r t
  show (if cmpP (bareP x) y=0 then cmpL (bareL r) t else cmpP (bareP x) y)=_
  rw [cmpP_bare,ih]; rfl
theorem cmpL_bareR (a b:List Vl):cmpL a (bareL b)=cmpL a b:=by
 have:=cmpL_bare b a;have n1:=cmpL_neg a b;have n2:=cmpL_neg a (bareL b);omega
theorem toList_inj {s t:ByteArray} (h:s.toList=t.toList):s=t:=by
 rw [ByteArray.toList_eq,ByteArray.toList_eq] at h;rcases s with ⟨⟨s⟩⟩
 rcases t with ⟨⟨t⟩⟩
 simpa using h
theorem bareP_of {x y:Vl} (h:cmpP x y=0):bareP x=bareP y:=by
 unfold cmpP cmpV at h;unfold bareP bareN bareS;by_cases e:x.1=y.1
 ·simp only [e,ne_eq,not_true,if_false] at h ⊢;by_cases h2:y.1=2∨y.1=3
  ·simp only [h2,if_true] at h ⊢;rw [cmpI_zero] at h;have h4:¬ y.1=4:=by omega
   simp [h,h4]
  ·by_cases h4:y.1=4
   ·simp [h4] at h;rw [cmpS_zero] at h;simp [h2,toList_inj h]
   ·simp [h2,h4]
 ·simp only [e,ne_eq,not_false_iff,if_true] at h;rw [cmpI_zero] at h;exact absurd h e
theorem bareL_of:∀ {a b:List Vl},cmpL a b=0→bareL a=bareL b
 | [],[],_=>rfl
 | [],_ :: _,h=>by simp [cmpL] at h
 | _ :: _,[],h=>by simp [cmpL] at h
 | x :: r,y :: t,h=>by
  unfold cmpL at h
  by_cases e:cmpP x y=0
  ·rw [if_pos e] at h
   show bareP x :: bareL r=bareP y :: bareL t
   rw [bareP_of e,bareL_of h]
  ·rw [if_neg e] at h
   exact absurd h e
theorem bareP_idem (x:Vl):bareP (bareP x)=bareP x:=by
 unfold bareP bareN bareS;by_cases h:x.1=2∨x.1=3 <;> by_cases h4:x.1=4 <;> simp [h,h4]
theorem bareL_idem (l:List Vl):bareL (bareL l)=bareL l:=by
 simp [bareL,bareP_idem]
theorem wrong_bare (x:Vl):wrongF (bareP x).1 (bareP x).2.1 (bareP x).2.2=wrongF x.1 x.2.1 x.2.2:=by
 unfold bareP bareN bareS wrongF;by_cases h1:x.1=1
 ·simp [h1]
 by_cases h2:x.1=2
 ·simp [h2]
 by_cases h3:x.1=3
 ·simp [h3]
 by_cases h4:x.1=4
 ·simp [h4]
 simp [h1,h2,h3,h4]
theorem right_bare (l:List Vl):rightB (bareL l)=rightB l:=by
 unfold rightB bareL;rw [List.all_map]
 congr 1
 funext x
 simp [wrong_bare]
theorem bareL_length (l:List Vl):(bareL l).length=l.length:=by simp [bareL]
theorem wrongRow_bare (l:List Vl):wrongRowF (bareL l)=0↔wrongRowF l=0:=by rw [wrongRowF_zero,wrongRowF_zero,bareL_length,right_bare]

/-- A row's weight among rows. -/
def wt:List Zp→List Vl→Int
 | [],_=>0
 | x :: r,q=>(if cmpL x.1 q=0 then x.2 else 0)+wt r q
theorem wt_append (l t:List Zp) (q:List Vl):wt (l ++ t) q=wt l q+wt t q:=by
 induction l with
 | nil=>simp [wt]
 | cons x r ih=>rw [List.cons_append,wt,wt,ih]; omega
theorem wt_perm {l t:List Zp} (h:l.Perm t) (q:List Vl):wt l q=wt t q:=by
 induction h with
 | nil=>rfl
 | cons x _ ih=>rw [wt,wt,ih]
 | swap x y l=>simp only [wt]; omega
 | trans _ _ h1 h2=>exact h1.trans h2
theorem wt_none {l:List Zp} {q:List Vl} (h:∀ x ∈ l,¬ cmpL x.1 q=0):wt l q=0:=by
 induction l with
 | nil=>rfl
 | cons x r ih =>
  rw [wt,if_neg (h x (by simp)),ih (fun y hy=>h y (by simp [hy]))];rfl
theorem wt_congr {q q':List Vl} (h:cmpL q q'=0) (l:List Zp):wt l q=wt l q':=by
 induction l with
 | nil=>rfl
 | cons x r ih=>rw [wt,wt,ih,cmpL_right h]
/-- Rows rise. -/
def Rise (z:List Zp):Prop:=z.Pairwise fun x y=>cmpL x.1 y.1<0
/-- Rows rise, count, and have what their kinds have alone. -/
structure IsSet (z:List Zp):Prop where
 rise:Rise z
 ne:∀ x ∈ z,x.2≠0
 bare:∀ x ∈ z,bareL x.1=x.1
theorem IsSet.tail {x:Zp} {r:List Zp} (h:IsSet (x :: r)):IsSet r:=⟨(List.pairwise_cons.1 h.rise).2,fun y hy=>h.ne y (by simp [hy]),fun y hy=>h.bare y (by simp [hy])⟩
theorem wt_head {x:Zp} {r:List Zp} (h:Rise (x :: r)):wt (x :: r) x.1=x.2:=by
 rw [wt,if_pos (cmpL_refl _),wt_none]
 ·omega
 ·intro y hy;have:=(List.pairwise_cons.1 h).1 y hy;have n:=cmpL_neg x.1 y.1;omega
theorem wt_mem {z:List Zp} (h:Rise z):∀ x ∈ z,wt z x.1=x.2:=by
 induction z with
 | nil=>intro x hx; cases hx
 | cons y t ih =>
  intro x hx;rcases List.mem_cons.1 hx with rfl | hx
  ·exact wt_head h
  ·have h':=List.pairwise_cons.1 h;have:=h'.1 x hx;rw [wt,if_neg (by omega),ih h'.2 x hx];omega
theorem wt_below {x:Zp} {t:List Zp} (_h:Rise t) (hx:∀ y ∈ t,cmpL x.1 y.1<0):wt t x.1=0 :=
 wt_none fun y hy=>by have:=hx y hy; have:=cmpL_neg x.1 y.1; omega
theorem set_unique:∀ (z z':List Zp),IsSet z→IsSet z'→(∀ q,wt z q=wt z' q)→z=z'
 | [],[],_,_,_=>rfl
 | [],y :: t,_,h',e=>by
  have:=e y.1
  rw [wt_head h'.rise] at this
  exact absurd this.symm (h'.ne y (by simp))
 | x :: r,[],h,_,e=>by
  have:=e x.1
  rw [wt_head h.rise] at this
  exact absurd this (h.ne x (by simp))
 | x :: r,y :: t,h,h',e=>by
  have p:=List.pairwise_cons.1 h.rise
  have p':=List.pairwise_cons.1 h'.rise
  have ex:=e x.1
  have ey:=e y.1
  rw [wt_head h.rise] at ex
  rw [wt_head h'.rise] at ey
  have nx:=h.ne x (by simp)
  have ny:=h'.ne y (by simp)
  by_cases c:cmpL x.1 y.1=0
  ·have e1:x.1=y.1:=by
    have:=bareL_of c
    rwa [h.bare x (by simp),h'.bare y (by simp)] at this
   have e2:x.2=y.2:=by
    rw [e1,wt_head h'.rise] at ex
    exact ex
   have exy:x=y:=Prod.ext e1 e2
   subst exy
   rw [set_unique r t h.tail h'.tail fun q=>by have:=e q; rw [wt,wt] at this; omega]
  ·exfalso
   have n:=cmpL_neg x.1 y.1
   by_cases c':cmpL x.1 y.1<0
   ·rw [wt_below h'.rise (x:=x) (fun v hv=>by
     rcases List.mem_cons.1 hv with rfl | hv
     ·exact c'
     ·exact cmpL_lt_le c' (by have:=p'.1 v hv; omega))] at ex
    exact nx ex
   ·rw [wt_below h.rise (x:=y) (fun v hv=>by
     rcases List.mem_cons.1 hv with rfl | hv
     ·omega
     ·exact cmpL_lt_le (b:=x.1) (by omega) (by have:=p.1 v hv; omega))] at ey
    exact ny ey.symm

/-- So much of a row more. -/
def putL:List Zp→List Vl→Int→List Zp
 | [],r,w=>if w=0 then [] else [(bareL r,w)]
 | y :: t,r,w=>if cmpL y.1 r<0 then y :: putL t r w else if cmpL y.1 r=0 then (if w+y.2=0 then t else (bareL r,w+y.2) :: t) else (if w=0 then y :: t else (bareL r,w) :: y :: t)
theorem putL_above (r:List Vl) (w:Int) (b:List Vl) (hb:cmpL b r<0):∀ z:List Zp,(∀ y ∈ z,cmpL b y.1<0)→∀ y ∈ putL z r w,cmpL b y.1<0
 | [],_=>by
  unfold putL
  split
  ·simp
  ·intro y hy; simp at hy; subst hy; rw [cmpL_bareR]; exact hb
 | x :: t,h=>by
  have hx:=h x (by simp)
  have ht:∀ y ∈ t,cmpL b y.1<0:=fun y hy=>h y (by simp [hy])
  have ih:=putL_above r w b hb t ht
  unfold putL
  split
  ·intro y hy
   rcases List.mem_cons.1 hy with rfl | hy
   ·exact hx
   ·exact ih y hy
  ·split
   ·split
    ·exact ht
    ·intro y hy
     rcases List.mem_cons.1 hy with rfl | hy
     ·show cmpL b (bareL r)<0
      rw [cmpL_bareR]; exact hb
     ·exact ht y hy
   ·split
    ·exact h
    ·intro y hy
     rcases List.mem_cons.1 hy with rfl | hy
     ·show cmpL b (bareL r)<0
      rw [cmpL_bareR]; exact hb
     ·exact h y hy
theorem putL_rise (r:List Vl) (w:Int):∀ z:List Zp,Rise z→Rise (putL z r w)
 | [],_=>by unfold putL; split <;> simp [Rise]
 | x :: t,h=>by
  have p:=List.pairwise_cons.1 h
  unfold putL
  split
  ·rename_i c
   exact List.pairwise_cons.2 ⟨putL_above r w x.1 c t p.1,putL_rise r w t p.2⟩
  ·split
   ·rename_i c
    split
    ·exact p.2
    ·refine List.pairwise_cons.2 ⟨fun y hy=>?_,p.2⟩
     show cmpL (bareL r) y.1<0
     rw [cmpL_bare,← cmpL_left c]
     exact p.1 y hy
   ·rename_i c c'
    split
    ·exact h
    ·refine List.pairwise_cons.2 ⟨fun y hy=>?_,h⟩
     show cmpL (bareL r) y.1<0
     rw [cmpL_bare]
     have n:=cmpL_neg x.1 r
     rcases List.mem_cons.1 hy with rfl | hy
     ·omega
     ·exact cmpL_lt_le (b:=x.1) (by omega) (by have:=p.1 y hy; omega)
theorem putL_set (r:List Vl) (w:Int):∀ z:List Zp,IsSet z→IsSet (putL z r w):=fun z h=>by
 refine ⟨putL_rise r w z h.rise,?_,?_⟩
 ·have hn:=h.ne
  clear h
  induction z with
  | nil=>unfold putL; split <;> simp_all
  | cons x t ih =>
   have ih:=ih (fun y hy=>hn y (by simp [hy]))
   have hx:=hn x (by simp)
   unfold putL
   split
   ·intro y hy
    rcases List.mem_cons.1 hy with rfl | hy
    ·exact hx
    ·exact ih y hy
   ·split
    ·split
     ·exact fun y hy=>hn y (by simp [hy])
     ·intro y hy
      rcases List.mem_cons.1 hy with rfl | hy
      ·assumption
      ·exact hn y (by simp [hy])
    ·split
     ·exact hn
     ·intro y hy
      rcases List.mem_cons.1 hy with rfl | hy
      ·assumption
      ·exact hn y hy
 ·have hn:=h.bare
  clear h
  induction z with
  | nil =>
   unfold putL
   split
   ·simp
   ·intro y hy; simp at hy; subst hy; exact bareL_idem r
  | cons x t ih =>
   have ih:=ih (fun y hy=>hn y (by simp [hy]))
   have hx:=hn x (by simp)
   unfold putL
   split
   ·intro y hy
    rcases List.mem_cons.1 hy with rfl | hy
    ·exact hx
    ·exact ih y hy
   ·split
    ·split
     ·exact fun y hy=>hn y (by simp [hy])
     ·intro y hy
      rcases List.mem_cons.1 hy with rfl | hy
      ·exact bareL_idem r
      ·exact hn y (by simp [hy])
    ·split
     ·exact hn
     ·intro y hy
      rcases List.mem_cons.1 hy with rfl | hy
      ·exact bareL_idem r
      ·exact hn y hy
theorem putL_wt (r:List Vl) (w:Int) (q:List Vl):∀ z:List Zp,wt (putL z r w) q=wt z q+(if cmpL r q=0 then w else 0)
 | []=>by
  unfold putL
  split
  ·rename_i h; subst h; simp [wt]
  ·simp [wt,cmpL_bare]
 | x :: t=>by
  have ih:=putL_wt r w q t
  unfold putL
  split
  ·rw [wt,ih,wt]; omega
  ·split
   ·rename_i c
    have e:=cmpL_left c q
    split
    ·rename_i h0
     rw [wt,e]
     split <;> omega
    ·rw [wt,wt,e]
     simp only [cmpL_bare]
     split <;> omega
   ·split
    ·rename_i h0; subst h0; simp
    ·rw [wt]
     simp only [cmpL_bare]
     omega

/-- The set of rows. -/
def canon (l:List Zp):List Zp:=l.foldl (fun z x=>putL z x.1 x.2) []
theorem canonF_set (l:List Zp):∀ z:List Zp,IsSet z→IsSet (l.foldl (fun z x=>putL z x.1 x.2) z):=by
 induction l with
 | nil=>intro z h; exact h
 | cons x r ih=>intro z h; exact ih _ (putL_set _ _ _ h)
theorem canonF_wt (l:List Zp) (q:List Vl):∀ z:List Zp,wt (l.foldl (fun z x=>putL z x.1 x.2) z) q=wt z q+wt l q:=by
 induction l with
 | nil=>intro z; simp [wt]
 | cons x r ih=>intro z; rw [List.foldl_cons,ih,putL_wt,wt]; omega
theorem set_nil:IsSet []:=⟨List.Pairwise.nil,by simp,by simp⟩
theorem canon_set (l:List Zp):IsSet (canon l):=canonF_set l [] set_nil
theorem canon_wt (l:List Zp) (q:List Vl):wt (canon l) q=wt l q:=by
 unfold canon;rw [canonF_wt];simp [wt]
theorem canon_of {z l:List Zp} (h:IsSet z) (e:∀ q,wt z q=wt l q):z=canon l :=
 set_unique _ _ h (canon_set l) fun q=>(e q).trans (canon_wt l q).symm

/-- What is made of weights, place by place. -/
theorem weighL_mem (f:Int→Int) (z:List Zp):∀ y ∈ weighL f z,∃ x ∈ z,y=(bareL x.1,f x.2)∧¬ f x.2=0:=by
 induction z with
 | nil=>intro y hy; cases hy
 | cons x r ih =>
  intro y hy;unfold weighL at hy
  split at hy
  ·obtain ⟨u,hu,e⟩:=ih y hy;exact ⟨u,by simp [hu],e⟩
  ·rename_i h0
   rcases List.mem_cons.1 hy with rfl | hy
   ·exact ⟨x,by simp,rfl,h0⟩
   ·obtain ⟨u,hu,e⟩:=ih y hy;exact ⟨u,by simp [hu],e⟩
theorem weighL_rise (f:Int→Int):∀ z:List Zp,Rise z→Rise (weighL f z)
 | [],_=>List.Pairwise.nil
 | x :: r,h=>by
  have p:=List.pairwise_cons.1 h
  have ih:=weighL_rise f r p.2
  unfold weighL
  split
  ·exact ih
  ·refine List.pairwise_cons.2 ⟨fun y hy=>?_,ih⟩
   obtain ⟨u,hu,rfl,_⟩:=weighL_mem f r y hy
   show cmpL (bareL x.1) (bareL u.1)<0
   rw [cmpL_bare,cmpL_bareR]
   exact p.1 u hu
theorem weighL_set (f:Int→Int) (z:List Zp) (h:Rise z):IsSet (weighL f z) :=
 ⟨weighL_rise f z h,fun y hy=>by obtain ⟨u,_,rfl,h0⟩:=weighL_mem f z y hy; exact h0,fun y hy=>by obtain ⟨u,_,rfl,h0⟩:=weighL_mem f z y hy; exact bareL_idem u.1⟩
theorem weighL_wt (f:Int→Int) (f0:f 0=0) (q:List Vl):∀ z:List Zp,Rise z→wt (weighL f z) q=f (wt z q)
 | [],_=>by simp [weighL,wt,f0]
 | x :: r,h=>by
  have p:=List.pairwise_cons.1 h
  have ih:=weighL_wt f f0 q r p.2
  by_cases c:cmpL x.1 q=0
  ·have z0:wt r q=0:=by
    rw [wt_congr (q:=q) (q':=x.1) (by have:=cmpL_neg x.1 q; omega)];exact wt_below p.2 p.1
   rw [z0,f0] at ih;unfold weighL
   split
   ·rename_i h0
    rw [ih,wt,if_pos c,z0];simp [h0]
   ·rw [wt,wt,ih,z0];simp [cmpL_bare,c]
  ·unfold weighL
   split
   ·rw [ih,wt,if_neg c]; simp
   ·rw [wt,wt,ih];simp [cmpL_bare,c]
/-- One more row behind rows that rise. -/
def mergeTo (acc:List Zp) (x:Zp):List Zp :=
 match acc.getLast? with
 | none=>[x]
 | some y=>if cmpL y.1 x.1=0 then acc.dropLast ++ [(y.1,y.2+x.2)] else acc ++ [x]
def mergedL (l:List Zp):List Zp:=l.foldl mergeTo []
theorem mergedL_snoc (l:List Zp) (x:Zp):mergedL (l ++ [x])=mergeTo (mergedL l) x:=by simp [mergedL]
theorem mergeTo_nil (x:Zp):mergeTo [] x = [x]:=rfl
theorem mergeTo_snoc (a:List Zp) (y x:Zp):mergeTo (a ++ [y]) x=if cmpL y.1 x.1=0 then a ++ [(y.1,y.2+x.2)] else a ++ [y] ++ [x]:=by simp [mergeTo]
theorem snoc_rec {p:List Zp→Prop} (h0:p []) (h1:∀ l x,p l→p (l ++ [x])):∀ l,p l:=by
 have key:∀ (n:Nat) (l:List Zp),l.length=n→p l:=by
  intro n
  induction n with
  | zero=>intro l h; rw [List.eq_nil_of_length_eq_zero h]; exact h0
  | succ n ih =>
   intro l h;rcases List.eq_nil_or_concat l with rfl | ⟨a,y,rfl⟩
   ·exact h0
   ·rw [List.concat_eq_append];exact h1 a y (ih a (by simpa using h))
 exact fun l=>key l.length l rfl
structure Merged (l z:List Zp):Prop where
 rise:Rise z
 wt:∀ q,wt z q=wt l q
 row:∀ y ∈ z,∃ x ∈ l,y.1=x.1
theorem Merged.push {l z:List Zp} (h:Merged l z) {x:Zp} (hx:∀ y ∈ l,cmpL y.1 x.1≤0):Merged (l ++ [x]) (mergeTo z x):=by
 rcases List.eq_nil_or_concat z with rfl | ⟨a,y,rfl⟩
 ·rw [mergeTo_nil];refine ⟨by simp [Rise],fun q=>?_,?_⟩
  ·rw [wt_append,← h.wt q]; simp [YtohjlfhmnmcndaaGreat.wt]
  ·intro y hy; simp at hy; subst hy; exact ⟨y,by simp,rfl⟩
 ·rw [List.concat_eq_append] at h ⊢;have hr:=List.pairwise_append.1 h.rise;have hy:cmpL y.1 x.1≤0:=by
   obtain ⟨u,hu,e⟩:=h.row y (by simp);rw [e]; exact hx u hu
  rw [mergeTo_snoc]
  split
  ·rename_i c
   refine ⟨?_,fun q=>?_,?_⟩
   ·refine List.pairwise_append.2 ⟨hr.1,by simp,?_⟩;intro u hu v hv;simp at hv;subst hv;exact hr.2.2 u hu y (by simp)
   ·have:=h.wt q;rw [wt_append] at this ⊢;rw [wt_append,← this];simp only [YtohjlfhmnmcndaaGreat.wt,← cmpL_left c q]
    split <;> omega
   ·intro u hu;simp at hu;rcases hu with hu | rfl
    ·obtain ⟨v,hv,e⟩:=h.row u (by simp [hu]);exact ⟨v,by simp [hv],e⟩
    ·obtain ⟨v,hv,e⟩:=h.row y (by simp);exact ⟨v,by simp [hv],e⟩
  ·rename_i c
   refine ⟨?_,fun q=>?_,?_⟩
   ·refine List.pairwise_append.2 ⟨h.rise,by simp,?_⟩;intro u hu v hv;simp at hv;subst hv;simp at hu;rcases hu with hu | rfl
    ·exact cmpL_lt_le (hr.2.2 u hu y (by simp)) hy
    ·omega
   ·rw [wt_append,h.wt q,wt_append]
   ·intro u hu;rcases List.mem_append.1 hu with hu | hu
    ·obtain ⟨v,hv,e⟩:=h.row u hu;exact ⟨v,by simp [hv],e⟩
    ·simp at hu; subst hu; exact ⟨u,by simp,rfl⟩
theorem merged_ok:∀ (l:List Zp),(l.Pairwise fun x y=>cmpL x.1 y.1≤0)→Merged l (mergedL l):=by
 refine snoc_rec (fun _=>⟨List.Pairwise.nil,fun _=>rfl,by simp [mergedL]⟩) ?_
 ·intro l x ih h;have p:=List.pairwise_append.1 h;rw [mergedL_snoc];exact (ih p.1).push fun y hy=>p.2.2 y hy x (by simp)
theorem mergedL_len (l:List Zp):(mergedL l).length≤l.length:=by
 revert l
 refine snoc_rec (by simp [mergedL]) ?_
 ·intro l x ih;rw [mergedL_snoc];unfold mergeTo
  split
  ·simp
  ·rename_i y hy
   split <;> simp <;> omega
/-- Sorted, then merged, without what is gone: the set. -/
theorem gather_canon {s l:List Zp} (hp:s.Perm l) (hs:s.Pairwise fun x y=>cmpL x.1 y.1≤0):weighL (fun w=>w) (mergedL s)=canon l:=by
 have m:=merged_ok s hs;refine canon_of (weighL_set _ _ m.rise) fun q=>?_
 rw [weighL_wt (fun w=>w) rfl q _ m.rise,m.wt q,wt_perm hp q]
end Go.Proofs.YtohjlfhmnmcndaaGreat
namespace Go.Proofs
open Go.Shelf Go.RowKit Go.Lib
shelf_lay_g SlLaysF0.n6 Slsf 6 at Tryz 116 as Tryz.sortZ
end Go.Proofs
namespace Go.Proofs.YtohjlfhmnmcndaaGreat
open Go.RowKit Go.Lib Go.Shelf

/-- A row with its weight, and where its values lie. -/
structure Zr where
 a:Option Addr
 cap:Nat
 row:List Vl
 w:Int
/-- .. whose values lie in w. -/
abbrev Zg (w:World):Type:={ x:Zr // SlAt w x.a x.row }
instance (w:World):Inhabited (Zg w):=⟨⟨⟨none,0,[],0⟩,by simp,.inl rfl⟩⟩
def encG (w:World) (x:Zg w):List Value:=[.slice x.1.a x.1.row.length x.1.cap,.int .i64 x.1.w]
def cfG (w:World) (x y:Zg w):Int:=cmpL x.1.row y.1.row
def plG (w:World) (x:Zg w):Zp:=(x.1.row,x.1.w)

theorem swoG (w:World):Go.Sort.SWO (ltOf (cfG w)) where
 irrefl x:=by simp [ltOf,cfG,cmpL_refl]
 trans x y z h1 h2:=by
  have g1:cmpL x.1.row y.1.row<0:=of_decide_eq_true h1;have g2:cmpL y.1.row z.1.row<0:=of_decide_eq_true h2;exact decide_eq_true (cmpL_lt_le g1 (by omega))
 ntrans x y z h1 h2:=by
  have g1:¬ cmpL x.1.row y.1.row<0:=of_decide_eq_false h1;have g2:¬ cmpL y.1.row z.1.row<0:=of_decide_eq_false h2;have n1:=cmpL_neg x.1.row y.1.row;have n2:=cmpL_neg y.1.row z.1.row;have n3:=cmpL_neg x.1.row z.1.row;have t:=cmpL_trans z.1.row y.1.row x.1.row;refine decide_eq_false ?_;show ¬ cmpL x.1.row z.1.row<0;omega
theorem grow_of_below {W w1:World} (hb:Below W.heap.size W w1) (hd:W.drawn≤w1.drawn):∃ q os,w1=Go.Sort.grow (W.drewN q) os:=by
 refine ⟨w1.drawn - W.drawn,w1.heap.extract W.heap.size w1.heap.size,?_⟩;have hs:=hb.size;have hh:w1.heap=W.heap ++ w1.heap.extract W.heap.size w1.heap.size:=by
  apply Array.ext_getElem?;intro k;rw [Array.getElem?_append]
  split
  ·exact hb.block k (by assumption)
  ·rw [Array.getElem?_extract];by_cases hk:k<w1.heap.size
   ·simp [show W.heap.size+(k - W.heap.size)=k by omega];intro h; omega
   ·rw [Array.getElem?_eq_none (by omega)];simp;intro h; omega
 obtain ⟨h1,h2,h3,h4,h5⟩:=w1;obtain ⟨g1,g2,g3,g4,g5⟩:=W;have q1:=hb.os;have q2:=hb.tape;have q3:=hb.output;simp only at q1 q2 q3 hd hh hs;subst q1 q2 q3;simp only [Go.Sort.grow,World.drewN,World.mk.injEq,true_and,and_true];exact ⟨hh,by omega⟩
theorem below_sortWorld {α:Type} [Inhabited α] {w0 w:World} {enc:α→List Value} {k blk off m:Nat} {dk:Array α} {os:Array Obj} (hb:Below w0.heap.size w0 w) (hk:w0.heap.size≤blk):Below w0.heap.size w0 (sortWorldK enc k w blk off m dk os):=by
 refine ⟨hb.os,hb.tape,hb.output,?_,fun j hj=>?_⟩
 ·exact Nat.le_trans hb.size (size_sortWorldK_c enc k w blk off m dk os)
 ·rw [← hb.block j hj];show ((Go.Sort.mapBlock _ _ _).heap ++ os)[j]? = _;have hs:=hb.size;rw [Array.getElem?_append_left (by simp [Go.Sort.mapBlock,Go.Sort.ahead]; omega)];simp only [Go.Sort.mapBlock,Go.Sort.ahead,Array.getElem?_modify];rw [if_neg (by omega)]
set_option maxHeartbeats 400000 in
theorem summed1_at (a a':Option Addr) (cap cap':Nat) (x x':Int) (l l':List Vl) (w:World) (h:SlAt w a l) (h':SlAt w a' l') :
  Calls Tryz.prog 117 #[.agg #[.slice a l.length cap,.int .i64 x],.agg #[.slice a' l'.length cap',.int .i64 x']] w fun e w'=>e = .returned (.int .i64 (cmpL l l'))∧∃ q os',w'=Go.Sort.grow (w.drewN q) os':=by
 go_enter Tryz.func117,Tryz.ntmps117;go_wp2_with fail
 have b2:Below w.heap.size w ((w.alloc (.cells #[.slice a l.length cap,.int .i64 x] 58)).alloc (.cells #[.slice a' l'.length cap',.int .i64 x'] 58)):=((Below.refl _ _).alloc (Nat.le_refl _) _).alloc (by simp) _;refine (rows_d _ _ _ _ _ _ _ (h.next b2) (h'.next b2)).mono ?_;rintro e w1 ⟨rfl,hb1,hd1⟩;go_wp2
 go_ret;exact ⟨rfl,grow_of_below (below2 hb1) hd1⟩
theorem cmpLaysG (w0 w:World) (hb:Below w0.heap.size w0 w) (blk off size:Nat) (hk:w0.heap.size≤blk):CmpLays Tryz.prog 117 #[] (encG w0) 2 (cfG w0) blk off size w :=
 fun _ _ _ _ x y=>summed1_at _ _ _ _ _ _ _ _ _ (x.2.next (below_sortWorld hb hk)) (y.2.next (below_sortWorld hb hk))

theorem Tryz.isAgg58':∀ w,(isAgg 58).run Tryz.prog w = .ok true w:=Tryz.isAgg58
theorem Tryz.sizeOf58':∀ w,(Go.sizeOf 58).run Tryz.prog w = .ok 2 w:=Tryz.sizeOf58

theorem sort_at (w0 w:World) (hb:Below w0.heap.size w0 w) (blk off cap:Nat) (hk:w0.heap.size≤blk) (d:Array (Zg w0)) (hH:Go.Sort.HoldsK (encG w0) 2 w blk off d) (hblk:blk<w.heap.size) (hsz:d.size<4611686018427387904) :
  Calls Tryz.prog 116 #[.slice (some ⟨blk,off,none⟩) d.size cap,.func (.func 117) #[] #[]] w fun e w' =>
   e = .returned (.tuple #[])∧∃ d' n os,Go.Sort.PermIn 0 d.size d d'∧Go.Sort.SortedIn (ltOf (cfG w0)) 0 d.size d'∧w'=sortWorldK (encG w0) 2 w blk off n d' os:=by
 have eg:∀ args w,(callFunc 117 args).run Tryz.prog w = .ok (.enter 117 args) w:=enters_of Tryz.func117 (by kernel_rfl) rfl
 exact AnyQ.slices_SortFunc Tryz.sortZ 2 Tryz.isAgg58' Tryz.sizeOf58' (encG w0) (fun _=>rfl) (fun x v hv=>by simp [encG] at hv; rcases hv with rfl | rfl <;> rfl) (cfG w0) (swoG w0) 117 #[] blk off cap d w eg (cmpLaysG w0 w hb blk off d.size hk) hH hblk hsz

theorem addr_add' (b off i:Nat):(⟨b,off,none⟩:Addr).add i=⟨b,off+i,none⟩:=by
 unfold Addr.add;by_cases h:i=0 <;> simp [h]
theorem flat_even {w:World} (d:Array (Zg w)) (i:Nat) (h:i<d.size):(Go.Sort.flatK (encG w) 2 d)[i*2]! = .slice d[i]!.1.a d[i]!.1.row.length d[i]!.1.cap:=by
 rw [Go.Sort.get_flatK _ _ _ _ (by omega),show i*2 / 2=i by omega,show i*2 % 2=0 by omega]; rfl
theorem flat_odd {w:World} (d:Array (Zg w)) (i:Nat) (h:i<d.size):(Go.Sort.flatK (encG w) 2 d)[i*2+1]! = .int .i64 d[i]!.1.w:=by
 rw [Go.Sort.get_flatK _ _ _ _ (by omega),show (i*2+1) / 2=i by omega,show (i*2+1) % 2=1 by omega]; rfl
theorem ZsAt.arr {w:World} {a:Option Addr} {l:List Zp} (h:ZsAt w a l):∃ d:Array (Zg w),d.size=l.length∧d.toList.map (plG w)=l ∧
  (l = []∨∃ b off,a=some ⟨b,off,none⟩∧b<w.heap.size∧∀ j,j<l.length*2→w.cell? ⟨b,off+j,none⟩=some (Go.Sort.flatK (encG w) 2 d)[j]!):=by
 obtain ⟨_,rfl | ⟨b,off,e,hlt,hr⟩⟩:=h
 ·exact ⟨#[],rfl,rfl,.inl rfl⟩
 ·obtain ⟨f,hf⟩:=Go.Deep.choose_lt (α:=Zg w) (n:=l.length) (p:=fun i x=>∀ hi:i<l.length,plG w x=l[i]∧w.cell? ⟨b,off+i*2,none⟩=some (.slice x.1.a x.1.row.length x.1.cap)∧w.cell? ⟨b,off+i*2+1,none⟩=some (.int .i64 x.1.w)) (fun i hi=>by
   obtain ⟨c1,ai,ci,c0,si⟩:=hr i hi;exact ⟨⟨⟨ai,ci,l[i].1,l[i].2⟩,si⟩,fun _=>⟨rfl,c0,c1⟩⟩)
  have hd:∀ i,i<l.length→((Array.range l.length).map f)[i]! = f i:=fun i hi=>by simp [hi]
  refine ⟨(Array.range l.length).map f,by simp,?_,.inr ⟨b,off,e,hlt,?_⟩⟩
  ·apply List.ext_getElem
   ·simp
   ·intro i h1 h2;have:=(hf i h2 h2).1
    simpa using this
  ·intro j hj;have hi:j / 2<l.length:=by omega
   obtain ⟨_,g0,g1⟩:=hf (j / 2) hi hi;rcases Nat.mod_two_eq_zero_or_one j with h0 | h1
   ·have ej:j=j / 2*2:=by omega
    rw [ej,flat_even _ _ (by simpa using hi),hd _ hi];exact g0
   ·have ej:j=j / 2*2+1:=by omega
    rw [ej,flat_odd _ _ (by simpa using hi),hd _ hi,← Nat.add_assoc];exact g1
theorem holdsK_zs {w W:World} {blk off:Nat} {d:Array (Zg w)} (hb:Below w.heap.size w W) (hH:Go.Sort.HoldsK (encG w) 2 W blk off d) (hlt:blk<W.heap.size) (hl:d.size≤200000):ZsAt W (some ⟨blk,off,none⟩) (d.toList.map (plG w)):=by
 refine ⟨by simp [maxLen]; omega,.inr ⟨blk,off,rfl,hlt,fun i hi=>?_⟩⟩;have hi':i<d.size:=by simpa using hi
 have e:d[i]! = d[i]:=getElem!_pos d i hi';have h0:=(hH (i*2) (by simp; omega)).1;have h1:=(hH (i*2+1) (by simp; omega)).1;rw [flat_even d i hi',e] at h0;rw [flat_odd d i hi',e] at h1;simp only [List.getElem_map,Array.getElem_toList];refine ⟨?_,d[i].1.a,d[i].1.cap,?_,d[i].2.next hb⟩
 ·rw [← Nat.add_assoc] at h1; exact h1
 ·exact h0
theorem own_holdsK {w W:World} {base g n cap:Nat} {d:Array (Zg w)} (hn:n=d.size) (h:W.ownsRow base 58 2 (.slice (some ⟨g,0,none⟩) n cap) n (Go.Sort.flatK (encG w) 2 d).toList):Go.Sort.HoldsK (encG w) 2 W g 0 d:=by
 intro j hj;have hj':j<n*2:=by rw [hn]; simpa using hj
 refine ⟨?_,?_⟩
 ·rw [Nat.zero_add,h.cellAt j hj'];show _=some (Go.Sort.flatK (encG w) 2 d)[j]!;rw [Array.getElem?_toList,getElem!_pos (Go.Sort.flatK (encG w) 2 d) j hj];exact Array.getElem?_eq_getElem hj
 ·rw [Nat.zero_add]; exact h.frozenAt j
set_option maxHeartbeats 1000000 in
theorem clone_at (a:Option Addr) (cap:Nat) (l:List Zp) (w:World) (d:Array (Zg w)) (hd:d.size=l.length) (hl:l.length≤200000)
  (h:l = []∨∃ b off,a=some ⟨b,off,none⟩∧b<w.heap.size∧∀ j,j<l.length*2→w.cell? ⟨b,off+j,none⟩=some (Go.Sort.flatK (encG w) 2 d)[j]!) :
  Calls Tryz.prog 115 #[.slice a l.length cap] w fun e w'=>∃ v,e = .returned v∧w'.ownsRow w.heap.size 58 2 v l.length (Go.Sort.flatK (encG w) 2 d).toList∧Below w.heap.size w w':=by
 obtain ⟨i0,hi,hj0,hj1,hj2⟩:=info_parts Tryz.info42;have hone:∀ u ∈ (Go.Sort.flatK (encG w) 2 d).toList,u.oneCell'=true:=by
  intro u hu;obtain ⟨j,hj,rfl⟩:=List.getElem_of_mem hu;have hj':j<d.size*2:=by simpa using hj
  have e:(Go.Sort.flatK (encG w) 2 d).toList[j]=(Go.Sort.flatK (encG w) 2 d)[j]!:=by
   rw [Array.getElem_toList,getElem!_pos]
  rw [e,Go.Sort.get_flatK _ _ _ _ hj'];rcases Nat.mod_two_eq_zero_or_one j with h0 | h1
  ·rw [h0]; rfl
  ·rw [h1]; rfl
 rcases a with _ | ad
 ·have e:l = []:=by
   rcases h with h | ⟨b,off,e,_⟩
   ·exact h
   ·cases e
  subst e;have d0:(Go.Sort.flatK (encG w) 2 d).toList = []:=by
   apply List.eq_nil_of_length_eq_zero;simp [hd]
  rw [d0];rw [List.length_nil];have q22:∀ (w:World) (a:Option Addr) (n c n' c':Nat),(binOp .eql 34 (.slice a n c) (.slice none n' c')).run Tryz.prog w = .ok (.bool a.isNone) w:=fun w a n c n' c'=>Lib.run_eql_slice_nil w _ _ a n c n' c' Tryz.underlying34
  go_enter Tryz.func115,Tryz.ntmps115;go_wp2
  go_ret;exact ⟨_,rfl,World.ownsRow_nil _ _ _ _,Below.refl _ _⟩
 ·have q22:∀ (w:World) (a:Option Addr) (n c n' c':Nat),(binOp .eql 34 (.slice a n c) (.slice none n' c')).run Tryz.prog w = .ok (.bool a.isNone) w:=fun w a n c n' c'=>Lib.run_eql_slice_nil w _ _ a n c n' c' Tryz.underlying34
  go_enter Tryz.func115,Tryz.ntmps115;go_wp2_with (at_builtin; refine wpList_append_own _ rfl _ _ 34 rfl w.heap.size 58 i0 _ 2 32 Tryz.underlying34 hi hj0 hj1 hj2 rfl (by decide) _ _ _ rfl (World.ownsRow_made w #[] 0 (Nat.le_refl _) (Nat.zero_le _) (by simp)) ad l.length cap (Go.Sort.flatK (encG w) 2 d).toList rfl ?qc1 ?qc2 hone ?qc4 ?qc5 ?qc6 ?_)
  case qc1=>simp [hd]
  case qc2 =>
   intro j u hj;have hj':j<d.size*2:=by
    rcases Nat.lt_or_ge j (d.size*2) with h | h
    ·exact h
    ·rw [List.getElem?_eq_none (by simpa using h)] at hj; cases hj
   rcases h with h | ⟨b,off,e,hlt,hc⟩
   ·subst h; simp at hd; subst hd; simp at hj'
   ·have e:=Option.some.inj e;subst e;rw [addr_add'];rw [Array.getElem?_toList,Array.getElem?_eq_getElem (by simpa using hj')] at hj;have hj:=Option.some.inj hj;have:=hc j (by omega);rw [getElem!_pos _ _ (by simpa using hj'),hj] at this;exact Lib.cell?_alloc_some _ this
  case qc4=>rw [Nat.zero_add]; unfold maxLen; omega
  case qc5=>rw [Nat.zero_add]; omega
  case qc6=>simp
  intro v' w1 hown hgrow _;have hb1:Below w.heap.size w w1:=((Below.refl _ _).alloc (Nat.le_refl _) _).grown hgrow (by simp) (by simp [Value.ownBlock]);have hv:∃ a1 c1,v' = .slice a1 l.length c1:=by
   obtain ⟨_,⟨rfl,h0⟩ | ⟨g,c1,cur,rfl,_⟩⟩:=hown
   ·exact ⟨none,0,by rw [h0]⟩
   ·exact ⟨_,c1,rfl⟩
  obtain ⟨a1,c1,rfl⟩:=hv;clear hgrow;go_wp2
  go_ret;exact ⟨_,rfl,hown,hb1⟩

theorem mergedL_bd (m:Int) (hm:0≤m):∀ l:List Zp,(∀ x ∈ l,-m≤x.2∧x.2≤m)→∀ y ∈ mergedL l,-(m*l.length)≤y.2∧y.2≤m*l.length:=by
 refine snoc_rec (by simp [mergedL]) ?_;intro l x ih h y hy;have hx:=h x (by simp);have ih:=ih (fun u hu=>h u (by simp [hu]));rw [mergedL_snoc] at hy;have e:m*((l ++ [x]).length:Int)=m*l.length+m:=by
  simp only [List.length_append,List.length_singleton];rw [Int.natCast_add,Int.mul_add]; simp
 rw [e];have hp:0≤m*(l.length:Int):=Int.mul_nonneg hm (by omega);rcases List.eq_nil_or_concat (mergedL l) with e' | ⟨a,u,e'⟩
 ·rw [e',mergeTo_nil] at hy;simp at hy; subst hy; omega
 ·rw [e',List.concat_eq_append,mergeTo_snoc] at hy;have hu:=ih u (by rw [e']; simp)
  split at hy
  ·simp at hy;rcases hy with hy | rfl
   ·have:=ih y (by rw [e']; simp [hy]); omega
   ·simp only; omega
  ·rcases List.mem_append.1 hy with hy | hy
   ·have:=ih y (by rw [e',List.concat_eq_append]; exact hy); omega
   ·simp at hy; subst hy; omega
theorem sorted_list {w:World} {d d':Array (Zg w)} {n:Nat} (hn:d.size=n) (hp:Go.Sort.PermIn 0 n d d') (hs:Go.Sort.SortedIn (ltOf (cfG w)) 0 n d') :
  d'.size=n∧(d'.toList.map (plG w)).Perm (d.toList.map (plG w))∧(d'.toList.map (plG w)).Pairwise fun x y=>cmpL x.1 y.1≤0:=by
 obtain ⟨h1,_,h3⟩:=hp;have e1:d'.size=n:=h1.trans hn;have x1:d'.extract 0 n=d':=by rw [← e1]; exact Array.extract_size
 have x2:d.extract 0 n=d:=by rw [← hn]; exact Array.extract_size
 rw [x1,x2] at h3;refine ⟨e1,h3.map _,?_⟩;rw [List.pairwise_map,List.pairwise_iff_getElem];intro i j hi hj hij;have hi':i<d'.size:=by simpa using hi
 have hj':j<d'.size:=by simpa using hj
 have:=of_decide_eq_false (hs i j (Nat.zero_le _) hij (by omega));rw [getElem!_pos d' i hi',getElem!_pos d' j hj'] at this;simp only [Array.getElem_toList,plG];simp only [cfG] at this;have n1:=cmpL_neg d'[i].1.row d'[j].1.row;omega
/-- Cells that hold rows with weights, whose values lie in a world. -/
def EncB (W:World) (xs:List Value) (l:List Zp):Prop :=
 xs.length=l.length*2∧∀ (i:Nat) (h:i<l.length),∃ a cap,xs[i*2]? = some (.slice a l[i].1.length cap)∧xs[i*2+1]? = some (.int .i64 l[i].2)∧SlAt W a l[i].1
theorem EncB.push {W:World} {xs:List Value} {l:List Zp} (h:EncB W xs l) {a:Option Addr} {cap:Nat} {x:Zp} (hs:SlAt W a x.1):EncB W (xs ++ [.slice a x.1.length cap,.int .i64 x.2]) (l ++ [x]):=by
 have lx:=h.1;refine ⟨by simp [lx]; omega,fun i hi=>?_⟩;by_cases hi':i<l.length
 ·obtain ⟨a',c',h1,h2,h3⟩:=h.2 i hi';refine ⟨a',c',?_,?_,?_⟩
  ·rw [List.getElem?_append_left (by omega),h1,List.getElem_append_left hi']
  ·rw [List.getElem?_append_left (by omega),h2,List.getElem_append_left hi']
  ·rw [List.getElem_append_left hi']; exact h3
 ·have:i=l.length:=by simp at hi; omega
  subst this;refine ⟨a,cap,?_,?_,?_⟩
  ·rw [List.getElem?_append_right (by omega)]; simp [lx]
  ·rw [List.getElem?_append_right (by omega)]; simp [lx]
  ·simpa using hs
theorem EncB.last {W:World} {xs:List Value} {l:List Zp} {y:Zp} (h:EncB W xs (l ++ [y])) (z:Int):EncB W (xs.set (l.length*2+1) (.int .i64 z)) (l ++ [(y.1,z)]):=by
 have lx:=h.1;refine ⟨by simpa using lx,fun i hi=>?_⟩;have hi0:i<(l ++ [y]).length:=by simpa using hi
 obtain ⟨a',c',h1,h2,h3⟩:=h.2 i hi0;by_cases hi':i<l.length
 ·rw [List.getElem_append_left hi'] at h1 h2 h3 ⊢;refine ⟨a',c',?_,?_,h3⟩
  ·rw [List.getElem?_set_ne (by omega)]; exact h1
  ·rw [List.getElem?_set_ne (by omega)]; exact h2
 ·have:i=l.length:=by simp at hi; omega
  subst this;simp only [List.getElem_concat_length] at h1 h2 h3 ⊢;refine ⟨a',c',?_,?_,h3⟩
  ·rw [List.getElem?_set_ne (by omega)]; exact h1
  ·rw [List.getElem?_set_self (by rw [lx]; simp; omega)]
theorem own_shape {W:World} {base n:Nat} {v:Value} {xs:List Value} (h:W.ownsRow base 58 2 v n xs):∃ a c,v = .slice a n c:=by
 obtain ⟨_,⟨rfl,h0⟩ | ⟨g,c1,cur,rfl,_⟩⟩:=h
 ·exact ⟨none,0,by rw [h0]⟩
 ·exact ⟨_,c1,rfl⟩
theorem own_some {W:World} {base n:Nat} {v:Value} {xs:List Value} (h:W.ownsRow base 58 2 v n xs) (hn:0<n):∃ g c,v = .slice (some ⟨g,0,none⟩) n c∧base≤g∧g<W.heap.size:=by
 have h':=h;obtain ⟨_,⟨rfl,h0⟩ | ⟨g,c1,cur,rfl,hg,_⟩⟩:=h
 ·omega
 ·exact ⟨g,c1,rfl,hg,(h'.lt g rfl).2⟩
theorem own_zsB {W w2:World} {base n:Nat} {v:Value} {xs:List Value} {l:List Zp} (h:W.ownsRow base 58 2 v n xs) (hn:n=l.length) (he:EncB w2 xs l) (hb:Below w2.heap.size w2 W):∃ a cap,v = .slice a l.length cap∧ZsAt W a l:=by
 subst hn;have h1':=h;obtain ⟨hx,h1 | ⟨g,cap,cur,e,hg,hh,hn,hc,hs,ht⟩⟩:=h
 ·obtain ⟨rfl,h0⟩:=h1;have:l = []:=List.eq_nil_of_length_eq_zero h0;subst this;exact ⟨none,0,rfl,Nat.zero_le _,.inl rfl⟩
 ·subst e;refine ⟨_,cap,rfl,Nat.le_trans hn hc,.inr ⟨g,0,rfl,(h1'.lt g rfl).2,?_⟩⟩;intro i hi;obtain ⟨a,cp,e0,e1,e2⟩:=he.2 i hi;refine ⟨?_,a,cp,?_,e2.next hb⟩
  ·rw [h1'.cellAt _ (by omega),← e1]; congr 1; omega
  ·rw [h1'.cellAt _ (by omega),← e0]; congr 1; omega
/-- What the loop has come to. -/
def SumTo (w2 wr:World) (v:Value) (acc:List Zp):Prop:=∃ xs,wr.ownsRow w2.heap.size 58 2 v acc.length xs∧EncB w2 xs acc
theorem SumTo.next {w2 wr w3:World} {v:Value} {acc:List Zp} (h:SumTo w2 wr v acc) (hb:Below wr.heap.size wr w3):SumTo w2 w3 v acc:=by
 obtain ⟨xs,h1,h2⟩:=h;exact ⟨xs,own_next h1 hb,h2⟩
theorem SumTo.last {w2 wr:World} {g c:Nat} {a:List Zp} {y:Zp} (h:SumTo w2 wr (.slice (some ⟨g,0,none⟩) (a.length+1) c) (a ++ [y])) (z:Int) :
  SumTo w2 (wr.setCell ⟨g,a.length*2+1,none⟩ (.int .i64 z)) (.slice (some ⟨g,0,none⟩) (a.length+1) c) (a ++ [(y.1,z)]):=by
 obtain ⟨xs,h1,h2⟩:=h;have e:(a ++ [y]).length=a.length+1:=by simp
 rw [e] at h1;refine ⟨_,?_,h2.last z⟩;have:=(h1.stored (a.length*2+1) (.int .i64 z)).1
 simpa using this

def bigW (w:Int):Bool:=decide (-1000000000000≤w) && decide (w≤1000000000000)
theorem bigW_iff (x:Int):bigW x=true ↔ -1000000000000≤x∧x≤1000000000000:=by simp [bigW]
theorem inW_iff (x:Int):inW x=true ↔ -1000000≤x∧x≤1000000:=by simp [inW]

theorem inW_big {x:Int} (h:inW x=true):bigW x=true:=by
 rw [inW_iff] at h;rw [bigW_iff];omega
set_option maxRecDepth 100000 in
set_option maxHeartbeats 4000000 in
theorem summed_some (a:Option Addr) (cap:Nat) (l:List Zp) (w:World) (h:ZsAt w a l) (hl:l.length≤200000) (hn:0<l.length) (hw:∀ x ∈ l,bigW x.2=true) :
  Calls Tryz.prog 91 #[.slice a l.length cap] w fun e w'=>∃ s a' c',e = .returned (.slice a' (mergedL s).length c')∧s.Perm l∧(s.Pairwise fun x y=>cmpL x.1 y.1≤0)∧ZsAt w' a' (mergedL s)∧Below w.heap.size w w':=by
 obtain ⟨i0,hi,hj0,hj1,hj2⟩:=info_parts Tryz.info42;obtain ⟨d,hd,hdl,hc⟩:=h.arr;go_enter Tryz.func91,Tryz.ntmps91;go_wp2_with fail
 refine (clone_at a cap l w d hd (by omega) hc).mono ?_;rintro e w1 ⟨v,rfl,hown,hb1⟩;obtain ⟨g,c,rfl,hg,hgl⟩:=own_some hown hn;have hH:=own_holdsK hd.symm hown;have hH:=own_holdsK hd.symm hown;have hH:=own_holdsK hd.symm hown;have hH:=own_holdsK hd.symm hown;have hH:=own_holdsK hd.symm hown;have con:=sort_at w w1 hb1 g 0 c hg d hH hgl (by omega);rw [hd] at con;have HN:Hid (0<l.length):=hn;clear hn hown hc;go_wp2_with fail
 refine con.mono ?_;clear con;rintro e w2 ⟨rfl,d',n,os,hp,hs,hw2⟩;obtain ⟨hd',hperm,hsort⟩:=sorted_list hd hp hs;rw [hdl] at hperm;have hb2:Below w.heap.size w w2:=by rw [hw2]; exact below_sortWorld hb1 hg
 have hgl2:g<w2.heap.size:=by
  rw [hw2];exact Nat.lt_of_lt_of_le hgl (size_sortWorldK_c (encG w) 2 w1 g 0 n d' os)
 have zs:ZsAt w2 (some ⟨g,0,none⟩) (d'.toList.map (plG w)):=by
  refine holdsK_zs hb2 ?_ hgl2 (by omega);rw [hw2];exact holdsK_sortWorldK_c (encG w) 2 w1 g 0 d d' n os hH hgl (by omega)
 generalize hs0:d'.toList.map (plG w)=s at hperm hsort zs;have hsl:s.length=l.length:=by rw [← hs0]; simp [hd']
 have hws:∀ x ∈ s,bigW x.2=true:=fun x hx=>hw x (hperm.mem_iff.1 hx)
 have HP:Hid (s.Perm l):=hperm;have HSo:Hid (s.Pairwise fun x y=>cmpL x.1 y.1≤0):=hsort;clear hperm hsort hw2 hs0 hd' hp hs hH hdl hd hgl h hw;rw [← hsl];rw [← hsl] at hl;clear HN;go_wp2_with fail
 go_loopw [3,13] (fun v i wr=>∃ k:Nat,k≤s.length∧i = .int .i64 k∧SumTo w2 wr v (mergedL (s.take k))∧Below w2.heap.size w2 wr) (fun _ i _=>s.length - (intOf i).toNat)
 case atStart=>exact ⟨0,Nat.zero_le _,rfl,⟨[],World.ownsRow_nil _ _ _ _,rfl,fun i hi=>by simp [mergedL] at hi⟩,Below.refl _ _⟩
 case round =>
  obtain ⟨k,hk,rfl,HS,hb⟩:=hrel;have hz:=hb.size;by_cases hlt:k<s.length
  ·obtain ⟨b,off,hh,hbl,c1,ar,cr,c0,sr⟩:=(zs.next hb).elem hlt;obtain ⟨b',off',hh',hbl',c1',ar',cr',c0',sr'⟩:=zs.elem hlt;simp only [Option.some.injEq,Addr.mk.injEq,and_true] at hh hh';obtain ⟨rfl,rfl⟩:=hh;obtain ⟨rfl,rfl⟩:=hh';have ee:=(hb.cell (p:=⟨g,_,none⟩) hgl2).trans c0';rw [c0] at ee;simp only [Option.some.injEq,Value.slice.injEq,true_and] at ee;obtain ⟨rfl,rfl⟩:=ee;clear c0' c1' hbl';simp only [Nat.zero_add] at c0 c1;have step:Hid (mergedL (s.take (k+1))=mergeTo (mergedL (s.take k)) s[k]):=by
    show mergedL (s.take (k+1))=_;rw [List.take_succ_eq_append_getElem hlt,mergedL_snoc]
   have hlen:=mergedL_len (s.take k);simp only [List.length_take] at hlen;have hbd:=mergedL_bd 1000000000000 (by omega) (s.take k) (fun x hx=>(bigW_iff _).1 (hws x (List.mem_of_mem_take hx)));have hx:=(bigW_iff _).1 (hws s[k] (List.getElem_mem hlt));generalize hacc:mergedL (s.take k)=acc at HS step hlen hbd;clear hacc;rcases List.eq_nil_or_concat acc with e | ⟨a',y,e⟩
   ·subst e;obtain ⟨xs,ho,he⟩:=HS;obtain ⟨a3,c3,rfl⟩:=own_shape ho;simp only [List.length_nil] at ho;have hbA:Below wr.heap.size wr (wr.alloc (.cells #[.slice ar s[k].1.length cr,.int .i64 s[k].2] 58)):=(Below.refl _ _).alloc (Nat.le_refl _) _;have q0:(wr.alloc (.cells #[.slice ar s[k].1.length cr,.int .i64 s[k].2] 58)).cell? ⟨wr.heap.size,0,none⟩=some (.slice ar s[k].1.length cr):=by simp
    have q1:(wr.alloc (.cells #[.slice ar s[k].1.length cr,.int .i64 s[k].2] 58)).cell? ⟨wr.heap.size,1,none⟩=some (.int .i64 s[k].2):=by simp
    haveI:Nonempty (Past (wr.alloc (.cells #[.slice ar s[k].1.length cr,.int .i64 s[k].2] 58))):=⟨⟨_,Below.refl _ _⟩⟩
    simp only [List.length_nil];go_wp2_with fail
    generalize wr.alloc (.cells #[.slice ar s[k].1.length cr,.int .i64 s[k].2] 58)=wA at *;refine wp_region_past (by kernel_rfl) (by kernel_rfl) ?_
    repeat (go_big_quiet_step (fail))
    refine wpQuiet_nil ?_;rintro w4 ⟨⟨v4,hb4⟩,h4⟩;obtain rfl:w4=v4:=h4;have ho4:=own_next (own_next ho hbA) hb4;have r0:=(hb4.cell (p:=⟨wr.heap.size,0,none⟩) (World.block_lt_of_cell? _ _ q0)).trans q0;have r1:=(hb4.cell (p:=⟨wr.heap.size,1,none⟩) (World.block_lt_of_cell? _ _ q1)).trans q1;have hzA:=hbA.size;have hz4:=hb4.size;clear ho
    go_wp2_with (at_builtin; refine wpList_append_own _ rfl _ _ 34 rfl w2.heap.size 58 i0 _ 2 32 Tryz.underlying34 hi hj0 hj1 hj2 rfl (by decide) _ _ _ rfl (ho4.alloc _) ⟨w4.heap.size,0,none⟩ 1 1 [.slice ar s[k].1.length cr,.int .i64 s[k].2] rfl rfl ?Ac1 ?Ac2 ?Ac3 ?Ac4 ?Ac5 ?_)
    case Ac1 =>
     intro j u hj
     match j,hj with
     | 0,hj=>simp at hj; subst hj; simp [Addr.add]
     | 1,hj=>simp at hj; subst hj; simp [Addr.add]
    case Ac2=>intro u hu; simp at hu; rcases hu with rfl | rfl <;> rfl
    case Ac3=>unfold maxLen; first | omega | (simp; done) | (simp; omega)
    case Ac4=>first | omega | (simp; done) | (simp; omega)
    case Ac5=>simp; omega
    intro v' w5 ho5 hg5 _;have hb5:Below w2.heap.size w2 w5:=((chain1 hb (chain1 hbA hb4)).alloc (by omega) _).grown hg5 (by simp; omega) (fun q hq=>((ho4.alloc (.cells #[.slice ar s[k].1.length cr,.int .i64 s[k].2] 58)).lt q hq).1);clear hg5 ho4 q0 q1;go_wp2
    go_roundw
    case rel=>exact ⟨k+1,by omega,by go_num,by rw [step.out,mergeTo_nil]; exact ⟨_,ho5,he.push sr'⟩,hb5⟩
    case measure=>simp [intOf]; omega
   ·rw [List.concat_eq_append] at e;subst e;by_cases hc:cmpL y.1 s[k].1=0
    ·have HS0:=HS;obtain ⟨xs,ho,he⟩:=HS;obtain ⟨g3,c3,rfl,hg3,hg3l⟩:=own_some ho (by simp);obtain ⟨ay,cy,x0,x1,sy⟩:=he.2 a'.length (by simp);simp only [List.getElem_concat_length] at x0 x1 sy;have y0:wr.cell? ⟨g3,a'.length*2,none⟩=some (.slice ay y.1.length cy):=by rw [ho.cellAt _ (by simp <;> omega)]; exact x0
     have y1:wr.cell? ⟨g3,a'.length*2+1,none⟩=some (.int .i64 y.2):=by rw [ho.cellAt _ (by simp <;> omega)]; exact x1
     have f1:wr.frozen? ⟨g3,a'.length*2+1,none⟩=false:=ho.frozenAt _;have el:(a' ++ [y]).length=a'.length+1:=by simp
     rw [el] at ho HS0 ⊢;have hy:=hbd y (by simp);rw [el] at hlen;have hkk:((s.take k).length:Int)≤200000:=by rw [List.length_take]; omega
     have hbA:Below wr.heap.size wr (wr.alloc (.cells #[.slice ar s[k].1.length cr,.int .i64 s[k].2] 58)):=(Below.refl _ _).alloc (Nat.le_refl _) _;have q0:(wr.alloc (.cells #[.slice ar s[k].1.length cr,.int .i64 s[k].2] 58)).cell? ⟨wr.heap.size,0,none⟩=some (.slice ar s[k].1.length cr):=by simp
     have q1:(wr.alloc (.cells #[.slice ar s[k].1.length cr,.int .i64 s[k].2] 58)).cell? ⟨wr.heap.size,1,none⟩=some (.int .i64 s[k].2):=by simp
     have y0A:=(hbA.cell (p:=⟨g3,_,none⟩) hg3l).trans y0;have y1A:=(hbA.cell (p:=⟨g3,_,none⟩) hg3l).trans y1;have f1A:=(hbA.frozen (p:=⟨g3,_,none⟩) hg3l).trans f1;have hgA:g3<(wr.alloc (.cells #[.slice ar s[k].1.length cr,.int .i64 s[k].2] 58)).heap.size:=Nat.lt_of_lt_of_le hg3l hbA.size;haveI:Nonempty (Past (wr.alloc (.cells #[.slice ar s[k].1.length cr,.int .i64 s[k].2] 58))):=⟨⟨_,Below.refl _ _⟩⟩
     have sA:=sr.next hbA;have tA:=(sy.next hb).next hbA;have e1:((a'.length+1:Nat):Int) - 1=(a'.length:Int):=by omega
     have i1:(0:Int)≤(a'.length:Int):=by omega
     have i2:(a'.length:Int)<((a'.length+1:Nat):Int):=by omega
     have i3:a'.length<a'.length+1:=by omega
     clear y0 y1 f1 x0 x1;have HC:Hid (cmpL y.1 s[k].1=0):=hc;go_wp2_with fail
     generalize wr.alloc (.cells #[.slice ar s[k].1.length cr,.int .i64 s[k].2] 58)=wA at *;have p0:=past_cell y0A;have p1:=past_cell q0;refine wp_region_past (by kernel_rfl) (by kernel_rfl) ?_
     repeat (go_big_quiet_step (first | (go_at_call 73; exact in_past (rows_at _ _ _ _ _ _ _ (tA.next (Past.ok _)) (sA.next (Past.ok _))))))
     refine wpQuiet_nil ?_;rintro w4 ⟨⟨v4,hb4⟩,h4⟩;obtain rfl:w4=v4:=h4;clear p0 p1;have r0:=(hb4.cell (p:=⟨wr.heap.size,0,none⟩) (World.block_lt_of_cell? _ _ q0)).trans q0;have r1:=(hb4.cell (p:=⟨wr.heap.size,1,none⟩) (World.block_lt_of_cell? _ _ q1)).trans q1;have z0:=(hb4.cell (p:=⟨g3,_,none⟩) hgA).trans y0A;have z1:=(hb4.cell (p:=⟨g3,_,none⟩) hgA).trans y1A;have zf:=(hb4.frozen (p:=⟨g3,_,none⟩) hgA).trans f1A;have hzA:=hbA.size;have hz4:=hb4.size;have HS4:=(HS0.next hbA).next hb4;clear ho y0A y1A f1A q0 q1;have hv1:-9223372036854775808≤y.2+s[k].2:=by omega
     have hv2:y.2+s[k].2≤9223372036854775807:=by omega
     go_wp2_with fail
     go_region
     have hb5:Below w2.heap.size w2 (w4.setCell ⟨g3,a'.length*2+1,none⟩ (.int .i64 (y.2+s[k].2))).drew:=((chain1 hb (chain1 hbA hb4)).setCell (p:=⟨g3,a'.length*2+1,none⟩) hg3 _).drew;have HS5:SumTo w2 (w4.setCell ⟨g3,a'.length*2+1,none⟩ (.int .i64 (y.2+s[k].2))).drew (.slice (some ⟨g3,0,none⟩) (a'.length+1) c3) (a' ++ [(y.1,y.2+s[k].2)]):=(HS4.last _).next ((Below.refl _ _).drew);clear HS4 HS0 z0 z1 zf r0 r1;go_wp2
     go_roundw
     case rel=>exact ⟨k+1,by omega,by go_num,by rw [step.out,mergeTo_snoc,if_pos HC.out]; exact HS5,hb5⟩
     case measure=>simp [intOf]; omega
    ·have HS0:=HS;obtain ⟨xs,ho,he⟩:=HS;obtain ⟨g3,c3,rfl,hg3,hg3l⟩:=own_some ho (by simp);obtain ⟨ay,cy,x0,x1,sy⟩:=he.2 a'.length (by simp);simp only [List.getElem_concat_length] at x0 x1 sy;have y0:wr.cell? ⟨g3,a'.length*2,none⟩=some (.slice ay y.1.length cy):=by rw [ho.cellAt _ (by simp <;> omega)]; exact x0
     have y1:wr.cell? ⟨g3,a'.length*2+1,none⟩=some (.int .i64 y.2):=by rw [ho.cellAt _ (by simp <;> omega)]; exact x1
     have f1:wr.frozen? ⟨g3,a'.length*2+1,none⟩=false:=ho.frozenAt _;have el:(a' ++ [y]).length=a'.length+1:=by simp
     rw [el] at ho HS0 ⊢;have hy:=hbd y (by simp);rw [el] at hlen;have hkk:((s.take k).length:Int)≤200000:=by rw [List.length_take]; omega
     have hbA:Below wr.heap.size wr (wr.alloc (.cells #[.slice ar s[k].1.length cr,.int .i64 s[k].2] 58)):=(Below.refl _ _).alloc (Nat.le_refl _) _;have q0:(wr.alloc (.cells #[.slice ar s[k].1.length cr,.int .i64 s[k].2] 58)).cell? ⟨wr.heap.size,0,none⟩=some (.slice ar s[k].1.length cr):=by simp
     have q1:(wr.alloc (.cells #[.slice ar s[k].1.length cr,.int .i64 s[k].2] 58)).cell? ⟨wr.heap.size,1,none⟩=some (.int .i64 s[k].2):=by simp
     have y0A:=(hbA.cell (p:=⟨g3,_,none⟩) hg3l).trans y0;have y1A:=(hbA.cell (p:=⟨g3,_,none⟩) hg3l).trans y1;have f1A:=(hbA.frozen (p:=⟨g3,_,none⟩) hg3l).trans f1;have hgA:g3<(wr.alloc (.cells #[.slice ar s[k].1.length cr,.int .i64 s[k].2] 58)).heap.size:=Nat.lt_of_lt_of_le hg3l hbA.size;haveI:Nonempty (Past (wr.alloc (.cells #[.slice ar s[k].1.length cr,.int .i64 s[k].2] 58))):=⟨⟨_,Below.refl _ _⟩⟩
     have sA:=sr.next hbA;have tA:=(sy.next hb).next hbA;have e1:((a'.length+1:Nat):Int) - 1=(a'.length:Int):=by omega
     have i1:(0:Int)≤(a'.length:Int):=by omega
     have i2:(a'.length:Int)<((a'.length+1:Nat):Int):=by omega
     have i3:a'.length<a'.length+1:=by omega
     clear y0 y1 f1 x0 x1;have HC:Hid (¬ cmpL y.1 s[k].1=0):=hc;have b0:(cmpL y.1 s[k].1 == 0)=false:=by simpa using hc
     go_wp2_with fail
     generalize wr.alloc (.cells #[.slice ar s[k].1.length cr,.int .i64 s[k].2] 58)=wA at *;have p0:=past_cell y0A;have p1:=past_cell q0;refine wp_region_past (by kernel_rfl) (by kernel_rfl) ?_
     repeat (go_big_quiet_step (first | (go_at_call 73; exact in_past (rows_at _ _ _ _ _ _ _ (tA.next (Past.ok _)) (sA.next (Past.ok _))))))
     refine wpQuiet_nil ?_;rintro w4 ⟨⟨v4,hb4⟩,h4⟩;obtain rfl:w4=v4:=h4;clear p0 p1;have r0:=(hb4.cell (p:=⟨wr.heap.size,0,none⟩) (World.block_lt_of_cell? _ _ q0)).trans q0;have r1:=(hb4.cell (p:=⟨wr.heap.size,1,none⟩) (World.block_lt_of_cell? _ _ q1)).trans q1;have z0:=(hb4.cell (p:=⟨g3,_,none⟩) hgA).trans y0A;have z1:=(hb4.cell (p:=⟨g3,_,none⟩) hgA).trans y1A;have zf:=(hb4.frozen (p:=⟨g3,_,none⟩) hgA).trans f1A;have hzA:=hbA.size;have hz4:=hb4.size;have ho4:=own_next (own_next ho hbA) hb4;clear ho y0A y1A f1A
     go_wp2_with (at_builtin; refine wpList_append_own _ rfl _ _ 34 rfl w2.heap.size 58 i0 _ 2 32 Tryz.underlying34 hi hj0 hj1 hj2 rfl (by decide) _ _ _ rfl (ho4.alloc _) ⟨w4.heap.size,0,none⟩ 1 1 [.slice ar s[k].1.length cr,.int .i64 s[k].2] rfl rfl ?Bc1 ?Bc2 ?Bc3 ?Bc4 ?Bc5 ?_)
     case Bc1 =>
      intro j u hj
      match j,hj with
      | 0,hj=>simp at hj; subst hj; simp [Addr.add]
      | 1,hj=>simp at hj; subst hj; simp [Addr.add]
     case Bc2=>intro u hu; simp at hu; rcases hu with rfl | rfl <;> rfl
     case Bc3=>unfold maxLen; first | omega | (simp; done) | (simp; omega)
     case Bc4=>first | omega | (simp; done) | (simp; omega)
     case Bc5=>simp; omega
     intro v' w5 ho5 hg5 _;have hb5:Below w2.heap.size w2 w5:=((chain1 hb (chain1 hbA hb4)).alloc (by omega) _).grown hg5 (by simp; omega) (fun q hq=>((ho4.alloc (.cells #[.slice ar s[k].1.length cr,.int .i64 s[k].2] 58)).lt q hq).1);clear hg5 ho4 q0 q1;go_wp2
     go_roundw
     case rel=>exact ⟨k+1,by omega,by go_num,by rw [step.out,mergeTo_snoc,if_neg HC.out]; exact ⟨_,by simpa using ho5,he.push sr'⟩,hb5⟩
     case measure=>simp [intOf]; omega
  ·have e:k=s.length:=by omega
   subst e;rw [List.take_length] at HS;obtain ⟨xs,ho,he⟩:=HS;obtain ⟨a3,c3,rfl,z3⟩:=own_zsB ho rfl he hb;go_wp2
   go_ret;exact ⟨s,a3,c3,rfl,HP.out,HSo.out,z3,hb2.trans (hb.mono hb2.size)⟩
end Go.Proofs.YtohjlfhmnmcndaaGreat
