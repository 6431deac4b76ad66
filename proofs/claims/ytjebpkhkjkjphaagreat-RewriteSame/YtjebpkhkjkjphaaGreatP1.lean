/- Together: W4, W5, Ord, Rows1, W2, W9, Past, W10, Z1. -/
import Derived.Laws.StructEq
import Derived.WalkKit
import Derived.BigQuiet
import Derived.Test.YtjebpkhkjkjphaaGreatP0
namespace Go.Proofs.YtjebpkhkjkjphaaGreat
open Go.RowKit
set_option maxRecDepth 100000
set_option maxHeartbeats 16000000
def Row (W:World) (b off:Nat) (l:List (Int × Int × ByteArray)):Prop :=
 ∀ (i:Nat) (h:i<l.length),W.cell? ⟨b,off+i*3,none⟩=some (.int .i64 l[i].1)∧W.cell? ⟨b,off+i*3+1,none⟩=some (.int .i64 l[i].2.1)∧W.cell? ⟨b,off+i*3+2,none⟩=some (.string l[i].2.2)
def mw (l:List (Int × Int × ByteArray)):Bool:=l.all fun v=>aU v.1 v.2.1 v.2.2 == 0
theorem Row.next {W w1:World} {b off:Nat} {l:List (Int × Int × ByteArray)} (h:Row W b off l) (hlt:b<W.heap.size) (hb:Below W.heap.size W w1):Row w1 b off l :=
 fun i hi=>⟨(hb.cell (p:=⟨b,_,none⟩) hlt).trans (h i hi).1,(hb.cell (p:=⟨b,_,none⟩) hlt).trans (h i hi).2.1,(hb.cell (p:=⟨b,_,none⟩) hlt).trans (h i hi).2.2⟩
theorem Ba {a b:Int} (h:a<b):iO a b = -1:=by simp [iO,h]
theorem Aj {a b:Int} (h:b<a):iO a b=1:=by
 have:¬ a<b:=by omega
 simp [iO,h,this]
theorem Ar (a:Int):iO a a=0:=by simp [iO]
theorem zT (a b:Int) (w:World) :
  Calls Tryz.prog 133 #[.int .i64 a,.int .i64 b] w fun e w'=>e = .returned (.int .i64 (iO a b))∧w'=w:=by
 rcases Int.lt_trichotomy a b with h | h | h
 ·go_enter Tryz.func133,Tryz.ntmps133;go_wp2
  go_ret;exact ⟨aN (Ba h).symm,rfl⟩
 ·subst h;go_enter Tryz.func133,Tryz.ntmps133;go_wp2
  go_ret;exact ⟨aN (Ar _).symm,rfl⟩
 ·have h':¬ a<b:=by omega
  go_enter Tryz.func133,Tryz.ntmps133;go_wp2
  go_ret;exact ⟨aN (Aj h).symm,rfl⟩
theorem mR (a b:Int) (w:World) :
  Calls Tryz.prog 134 #[.int .i64 a,.int .i64 b] w fun e w'=>e = .returned (.int .i64 (iO a b))∧w'=w:=by
 rcases Int.lt_trichotomy a b with h | h | h
 ·go_enter Tryz.func134,Tryz.ntmps134;go_wp2
  go_ret;exact ⟨aN (Ba h).symm,rfl⟩
 ·subst h;go_enter Tryz.func134,Tryz.ntmps134;go_wp2
  go_ret;exact ⟨aN (Ar _).symm,rfl⟩
 ·have h':¬ a<b:=by omega
  go_enter Tryz.func134,Tryz.ntmps134;go_wp2
  go_ret;exact ⟨aN (Aj h).symm,rfl⟩
theorem yB (a b:ByteArray) (w:World) :
  Calls Tryz.prog 135 #[.string a,.string b] w fun e w'=>e = .returned (.int .i64 (kA a b))∧w'=w:=by
 go_enter Tryz.func135,Tryz.ntmps135;go_wp2
 ·go_ret;exact ⟨aN (by simp [kA, *]),rfl⟩
 ·go_ret;exact ⟨aN (by simp_all [kA]),rfl⟩
 ·go_ret;exact ⟨aN (by simp_all [kA]),rfl⟩
theorem Kx {k k' n n':Int} {s s':ByteArray} (h:¬ k=k'):dY k n s k' n' s'=iO k k':=by simp [dY,h]
theorem JV {n n':Int} {s s':ByteArray}:dY 2 n s 2 n' s'=iO n n':=by simp [dY]
theorem Jw {n n':Int} {s s':ByteArray}:dY 3 n s 3 n' s'=iO n n':=by simp [dY]
theorem JC {n n':Int} {s s':ByteArray}:dY 4 n s 4 n' s'=kA s s':=by simp [dY]
theorem Jv {k n n':Int} {s s':ByteArray} (h2:¬ k=2) (h3:¬ k=3) (h4:¬ k=4):dY k n s k n' s'=0:=by simp [dY,h2,h3,h4]
theorem nH (k n k' n':Int) (s s':ByteArray) (w:World) :
  Calls Tryz.prog 104 #[.agg #[.int .i64 k,.int .i64 n,.string s],.agg #[.int .i64 k',.int .i64 n',.string s']] w fun e w'=>e = .returned (.int .i64 (dY k n s k' n' s'))∧Below w.heap.size w w'∧w.drawn≤w'.drawn:=by
 by_cases hk:k=k'
 ·subst hk;by_cases h2:k=2
  ·subst h2;go_enter Tryz.func104,Tryz.ntmps104;go_wp2_with fail
   refine (mR _ _ _).mono ?_;rintro e w1 ⟨rfl,rfl⟩;go_wp2
   go_ret;exact ⟨aN JV.symm,((Md _ _).alloc (Mc _) _).alloc (by simp) _,Mc _⟩
  by_cases h3:k=3
  ·subst h3;go_enter Tryz.func104,Tryz.ntmps104;go_wp2_with fail
   refine (mR _ _ _).mono ?_;rintro e w1 ⟨rfl,rfl⟩;go_wp2
   go_ret;exact ⟨aN Jw.symm,((Md _ _).alloc (Mc _) _).alloc (by simp) _,Mc _⟩
  by_cases h4:k=4
  ·subst h4;go_enter Tryz.func104,Tryz.ntmps104;go_wp2_with fail
   refine (yB _ _ _).mono ?_;rintro e w1 ⟨rfl,rfl⟩;go_wp2
   go_ret;exact ⟨aN JC.symm,((Md _ _).alloc (Mc _) _).alloc (by simp) _,Mc _⟩
  have b2:(k == 2)=false:=by simpa using h2
  have b3:(k == 3)=false:=by simpa using h3
  have b4:(k == 4)=false:=by simpa using h4
  go_enter Tryz.func104,Tryz.ntmps104;go_wp2
  go_ret;exact ⟨aN (Jv h2 h3 h4).symm,((Md _ _).alloc (Mc _) _).alloc (by simp) _,Mc _⟩
 ·have bk:(k == k')=false:=by simpa using hk
  have bk':(k != k')=true:=by simpa using hk
  go_enter Tryz.func104,Tryz.ntmps104;go_wp2_with fail
  refine (zT _ _ _).mono ?_;rintro e w1 ⟨rfl,rfl⟩;go_wp2
  go_ret;exact ⟨aN (Kx hk).symm,((Md _ _).alloc (Mc _) _).alloc (by simp) _,Mc _⟩
theorem lh (k n k' n':Int) (s s':ByteArray) (w:World) :
  Calls Tryz.prog 104 #[.agg #[.int .i64 k,.int .i64 n,.string s],.agg #[.int .i64 k',.int .i64 n',.string s']] w fun e w'=>e = .returned (.int .i64 (dY k n s k' n' s'))∧Below w.heap.size w w' :=
 (nH k n k' n' s s' w).mono fun _ _ h=>⟨h.1,h.2.1⟩
end Go.Proofs.YtjebpkhkjkjphaaGreat
namespace Go.Proofs.YtjebpkhkjkjphaaGreat
set_option maxRecDepth 100000
set_option maxHeartbeats 16000000
theorem oc:∀ x:List UInt8,Op.bytesLess x x=false
 | []=>rfl
 | a :: x=>by
  have:=oc x
  simp [Op.bytesLess,this,UInt8.lt_irrefl]
theorem vw:∀ x y:List UInt8,Op.bytesLess x y=true→Op.bytesLess y x=false
 | [],[]=>fun _=>rfl
 | [],_ :: _=>fun _=>rfl
 | _ :: _,[]=>fun h=>by simp [Op.bytesLess] at h
 | a :: x,b :: y=>fun h=>by
  simp only [Op.bytesLess,Bool.or_eq_true,decide_eq_true_eq,MZ,beq_iff_eq] at h
  rcases h with h | ⟨rfl,h⟩
  ·have h1:¬ b<a:=UInt8.lt_asymm h
   have h2:¬ b=a:=fun e=>UInt8.lt_irrefl _ (e ▸ h)
   simp [Op.bytesLess,h1,h2]
  ·simp [Op.bytesLess,vw x y h,UInt8.lt_irrefl]
theorem wM:∀ x y:List UInt8,Op.bytesLess x y=false→¬ x=y→Op.bytesLess y x=true
 | [],[]=>fun _ h=>absurd rfl h
 | [],_ :: _=>fun h _=>by simp [Op.bytesLess] at h
 | _ :: _,[]=>fun _ _=>rfl
 | a :: x,b :: y=>fun h hne=>by
  simp only [Op.bytesLess,Bool.or_eq_false_iff,decide_eq_false_iff_not,Bool.and_eq_false_imp,beq_iff_eq] at h
  by_cases e:a=b
  ·subst e
   have h2:=wM x y (h.2 rfl) (fun e=>hne (by rw [e]))
   simp [Op.bytesLess,h2]
  ·have:b<a:=by
    rcases UInt8.lt_or_lt_of_ne e with h' | h'
    ·exact absurd h' h.1
    ·exact h'
   simp [Op.bytesLess,this]
theorem vA:∀ x y z:List UInt8,Op.bytesLess x y=true→Op.bytesLess y z=true→Op.bytesLess x z=true
 | _,[],_=>fun h _=>by cases ‹List UInt8› <;> simp [Op.bytesLess] at h
 | _,_ :: _,[]=>fun _ h=>by simp [Op.bytesLess] at h
 | [],_ :: _,_ :: _=>fun _ _=>rfl
 | a :: x,b :: y,c :: z=>fun h k=>by
  simp only [Op.bytesLess,Bool.or_eq_true,decide_eq_true_eq,MZ,beq_iff_eq] at h k ⊢
  rcases h with h | ⟨rfl,h⟩
  ·rcases k with k | ⟨rfl,k⟩
   ·exact .inl (UInt8.lt_trans h k)
   ·exact .inl h
  ·rcases k with k | ⟨rfl,k⟩
   ·exact .inl k
   ·exact .inr ⟨rfl,vA x y z h k⟩
theorem vi (a b:Int):iO a b = -iO b a:=by unfold iO; split <;> split <;> (try split) <;> omega
theorem rY (a b:Int):iO a b=0↔a=b:=by unfold iO; split <;> (try split) <;> omega
theorem tw (a b:Int):iO a b≤0↔a≤b:=by unfold iO; split <;> (try split) <;> omega
theorem EZ (a b:ByteArray):kA a b = -kA b a:=by
 unfold kA;by_cases e:a.toList=b.toList
 ·simp [e,oc]
 ·have e':¬ b.toList=a.toList:=fun h=>e h.symm
  cases h:Op.bytesLess a.toList b.toList
  ·have:=wM _ _ h e;simp [this,e]
  ·have:=vw _ _ h;simp [this,e']
theorem Bj (a b:ByteArray):kA a b=0↔a.toList=b.toList:=by
 unfold kA;by_cases e:a.toList=b.toList
 ·simp [e,oc]
 ·cases h:Op.bytesLess a.toList b.toList <;> simp [e]
theorem G6 (a b c:ByteArray) (h:kA a b≤0) (k:kA b c≤0):kA a c≤0:=by
 unfold kA at *;by_cases e:a.toList=b.toList
 ·rw [e]; exact k
 by_cases e':b.toList=c.toList
 ·rw [← e']; exact h
 have h1:Op.bytesLess a.toList b.toList=true:=by
  cases h':Op.bytesLess a.toList b.toList
  ·simp [h',e] at h
  ·rfl
 have k1:Op.bytesLess b.toList c.toList=true:=by
  cases h':Op.bytesLess b.toList c.toList
  ·simp [h',e'] at k
  ·rfl
 simp [vA _ _ _ h1 k1]
theorem GB (k n k' n':Int) (s s':ByteArray):dY k n s k' n' s' = -dY k' n' s' k n s:=by
 unfold dY;by_cases e:k=k'
 ·subst e;by_cases h:k=2∨k=3
  ·simp [h]; exact vi _ _
  ·by_cases h4:k=4
   ·simp [h4]; exact EZ _ _
   ·simp [h,h4]
 ·have e':¬ k'=k:=fun h=>e h.symm
  simp [e,e']; exact vi _ _
theorem yJ (k n k' n' k'' n'':Int) (s s' s'':ByteArray) (h:dY k n s k' n' s'≤0) (j:dY k' n' s' k'' n'' s''≤0):dY k n s k'' n'' s''≤0:=by
 unfold dY at *;by_cases e:k=k'
 ·subst e;by_cases e':k=k''
  ·subst e';by_cases h2:k=2∨k=3
   ·simp [h2] at h j ⊢;rw [tw] at *;omega
   ·by_cases h4:k=4
    ·simp [h4] at h j ⊢;exact G6 _ _ _ h j
    ·simp [h2,h4]
  ·simp [e'] at j ⊢;exact j
 ·by_cases e':k'=k''
  ·subst e';simp [e] at h ⊢;exact h
  ·simp [e] at h;simp [e'] at j;rw [tw] at h j;have:¬ k=k'':=by omega
   simp [this];rw [tw];omega
end Go.Proofs.YtjebpkhkjkjphaaGreat
namespace Go.Proofs.YtjebpkhkjkjphaaGreat
open Go.RowKit
set_option maxRecDepth 100000
set_option maxHeartbeats 16000000
abbrev Vl:Type:=Int × Int × ByteArray
def dI (x y:Vl):Int:=dY x.1 x.2.1 x.2.2 y.1 y.2.1 y.2.2
def aK:List Vl→List Vl→Int
 | [],[]=>0
 | [],_ :: _=>-1
 | _ :: _,[]=>1
 | x :: r,y :: t=>if dI x y=0 then aK r t else dI x y
theorem AE (a b:Int):-1≤iO a b∧iO a b≤1:=by unfold iO; split <;> (try split) <;> omega
theorem Hh (a b:ByteArray):-1≤kA a b∧kA a b≤1:=by unfold kA; split <;> (try split) <;> omega
theorem Ir (x y:Vl):-1≤dI x y∧dI x y≤1:=by
 unfold dI dY
 split
 ·exact AE _ _
 ·split
  ·exact AE _ _
  ·split
   ·exact Hh _ _
   ·omega
theorem uk:∀ l t:List Vl,-1≤aK l t∧aK l t≤1
 | [],[]=>by simp [aK]
 | [],_ :: _=>by simp [aK]
 | _ :: _,[]=>by simp [aK]
 | x :: r,y :: t=>by
  unfold aK
  split
  ·exact uk r t
  ·exact Ir x y
theorem nw (x y:Vl):dI x y = -dI y x:=GB _ _ _ _ _ _
theorem bd:∀ l t:List Vl,aK t l = -aK l t
 | [],[]=>rfl
 | [],_ :: _=>rfl
 | _ :: _,[]=>rfl
 | x :: r,y :: t=>by
  have h:=nw x y
  unfold aK
  by_cases e:dI y x=0
  ·have e':dI x y=0:=by omega
   simp only [e,e',if_true]
   exact bd r t
  ·have e':¬ dI x y=0:=by omega
   simp only [e,e',if_false]
   omega
theorem tq (l t:List Vl) (k:Nat) (h:k<l.length) (h':k<t.length):aK (l.drop k) (t.drop k)=if dI l[k] t[k]=0 then aK (l.drop (k+1)) (t.drop (k+1)) else dI l[k] t[k]:=by
 rw [Mi h,Mi h'];rfl
theorem Cn (l t:List Vl) (k:Nat) (h:k<l.length) (h':t.length≤k):aK (l.drop k) (t.drop k)=1:=by
 rw [Mi h,MG h'];rfl
theorem yK (l t:List Vl) (k:Nat) (h:l.length≤k) (h':k<t.length):aK (l.drop k) (t.drop k) = -1:=by
 rw [Mi h',MG h];rfl
theorem Dm (l t:List Vl) (k:Nat) (h:l.length≤k) (h':t.length≤k):aK (l.drop k) (t.drop k)=0:=by
 rw [MG h,MG h'];rfl
def bg (W:World) (a:Option Addr) (l:List Vl):Prop :=
 l.length≤maxLen∧(l = []∨∃ b off,a=some ⟨b,off,none⟩∧Row W b off l∧b<W.heap.size)
theorem bg.next {W w1:World} {a:Option Addr} {l:List Vl} (h:bg W a l) (hb:Below W.heap.size W w1):bg w1 a l:=by
 obtain ⟨h0,h | ⟨b,off,e,hr,hlt⟩⟩:=h
 ·exact ⟨h0,.inl h⟩
 ·exact ⟨h0,.inr ⟨b,off,e,hr.next hlt hb,Mh hlt hb.size⟩⟩
theorem bg.elem {W:World} {a:Option Addr} {l:List Vl} (h:bg W a l) {k:Nat} (hk:k<l.length) :
  ∃ b off,a=some ⟨b,off,none⟩∧b<W.heap.size∧W.cell? ⟨b,off+k*3,none⟩=some (.int .i64 l[k].1)∧W.cell? ⟨b,off+k*3+1,none⟩=some (.int .i64 l[k].2.1)∧W.cell? ⟨b,off+k*3+2,none⟩=some (.string l[k].2.2):=by
 obtain ⟨_,h | ⟨b,off,e,hr,hlt⟩⟩:=h
 ·subst h; simp at hk
 ·exact ⟨b,off,e,hlt,hr k hk⟩
theorem rE (a a':Option Addr) (cap cap':Nat) (l l':List Vl) (w:World) (h:bg w a l) (h':bg w a' l') :
  Calls Tryz.prog 103 #[.slice a l.length cap,.slice a' l'.length cap',.func (.func 104) #[] #[]] w fun e w'=>e = .returned (.int .i64 (aK l l'))∧Below w.heap.size w w'∧w.drawn≤w'.drawn:=by
 have hl:=h.1;have hl':=h'.1;unfold maxLen at hl hl';go_enter Tryz.func103,Tryz.ntmps103;go_wp2
 go_loopw [13] (fun i w1=>∃ k:Nat,k≤l.length∧k≤l'.length∧i = .int .i64 k∧Hid (aK l l'=aK (l.drop k) (l'.drop k))∧Below w.heap.size w w1∧w.drawn≤w1.drawn) (fun i _=>l.length - (intOf i).toNat)
 case atStart=>exact ⟨0,Mj _,Mj _,rfl,rfl,Md _ _,Mc _⟩
 case round =>
  obtain ⟨k,hk,hk',rfl,HC,hb,hd⟩:=hrel;have HD:=aw hd;clear hd;have hz:=hb.size;by_cases hlt:k<l.length
  ·obtain ⟨b,off,rfl,hbl,c0,c1,c2⟩:=(h.next hb).elem hlt;by_cases hlt':k<l'.length
   ·have hb2:=((Md wr.heap.size wr).alloc (Mc _) (.cells #[.int .i64 l[k].1,.int .i64 l[k].2.1,.string l[k].2.2] 24))
    obtain ⟨b',off',rfl,hbl',d0,d1,d2⟩:=((h'.next hb).next hb2).elem hlt';clear hb2;by_cases e:dI l[k] l'[k]=0
    ·have E:=aw e;clear e;go_wp2_with fail
     refine (nH _ _ _ _ _ _ _).mono ?_;rintro e w1 ⟨rfl,hb1,hd1⟩;have HD1:=aw hd1;clear hd1;rw [show dY l[k].1 l[k].2.1 l[k].2.2 l'[k].1 l'[k].2.1 l'[k].2.2=0 from E.out];go_wp2
     go_roundw
     case rel=>exact ⟨k+1,by omega,by omega,by go_num,HC.out.trans (by rw [tq l l' k hlt hlt',if_pos E.out]),hb.trans ((((Md _ _).alloc hz _).alloc (by simp; omega) _).trans (hb1.mono (by simp; omega))),Mr HD.out HD1.out⟩
     case measure=>simp [intOf]; omega
    ·have E:=aw e;have E2:(dY l[k].1 l[k].2.1 l[k].2.2 l'[k].1 l'[k].2.1 l'[k].2.2 != 0)=true:=by simpa [dI] using e
     clear e;go_wp2_with fail
     refine (nH _ _ _ _ _ _ _).mono ?_;rintro e w1 ⟨rfl,hb1,hd1⟩;have HD1:=aw hd1;clear hd1;go_wp2
     go_ret;exact ⟨aN (by rw [HC.out,tq l l' k hlt hlt',if_neg E.out]; rfl),hb.trans ((((Md _ _).alloc hz _).alloc (by simp; omega) _).trans (hb1.mono (by simp; omega))),Mr HD.out HD1.out⟩
   ·go_wp2
    go_ret;exact ⟨aN (by rw [HC.out,Cn l l' k hlt (by omega)]),hb.alloc hz _,HD.out⟩
  ·by_cases hlt':k<l'.length
   ·have e:k=l.length:=by omega
    have hll:l.length<l'.length:=by omega
    go_wp2
    go_ret;exact ⟨aN (by rw [HC.out,yK l l' k (by omega) hlt']),hb,HD.out⟩
   ·have hll:¬ l.length<l'.length:=by omega
    go_wp2
    go_ret;exact ⟨aN (by rw [HC.out,Dm l l' k (by omega) (by omega)]),hb,HD.out⟩
theorem xL (a a':Option Addr) (cap cap':Nat) (l l':List Vl) (w:World) (h:bg w a l) (h':bg w a' l') :
  Calls Tryz.prog 70 #[.slice a l.length cap,.slice a' l'.length cap'] w fun e w'=>e = .returned (.int .i64 (aK l l'))∧Below w.heap.size w w'∧w.drawn≤w'.drawn:=by
 go_enter Tryz.func70,Tryz.ntmps70;go_wp2_with fail
 refine (rE _ _ _ _ _ _ _ h h').mono ?_;rintro e w1 ⟨rfl,hb1,hd1⟩;go_wp2
 go_ret;exact ⟨rfl,hb1,hd1⟩
theorem mK (a a':Option Addr) (cap cap':Nat) (l l':List Vl) (w:World) (h:bg w a l) (h':bg w a' l') :
  Calls Tryz.prog 70 #[.slice a l.length cap,.slice a' l'.length cap'] w fun e w'=>e = .returned (.int .i64 (aK l l'))∧Below w.heap.size w w' :=
 (xL a a' cap cap' l l' w h h').mono fun _ _ h=>⟨h.1,h.2.1⟩
structure rP (w W:World) (x y z x' y' z':Value):Prop where
 b:Below w.heap.size w W
 p:gu W w.heap.size x y z
 q:gu W (w.heap.size+1) x' y' z'
 r:gu W (w.heap.size+2) (.int .i64 0) (.int .i64 0) (.string ⟨#[]⟩)
theorem rP.next {w W W1:World} {x y z x' y' z':Value} (h:rP w W x y z x' y' z') (hb:Below W.heap.size W W1):rP w W1 x y z x' y' z':=⟨h.b.trans (hb.mono h.b.size),h.p.next hb,h.q.next hb,h.r.next hb⟩
theorem rP.new (w:World) (k n k' n':Int) (s s':ByteArray):rP w (((w.alloc (.cells #[.int .i64 k,.int .i64 n,.string s] 24)).alloc (.cells #[.int .i64 k',.int .i64 n',.string s'] 24)).alloc (.cells #[.int .i64 0,.int .i64 0,.string ⟨#[]⟩] 24)) (.int .i64 k) (.int .i64 n) (.string s) (.int .i64 k') (.int .i64 n') (.string s'):=by
 have q:=(gu.new (w.alloc (.cells #[.int .i64 k,.int .i64 n,.string s] 24)) (.int .i64 k') (.int .i64 n') (.string s') 24).alloc (.cells #[.int .i64 0,.int .i64 0,.string ⟨#[]⟩] 24);have r:=gu.new ((w.alloc (.cells #[.int .i64 k,.int .i64 n,.string s] 24)).alloc (.cells #[.int .i64 k',.int .i64 n',.string s'] 24)) (.int .i64 0) (.int .i64 0) (.string ⟨#[]⟩) 24;simp only [Mf] at q r;exact ⟨(((Md _ _).alloc (Mc _) _).alloc (by simp) _).alloc (by simp; omega) _,((gu.new w (.int .i64 k) (.int .i64 n) (.string s) 24).alloc _).alloc _,q,r⟩
structure Bt (w W:World) (x y z:Value):Prop where
 b:Below w.heap.size w W
 p:gu W w.heap.size x y z
 r:gu W (w.heap.size+1) (.int .i64 0) (.int .i64 0) (.string ⟨#[]⟩)
theorem Bt.next {w W W1:World} {x y z:Value} (h:Bt w W x y z) (hb:Below W.heap.size W W1):Bt w W1 x y z:=⟨h.b.trans (hb.mono h.b.size),h.p.next hb,h.r.next hb⟩
theorem Bt.new (w:World) (k n:Int) (s:ByteArray):Bt w ((w.alloc (.cells #[.int .i64 k,.int .i64 n,.string s] 24)).alloc (.cells #[.int .i64 0,.int .i64 0,.string ⟨#[]⟩] 24)) (.int .i64 k) (.int .i64 n) (.string s):=by
 have r:=gu.new (w.alloc (.cells #[.int .i64 k,.int .i64 n,.string s] 24)) (.int .i64 0) (.int .i64 0) (.string ⟨#[]⟩) 24;simp only [Mf] at r;exact ⟨((Md _ _).alloc (Mc _) _).alloc (by simp) _,(gu.new w (.int .i64 k) (.int .i64 n) (.string s) 24).alloc _,r⟩
theorem IB (k n k' n':Int) (s s':ByteArray) (w:World) :
 Calls Tryz.prog 194 #[.agg #[.int .i64 k,.int .i64 n,.string s],.agg #[.int .i64 k',.int .i64 n',.string s']] w fun e w'=>e = .returned (.agg #[.int .i64 (tk (Je (cls k n) (cls k' n'))),.int .i64 (tn (Je (cls k n) (cls k' n'))),.string ⟨#[]⟩])∧Below w.heap.size w w':=by
 have T:=rP.new w k n k' n' s s';rcases h1:cls k n with _ | _ | _ <;> rcases h2:cls k' n' with _ | _ | _
 all_goals (
  go_enter Tryz.func194,Tryz.ntmps194;go_wp2_with fail
  generalize ((w.alloc (.cells #[.int .i64 k,.int .i64 n,.string s] 24)).alloc (.cells #[.int .i64 k',.int .i64 n',.string s'] 24)).alloc (.cells #[.int .i64 0,.int .i64 0,.string ⟨#[]⟩] 24)=W0 at *
  repeat (first | refine (kK _ _ _ _).mono ?_ | refine (dW _ _ _ _).mono ?_ | refine (j6 _).mono ?_ | refine (jq _).mono ?_ | refine (dN _).mono ?_
          rintro e w1 ⟨rfl,hb⟩;replace T:=T.next hb;clear hb;have ⟨a0,a1,a2,a3,a4,a5,a6⟩:=T.p;have ⟨b0,b1,b2,b3,b4,b5,b6⟩:=T.q;have ⟨r0,r1,r2,r3,r4,r5,r6⟩:=T.r;try simp only [h1,h2]
          go_wp2_with fail)
  have HB:=T.b
  first | exact Me (v:=.agg #[.int .i64 1,.int .i64 0,.string ⟨#[]⟩]) (by simp [results,Tryz.results194,go_sem,r1,r2,r3]) rfl ⟨rfl,aF HB (by omega)⟩ | exact Me (v:=.agg #[.int .i64 2,.int .i64 0,.string ⟨#[]⟩]) (by simp [results,Tryz.results194,go_sem,r1,r2,r3]) rfl ⟨rfl,aF HB (by omega)⟩ | exact Me (v:=.agg #[.int .i64 2,.int .i64 1,.string ⟨#[]⟩]) (by simp [results,Tryz.results194,go_sem,r1,r2,r3]) rfl ⟨rfl,aF HB (by omega)⟩)
theorem Kk (k n k' n':Int) (s s':ByteArray) (w:World) :
 Calls Tryz.prog 195 #[.agg #[.int .i64 k,.int .i64 n,.string s],.agg #[.int .i64 k',.int .i64 n',.string s']] w fun e w'=>e = .returned (.agg #[.int .i64 (tk (LA (cls k n) (cls k' n'))),.int .i64 (tn (LA (cls k n) (cls k' n'))),.string ⟨#[]⟩])∧Below w.heap.size w w':=by
 have T:=rP.new w k n k' n' s s';rcases h1:cls k n with _ | _ | _ <;> rcases h2:cls k' n' with _ | _ | _
 all_goals (
  go_enter Tryz.func195,Tryz.ntmps195;go_wp2_with fail
  generalize ((w.alloc (.cells #[.int .i64 k,.int .i64 n,.string s] 24)).alloc (.cells #[.int .i64 k',.int .i64 n',.string s'] 24)).alloc (.cells #[.int .i64 0,.int .i64 0,.string ⟨#[]⟩] 24)=W0 at *
  repeat (first | refine (kK _ _ _ _).mono ?_ | refine (dW _ _ _ _).mono ?_ | refine (j6 _).mono ?_ | refine (jq _).mono ?_ | refine (dN _).mono ?_
          rintro e w1 ⟨rfl,hb⟩;replace T:=T.next hb;clear hb;have ⟨a0,a1,a2,a3,a4,a5,a6⟩:=T.p;have ⟨b0,b1,b2,b3,b4,b5,b6⟩:=T.q;have ⟨r0,r1,r2,r3,r4,r5,r6⟩:=T.r;try simp only [h1,h2]
          go_wp2_with fail)
  have HB:=T.b
  first | exact Me (v:=.agg #[.int .i64 1,.int .i64 0,.string ⟨#[]⟩]) (by simp [results,Tryz.results195,go_sem,r1,r2,r3]) rfl ⟨rfl,aF HB (by omega)⟩ | exact Me (v:=.agg #[.int .i64 2,.int .i64 0,.string ⟨#[]⟩]) (by simp [results,Tryz.results195,go_sem,r1,r2,r3]) rfl ⟨rfl,aF HB (by omega)⟩ | exact Me (v:=.agg #[.int .i64 2,.int .i64 1,.string ⟨#[]⟩]) (by simp [results,Tryz.results195,go_sem,r1,r2,r3]) rfl ⟨rfl,aF HB (by omega)⟩)
theorem AM (k n:Int) (s:ByteArray) (w:World) :
 Calls Tryz.prog 172 #[.agg #[.int .i64 k,.int .i64 n,.string s]] w fun e w'=>e = .returned (.agg #[.int .i64 (tk (pM (cls k n))),.int .i64 (tn (pM (cls k n))),.string ⟨#[]⟩])∧Below w.heap.size w w':=by
 have T:=Bt.new w k n s;rcases h1:cls k n with _ | _ | _
 all_goals (
  go_enter Tryz.func172,Tryz.ntmps172;go_wp2_with fail
  generalize (w.alloc (.cells #[.int .i64 k,.int .i64 n,.string s] 24)).alloc (.cells #[.int .i64 0,.int .i64 0,.string ⟨#[]⟩] 24)=W0 at *
  repeat (first | refine (kK _ _ _ _).mono ?_ | refine (dW _ _ _ _).mono ?_ | refine (j6 _).mono ?_ | refine (jq _).mono ?_ | refine (dN _).mono ?_
          rintro e w1 ⟨rfl,hb⟩;replace T:=T.next hb;clear hb;have ⟨a0,a1,a2,a3,a4,a5,a6⟩:=T.p;have ⟨r0,r1,r2,r3,r4,r5,r6⟩:=T.r;try simp only [h1]
          go_wp2_with fail)
  have HB:=T.b
  first | exact Me (v:=.agg #[.int .i64 1,.int .i64 0,.string ⟨#[]⟩]) (by simp [results,Tryz.results172,go_sem,r1,r2,r3]) rfl ⟨rfl,aF HB (by omega)⟩ | exact Me (v:=.agg #[.int .i64 2,.int .i64 0,.string ⟨#[]⟩]) (by simp [results,Tryz.results172,go_sem,r1,r2,r3]) rfl ⟨rfl,aF HB (by omega)⟩ | exact Me (v:=.agg #[.int .i64 2,.int .i64 1,.string ⟨#[]⟩]) (by simp [results,Tryz.results172,go_sem,r1,r2,r3]) rfl ⟨rfl,aF HB (by omega)⟩)
def kn (k k':Int):Bool:=k == k' && k != 1
def Lj (k n:Int) (s:ByteArray) (k' n':Int) (s':ByteArray):Option Bool:=if kn k k' then some (dY k n s k' n' s' == 0) else none
def Ji (k n:Int) (s:ByteArray) (k' n':Int) (s':ByteArray):Option Bool:=if kn k k' then some (decide (dY k n s k' n' s'<0)) else none
theorem oS (k n k' n':Int) (s s':ByteArray) (w:World) :
  Calls Tryz.prog 204 #[.agg #[.int .i64 k,.int .i64 n,.string s],.agg #[.int .i64 k',.int .i64 n',.string s']] w fun e w'=>e = .returned (.bool (kn k k'))∧Below w.heap.size w w':=by
 by_cases h:k=k'
 ·subst h;by_cases h1:k=1
  ·subst h1;go_enter Tryz.func204,Tryz.ntmps204;go_wp2
   go_ret;exact ⟨fr (by simp [kn]),((Md _ _).alloc (Mc _) _).alloc (by simp) _⟩
  ·have b1:(k != 1)=true:=by simpa using h1
   go_enter Tryz.func204,Tryz.ntmps204;go_wp2
   go_ret;exact ⟨fr (by simp [kn,h1]),((Md _ _).alloc (Mc _) _).alloc (by simp) _⟩
 ·have b1:(k == k')=false:=by simpa using h
  go_enter Tryz.func204,Tryz.ntmps204;go_wp2
  go_ret;exact ⟨fr (by simp [kn,h]),((Md _ _).alloc (Mc _) _).alloc (by simp) _⟩
theorem CX (k n k' n':Int) (s s':ByteArray) (w:World) :
 Calls Tryz.prog 196 #[.agg #[.int .i64 k,.int .i64 n,.string s],.agg #[.int .i64 k',.int .i64 n',.string s']] w fun e w'=>e = .returned (.agg #[.int .i64 (tk (Lj k n s k' n' s')),.int .i64 (tn (Lj k n s k' n' s')),.string ⟨#[]⟩])∧Below w.heap.size w w':=by
 have T:=rP.new w k n k' n' s s';have ee:Lj k n s k' n' s'=if kn k k' then some (dY k n s k' n' s' == 0) else none:=rfl
 rw [ee];clear ee;cases h:kn k k' <;> simp only [if_true,if_false,Nq]
 all_goals (
  go_enter Tryz.func196,Tryz.ntmps196;go_wp2_with fail
  generalize ((w.alloc (.cells #[.int .i64 k,.int .i64 n,.string s] 24)).alloc (.cells #[.int .i64 k',.int .i64 n',.string s'] 24)).alloc (.cells #[.int .i64 0,.int .i64 0,.string ⟨#[]⟩] 24)=W0 at *
  repeat (first | refine (oS _ _ _ _ _ _ _).mono ?_ | refine (lh _ _ _ _ _ _ _).mono ?_ | refine (qY _ _).mono ?_ | refine (dN _).mono ?_
          rintro e w1 ⟨rfl,hb⟩;replace T:=T.next hb;clear hb;have ⟨a0,a1,a2,a3,a4,a5,a6⟩:=T.p;have ⟨b0,b1,b2,b3,b4,b5,b6⟩:=T.q;have ⟨r0,r1,r2,r3,r4,r5,r6⟩:=T.r;try simp only [h]
          go_wp2_with fail)
  have HB:=T.b
  first | exact Me (v:=.agg #[.int .i64 1,.int .i64 0,.string ⟨#[]⟩]) (by simp [results,Tryz.results196,go_sem,r1,r2,r3]) rfl ⟨rfl,aF HB (by omega)⟩ | exact Me (v:=.agg #[.int .i64 2,.int .i64 (tn (some (dY k n s k' n' s' == 0))),.string ⟨#[]⟩]) (by simp [results,Tryz.results196,go_sem,r1,r2,r3]) rfl ⟨rfl,aF HB (by omega)⟩)
theorem FL (k n k' n':Int) (s s':ByteArray) (w:World) :
 Calls Tryz.prog 198 #[.agg #[.int .i64 k,.int .i64 n,.string s],.agg #[.int .i64 k',.int .i64 n',.string s']] w fun e w'=>e = .returned (.agg #[.int .i64 (tk (Ji k n s k' n' s')),.int .i64 (tn (Ji k n s k' n' s')),.string ⟨#[]⟩])∧Below w.heap.size w w':=by
 have T:=rP.new w k n k' n' s s';have ee:Ji k n s k' n' s'=if kn k k' then some (decide (dY k n s k' n' s'<0)) else none:=rfl
 rw [ee];clear ee;cases h:kn k k' <;> simp only [if_true,if_false,Nq]
 all_goals (
  go_enter Tryz.func198,Tryz.ntmps198;go_wp2_with fail
  generalize ((w.alloc (.cells #[.int .i64 k,.int .i64 n,.string s] 24)).alloc (.cells #[.int .i64 k',.int .i64 n',.string s'] 24)).alloc (.cells #[.int .i64 0,.int .i64 0,.string ⟨#[]⟩] 24)=W0 at *
  repeat (first | refine (oS _ _ _ _ _ _ _).mono ?_ | refine (lh _ _ _ _ _ _ _).mono ?_ | refine (qY _ _).mono ?_ | refine (dN _).mono ?_
          rintro e w1 ⟨rfl,hb⟩;replace T:=T.next hb;clear hb;have ⟨a0,a1,a2,a3,a4,a5,a6⟩:=T.p;have ⟨b0,b1,b2,b3,b4,b5,b6⟩:=T.q;have ⟨r0,r1,r2,r3,r4,r5,r6⟩:=T.r;try simp only [h]
          go_wp2_with fail)
  have HB:=T.b
  first | exact Me (v:=.agg #[.int .i64 1,.int .i64 0,.string ⟨#[]⟩]) (by simp [results,Tryz.results198,go_sem,r1,r2,r3]) rfl ⟨rfl,aF HB (by omega)⟩ | exact Me (v:=.agg #[.int .i64 2,.int .i64 (tn (some (decide (dY k n s k' n' s'<0)))),.string ⟨#[]⟩]) (by simp [results,Tryz.results198,go_sem,r1,r2,r3]) rfl ⟨rfl,aF HB (by omega)⟩)
structure dG (w:World) where
 now:World
 ok:Below w.heap.size w now
theorem chain {w a b:World} (h:Below w.heap.size w a) (k:Below a.heap.size a b):Below w.heap.size w b:=h.trans (k.mono h.size)
theorem aI {P:Program} {id:Nat} {Q:Exit→Act→World→Prop} {a:Act} {w:World} {l:List Oper} (hm:P.follows .mixedOrders=true) (hB:Region.lexB .any l.toArray=true)
  (h:wpQuiet P l.toArray (fun w'=>∃ n:dG w,w'=n.now) (fun a'=>∀ w',(∃ n:dG w,w'=n.now)→Q .normal a' w') l a):(Code.region id l.toArray true).wp P Q a w :=
 wp_region_quiet (C:=fun w'=>∃ n:dG w,w'=n.now) hm hB ⟨⟨w.drew,(Md _ _).drew⟩,rfl⟩ (by simpa using h)
theorem du {P:Program} {f:FuncId} {args:Array Value} {w:World} {n:dG w} {v:Value}
  (h:Calls P f args n.now fun e w'=>e = .returned v∧Below n.now.heap.size n.now w'):Calls P f args n.now fun e w''=>e = .returned v∧∃ m:dG w,w''=m.now :=
 h.mono fun _ w' ⟨he,hb⟩=>⟨he,⟨w',chain n.ok hb⟩,rfl⟩
theorem aq {w:World} {p:Addr} {v:Value} (h:w.cell? p=some v) (n:dG w):n.now.cell? p=some v :=
 (n.ok.cell (Mm w p h)).trans h
def dE (k n:Int):Int:=if k=2∨k=3 then n else 0
def fN (k:Int) (s:ByteArray):ByteArray:=if k=4 then s else ⟨#[]⟩
theorem rf {k:Int} {s:ByteArray} (h:¬ k=4):fN k s=⟨#[]⟩:=by simp [fN,h]
theorem Gf {k n:Int} (h2:¬ k=2) (h3:¬ k=3):dE k n=0:=by simp [dE,h2,h3]
theorem JY (k n:Int) (s:ByteArray) (w:World) (h:k=2) :
  Calls Tryz.prog 39 #[.agg #[.int .i64 k,.int .i64 n,.string s]] w fun e w'=>e = .returned (.agg #[.int .i64 2,.int .i64 n,.string ⟨#[]⟩])∧Below w.heap.size w w':=by
 subst h;go_enter Tryz.func39,Tryz.ntmps39;go_wp2
 exact Me (v:=.agg #[.int .i64 2,.int .i64 n,.string ⟨#[]⟩]) (by simp [results,Tryz.results39,go_sem]) rfl ⟨rfl,((Md _ _).alloc (Mc _) _).alloc (by simp) _⟩
theorem JH (k n:Int) (s:ByteArray) (w:World) (h:k=3) :
  Calls Tryz.prog 39 #[.agg #[.int .i64 k,.int .i64 n,.string s]] w fun e w'=>e = .returned (.agg #[.int .i64 3,.int .i64 n,.string ⟨#[]⟩])∧Below w.heap.size w w':=by
 subst h;go_enter Tryz.func39,Tryz.ntmps39;go_wp2
 exact Me (v:=.agg #[.int .i64 3,.int .i64 n,.string ⟨#[]⟩]) (by simp [results,Tryz.results39,go_sem]) rfl ⟨rfl,((Md _ _).alloc (Mc _) _).alloc (by simp) _⟩
theorem JF (k n:Int) (s:ByteArray) (w:World) (h:k=4) :
  Calls Tryz.prog 39 #[.agg #[.int .i64 k,.int .i64 n,.string s]] w fun e w'=>e = .returned (.agg #[.int .i64 4,.int .i64 0,.string s])∧Below w.heap.size w w':=by
 subst h;go_enter Tryz.func39,Tryz.ntmps39;go_wp2
 exact Me (v:=.agg #[.int .i64 4,.int .i64 0,.string s]) (by simp [results,Tryz.results39,go_sem]) rfl ⟨rfl,((Md _ _).alloc (Mc _) _).alloc (by simp) _⟩
theorem J2 (k n:Int) (s:ByteArray) (w:World) (h2:¬ k=2) (h3:¬ k=3) (h4:¬ k=4) :
  Calls Tryz.prog 39 #[.agg #[.int .i64 k,.int .i64 n,.string s]] w fun e w'=>e = .returned (.agg #[.int .i64 k,.int .i64 0,.string ⟨#[]⟩])∧Below w.heap.size w w':=by
 have b2:(k == 2)=false:=by simpa using h2
 have b3:(k == 3)=false:=by simpa using h3
 have b4:(k == 4)=false:=by simpa using h4
 go_enter Tryz.func39,Tryz.ntmps39;go_wp2
 exact Me (v:=.agg #[.int .i64 k,.int .i64 0,.string ⟨#[]⟩]) (by simp [results,Tryz.results39,go_sem]) rfl ⟨rfl,((Md _ _).alloc (Mc _) _).alloc (by simp) _⟩
theorem mQ (k n:Int) (s:ByteArray) (w:World) :
  Calls Tryz.prog 39 #[.agg #[.int .i64 k,.int .i64 n,.string s]] w fun e w'=>e = .returned (.agg #[.int .i64 k,.int .i64 (dE k n),.string (fN k s)])∧Below w.heap.size w w':=by
 by_cases h2:k=2
 ·have e:dE k n=n:=by simp [dE,h2]
  rw [e,rf (by omega),h2];exact JY 2 n s w rfl
 by_cases h3:k=3
 ·have e:dE k n=n:=by simp [dE,h3]
  rw [e,rf (by omega),h3];exact JH 3 n s w rfl
 rw [Gf h2 h3];by_cases h4:k=4
 ·have e:fN k s=s:=by simp [fN,h4]
  rw [e,h4];exact JF 4 n s w rfl
 rw [rf h4];exact J2 k n s w h2 h3 h4
def iL:List Vl→Int
 | []=>0
 | v :: r=>if aU v.1 v.2.1 v.2.2=0 then iL r else aU v.1 v.2.1 v.2.2
def ba (l:List Vl):Int:=if 8<l.length then 5 else iL l
def lZ (w:Int):Bool:=decide (-1000000≤w) && decide (w≤1000000)
theorem oV (l:List Vl) (k:Nat) (h:k<l.length):iL (l.drop k)=if aU l[k].1 l[k].2.1 l[k].2.2=0 then iL (l.drop (k+1)) else aU l[k].1 l[k].2.1 l[k].2.2:=by
 rw [Mi h]; rfl
theorem zW (l:List Vl) (k:Nat) (h:l.length≤k):iL (l.drop k)=0:=by rw [MG h]; rfl
theorem mX:∀ (l:List Vl),iL l=0↔mw l=true
 | []=>by simp [iL,mw]
 | v :: r=>by
  have ih:=mX r
  unfold mw at ih ⊢
  by_cases h:aU v.1 v.2.1 v.2.2=0 <;> simp [iL,h,ih]
theorem dL (l:List Vl):ba l=0↔l.length≤8∧mw l=true:=by
 unfold ba;by_cases h:8<l.length
 ·rw [if_pos h];constructor
  ·intro h'; omega
  ·rintro ⟨h',_⟩; omega
 ·rw [if_neg h,mX];exact ⟨fun h'=>⟨by omega,h'⟩,fun h'=>h'.2⟩
theorem oH (a:Option Addr) (cap:Nat) (l:List Vl) (w:World) (h:bg w a l) :
  Calls Tryz.prog 69 #[.slice a l.length cap] w fun e w'=>e = .returned (.int .i64 (ba l))∧Below w.heap.size w w':=by
 have hl:=h.1;unfold maxLen at hl;by_cases h8:8<l.length
 ·have e:ba l=5:=by simp [ba,h8]
  rw [e];clear e;go_enter Tryz.func69,Tryz.ntmps69;go_wp2
  go_ret;exact ⟨rfl,Md _ _⟩
 ·have e:ba l=iL l:=by simp [ba,h8]
  rw [e];clear e;go_enter Tryz.func69,Tryz.ntmps69;go_wp2_with fail
  go_loopw [11] (fun i w1=>∃ k:Nat,k≤l.length∧i = .int .i64 k∧Hid (iL l=iL (l.drop k))∧Below w.heap.size w w1) (fun i _=>l.length - (intOf i).toNat)
  case atStart=>exact ⟨0,Mj _,rfl,rfl,Md _ _⟩
  case round =>
   obtain ⟨k,hk,rfl,HC,hb⟩:=hrel;have hz:=hb.size;by_cases hlt:k<l.length
   ·obtain ⟨b,off,rfl,hbl,c0,c1,c2⟩:=(h.next hb).elem hlt;by_cases hw:aU l[k].1 l[k].2.1 l[k].2.2=0
    ·have Hw:=aw hw;clear hw;go_wp2_with fail
     refine (iy _ _ _ _).mono ?_;rintro e w1 ⟨rfl,hb1⟩;rw [Hw.out];go_wp2
     go_roundw
     case rel=>exact ⟨k+1,by omega,by go_num,HC.out.trans (by rw [oV l k hlt,if_pos Hw.out]),hb.trans (((Md _ _).alloc hz _).trans (hb1.mono (by simp; omega)))⟩
     case measure=>simp [intOf]; omega
    ·have Hw:=aw hw;have hne:(aU l[k].1 l[k].2.1 l[k].2.2 != 0)=true:=by simpa using hw
     clear hw;go_wp2_with fail
     refine (iy _ _ _ _).mono ?_;rintro e w1 ⟨rfl,hb1⟩;go_wp2
     go_ret;exact ⟨aN (by rw [HC.out,oV l k hlt,if_neg Hw.out]),hb.trans (((Md _ _).alloc hz _).trans (hb1.mono (by simp; omega)))⟩
   ·go_wp2
    go_ret;exact ⟨aN (by rw [HC.out,zW l k (by omega)]),hb⟩
theorem eQ (n:Int) (w:World) :
  Calls Tryz.prog 45 #[.int .i64 n] w fun e w'=>e = .returned (.bool (lZ n))∧w'=w:=by
 by_cases h0:-1000000≤n
 ·have e:lZ n=decide (n≤1000000):=by simp [lZ,h0]
  rw [e];go_enter Tryz.func45,Tryz.ntmps45;go_wp2
  go_ret;exact ⟨rfl,rfl⟩
 ·have e:lZ n=false:=by simp [lZ,h0]
  rw [e];go_enter Tryz.func45,Tryz.ntmps45;go_wp2
  go_ret;exact ⟨rfl,rfl⟩
end Go.Proofs.YtjebpkhkjkjphaaGreat
