/- Together: W4, W5, Ord, Rows1, W2, W9, Past, W10, Z1. -/
import Derived.Laws.StructEq
import Derived.WalkKit
import Derived.BigQuiet
import Derived.Test.YtjebpkhkjkjphaaGreatM0
namespace Go.Proofs.YtjebpkhkjkjphaaGreat
open Go.RowKit
set_option maxRecDepth 100000
set_option maxHeartbeats 16000000
def Row (W:World) (b off:Nat) (l:List (Int × Int × ByteArray)):Prop :=
 ∀ (i:Nat) (h:i<l.length),W.cell? ⟨b,off+i*3,none⟩=some (.int .i64 l[i].1)∧W.cell? ⟨b,off+i*3+1,none⟩=some (.int .i64 l[i].2.1)∧W.cell? ⟨b,off+i*3+2,none⟩=some (.string l[i].2.2)
theorem Row.next {W w1:World} {b off:Nat} {l:List (Int × Int × ByteArray)} (h:Row W b off l) (hlt:b<W.heap.size) (hb:Below W.heap.size W w1):Row w1 b off l :=
 fun i hi=>⟨(hb.cell (p:=⟨b,_,none⟩) hlt).trans (h i hi).1,(hb.cell (p:=⟨b,_,none⟩) hlt).trans (h i hi).2.1,(hb.cell (p:=⟨b,_,none⟩) hlt).trans (h i hi).2.2⟩
theorem xC {a b:Int} (h:a<b):gL a b = -1:=by simp [gL,h]
theorem xr {a b:Int} (h:b<a):gL a b=1:=by
 have:¬ a<b:=by omega
 simp [gL,h,this]
theorem wZ (a:Int):gL a a=0:=by simp [gL]
theorem vt (a b:Int) (w:World) :
  Calls Tryz.prog 133 #[.int .i64 a,.int .i64 b] w fun e w'=>e = .returned (.int .i64 (gL a b))∧w'=w:=by
 rcases Int.lt_trichotomy a b with h | h | h
 ·go_enter Tryz.func133,Tryz.ntmps133;go_wp2
  go_ret;exact ⟨aQ (xC h).symm,rfl⟩
 ·subst h;go_enter Tryz.func133,Tryz.ntmps133;go_wp2
  go_ret;exact ⟨aQ (wZ _).symm,rfl⟩
 ·have h':¬ a<b:=by omega
  go_enter Tryz.func133,Tryz.ntmps133;go_wp2
  go_ret;exact ⟨aQ (xr h).symm,rfl⟩
theorem kH (a b:Int) (w:World) :
  Calls Tryz.prog 134 #[.int .i64 a,.int .i64 b] w fun e w'=>e = .returned (.int .i64 (gL a b))∧w'=w:=by
 rcases Int.lt_trichotomy a b with h | h | h
 ·go_enter Tryz.func134,Tryz.ntmps134;go_wp2
  go_ret;exact ⟨aQ (xC h).symm,rfl⟩
 ·subst h;go_enter Tryz.func134,Tryz.ntmps134;go_wp2
  go_ret;exact ⟨aQ (wZ _).symm,rfl⟩
 ·have h':¬ a<b:=by omega
  go_enter Tryz.func134,Tryz.ntmps134;go_wp2
  go_ret;exact ⟨aQ (xr h).symm,rfl⟩
theorem vO (a b:ByteArray) (w:World) :
  Calls Tryz.prog 135 #[.string a,.string b] w fun e w'=>e = .returned (.int .i64 (jv a b))∧w'=w:=by
 go_enter Tryz.func135,Tryz.ntmps135;go_wp2
 ·go_ret;exact ⟨aQ (by simp [jv, *]),rfl⟩
 ·go_ret;exact ⟨aQ (by simp_all [jv]),rfl⟩
 ·go_ret;exact ⟨aQ (by simp_all [jv]),rfl⟩
theorem EY {k k' n n':Int} {s s':ByteArray} (h:¬ k=k'):dE k n s k' n' s'=gL k k':=by simp [dE,h]
theorem Fm {n n':Int} {s s':ByteArray}:dE 2 n s 2 n' s'=gL n n':=by simp [dE]
theorem Gd {n n':Int} {s s':ByteArray}:dE 3 n s 3 n' s'=gL n n':=by simp [dE]
theorem Ge {n n':Int} {s s':ByteArray}:dE 4 n s 4 n' s'=jv s s':=by simp [dE]
theorem FM {k n n':Int} {s s':ByteArray} (h2:¬ k=2) (h3:¬ k=3) (h4:¬ k=4):dE k n s k n' s'=0:=by simp [dE,h2,h3,h4]
theorem lU (k n k' n':Int) (s s':ByteArray) (w:World) :
  Calls Tryz.prog 104 #[.agg #[.int .i64 k,.int .i64 n,.string s],.agg #[.int .i64 k',.int .i64 n',.string s']] w fun e w'=>e = .returned (.int .i64 (dE k n s k' n' s'))∧Below w.heap.size w w'∧w.drawn≤w'.drawn:=by
 by_cases hk:k=k'
 ·subst hk;by_cases h2:k=2
  ·subst h2;go_enter Tryz.func104,Tryz.ntmps104;go_wp2_with fail
   refine (kH _ _ _).mono ?_;rintro e w1 ⟨rfl,rfl⟩;go_wp2
   go_ret;exact ⟨aQ Fm.symm,((He _ _).alloc (Hd _) _).alloc (by simp) _,Hd _⟩
  by_cases h3:k=3
  ·subst h3;go_enter Tryz.func104,Tryz.ntmps104;go_wp2_with fail
   refine (kH _ _ _).mono ?_;rintro e w1 ⟨rfl,rfl⟩;go_wp2
   go_ret;exact ⟨aQ Gd.symm,((He _ _).alloc (Hd _) _).alloc (by simp) _,Hd _⟩
  by_cases h4:k=4
  ·subst h4;go_enter Tryz.func104,Tryz.ntmps104;go_wp2_with fail
   refine (vO _ _ _).mono ?_;rintro e w1 ⟨rfl,rfl⟩;go_wp2
   go_ret;exact ⟨aQ Ge.symm,((He _ _).alloc (Hd _) _).alloc (by simp) _,Hd _⟩
  have b2:(k == 2)=false:=by simpa using h2
  have b3:(k == 3)=false:=by simpa using h3
  have b4:(k == 4)=false:=by simpa using h4
  go_enter Tryz.func104,Tryz.ntmps104;go_wp2
  go_ret;exact ⟨aQ (FM h2 h3 h4).symm,((He _ _).alloc (Hd _) _).alloc (by simp) _,Hd _⟩
 ·have bk:(k == k')=false:=by simpa using hk
  have bk':(k != k')=true:=by simpa using hk
  go_enter Tryz.func104,Tryz.ntmps104;go_wp2_with fail
  refine (vt _ _ _).mono ?_;rintro e w1 ⟨rfl,rfl⟩;go_wp2
  go_ret;exact ⟨aQ (EY hk).symm,((He _ _).alloc (Hd _) _).alloc (by simp) _,Hd _⟩
theorem jD (k n k' n':Int) (s s':ByteArray) (w:World) :
  Calls Tryz.prog 104 #[.agg #[.int .i64 k,.int .i64 n,.string s],.agg #[.int .i64 k',.int .i64 n',.string s']] w fun e w'=>e = .returned (.int .i64 (dE k n s k' n' s'))∧Below w.heap.size w w' :=
 (lU k n k' n' s s' w).mono fun _ _ h=>⟨h.1,h.2.1⟩
end Go.Proofs.YtjebpkhkjkjphaaGreat
namespace Go.Proofs.YtjebpkhkjkjphaaGreat
set_option maxRecDepth 100000
set_option maxHeartbeats 16000000
theorem lW:∀ x:List UInt8,Op.bytesLess x x=false
 | []=>rfl
 | a :: x=>by
  have:=lW x
  simp [Op.bytesLess,this,UInt8.lt_irrefl]
theorem sf:∀ x y:List UInt8,Op.bytesLess x y=true→Op.bytesLess y x=false
 | [],[]=>fun _=>rfl
 | [],_ :: _=>fun _=>rfl
 | _ :: _,[]=>fun h=>by simp [Op.bytesLess] at h
 | a :: x,b :: y=>fun h=>by
  simp only [Op.bytesLess,Bool.or_eq_true,decide_eq_true_eq,IB,beq_iff_eq] at h
  rcases h with h | ⟨rfl,h⟩
  ·have h1:¬ b<a:=UInt8.lt_asymm h
   have h2:¬ b=a:=fun e=>UInt8.lt_irrefl _ (e ▸ h)
   simp [Op.bytesLess,h1,h2]
  ·simp [Op.bytesLess,sf x y h,UInt8.lt_irrefl]
theorem rR:∀ x y:List UInt8,Op.bytesLess x y=false→¬ x=y→Op.bytesLess y x=true
 | [],[]=>fun _ h=>absurd rfl h
 | [],_ :: _=>fun h _=>by simp [Op.bytesLess] at h
 | _ :: _,[]=>fun _ _=>rfl
 | a :: x,b :: y=>fun h hne=>by
  simp only [Op.bytesLess,Bool.or_eq_false_iff,decide_eq_false_iff_not,Bool.and_eq_false_imp,beq_iff_eq] at h
  by_cases e:a=b
  ·subst e
   have h2:=rR x y (h.2 rfl) (fun e=>hne (by rw [e]))
   simp [Op.bytesLess,h2]
  ·have:b<a:=by
    rcases UInt8.lt_or_lt_of_ne e with h' | h'
    ·exact absurd h' h.1
    ·exact h'
   simp [Op.bytesLess,this]
theorem sP:∀ x y z:List UInt8,Op.bytesLess x y=true→Op.bytesLess y z=true→Op.bytesLess x z=true
 | _,[],_=>fun h _=>by cases ‹List UInt8› <;> simp [Op.bytesLess] at h
 | _,_ :: _,[]=>fun _ h=>by simp [Op.bytesLess] at h
 | [],_ :: _,_ :: _=>fun _ _=>rfl
 | a :: x,b :: y,c :: z=>fun h k=>by
  simp only [Op.bytesLess,Bool.or_eq_true,decide_eq_true_eq,IB,beq_iff_eq] at h k ⊢
  rcases h with h | ⟨rfl,h⟩
  ·rcases k with k | ⟨rfl,k⟩
   ·exact .inl (UInt8.lt_trans h k)
   ·exact .inl h
  ·rcases k with k | ⟨rfl,k⟩
   ·exact .inl k
   ·exact .inr ⟨rfl,sP x y z h k⟩
theorem sF (a b:Int):gL a b = -gL b a:=by unfold gL; split <;> split <;> (try split) <;> omega
theorem pT (a b:Int):gL a b=0↔a=b:=by unfold gL; split <;> (try split) <;> omega
theorem qE (a b:Int):gL a b≤0↔a≤b:=by unfold gL; split <;> (try split) <;> omega
theorem Ck (a b:ByteArray):jv a b = -jv b a:=by
 unfold jv;by_cases e:a.toList=b.toList
 ·simp [e,lW]
 ·have e':¬ b.toList=a.toList:=fun h=>e h.symm
  cases h:Op.bytesLess a.toList b.toList
  ·have:=rR _ _ h e;simp [this,e]
  ·have:=sf _ _ h;simp [this,e']
theorem yM (a b:ByteArray):jv a b=0↔a.toList=b.toList:=by
 unfold jv;by_cases e:a.toList=b.toList
 ·simp [e,lW]
 ·cases h:Op.bytesLess a.toList b.toList <;> simp [e]
theorem CX (a b c:ByteArray) (h:jv a b≤0) (k:jv b c≤0):jv a c≤0:=by
 unfold jv at *;by_cases e:a.toList=b.toList
 ·rw [e]; exact k
 by_cases e':b.toList=c.toList
 ·rw [← e']; exact h
 have h1:Op.bytesLess a.toList b.toList=true:=by
  cases h':Op.bytesLess a.toList b.toList
  ·simp [h',e] at h
  ·rfl
 have k1:Op.bytesLess b.toList c.toList=true:=by
  cases h':Op.bytesLess b.toList c.toList
  ·simp [h',e'] at k
  ·rfl
 simp [sP _ _ _ h1 k1]
theorem Bz (k n k' n':Int) (s s':ByteArray):dE k n s k' n' s' = -dE k' n' s' k n s:=by
 unfold dE;by_cases e:k=k'
 ·subst e;by_cases h:k=2∨k=3
  ·simp [h]; exact sF _ _
  ·by_cases h4:k=4
   ·simp [h4]; exact Ck _ _
   ·simp [h,h4]
 ·have e':¬ k'=k:=fun h=>e h.symm
  simp [e,e']; exact sF _ _
theorem uZ (k n k' n' k'' n'':Int) (s s' s'':ByteArray) (h:dE k n s k' n' s'≤0) (j:dE k' n' s' k'' n'' s''≤0):dE k n s k'' n'' s''≤0:=by
 unfold dE at *;by_cases e:k=k'
 ·subst e;by_cases e':k=k''
  ·subst e';by_cases h2:k=2∨k=3
   ·simp [h2] at h j ⊢;rw [qE] at *;omega
   ·by_cases h4:k=4
    ·simp [h4] at h j ⊢;exact CX _ _ _ h j
    ·simp [h2,h4]
  ·simp [e'] at j ⊢;exact j
 ·by_cases e':k'=k''
  ·subst e';simp [e] at h ⊢;exact h
  ·simp [e] at h;simp [e'] at j;rw [qE] at h j;have:¬ k=k'':=by omega
   simp [this];rw [qE];omega
end Go.Proofs.YtjebpkhkjkjphaaGreat
namespace Go.Proofs.YtjebpkhkjkjphaaGreat
open Go.RowKit
set_option maxRecDepth 100000
set_option maxHeartbeats 16000000
abbrev Vl:Type:=Int × Int × ByteArray
def dg (x y:Vl):Int:=dE x.1 x.2.1 x.2.2 y.1 y.2.1 y.2.2
def aL:List Vl→List Vl→Int
 | [],[]=>0
 | [],_ :: _=>-1
 | _ :: _,[]=>1
 | x :: r,y :: t=>if dg x y=0 then aL r t else dg x y
theorem wO (a b:Int):-1≤gL a b∧gL a b≤1:=by unfold gL; split <;> (try split) <;> omega
theorem Du (a b:ByteArray):-1≤jv a b∧jv a b≤1:=by unfold jv; split <;> (try split) <;> omega
theorem DG (x y:Vl):-1≤dg x y∧dg x y≤1:=by
 unfold dg dE
 split
 ·exact wO _ _
 ·split
  ·exact wO _ _
  ·split
   ·exact Du _ _
   ·omega
theorem ry:∀ l t:List Vl,-1≤aL l t∧aL l t≤1
 | [],[]=>by simp [aL]
 | [],_ :: _=>by simp [aL]
 | _ :: _,[]=>by simp [aL]
 | x :: r,y :: t=>by
  unfold aL
  split
  ·exact ry r t
  ·exact DG x y
theorem lB (x y:Vl):dg x y = -dg y x:=Bz _ _ _ _ _ _
theorem aX:∀ l t:List Vl,aL t l = -aL l t
 | [],[]=>rfl
 | [],_ :: _=>rfl
 | _ :: _,[]=>rfl
 | x :: r,y :: t=>by
  have h:=lB x y
  unfold aL
  by_cases e:dg y x=0
  ·have e':dg x y=0:=by omega
   simp only [e,e',if_true]
   exact aX r t
  ·have e':¬ dg x y=0:=by omega
   simp only [e,e',if_false]
   omega
theorem pS (l t:List Vl) (k:Nat) (h:k<l.length) (h':k<t.length):aL (l.drop k) (t.drop k)=if dg l[k] t[k]=0 then aL (l.drop (k+1)) (t.drop (k+1)) else dg l[k] t[k]:=by
 rw [Hk h,Hk h'];rfl
theorem zw (l t:List Vl) (k:Nat) (h:k<l.length) (h':t.length≤k):aL (l.drop k) (t.drop k)=1:=by
 rw [Hk h,Ig h'];rfl
theorem uO (l t:List Vl) (k:Nat) (h:l.length≤k) (h':k<t.length):aL (l.drop k) (t.drop k) = -1:=by
 rw [Hk h',Ig h];rfl
theorem zO (l t:List Vl) (k:Nat) (h:l.length≤k) (h':t.length≤k):aL (l.drop k) (t.drop k)=0:=by
 rw [Ig h,Ig h'];rfl
def aY (W:World) (a:Option Addr) (l:List Vl):Prop :=
 l.length≤maxLen∧(l = []∨∃ b off,a=some ⟨b,off,none⟩∧Row W b off l∧b<W.heap.size)
theorem aY.next {W w1:World} {a:Option Addr} {l:List Vl} (h:aY W a l) (hb:Below W.heap.size W w1):aY w1 a l:=by
 obtain ⟨h0,h | ⟨b,off,e,hr,hlt⟩⟩:=h
 ·exact ⟨h0,.inl h⟩
 ·exact ⟨h0,.inr ⟨b,off,e,hr.next hlt hb,Hi hlt hb.size⟩⟩
theorem aY.elem {W:World} {a:Option Addr} {l:List Vl} (h:aY W a l) {k:Nat} (hk:k<l.length) :
  ∃ b off,a=some ⟨b,off,none⟩∧b<W.heap.size∧W.cell? ⟨b,off+k*3,none⟩=some (.int .i64 l[k].1)∧W.cell? ⟨b,off+k*3+1,none⟩=some (.int .i64 l[k].2.1)∧W.cell? ⟨b,off+k*3+2,none⟩=some (.string l[k].2.2):=by
 obtain ⟨_,h | ⟨b,off,e,hr,hlt⟩⟩:=h
 ·subst h; simp at hk
 ·exact ⟨b,off,e,hlt,hr k hk⟩
theorem pw (a a':Option Addr) (cap cap':Nat) (l l':List Vl) (w:World) (h:aY w a l) (h':aY w a' l') :
  Calls Tryz.prog 103 #[.slice a l.length cap,.slice a' l'.length cap',.func (.func 104) #[] #[]] w fun e w'=>e = .returned (.int .i64 (aL l l'))∧Below w.heap.size w w'∧w.drawn≤w'.drawn:=by
 have hl:=h.1;have hl':=h'.1;unfold maxLen at hl hl';go_enter Tryz.func103,Tryz.ntmps103;go_wp2
 go_loopw [13] (fun i w1=>∃ k:Nat,k≤l.length∧k≤l'.length∧i = .int .i64 k∧Hid (aL l l'=aL (l.drop k) (l'.drop k))∧Below w.heap.size w w1∧w.drawn≤w1.drawn) (fun i _=>l.length - (intOf i).toNat)
 case atStart=>exact ⟨0,Hl _,Hl _,rfl,rfl,He _ _,Hd _⟩
 case round =>
  obtain ⟨k,hk,hk',rfl,HC,hb,hd⟩:=hrel;have HD:Hid (w.drawn≤wr.drawn):=hd;clear hd;have hz:=hb.size;by_cases hlt:k<l.length
  ·obtain ⟨b,off,rfl,hbl,c0,c1,c2⟩:=(h.next hb).elem hlt;by_cases hlt':k<l'.length
   ·have hb2:=((He wr.heap.size wr).alloc (Hd _) (.cells #[.int .i64 l[k].1,.int .i64 l[k].2.1,.string l[k].2.2] 24))
    obtain ⟨b',off',rfl,hbl',d0,d1,d2⟩:=((h'.next hb).next hb2).elem hlt';clear hb2;by_cases e:dg l[k] l'[k]=0
    ·have E:Hid (dg l[k] l'[k]=0):=e;clear e;go_wp2_with fail
     refine (lU _ _ _ _ _ _ _).mono ?_;rintro e w1 ⟨rfl,hb1,hd1⟩;have HD1:Hid (wr.drawn≤w1.drawn):=hd1;clear hd1;rw [show dE l[k].1 l[k].2.1 l[k].2.2 l'[k].1 l'[k].2.1 l'[k].2.2=0 from E.out];go_wp2
     go_roundw
     case rel=>exact ⟨k+1,by omega,by omega,by go_num,HC.out.trans (by rw [pS l l' k hlt hlt',if_pos E.out]),hb.trans ((((He _ _).alloc hz _).alloc (by simp; omega) _).trans (hb1.mono (by simp; omega))),HJ HD.out HD1.out⟩
     case measure=>simp [intOf]; omega
    ·have E:Hid (¬ dg l[k] l'[k]=0):=e;have E2:(dE l[k].1 l[k].2.1 l[k].2.2 l'[k].1 l'[k].2.1 l'[k].2.2 != 0)=true:=by simpa [dg] using e
     clear e;go_wp2_with fail
     refine (lU _ _ _ _ _ _ _).mono ?_;rintro e w1 ⟨rfl,hb1,hd1⟩;have HD1:Hid (wr.drawn≤w1.drawn):=hd1;clear hd1;go_wp2
     go_ret;exact ⟨aQ (by rw [HC.out,pS l l' k hlt hlt',if_neg E.out]; rfl),hb.trans ((((He _ _).alloc hz _).alloc (by simp; omega) _).trans (hb1.mono (by simp; omega))),HJ HD.out HD1.out⟩
   ·go_wp2
    go_ret;exact ⟨aQ (by rw [HC.out,zw l l' k hlt (by omega)]),hb.alloc hz _,HD.out⟩
  ·by_cases hlt':k<l'.length
   ·have e:k=l.length:=by omega
    have hll:l.length<l'.length:=by omega
    go_wp2
    go_ret;exact ⟨aQ (by rw [HC.out,uO l l' k (by omega) hlt']),hb,HD.out⟩
   ·have hll:¬ l.length<l'.length:=by omega
    go_wp2
    go_ret;exact ⟨aQ (by rw [HC.out,zO l l' k (by omega) (by omega)]),hb,HD.out⟩
theorem uq (a a':Option Addr) (cap cap':Nat) (l l':List Vl) (w:World) (h:aY w a l) (h':aY w a' l') :
  Calls Tryz.prog 70 #[.slice a l.length cap,.slice a' l'.length cap'] w fun e w'=>e = .returned (.int .i64 (aL l l'))∧Below w.heap.size w w'∧w.drawn≤w'.drawn:=by
 go_enter Tryz.func70,Tryz.ntmps70;go_wp2_with fail
 refine (pw _ _ _ _ _ _ _ h h').mono ?_;rintro e w1 ⟨rfl,hb1,hd1⟩;go_wp2
 go_ret;exact ⟨rfl,hb1,hd1⟩
theorem kP (a a':Option Addr) (cap cap':Nat) (l l':List Vl) (w:World) (h:aY w a l) (h':aY w a' l') :
  Calls Tryz.prog 70 #[.slice a l.length cap,.slice a' l'.length cap'] w fun e w'=>e = .returned (.int .i64 (aL l l'))∧Below w.heap.size w w' :=
 (uq a a' cap cap' l l' w h h').mono fun _ _ h=>⟨h.1,h.2.1⟩
structure ph (w W:World) (x y z x' y' z':Value):Prop where
 b:Below w.heap.size w W
 p:fy W w.heap.size x y z
 q:fy W (w.heap.size+1) x' y' z'
 r:fy W (w.heap.size+2) (.int .i64 0) (.int .i64 0) (.string ⟨#[]⟩)
theorem ph.next {w W W1:World} {x y z x' y' z':Value} (h:ph w W x y z x' y' z') (hb:Below W.heap.size W W1):ph w W1 x y z x' y' z':=⟨h.b.trans (hb.mono h.b.size),h.p.next hb,h.q.next hb,h.r.next hb⟩
theorem ph.new (w:World) (k n k' n':Int) (s s':ByteArray):ph w (((w.alloc (.cells #[.int .i64 k,.int .i64 n,.string s] 24)).alloc (.cells #[.int .i64 k',.int .i64 n',.string s'] 24)).alloc (.cells #[.int .i64 0,.int .i64 0,.string ⟨#[]⟩] 24)) (.int .i64 k) (.int .i64 n) (.string s) (.int .i64 k') (.int .i64 n') (.string s'):=by
 have q:=(fy.new (w.alloc (.cells #[.int .i64 k,.int .i64 n,.string s] 24)) (.int .i64 k') (.int .i64 n') (.string s') 24).alloc (.cells #[.int .i64 0,.int .i64 0,.string ⟨#[]⟩] 24);have r:=fy.new ((w.alloc (.cells #[.int .i64 k,.int .i64 n,.string s] 24)).alloc (.cells #[.int .i64 k',.int .i64 n',.string s'] 24)) (.int .i64 0) (.int .i64 0) (.string ⟨#[]⟩) 24;simp only [Hg] at q r;exact ⟨(((He _ _).alloc (Hd _) _).alloc (by simp) _).alloc (by simp; omega) _,((fy.new w (.int .i64 k) (.int .i64 n) (.string s) 24).alloc _).alloc _,q,r⟩
structure yd (w W:World) (x y z:Value):Prop where
 b:Below w.heap.size w W
 p:fy W w.heap.size x y z
 r:fy W (w.heap.size+1) (.int .i64 0) (.int .i64 0) (.string ⟨#[]⟩)
theorem yd.next {w W W1:World} {x y z:Value} (h:yd w W x y z) (hb:Below W.heap.size W W1):yd w W1 x y z:=⟨h.b.trans (hb.mono h.b.size),h.p.next hb,h.r.next hb⟩
theorem yd.new (w:World) (k n:Int) (s:ByteArray):yd w ((w.alloc (.cells #[.int .i64 k,.int .i64 n,.string s] 24)).alloc (.cells #[.int .i64 0,.int .i64 0,.string ⟨#[]⟩] 24)) (.int .i64 k) (.int .i64 n) (.string s):=by
 have r:=fy.new (w.alloc (.cells #[.int .i64 k,.int .i64 n,.string s] 24)) (.int .i64 0) (.int .i64 0) (.string ⟨#[]⟩) 24;simp only [Hg] at r;exact ⟨((He _ _).alloc (Hd _) _).alloc (by simp) _,(fy.new w (.int .i64 k) (.int .i64 n) (.string s) 24).alloc _,r⟩
theorem DT (k n k' n' : Int) (s s' : ByteArray) (w : World) :
    Calls Tryz.prog 194 #[.agg #[.int .i64 k, .int .i64 n, .string s], .agg #[.int .i64 k', .int .i64 n', .string s']] w fun e w' => e = .returned (.agg #[.int .i64 (tk (FW (cls k n) (cls k' n'))), .int .i64 (tn (FW (cls k n) (cls k' n'))), .string ⟨#[]⟩]) ∧ Below w.heap.size w w' := by
  have T := ph.new w k n k' n' s s'
  rcases h1 : cls k n with _ | _ | _ <;> rcases h2 : cls k' n' with _ | _ | _
  all_goals (
    go_enter Tryz.func194, Tryz.ntmps194
    go_wp2_with fail
    generalize ((w.alloc (.cells #[.int .i64 k, .int .i64 n, .string s] 24)).alloc (.cells #[.int .i64 k', .int .i64 n', .string s'] 24)).alloc (.cells #[.int .i64 0, .int .i64 0, .string ⟨#[]⟩] 24) = W0 at *
    repeat (first | refine (jA _ _ _ _).mono ?_ | refine (dB _ _ _ _).mono ?_ | refine (jf _).mono ?_ | refine (iJ _).mono ?_ | refine (dp _).mono ?_
            rintro e w1 ⟨rfl, hb⟩
            replace T := T.next hb
            clear hb
            have ⟨a0, a1, a2, a3, a4, a5, a6⟩ := T.p
            have ⟨b0, b1, b2, b3, b4, b5, b6⟩ := T.q
            have ⟨r0, r1, r2, r3, r4, r5, r6⟩ := T.r
            try simp only [h1, h2]
            go_wp2_with fail)
    have HB := T.b
    first | exact Hf (v := .agg #[.int .i64 1, .int .i64 0, .string ⟨#[]⟩]) (by simp [results, Tryz.results194, go_sem, r1, r2, r3]) rfl ⟨rfl, aF HB (by omega)⟩ | exact Hf (v := .agg #[.int .i64 2, .int .i64 0, .string ⟨#[]⟩]) (by simp [results, Tryz.results194, go_sem, r1, r2, r3]) rfl ⟨rfl, aF HB (by omega)⟩ | exact Hf (v := .agg #[.int .i64 2, .int .i64 1, .string ⟨#[]⟩]) (by simp [results, Tryz.results194, go_sem, r1, r2, r3]) rfl ⟨rfl, aF HB (by omega)⟩)
theorem Gc (k n k' n' : Int) (s s' : ByteArray) (w : World) :
    Calls Tryz.prog 195 #[.agg #[.int .i64 k, .int .i64 n, .string s], .agg #[.int .i64 k', .int .i64 n', .string s']] w fun e w' => e = .returned (.agg #[.int .i64 (tk (GP (cls k n) (cls k' n'))), .int .i64 (tn (GP (cls k n) (cls k' n'))), .string ⟨#[]⟩]) ∧ Below w.heap.size w w' := by
  have T := ph.new w k n k' n' s s'
  rcases h1 : cls k n with _ | _ | _ <;> rcases h2 : cls k' n' with _ | _ | _
  all_goals (
    go_enter Tryz.func195, Tryz.ntmps195
    go_wp2_with fail
    generalize ((w.alloc (.cells #[.int .i64 k, .int .i64 n, .string s] 24)).alloc (.cells #[.int .i64 k', .int .i64 n', .string s'] 24)).alloc (.cells #[.int .i64 0, .int .i64 0, .string ⟨#[]⟩] 24) = W0 at *
    repeat (first | refine (jA _ _ _ _).mono ?_ | refine (dB _ _ _ _).mono ?_ | refine (jf _).mono ?_ | refine (iJ _).mono ?_ | refine (dp _).mono ?_
            rintro e w1 ⟨rfl, hb⟩
            replace T := T.next hb
            clear hb
            have ⟨a0, a1, a2, a3, a4, a5, a6⟩ := T.p
            have ⟨b0, b1, b2, b3, b4, b5, b6⟩ := T.q
            have ⟨r0, r1, r2, r3, r4, r5, r6⟩ := T.r
            try simp only [h1, h2]
            go_wp2_with fail)
    have HB := T.b
    first | exact Hf (v := .agg #[.int .i64 1, .int .i64 0, .string ⟨#[]⟩]) (by simp [results, Tryz.results195, go_sem, r1, r2, r3]) rfl ⟨rfl, aF HB (by omega)⟩ | exact Hf (v := .agg #[.int .i64 2, .int .i64 0, .string ⟨#[]⟩]) (by simp [results, Tryz.results195, go_sem, r1, r2, r3]) rfl ⟨rfl, aF HB (by omega)⟩ | exact Hf (v := .agg #[.int .i64 2, .int .i64 1, .string ⟨#[]⟩]) (by simp [results, Tryz.results195, go_sem, r1, r2, r3]) rfl ⟨rfl, aF HB (by omega)⟩)
theorem wW (k n : Int) (s : ByteArray) (w : World) :
    Calls Tryz.prog 172 #[.agg #[.int .i64 k, .int .i64 n, .string s]] w fun e w' => e = .returned (.agg #[.int .i64 (tk (od (cls k n))), .int .i64 (tn (od (cls k n))), .string ⟨#[]⟩]) ∧ Below w.heap.size w w' := by
  have T := yd.new w k n s
  rcases h1 : cls k n with _ | _ | _
  all_goals (
    go_enter Tryz.func172, Tryz.ntmps172
    go_wp2_with fail
    generalize (w.alloc (.cells #[.int .i64 k, .int .i64 n, .string s] 24)).alloc (.cells #[.int .i64 0, .int .i64 0, .string ⟨#[]⟩] 24) = W0 at *
    repeat (first | refine (jA _ _ _ _).mono ?_ | refine (dB _ _ _ _).mono ?_ | refine (jf _).mono ?_ | refine (iJ _).mono ?_ | refine (dp _).mono ?_
            rintro e w1 ⟨rfl, hb⟩
            replace T := T.next hb
            clear hb
            have ⟨a0, a1, a2, a3, a4, a5, a6⟩ := T.p
            have ⟨r0, r1, r2, r3, r4, r5, r6⟩ := T.r
            try simp only [h1]
            go_wp2_with fail)
    have HB := T.b
    first | exact Hf (v := .agg #[.int .i64 1, .int .i64 0, .string ⟨#[]⟩]) (by simp [results, Tryz.results172, go_sem, r1, r2, r3]) rfl ⟨rfl, aF HB (by omega)⟩ | exact Hf (v := .agg #[.int .i64 2, .int .i64 0, .string ⟨#[]⟩]) (by simp [results, Tryz.results172, go_sem, r1, r2, r3]) rfl ⟨rfl, aF HB (by omega)⟩ | exact Hf (v := .agg #[.int .i64 2, .int .i64 1, .string ⟨#[]⟩]) (by simp [results, Tryz.results172, go_sem, r1, r2, r3]) rfl ⟨rfl, aF HB (by omega)⟩)
def jk (k k':Int):Bool:=k == k' && k != 1
def GH (k n:Int) (s:ByteArray) (k' n':Int) (s':ByteArray):Option Bool:=if jk k k' then some (dE k n s k' n' s' == 0) else none
def EC (k n:Int) (s:ByteArray) (k' n':Int) (s':ByteArray):Option Bool:=if jk k k' then some (decide (dE k n s k' n' s'<0)) else none
theorem mU (k n k' n':Int) (s s':ByteArray) (w:World) :
  Calls Tryz.prog 204 #[.agg #[.int .i64 k,.int .i64 n,.string s],.agg #[.int .i64 k',.int .i64 n',.string s']] w fun e w'=>e = .returned (.bool (jk k k'))∧Below w.heap.size w w':=by
 by_cases h:k=k'
 ·subst h;by_cases h1:k=1
  ·subst h1;go_enter Tryz.func204,Tryz.ntmps204;go_wp2
   go_ret;exact ⟨eF (by simp [jk]),((He _ _).alloc (Hd _) _).alloc (by simp) _⟩
  ·have b1:(k != 1)=true:=by simpa using h1
   go_enter Tryz.func204,Tryz.ntmps204;go_wp2
   go_ret;exact ⟨eF (by simp [jk,h1]),((He _ _).alloc (Hd _) _).alloc (by simp) _⟩
 ·have b1:(k == k')=false:=by simpa using h
  go_enter Tryz.func204,Tryz.ntmps204;go_wp2
  go_ret;exact ⟨eF (by simp [jk,h]),((He _ _).alloc (Hd _) _).alloc (by simp) _⟩
theorem zj (k n k' n' : Int) (s s' : ByteArray) (w : World) :
    Calls Tryz.prog 196 #[.agg #[.int .i64 k, .int .i64 n, .string s], .agg #[.int .i64 k', .int .i64 n', .string s']] w fun e w' => e = .returned (.agg #[.int .i64 (tk (GH k n s k' n' s')), .int .i64 (tn (GH k n s k' n' s')), .string ⟨#[]⟩]) ∧ Below w.heap.size w w' := by
  have T := ph.new w k n k' n' s s'
  have ee : GH k n s k' n' s' = if jk k k' then some (dE k n s k' n' s' == 0) else none := rfl
  rw [ee]
  clear ee
  cases h : jk k k' <;> simp only [if_true, if_false, I9]
  all_goals (
    go_enter Tryz.func196, Tryz.ntmps196
    go_wp2_with fail
    generalize ((w.alloc (.cells #[.int .i64 k, .int .i64 n, .string s] 24)).alloc (.cells #[.int .i64 k', .int .i64 n', .string s'] 24)).alloc (.cells #[.int .i64 0, .int .i64 0, .string ⟨#[]⟩] 24) = W0 at *
    repeat (first | refine (mU _ _ _ _ _ _ _).mono ?_ | refine (jD _ _ _ _ _ _ _).mono ?_ | refine (oB _ _).mono ?_ | refine (dp _).mono ?_
            rintro e w1 ⟨rfl, hb⟩
            replace T := T.next hb
            clear hb
            have ⟨a0, a1, a2, a3, a4, a5, a6⟩ := T.p
            have ⟨b0, b1, b2, b3, b4, b5, b6⟩ := T.q
            have ⟨r0, r1, r2, r3, r4, r5, r6⟩ := T.r
            try simp only [h]
            go_wp2_with fail)
    have HB := T.b
    first | exact Hf (v := .agg #[.int .i64 1, .int .i64 0, .string ⟨#[]⟩]) (by simp [results, Tryz.results196, go_sem, r1, r2, r3]) rfl ⟨rfl, aF HB (by omega)⟩ | exact Hf (v := .agg #[.int .i64 2, .int .i64 (tn (some (dE k n s k' n' s' == 0))), .string ⟨#[]⟩]) (by simp [results, Tryz.results196, go_sem, r1, r2, r3]) rfl ⟨rfl, aF HB (by omega)⟩)
theorem AQ (k n k' n' : Int) (s s' : ByteArray) (w : World) :
    Calls Tryz.prog 198 #[.agg #[.int .i64 k, .int .i64 n, .string s], .agg #[.int .i64 k', .int .i64 n', .string s']] w fun e w' => e = .returned (.agg #[.int .i64 (tk (EC k n s k' n' s')), .int .i64 (tn (EC k n s k' n' s')), .string ⟨#[]⟩]) ∧ Below w.heap.size w w' := by
  have T := ph.new w k n k' n' s s'
  have ee : EC k n s k' n' s' = if jk k k' then some (decide (dE k n s k' n' s' < 0)) else none := rfl
  rw [ee]
  clear ee
  cases h : jk k k' <;> simp only [if_true, if_false, I9]
  all_goals (
    go_enter Tryz.func198, Tryz.ntmps198
    go_wp2_with fail
    generalize ((w.alloc (.cells #[.int .i64 k, .int .i64 n, .string s] 24)).alloc (.cells #[.int .i64 k', .int .i64 n', .string s'] 24)).alloc (.cells #[.int .i64 0, .int .i64 0, .string ⟨#[]⟩] 24) = W0 at *
    repeat (first | refine (mU _ _ _ _ _ _ _).mono ?_ | refine (jD _ _ _ _ _ _ _).mono ?_ | refine (oB _ _).mono ?_ | refine (dp _).mono ?_
            rintro e w1 ⟨rfl, hb⟩
            replace T := T.next hb
            clear hb
            have ⟨a0, a1, a2, a3, a4, a5, a6⟩ := T.p
            have ⟨b0, b1, b2, b3, b4, b5, b6⟩ := T.q
            have ⟨r0, r1, r2, r3, r4, r5, r6⟩ := T.r
            try simp only [h]
            go_wp2_with fail)
    have HB := T.b
    first | exact Hf (v := .agg #[.int .i64 1, .int .i64 0, .string ⟨#[]⟩]) (by simp [results, Tryz.results198, go_sem, r1, r2, r3]) rfl ⟨rfl, aF HB (by omega)⟩ | exact Hf (v := .agg #[.int .i64 2, .int .i64 (tn (some (decide (dE k n s k' n' s' < 0)))), .string ⟨#[]⟩]) (by simp [results, Tryz.results198, go_sem, r1, r2, r3]) rfl ⟨rfl, aF HB (by omega)⟩)
structure du (w:World) where
 now:World
 ok:Below w.heap.size w now
theorem chain {w a b:World} (h:Below w.heap.size w a) (k:Below a.heap.size a b):Below w.heap.size w b:=h.trans (k.mono h.size)
theorem aI {P:Program} {id:Nat} {Q:Exit→Act→World→Prop} {a:Act} {w:World} {l:List Oper} (hm:P.follows .mixedOrders=true) (hB:Region.lexB .any l.toArray=true)
  (h:wpQuiet P l.toArray (fun w'=>∃ n:du w,w'=n.now) (fun a'=>∀ w',(∃ n:du w,w'=n.now)→Q .normal a' w') l a):(Code.region id l.toArray true).wp P Q a w :=
 wp_region_quiet (C:=fun w'=>∃ n:du w,w'=n.now) hm hB ⟨⟨w.drew,(He _ _).drew⟩,rfl⟩ (by simpa using h)
theorem cS {P:Program} {f:FuncId} {args:Array Value} {w:World} {n:du w} {v:Value}
  (h:Calls P f args n.now fun e w'=>e = .returned v∧Below n.now.heap.size n.now w'):Calls P f args n.now fun e w''=>e = .returned v∧∃ m:du w,w''=m.now :=
 h.mono fun _ w' ⟨he,hb⟩=>⟨he,⟨w',chain n.ok hb⟩,rfl⟩
theorem ax {w:World} {p:Addr} {v:Value} (h:w.cell? p=some v) (n:du w):n.now.cell? p=some v :=
 (n.ok.cell (Hy w p h)).trans h
def di (k n:Int):Int:=if k=2∨k=3 then n else 0
def fl (k:Int) (s:ByteArray):ByteArray:=if k=4 then s else ⟨#[]⟩
theorem oQ {k:Int} {s:ByteArray} (h:¬ k=4):fl k s=⟨#[]⟩:=by simp [fl,h]
theorem Cp {k n:Int} (h2:¬ k=2) (h3:¬ k=3):di k n=0:=by simp [di,h2,h3]
theorem Fh (k n:Int) (s:ByteArray) (w:World) (h:k=2) :
  Calls Tryz.prog 39 #[.agg #[.int .i64 k,.int .i64 n,.string s]] w fun e w'=>e = .returned (.agg #[.int .i64 2,.int .i64 n,.string ⟨#[]⟩])∧Below w.heap.size w w':=by
 subst h;go_enter Tryz.func39,Tryz.ntmps39;go_wp2
 exact Hf (v:=.agg #[.int .i64 2,.int .i64 n,.string ⟨#[]⟩]) (by simp [results,Tryz.results39,go_sem]) rfl ⟨rfl,((He _ _).alloc (Hd _) _).alloc (by simp) _⟩
theorem F9 (k n:Int) (s:ByteArray) (w:World) (h:k=3) :
  Calls Tryz.prog 39 #[.agg #[.int .i64 k,.int .i64 n,.string s]] w fun e w'=>e = .returned (.agg #[.int .i64 3,.int .i64 n,.string ⟨#[]⟩])∧Below w.heap.size w w':=by
 subst h;go_enter Tryz.func39,Tryz.ntmps39;go_wp2
 exact Hf (v:=.agg #[.int .i64 3,.int .i64 n,.string ⟨#[]⟩]) (by simp [results,Tryz.results39,go_sem]) rfl ⟨rfl,((He _ _).alloc (Hd _) _).alloc (by simp) _⟩
theorem Fz (k n:Int) (s:ByteArray) (w:World) (h:k=4) :
  Calls Tryz.prog 39 #[.agg #[.int .i64 k,.int .i64 n,.string s]] w fun e w'=>e = .returned (.agg #[.int .i64 4,.int .i64 0,.string s])∧Below w.heap.size w w':=by
 subst h;go_enter Tryz.func39,Tryz.ntmps39;go_wp2
 exact Hf (v:=.agg #[.int .i64 4,.int .i64 0,.string s]) (by simp [results,Tryz.results39,go_sem]) rfl ⟨rfl,((He _ _).alloc (Hd _) _).alloc (by simp) _⟩
theorem Ff (k n:Int) (s:ByteArray) (w:World) (h2:¬ k=2) (h3:¬ k=3) (h4:¬ k=4) :
  Calls Tryz.prog 39 #[.agg #[.int .i64 k,.int .i64 n,.string s]] w fun e w'=>e = .returned (.agg #[.int .i64 k,.int .i64 0,.string ⟨#[]⟩])∧Below w.heap.size w w':=by
 have b2:(k == 2)=false:=by simpa using h2
 have b3:(k == 3)=false:=by simpa using h3
 have b4:(k == 4)=false:=by simpa using h4
 go_enter Tryz.func39,Tryz.ntmps39;go_wp2
 exact Hf (v:=.agg #[.int .i64 k,.int .i64 0,.string ⟨#[]⟩]) (by simp [results,Tryz.results39,go_sem]) rfl ⟨rfl,((He _ _).alloc (Hd _) _).alloc (by simp) _⟩
theorem kR (k n:Int) (s:ByteArray) (w:World) :
  Calls Tryz.prog 39 #[.agg #[.int .i64 k,.int .i64 n,.string s]] w fun e w'=>e = .returned (.agg #[.int .i64 k,.int .i64 (di k n),.string (fl k s)])∧Below w.heap.size w w':=by
 by_cases h2:k=2
 ·have e:di k n=n:=by simp [di,h2]
  rw [e,oQ (by omega),h2];exact Fh 2 n s w rfl
 by_cases h3:k=3
 ·have e:di k n=n:=by simp [di,h3]
  rw [e,oQ (by omega),h3];exact F9 3 n s w rfl
 rw [Cp h2 h3];by_cases h4:k=4
 ·have e:fl k s=s:=by simp [fl,h4]
  rw [e,h4];exact Fz 4 n s w rfl
 rw [oQ h4];exact Ff k n s w h2 h3 h4
def jG:List Vl→Int
 | []=>0
 | v :: r=>if aR v.1 v.2.1 v.2.2=0 then jG r else aR v.1 v.2.1 v.2.2
def bt (l:List Vl):Int:=if 8<l.length then 5 else jG l
def ke (w:Int):Bool:=decide (-1000000≤w) && decide (w≤1000000)
theorem mK (l:List Vl) (k:Nat) (h:k<l.length):jG (l.drop k)=if aR l[k].1 l[k].2.1 l[k].2.2=0 then jG (l.drop (k+1)) else aR l[k].1 l[k].2.1 l[k].2.2:=by
 rw [Hk h]; rfl
theorem wj (l:List Vl) (k:Nat) (h:l.length≤k):jG (l.drop k)=0:=by rw [Ig h]; rfl
theorem mJ (a:Option Addr) (cap:Nat) (l:List Vl) (w:World) (h:aY w a l) :
  Calls Tryz.prog 69 #[.slice a l.length cap] w fun e w'=>e = .returned (.int .i64 (bt l))∧Below w.heap.size w w':=by
 have hl:=h.1;unfold maxLen at hl;by_cases h8:8<l.length
 ·have e:bt l=5:=by simp [bt,h8]
  rw [e];clear e;go_enter Tryz.func69,Tryz.ntmps69;go_wp2
  go_ret;exact ⟨rfl,He _ _⟩
 ·have e:bt l=jG l:=by simp [bt,h8]
  rw [e];clear e;go_enter Tryz.func69,Tryz.ntmps69;go_wp2_with fail
  go_loopw [11] (fun i w1=>∃ k:Nat,k≤l.length∧i = .int .i64 k∧Hid (jG l=jG (l.drop k))∧Below w.heap.size w w1) (fun i _=>l.length - (intOf i).toNat)
  case atStart=>exact ⟨0,Hl _,rfl,rfl,He _ _⟩
  case round =>
   obtain ⟨k,hk,rfl,HC,hb⟩:=hrel;have hz:=hb.size;by_cases hlt:k<l.length
   ·obtain ⟨b,off,rfl,hbl,c0,c1,c2⟩:=(h.next hb).elem hlt;by_cases hw:aR l[k].1 l[k].2.1 l[k].2.2=0
    ·have Hw:Hid (aR l[k].1 l[k].2.1 l[k].2.2=0):=hw;clear hw;go_wp2_with fail
     refine (gr _ _ _ _).mono ?_;rintro e w1 ⟨rfl,hb1⟩;rw [Hw.out];go_wp2
     go_roundw
     case rel=>exact ⟨k+1,by omega,by go_num,HC.out.trans (by rw [mK l k hlt,if_pos Hw.out]),hb.trans (((He _ _).alloc hz _).trans (hb1.mono (by simp; omega)))⟩
     case measure=>simp [intOf]; omega
    ·have Hw:Hid (¬ aR l[k].1 l[k].2.1 l[k].2.2=0):=hw;have hne:(aR l[k].1 l[k].2.1 l[k].2.2 != 0)=true:=by simpa using hw
     clear hw;go_wp2_with fail
     refine (gr _ _ _ _).mono ?_;rintro e w1 ⟨rfl,hb1⟩;go_wp2
     go_ret;exact ⟨aQ (by rw [HC.out,mK l k hlt,if_neg Hw.out]),hb.trans (((He _ _).alloc hz _).trans (hb1.mono (by simp; omega)))⟩
   ·go_wp2
    go_ret;exact ⟨aQ (by rw [HC.out,wj l k (by omega)]),hb⟩
theorem ec (n:Int) (w:World) :
  Calls Tryz.prog 45 #[.int .i64 n] w fun e w'=>e = .returned (.bool (ke n))∧w'=w:=by
 by_cases h0:-1000000≤n
 ·have e:ke n=decide (n≤1000000):=by simp [ke,h0]
  rw [e];go_enter Tryz.func45,Tryz.ntmps45;go_wp2
  go_ret;exact ⟨rfl,rfl⟩
 ·have e:ke n=false:=by simp [ke,h0]
  rw [e];go_enter Tryz.func45,Tryz.ntmps45;go_wp2
  go_ret;exact ⟨rfl,rfl⟩
end Go.Proofs.YtjebpkhkjkjphaaGreat
