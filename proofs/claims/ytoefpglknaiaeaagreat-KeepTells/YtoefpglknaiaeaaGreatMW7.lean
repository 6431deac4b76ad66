import Derived.Shelf.Abstract
import Derived.Shelf.SlSortCmp.WholeK
import Derived.Shelf.Lay
import Derived.Ground.SlsfProg
import Derived.Deep.Slices
import Derived.Shelf.SlSortCmp.NoneTotal
import Derived.Test.YtoefpglknaiaeaaGreatMW4
set_option maxHeartbeats 16000000
set_option maxRecDepth 100000
namespace Go.Proofs.YtoefpglknaiaeaaGreat
open Go.RowKit _root_.Go.Proofs.Tryz
def bF (f:Int→Int):List Zp→List Zp
 | []=>[]
 | x :: r=>if f x.2=0 then bF f r else (aX x.1,f x.2) :: bF f r
theorem uq (f:Int→Int) (l t:List Zp):bF f (l ++ t)=bF f l ++ bF f t:=by
 induction l with
 | nil=>rfl
 | cons x r ih =>
  rw [Nu,bF,bF,ih]
  split <;> simp
theorem qE (f:Int→Int) (l:List Zp) (k:Nat) (h:k<l.length):bF f (l.take (k+1))=bF f (l.take k) ++ (if f l[k].2=0 then [] else [(aX l[k].1,f l[k].2)]):=by
 rw [MJ h,uq];simp [bF]
theorem nJ (f:Int→Int) (l:List Zp):(bF f l).length≤l.length:=by
 induction l with
 | nil=>simp [bF]
 | cons x r ih =>
  rw [bF]
  split <;> simp <;> omega
def oX (g:Nat) (cb:Array Value) (f:Int→Int) (w:World):Prop :=
 ∀ (x:Int) (W:World),gV x=true→Below w.heap.size w W→Calls prog g (#[.int .i64 x] ++ cb) W fun e w'=>e = .returned (.int .i64 (f x))∧Below W.heap.size W w'
theorem nX (g:Nat) (cb:Array Value) (f:Int→Int) (a:Option Addr) (cap:Nat) (l:List Zp) (w:World) (h:aK w a l)
  (eg:∀ args w,(callFunc g args).run prog w = .ok (.enter g args) w) (hm:oX g cb f w) (hl:l.length≤200000) (hr:∀ x ∈ l,x.1.length≤8) (hw:∀ x ∈ l,gV x.2=true) :
  Calls prog 83 #[.slice a l.length cap,.func (.func g) #[] cb] w fun e w'=>∃ v,e = .returned v∧eA w w' v (bF f l)∧Below w w w':=by
 obtain ⟨i0,hi,hj0,hj1,hj2⟩:=info_parts Tryz.fK;go_enter func83,ntmps83;go_wp2_with fail
 go_loopw [5,11] (fun v i wr=>∃ k:Nat,k≤l.length∧i = .int .i64 k∧eA w wr v (bF f (l.take k))∧Below w w wr) (fun _ i _=>l.length - (intOf i).toNat)
 case atStart=>exact ⟨0,MD _,rfl,⟨[],by simpa [bF] using M4 _ _ _ _,by simp [bF,yX]⟩,Mz _ _⟩
 case round =>
  obtain ⟨k,hk,rfl,HO,hb⟩:=hrel;have hz:=hb.size;by_cases hlt:k<l.length
  ·obtain ⟨b,off,rfl,hbl,c1,ar,cr,c0,sr⟩:=(h.next hb).elem hlt;have hin:=hw l[k] (MC hlt);have h8:=hr l[k] (MC hlt);have HI:Hid (gV l[k].2=true):=hin;have H8:Hid (l[k].1.length≤8):=h8;clear hin h8;have hlen:=nJ f (l.take k);simp only [MR] at hlen;by_cases h0:f l[k].2=0
   ·have H0:Hid (f l[k].2=0):=h0;clear h0;go_wp2_with (go_at_fn g; refine (hm _ _ HI.out (hb.alloc hz _)).mono ?_; rintro e w1 ⟨rfl,hb1⟩; rw [H0.out])
    go_roundw
    case rel=>exact ⟨k+1,by omega,by go_num,by rw [qE f l k hlt,if_pos H0.out,M8]; exact (HO.next ((Mz _ _).alloc (Mx _) _)).next hb1,l9 hb hb1⟩
    case measure=>simp [intOf]; omega
   ·have H0:Hid (¬ f l[k].2=0):=h0;have n0:(f l[k].2 != 0)=true:=by simpa using h0
    clear h0;obtain ⟨xs,ho,he⟩:=HO;go_wp2_with (go_at_fn g; refine (hm _ _ HI.out (hb.alloc hz _)).mono ?_; rintro e w1 ⟨rfl,hb1⟩; have q0:w1.cell? (ah wr 0)=some (.slice ar l[k].1.length cr):=(hb1.cell (p:=ah wr 0) (by simp)).trans (by simp))
    have hb1':=l9 hb hb1;have hz1:=hb1'.size;have s1:=(sr.next ((Mz _ _).alloc (Mx _) _)).next hb1;have o1:=aL (aL ho ((Mz _ _).alloc (Mx _) _)) hb1;have e1:=(he.next ((Mz _ _).alloc (Mx _) _)).next hb1;refine (Bx _ _ _ _ s1 H8.out).mono ?_;rintro e w2 ⟨rfl,⟨s2,t2⟩,hb2⟩;have o2:=aL o1 hb2;have e2:=e1.next hb2;have hz2':=hb2.size;clear o1 e1 ho he s1;have bl:(aX l[k].1).length=l[k].1.length:=by simp [aX]
    have ss:=(s2.next ((Mz _ _).alloc (Mx _) (.cells #[.slice (some (ah w1 0)) l[k].1.length l[k].1.length,.int .i64 (f l[k].2)] 47)))
    have st:=(t2.next ((Mz _ _).alloc (Mx _) (.cells #[.slice (some (ah w1 0)) l[k].1.length l[k].1.length,.int .i64 (f l[k].2)] 47)))
    have eo:=e2.next ((Mz _ _).alloc (Mx _) (.cells #[.slice (some (ah w1 0)) l[k].1.length l[k].1.length,.int .i64 (f l[k].2)] 47));go_wp2_with (at_builtin; (refine MX _ rfl _ _ 38 rfl w 47 i0 _ 2 32 underlying38 hi hj0 hj1 hj2 rfl (by decide) _ _ _ rfl (o2.alloc _) (ah w2 0) 1 1 [.slice (some (ah w1 0)) l[k].1.length l[k].1.length,.int .i64 (f l[k].2)] rfl rfl ?c1 ?c2 ?c3 ?c4 ?c5 ?_))
    case c1 =>
     intro j u hj
     match j,hj with
     | 0,hj=>simp at hj; subst hj; simp [Addr.add]
     | 1,hj=>simp at hj; subst hj; simp [Addr.add]
    case c2=>intro u hu; simp at hu; rcases hu with rfl | rfl <;> rfl
    case c3=>unfold maxLen; omega
    case c4=>omega
    case c5=>simp; omega
    intro v' w3 ho3 hg3 _;have R:=G3 (o2.alloc _) eo ss st (by rw [bl]; exact ho3) hg3;have hb3:Below w w w3:=((bg hb1' hb2).alloc ag _).grown hg3 (by simp; omega) (fun q hq=>((o2.alloc (.cells #[.slice (some (ah w1 0)) l[k].1.length l[k].1.length,.int .i64 (f l[k].2)] 47)).lt q hq).1);clear ho3 hg3 o2 e2 eo ss st s2 t2;go_wp2
    go_roundw
    case rel=>exact ⟨k+1,by omega,by go_num,by rw [qE f l k hlt,if_neg H0.out]; exact R,hb3⟩
    case measure=>simp [intOf]; omega
  ·have e:k=l.length:=by omega
   subst e;rw [MM] at HO;obtain ⟨av,cv,rfl,_⟩:=HO.zs;go_wp2
   go_ret;exact ⟨_,rfl,HO,hb⟩
end Go.Proofs.YtoefpglknaiaeaaGreat
namespace Go.Proofs.YtoefpglknaiaeaaGreat
theorem iH (x y z:Vl) (h:dP x y≤0) (j:dP y z≤0):dP x z≤0:=Bk _ _ _ _ _ _ _ _ _ h j
theorem dU:∀ a b c:List Vl,aF a b≤0→aF b c≤0→aF a c≤0
 | [],_,[]=>by simp [aF]
 | [],_,_ :: _=>by simp [aF]
 | _ :: _,[],_=>by simp [aF]
 | _ :: _,_ :: _,[]=>by simp [aF]
 | x :: r,y :: t,z :: u=>by
  have ih:=dU r t u
  have t1:=iH x y z
  have t2:=iH y x z
  have t3:=iH z y x
  have t4:=iH x z y
  have t5:=iH y z x
  have t6:=iH z x y
  have n1:=oZ x y
  have n2:=oZ y z
  have n3:=oZ x z
  unfold aF
  split <;> split <;> split <;> intro h1 h2 <;> first | exact ih h1 h2 | omega
theorem fm (a:List Vl):aF a a=0:=by have:=bm a a; omega
theorem dD {a b c:List Vl} (h:aF a b<0) (k:aF b c≤0):aF a c<0:=by
 have t:=dU b c a;have n1:=bm a b;have n2:=bm a c;omega
theorem An {a b c:List Vl} (h:aF a b≤0) (k:aF b c<0):aF a c<0:=by
 have t:=dU c a b;have n1:=bm b c;have n2:=bm a c;omega
theorem fQ {a b:List Vl} (h:aF a b=0) (c:List Vl):aF a c=aF b c:=by
 have t1:=dU a b c;have t2:=dU b a c;have t3:=dU c a b;have t4:=dU c b a;have n1:=bm a b;have n2:=bm a c;have n3:=bm b c;have b1:=rF a c;have b2:=rF b c;omega
theorem sf {a b:List Vl} (h:aF a b=0) (c:List Vl):aF c a=aF c b:=by
 have:=fQ h c;have n2:=bm a c;have n3:=bm b c;omega
theorem AW (k n k' n':Int) (s s':ByteArray):cR k (dY k n) (gz k s) k' n' s'=cR k n s k' n' s':=by
 unfold cR dY gz;by_cases h:k=k'
 ·subst h;by_cases h2:k=2∨k=3
  ·simp [h2]
  ·by_cases h4:k=4
   ·simp [h4]
   ·simp [h2,h4]
 ·simp [h]
theorem CM (x y:Vl):dP (cM x) y=dP x y:=AW _ _ _ _ _ _
theorem fq:∀ a b:List Vl,aF (aX a) b=aF a b
 | [],[]=>rfl
 | [],_ :: _=>rfl
 | _ :: _,[]=>rfl
 | x :: r,y :: t=>by
  have ih:=fq r t
  show (if dP (cM x) y=0 then aF (aX r) t else dP (cM x) y)=_
  rw [CM,ih]; rfl
theorem im (a b:List Vl):aF a (aX b)=aF a b:=by
 have:=fq b a;have n1:=bm a b;have n2:=bm a (aX b);omega
theorem toList_inj {s t:ByteArray} (h:s.toList=t.toList):s=t:=by
 rw [ByteArray.toList_eq,ByteArray.toList_eq] at h;rcases s with ⟨⟨s⟩⟩
 rcases t with ⟨⟨t⟩⟩
 simpa using h
theorem Gv {x y:Vl} (h:dP x y=0):cM x=cM y:=by
 unfold dP cR at h;unfold cM dY gz;by_cases e:x.1=y.1
 ·simp only [e,ne_eq,not_true,if_false] at h ⊢;by_cases h2:y.1=2∨y.1=3
  ·simp only [h2,if_true] at h ⊢;rw [uK] at h;have h4:¬ y.1=4:=by omega
   simp [h,h4]
  ·by_cases h4:y.1=4
   ·simp [h4] at h;rw [Dm] at h;simp [h2,toList_inj h]
   ·simp [h2,h4]
 ·simp only [e,ne_eq,not_false_iff,if_true] at h;rw [uK] at h;exact absurd h e
theorem rV:∀ {a b:List Vl},aF a b=0→aX a=aX b
 | [],[],_=>rfl
 | [],_ :: _,h=>by simp [aF] at h
 | _ :: _,[],h=>by simp [aF] at h
 | x :: r,y :: t,h=>by
  unfold aF at h
  by_cases e:dP x y=0
  ·rw [if_pos e] at h
   show cM x :: aX r=cM y :: aX t
   rw [Gv e,rV h]
  ·rw [if_neg e] at h
   exact absurd h e
theorem Bo (x:Vl):cM (cM x)=cM x:=by
 unfold cM dY gz;by_cases h:x.1=2∨x.1=3 <;> by_cases h4:x.1=4 <;> simp [h,h4]
theorem lB (l:List Vl):aX (aX l)=aX l:=by
 simp [aX,Bo]
theorem Br (x:Vl):aO (cM x).1 (cM x).2.1 (cM x).2.2=aO x.1 x.2.1 x.2.2:=by
 unfold cM dY gz aO;by_cases h1:x.1=1
 ·simp [h1]
 by_cases h2:x.1=2
 ·simp [h2]
 by_cases h3:x.1=3
 ·simp [h3]
 by_cases h4:x.1=4
 ·simp [h4]
 simp [h1,h2,h3,h4]
theorem lC (l:List Vl):bZ (aX l)=bZ l:=by
 unfold bZ aX;rw [List.all_map]
 congr 1
 funext x
 simp [Br]
theorem dB (l:List Vl):(aX l).length=l.length:=by simp [aX]
theorem nF (l:List Vl):aQ (aX l)=0↔aQ l=0:=by rw [bR,bR,dB,lC]
def wt:List Zp→List Vl→Int
 | [],_=>0
 | x :: r,q=>(if aF x.1 q=0 then x.2 else 0)+wt r q
theorem cL (l t:List Zp) (q:List Vl):wt (l ++ t) q=wt l q+wt t q:=by
 induction l with
 | nil=>simp [wt]
 | cons x r ih=>rw [Nu,wt,wt,ih]; omega
theorem ID {l t:List Zp} (h:l.Perm t) (q:List Vl):wt l q=wt t q:=by
 induction h with
 | nil=>rfl
 | cons x _ ih=>rw [wt,wt,ih]
 | swap x y l=>simp only [wt]; omega
 | trans _ _ h1 h2=>exact h1.trans h2
theorem oN {l:List Zp} {q:List Vl} (h:∀ x ∈ l,¬ aF x.1 q=0):wt l q=0:=by
 induction l with
 | nil=>rfl
 | cons x r ih =>
  rw [wt,if_neg (h x (by simp)),ih (fun y hy=>h y (by simp [hy]))];rfl
theorem jz {q q':List Vl} (h:aF q q'=0) (l:List Zp):wt l q=wt l q':=by
 induction l with
 | nil=>rfl
 | cons x r ih=>rw [wt,wt,ih,sf h]
def fh (z:List Zp):Prop:=z.Pairwise fun x y=>aF x.1 y.1<0
structure gJ (z:List Zp):Prop where
 i7:fh z
 ne:∀ x ∈ z,x.2≠0
 bare:∀ x ∈ z,aX x.1=x.1
theorem gJ.tail {x:Zp} {r:List Zp} (h:gJ (x :: r)):gJ r:=⟨(List.pairwise_cons.1 h.i7).2,fun y hy=>h.ne y (by simp [hy]),fun y hy=>h.bare y (by simp [hy])⟩
theorem mO {x:Zp} {r:List Zp} (h:fh (x :: r)):wt (x :: r) x.1=x.2:=by
 rw [wt,if_pos (fm _),oN]
 ·omega
 ·intro y hy;have:=(List.pairwise_cons.1 h).1 y hy;have n:=bm x.1 y.1;omega
theorem sW {z:List Zp} (h:fh z):∀ x ∈ z,wt z x.1=x.2:=by
 induction z with
 | nil=>intro x hx; cases hx
 | cons y t ih =>
  intro x hx;rcases List.mem_cons.1 hx with rfl | hx
  ·exact mO h
  ·have h':=List.pairwise_cons.1 h;have:=h'.1 x hx;rw [wt,if_neg ag,ih h'.2 x hx];omega
theorem pf {x:Zp} {t:List Zp} (_h:fh t) (hx:∀ y ∈ t,aF x.1 y.1<0):wt t x.1=0 :=
 oN fun y hy=>by have:=hx y hy; have:=bm x.1 y.1; omega
theorem oa:∀ (z z':List Zp),gJ z→gJ z'→(∀ q,wt z q=wt z' q)→z=z'
 | [],[],_,_,_=>rfl
 | [],y :: t,_,h',e=>by
  have:=e y.1
  rw [mO h'.i7] at this
  exact absurd this.symm (h'.ne y (by simp))
 | x :: r,[],h,_,e=>by
  have:=e x.1
  rw [mO h.i7] at this
  exact absurd this (h.ne x (by simp))
 | x :: r,y :: t,h,h',e=>by
  have p:=List.pairwise_cons.1 h.i7
  have p':=List.pairwise_cons.1 h'.i7
  have ex:=e x.1
  have ey:=e y.1
  rw [mO h.i7] at ex
  rw [mO h'.i7] at ey
  have nx:=h.ne x (by simp)
  have ny:=h'.ne y (by simp)
  by_cases c:aF x.1 y.1=0
  ·have e1:x.1=y.1:=by
    have:=rV c
    rwa [h.bare x (by simp),h'.bare y (by simp)] at this
   have e2:x.2=y.2:=by
    rw [e1,mO h'.i7] at ex
    exact ex
   have exy:x=y:=Prod.ext e1 e2
   subst exy
   rw [oa r t h.tail h'.tail fun q=>by have:=e q; rw [wt,wt] at this; omega]
  ·exfalso
   have n:=bm x.1 y.1
   by_cases c':aF x.1 y.1<0
   ·rw [pf h'.i7 (x:=x) (fun v hv=>by
     rcases List.mem_cons.1 hv with rfl | hv
     ·exact c'
     ·exact dD c' (by have:=p'.1 v hv; omega))] at ex
    exact nx ex
   ·rw [pf h.i7 (x:=y) (fun v hv=>by
     rcases List.mem_cons.1 hv with rfl | hv
     ·omega
     ·exact dD (b:=x.1) ag (by have:=p.1 v hv; omega))] at ey
    exact ny ey.symm
def cI:List Zp→List Vl→Int→List Zp
 | [],r,w=>if w=0 then [] else [(aX r,w)]
 | y :: t,r,w=>if aF y.1 r<0 then y :: cI t r w else if aF y.1 r=0 then (if w+y.2=0 then t else (aX r,w+y.2) :: t) else (if w=0 then y :: t else (aX r,w) :: y :: t)
theorem rY (r:List Vl) (w:Int) (b:List Vl) (hb:aF b r<0):∀ z:List Zp,(∀ y ∈ z,aF b y.1<0)→∀ y ∈ cI z r w,aF b y.1<0
 | [],_=>by
  unfold cI
  split
  ·simp
  ·intro y hy; simp at hy; subst hy; rw [im]; exact hb
 | x :: t,h=>by
  have hx:=h x (by simp)
  have ht:∀ y ∈ t,aF b y.1<0:=fun y hy=>h y (by simp [hy])
  have ih:=rY r w b hb t ht
  unfold cI
  split
  ·intro y hy
   rcases List.mem_cons.1 hy with rfl | hy
   ·exact hx
   ·exact ih y hy
  ·split
   ·split
    ·exact ht
    ·intro y hy
     rcases List.mem_cons.1 hy with rfl | hy
     ·show aF b (aX r)<0
      rw [im]; exact hb
     ·exact ht y hy
   ·split
    ·exact h
    ·intro y hy
     rcases List.mem_cons.1 hy with rfl | hy
     ·show aF b (aX r)<0
      rw [im]; exact hb
     ·exact h y hy
theorem vw (r:List Vl) (w:Int):∀ z:List Zp,fh z→fh (cI z r w)
 | [],_=>by unfold cI; split <;> simp [fh]
 | x :: t,h=>by
  have p:=List.pairwise_cons.1 h
  unfold cI
  split
  ·rename_i c
   exact List.pairwise_cons.2 ⟨rY r w x.1 c t p.1,vw r w t p.2⟩
  ·split
   ·rename_i c
    split
    ·exact p.2
    ·refine List.pairwise_cons.2 ⟨fun y hy=>?_,p.2⟩
     show aF (aX r) y.1<0
     rw [fq,← fQ c]
     exact p.1 y hy
   ·rename_i c c'
    split
    ·exact h
    ·refine List.pairwise_cons.2 ⟨fun y hy=>?_,h⟩
     show aF (aX r) y.1<0
     rw [fq]
     have n:=bm x.1 r
     rcases List.mem_cons.1 hy with rfl | hy
     ·omega
     ·exact dD (b:=x.1) ag (by have:=p.1 y hy; omega)
theorem Ip (r:List Vl) (w:Int):∀ z:List Zp,gJ z→gJ (cI z r w):=fun z h=>by
 refine ⟨vw r w z h.i7,?_,?_⟩
 ·have hn:=h.ne
  clear h
  induction z with
  | nil=>unfold cI; split <;> simp_all
  | cons x t ih =>
   have ih:=ih (fun y hy=>hn y (by simp [hy]))
   have hx:=hn x (by simp)
   unfold cI
   split
   ·intro y hy
    rcases List.mem_cons.1 hy with rfl | hy
    ·exact hx
    ·exact ih y hy
   ·split
    ·split
     ·exact fun y hy=>hn y (by simp [hy])
     ·intro y hy
      rcases List.mem_cons.1 hy with rfl | hy
      ·assumption
      ·exact hn y (by simp [hy])
    ·split
     ·exact hn
     ·intro y hy
      rcases List.mem_cons.1 hy with rfl | hy
      ·assumption
      ·exact hn y hy
 ·have hn:=h.bare
  clear h
  induction z with
  | nil =>
   unfold cI
   split
   ·simp
   ·intro y hy; simp at hy; subst hy; exact lB r
  | cons x t ih =>
   have ih:=ih (fun y hy=>hn y (by simp [hy]))
   have hx:=hn x (by simp)
   unfold cI
   split
   ·intro y hy
    rcases List.mem_cons.1 hy with rfl | hy
    ·exact hx
    ·exact ih y hy
   ·split
    ·split
     ·exact fun y hy=>hn y (by simp [hy])
     ·intro y hy
      rcases List.mem_cons.1 hy with rfl | hy
      ·exact lB r
      ·exact hn y (by simp [hy])
    ·split
     ·exact hn
     ·intro y hy
      rcases List.mem_cons.1 hy with rfl | hy
      ·exact lB r
      ·exact hn y hy
theorem Cu (r:List Vl) (w:Int) (q:List Vl):∀ z:List Zp,wt (cI z r w) q=wt z q+(if aF r q=0 then w else 0)
 | []=>by
  unfold cI
  split
  ·rename_i h; subst h; simp [wt]
  ·simp [wt,fq]
 | x :: t=>by
  have ih:=Cu r w q t
  unfold cI
  split
  ·rw [wt,ih,wt]; omega
  ·split
   ·rename_i c
    have e:=fQ c q
    split
    ·rename_i h0
     rw [wt,e]
     split <;> omega
    ·rw [wt,wt,e]
     simp only [fq]
     split <;> omega
   ·split
    ·rename_i h0; subst h0; simp
    ·rw [wt]
     simp only [fq]
     omega
def canon (l:List Zp):List Zp:=l.foldl (fun z x=>cI z x.1 x.2) []
theorem Bj (l:List Zp):∀ z:List Zp,gJ z→gJ (l.foldl (fun z x=>cI z x.1 x.2) z):=by
 induction l with
 | nil=>intro z h; exact h
 | cons x r ih=>intro z h; exact ih _ (Ip _ _ _ h)
theorem DK (l:List Zp) (q:List Vl):∀ z:List Zp,wt (l.foldl (fun z x=>cI z x.1 x.2) z) q=wt z q+wt l q:=by
 induction l with
 | nil=>intro z; simp [wt]
 | cons x r ih=>intro z; rw [NA,ih,Cu,wt]; omega
theorem set_nil:gJ []:=⟨Om,by simp,by simp⟩
theorem eM (l:List Zp):gJ (canon l):=Bj l [] set_nil
theorem gS (l:List Zp) (q:List Vl):wt (canon l) q=wt l q:=by
 unfold canon;rw [DK];simp [wt]
theorem sh {z l:List Zp} (h:gJ z) (e:∀ q,wt z q=wt l q):z=canon l :=
 oa _ _ h (eM l) fun q=>(e q).trans (gS l q).symm
theorem jQ (f:Int→Int) (z:List Zp):∀ y ∈ bF f z,∃ x ∈ z,y=(aX x.1,f x.2)∧¬ f x.2=0:=by
 induction z with
 | nil=>intro y hy; cases hy
 | cons x r ih =>
  intro y hy;unfold bF at hy
  split at hy
  ·obtain ⟨u,hu,e⟩:=ih y hy;exact ⟨u,by simp [hu],e⟩
  ·rename_i h0
   rcases List.mem_cons.1 hy with rfl | hy
   ·exact ⟨x,by simp,rfl,h0⟩
   ·obtain ⟨u,hu,e⟩:=ih y hy;exact ⟨u,by simp [hu],e⟩
theorem qA (f:Int→Int):∀ z:List Zp,fh z→fh (bF f z)
 | [],_=>Om
 | x :: r,h=>by
  have p:=List.pairwise_cons.1 h
  have ih:=qA f r p.2
  unfold bF
  split
  ·exact ih
  ·refine List.pairwise_cons.2 ⟨fun y hy=>?_,ih⟩
   obtain ⟨u,hu,rfl,_⟩:=jQ f r y hy
   show aF (aX x.1) (aX u.1)<0
   rw [fq,im]
   exact p.1 u hu
theorem nL (f:Int→Int) (z:List Zp) (h:fh z):gJ (bF f z) :=
 ⟨qA f z h,fun y hy=>by obtain ⟨u,_,rfl,h0⟩:=jQ f z y hy; exact h0,fun y hy=>by obtain ⟨u,_,rfl,h0⟩:=jQ f z y hy; exact lB u.1⟩
theorem jy (f:Int→Int) (f0:f 0=0) (q:List Vl):∀ z:List Zp,fh z→wt (bF f z) q=f (wt z q)
 | [],_=>by simp [bF,wt,f0]
 | x :: r,h=>by
  have p:=List.pairwise_cons.1 h
  have ih:=jy f f0 q r p.2
  by_cases c:aF x.1 q=0
  ·have z0:wt r q=0:=by
    rw [jz (q:=q) (q':=x.1) (by have:=bm x.1 q; omega)];exact pf p.2 p.1
   rw [z0,f0] at ih;unfold bF
   split
   ·rename_i h0
    rw [ih,wt,if_pos c,z0];simp [h0]
   ·rw [wt,wt,ih,z0];simp [fq,c]
  ·unfold bF
   split
   ·rw [ih,wt,if_neg c]; simp
   ·rw [wt,wt,ih];simp [fq,c]
def jX (acc:List Zp) (x:Zp):List Zp :=
 match acc.getLast? with
 | none=>[x]
 | some y=>if aF y.1 x.1=0 then acc.dropLast ++ [(y.1,y.2+x.2)] else acc ++ [x]
def cW (l:List Zp):List Zp:=l.foldl jX []
theorem jo (l:List Zp) (x:Zp):cW (l ++ [x])=jX (cW l) x:=by simp [cW]
theorem mB (x:Zp):jX [] x = [x]:=rfl
theorem jh (a:List Zp) (y x:Zp):jX (a ++ [y]) x=if aF y.1 x.1=0 then a ++ [(y.1,y.2+x.2)] else a ++ [y] ++ [x]:=by simp [jX]
theorem sg {p:List Zp→Prop} (h0:p []) (h1:∀ l x,p l→p (l ++ [x])):∀ l,p l:=by
 have key:∀ (n:Nat) (l:List Zp),l.length=n→p l:=by
  intro n
  induction n with
  | zero=>intro l h; rw [MH h]; exact h0
  | succ n ih =>
   intro l h;rcases List.eq_nil_or_concat l with rfl | ⟨a,y,rfl⟩
   ·exact h0
   ·rw [Og];exact h1 a y (ih a (by simpa using h))
 exact fun l=>key l.length l rfl
structure wH (l z:List Zp):Prop where
 i7:fh z
 wt:∀ q,wt z q=wt l q
 row:∀ y ∈ z,∃ x ∈ l,y.1=x.1
theorem wH.push {l z:List Zp} (h:wH l z) {x:Zp} (hx:∀ y ∈ l,aF y.1 x.1≤0):wH (l ++ [x]) (jX z x):=by
 rcases List.eq_nil_or_concat z with rfl | ⟨a,y,rfl⟩
 ·rw [mB];refine ⟨by simp [fh],fun q=>?_,?_⟩
  ·rw [cL,← h.wt q]; simp [YtoefpglknaiaeaaGreat.wt]
  ·intro y hy; simp at hy; subst hy; exact ⟨y,by simp,rfl⟩
 ·rw [Og] at h ⊢;have hr:=List.pairwise_append.1 h.i7;have hy:aF y.1 x.1≤0:=by
   obtain ⟨u,hu,e⟩:=h.row y (by simp);rw [e]; exact hx u hu
  rw [jh]
  split
  ·rename_i c
   refine ⟨?_,fun q=>?_,?_⟩
   ·refine List.pairwise_append.2 ⟨hr.1,by simp,?_⟩;intro u hu v hv;simp at hv;subst hv;exact hr.2.2 u hu y (by simp)
   ·have:=h.wt q;rw [cL] at this ⊢;rw [cL,← this];simp only [YtoefpglknaiaeaaGreat.wt,← fQ c q]
    split <;> omega
   ·intro u hu;simp at hu;rcases hu with hu | rfl
    ·obtain ⟨v,hv,e⟩:=h.row u (by simp [hu]);exact ⟨v,by simp [hv],e⟩
    ·obtain ⟨v,hv,e⟩:=h.row y (by simp);exact ⟨v,by simp [hv],e⟩
  ·rename_i c
   refine ⟨?_,fun q=>?_,?_⟩
   ·refine List.pairwise_append.2 ⟨h.i7,by simp,?_⟩;intro u hu v hv;simp at hv;subst hv;simp at hu;rcases hu with hu | rfl
    ·exact dD (hr.2.2 u hu y (by simp)) hy
    ·omega
   ·rw [cL,h.wt q,cL]
   ·intro u hu;rcases List.mem_append.1 hu with hu | hu
    ·obtain ⟨v,hv,e⟩:=h.row u hu;exact ⟨v,by simp [hv],e⟩
    ·simp at hu; subst hu; exact ⟨u,by simp,rfl⟩
theorem uG:∀ (l:List Zp),(l.Pairwise fun x y=>aF x.1 y.1≤0)→wH l (cW l):=by
 refine sg (fun _=>⟨Om,fun _=>rfl,by simp [cW]⟩) ?_
 ·intro l x ih h;have p:=List.pairwise_append.1 h;rw [jo];exact (ih p.1).push fun y hy=>p.2.2 y hy x (by simp)
theorem qB (l:List Zp):(cW l).length≤l.length:=by
 revert l
 refine sg (by simp [cW]) ?_
 ·intro l x ih;rw [jo];unfold jX
  split
  ·simp
  ·rename_i y hy
   split <;> simp <;> omega
theorem xw {s l:List Zp} (hp:s.Perm l) (hs:s.Pairwise fun x y=>aF x.1 y.1≤0):bF (fun w=>w) (cW s)=canon l:=by
 have m:=uG s hs;refine sh (nL _ _ m.i7) fun q=>?_
 rw [jy (fun w=>w) rfl q _ m.i7,m.wt q,ID hp q]
end Go.Proofs.YtoefpglknaiaeaaGreat
namespace Go.Proofs
open Go.Shelf Go.RowKit Go.Lib _root_.Go.Proofs.Tryz
shelf_lay_g SlLaysF0.n6 Slsf 6 at Tryz 126 as Tryz.sortZ
end Go.Proofs
namespace Go.Proofs.YtoefpglknaiaeaaGreat
open Go.RowKit Go.Lib Go.Shelf _root_.Go.Proofs.Tryz
structure Zr where
 a:Option Addr
 cap:Nat
 row:List Vl
 w:Int
abbrev Zg (w:World):Type:={ x:Zr // aZ w x.a x.row }
instance (w:World):Inhabited (Zg w):=⟨⟨⟨none,0,[],0⟩,by simp,.inl rfl⟩⟩
def iZ (w:World) (x:Zg w):List Value:=[.slice x.1.a x.1.row.length x.1.cap,x.1.w]
def KX (w:World) (x y:Zg w):Int:=aF x.1.row y.1.row
def Fz (w:World) (x:Zg w):Zp:=(x.1.row,x.1.w)
theorem L6 (w:World):Go.Sort.SWO (ltOf (KX w)) where
 irrefl x:=by simp [ltOf,KX,fm]
 trans x y z h1 h2:=by
  have g1:aF x.1.row y.1.row<0:=of_decide_eq_true h1;have g2:aF y.1.row z.1.row<0:=of_decide_eq_true h2;exact decide_eq_true (dD g1 ag)
 ntrans x y z h1 h2:=by
  have g1:¬ aF x.1.row y.1.row<0:=of_decide_eq_false h1;have g2:¬ aF y.1.row z.1.row<0:=of_decide_eq_false h2;have n1:=bm x.1.row y.1.row;have n2:=bm y.1.row z.1.row;have n3:=bm x.1.row z.1.row;have t:=dU z.1.row y.1.row x.1.row;refine decide_eq_false ?_;show ¬ aF x.1.row z.1.row<0;omega
theorem nG {W w1:World} (hb:Below W W w1) (hd:W.drawn≤w1.drawn):∃ q os,w1=Go.Sort.grow (W.drewN q) os:=by
 refine ⟨w1.drawn - W.drawn,w1.heap.extract W w1.heap.size,?_⟩;have hs:=hb.size;have hh:w1.heap=W.heap ++ w1.heap.extract W w1.heap.size:=by
  apply Array.ext_getElem?;intro k;rw [Array.getElem?_append]
  split
  ·exact hb.block k (by assumption)
  ·rw [Array.getElem?_extract];by_cases hk:k<w1.heap.size
   ·simp [show W.heap.size+(k - W.heap.size)=k by omega];intro h; omega
   ·rw [Nz ag];simp;intro h; omega
 obtain ⟨h1,h2,h3,h4,h5⟩:=w1;obtain ⟨g1,g2,g3,g4,g5⟩:=W;have q1:=hb.os;have q2:=hb.tape;have q3:=hb.output;simp only at q1 q2 q3 hd hh hs;subst q1 q2 q3;simp only [Go.Sort.grow,World.drewN,World.mk.injEq,true_and,and_true];exact ⟨hh,by omega⟩
theorem gh {α:Type} [Inhabited α] {w0 w:World} {enc:α→List Value} {k blk off m:Nat} {dk:Array α} {os:Array Obj} (hb:Below w0 w0 w) (hk:w0.heap.size≤blk):Below w0 w0 (sortWorldK enc k w blk off m dk os):=by
 refine ⟨hb.os,hb.tape,hb.output,?_,fun j hj=>?_⟩
 ·exact MO hb.size (size_sortWorldK_c enc k w blk off m dk os)
 ·rw [← hb.block j hj];show ((Go.Sort.mapBlock _ _ _).heap ++ os)[j]? = _;have hs:=hb.size;rw [Array.getElem?_append_left (by simp [Go.Sort.mapBlock,Go.Sort.ahead]; omega)];simp only [Go.Sort.mapBlock,Go.Sort.ahead,Array.getElem?_modify];rw [if_neg ag]
theorem BN (a a':Option Addr) (cap cap':Nat) (x x':Int) (l l':List Vl) (w:World) (h:aZ w a l) (h':aZ w a' l') :
  Calls prog 127 #[.agg #[.slice a l.length cap,x],.agg #[.slice a' l'.length cap',.int .i64 x']] w fun e w'=>e = .returned (.int .i64 (aF l l'))∧∃ q os',w'=Go.Sort.grow (w.drewN q) os':=by
 go_enter func127,ntmps127;go_wp2_with fail
 have b2:Below w w ((w.alloc (.cells #[.slice a l.length cap,x] 47)).alloc (.cells #[.slice a' l'.length cap',.int .i64 x'] 47)):=(aN ..).alloc (by simp) _;refine (Au _ _ _ _ _ _ _ (h.next b2) (h'.next b2)).mono ?_;rintro e w1 ⟨rfl,hb1,hd1⟩;go_wp2
 go_ret;exact ⟨rfl,nG (AM hb1) hd1⟩
theorem Gn (w0 w:World) (hb:Below w0 w0 w) (blk off size:Nat) (hk:w0.heap.size≤blk):CmpLays prog 127 #[] (iZ w0) 2 (KX w0) blk off size w :=
 fun _ _ _ _ x y=>BN _ _ _ _ _ _ _ _ _ (x.2.next (gh hb hk)) (y.2.next (gh hb hk))
theorem Tryz.Im:∀ w,(isAgg 47).run Tryz.prog w = .ok true w:=Tryz.isAgg47
theorem Tryz.Fo:∀ w,(Go.sizeOf 47).run Tryz.prog w = .ok 2 w:=Tryz.sizeOf47
theorem Jg (w0 w:World) (hb:Below w0 w0 w) (blk off cap:Nat) (hk:w0.heap.size≤blk) (d:Array (Zg w0)) (hH:Go.Sort.HoldsK (iZ w0) 2 w blk off d) (hblk:blk<w.heap.size) (hsz:d.size<4611686018427387904) :
  Calls prog 126 #[.slice (some (ah blk off)) d.size cap,.func (.func 127) #[] #[]] w fun e w' =>
   e = .returned (.tuple #[])∧∃ d' n os,Go.Sort.PermIn 0 d.size d d'∧Go.Sort.SortedIn (ltOf (KX w0)) 0 d.size d'∧w'=sortWorldK (iZ w0) 2 w blk off n d' os:=by
 have eg:=enters_of func127 aG rfl
 exact AnyQ.slices_SortFunc Tryz.sortZ 2 Tryz.Im Tryz.Fo (iZ w0) (fun _=>rfl) (fun x v hv=>by simp [iZ] at hv; rcases hv with rfl | rfl <;> rfl) (KX w0) (L6 w0) 127 #[] blk off cap d w eg (Gn w0 w hb blk off d.size hk) hH hblk hsz
theorem iq (b off i:Nat):((ah b off):Addr).add i=⟨b,off+i,none⟩:=by
 unfold Addr.add;by_cases h:i=0 <;> simp [h]
theorem pP {w:World} (d:Array (Zg w)) (i:Nat) (h:i<d.size):(Go.Sort.flatK (iZ w) 2 d)[i*2]! = .slice d[i]!.1.a d[i]!.1.row.length d[i]!.1.cap:=by
 rw [Go.Sort.get_flatK _ _ _ _ ag,show i*2 / 2=i by omega,show i*2 % 2=0 by omega]; rfl
theorem sM {w:World} (d:Array (Zg w)) (i:Nat) (h:i<d.size):(Go.Sort.flatK (iZ w) 2 d)[i*2+1]! = .int .i64 d[i]!.1.w:=by
 rw [Go.Sort.get_flatK _ _ _ _ ag,show (i*2+1) / 2=i by omega,show (i*2+1) % 2=1 by omega]; rfl
theorem aK.arr {w:World} {a:Option Addr} {l:List Zp} (h:aK w a l):∃ d:Array (Zg w),d.size=l.length∧d.toList.map (Fz w)=l ∧
  (l = []∨∃ b off,a=some ⟨b,off,none⟩∧b<w.heap.size∧∀ j,j<l.length*2→w.cell? ⟨b,off+j,none⟩=some (Go.Sort.flatK (iZ w) 2 d)[j]!):=by
 obtain ⟨_,rfl | ⟨b,off,e,hlt,hr⟩⟩:=h
 ·exact ⟨#[],rfl,rfl,.inl rfl⟩
 ·obtain ⟨f,hf⟩:=Go.Deep.choose_lt (α:=Zg w) (n:=l.length) (p:=fun i x=>∀ hi:i<l.length,Fz w x=l[i]∧w.cell? ⟨b,off+i*2,none⟩=some (.slice x.1.a x.1.row.length x.1.cap)∧w.cell? ⟨b,off+i*2+1,none⟩=some (.int .i64 x.1.w)) (fun i hi=>by
   obtain ⟨c1,ai,ci,c0,si⟩:=hr i hi;exact ⟨⟨⟨ai,ci,l[i].1,l[i].2⟩,si⟩,fun _=>⟨rfl,c0,c1⟩⟩)
  have hd:∀ i,i<l.length→((Array.range l.length).map f)[i]! = f i:=fun i hi=>by simp [hi]
  refine ⟨(Array.range l.length).map f,by simp,?_,.inr ⟨b,off,e,hlt,?_⟩⟩
  ·apply List.ext_getElem
   ·simp
   ·intro i h1 h2;have:=(hf i h2 h2).1
    simpa using this
  ·intro j hj;have hi:j / 2<l.length:=by omega
   obtain ⟨_,g0,g1⟩:=hf (j / 2) hi hi;rcases Nat.mod_two_eq_zero_or_one j with h0 | h1
   ·have ej:j=j / 2*2:=by omega
    rw [ej,pP _ _ (by simpa using hi),hd _ hi];exact g0
   ·have ej:j=j / 2*2+1:=by omega
    rw [ej,sM _ _ (by simpa using hi),hd _ hi,← Nat.add_assoc];exact g1
theorem Es {w W:World} {blk off:Nat} {d:Array (Zg w)} (hb:Below w w W) (hH:Go.Sort.HoldsK (iZ w) 2 W blk off d) (hlt:blk<W.heap.size) (hl:d.size≤200000):aK W (some (ah blk off)) (d.toList.map (Fz w)):=by
 refine ⟨by simp [maxLen]; omega,.inr ⟨blk,off,rfl,hlt,fun i hi=>?_⟩⟩;have hi':i<d.size:=by simpa using hi
 have e:=getElem!_pos d i hi';have h0:=(hH (i*2) (by simp; omega)).1;have h1:=(hH (i*2+1) (by simp; omega)).1;rw [pP d i hi',e] at h0;rw [sM d i hi',e] at h1;simp only [NC,NP];refine ⟨?_,d[i].1.a,d[i].1.cap,?_,d[i].2.next hb⟩
 ·rw [← Nat.add_assoc] at h1; exact h1
 ·exact h0
theorem jN {w W:World} {base g n cap:Nat} {d:Array (Zg w)} (hn:n=d.size) (h:W.ownsRow base 47 2 (.slice (some (ah g 0)) n cap) n (Go.Sort.flatK (iZ w) 2 d).toList):Go.Sort.HoldsK (iZ w) 2 W g 0 d:=by
 intro j hj;have hj':j<n*2:=by rw [hn]; simpa using hj
 refine ⟨?_,?_⟩
 ·rw [MG,h.cellAt j hj'];show _=some (Go.Sort.flatK (iZ w) 2 d)[j]!;rw [N2,getElem!_pos (Go.Sort.flatK (iZ w) 2 d) j hj];exact Ny hj
 ·rw [MG]; exact h.frozenAt j
theorem yr (a:Option Addr) (cap:Nat) (l:List Zp) (w:World) (d:Array (Zg w)) (hd:d.size=l.length) (hl:l.length≤200000)
  (h:l = []∨∃ b off,a=some ⟨b,off,none⟩∧b<w.heap.size∧∀ j,j<l.length*2→w.cell? ⟨b,off+j,none⟩=some (Go.Sort.flatK (iZ w) 2 d)[j]!) :
  Calls prog 125 #[.slice a l.length cap] w fun e w'=>∃ v,e = .returned v∧w'.ownsRow w 47 2 v l.length (Go.Sort.flatK (iZ w) 2 d).toList∧Below w w w':=by
 obtain ⟨i0,hi,hj0,hj1,hj2⟩:=info_parts Tryz.fK;have hone:∀ u ∈ (Go.Sort.flatK (iZ w) 2 d).toList,u.oneCell'=true:=by
  intro u hu;obtain ⟨j,hj,rfl⟩:=No hu;have hj':j<d.size*2:=by simpa using hj
  have e:(Go.Sort.flatK (iZ w) 2 d).toList[j]=(Go.Sort.flatK (iZ w) 2 d)[j]!:=by
   rw [NP,getElem!_pos]
  rw [e,Go.Sort.get_flatK _ _ _ _ hj'];rcases Nat.mod_two_eq_zero_or_one j with h0 | h1
  ·rw [h0]; rfl
  ·rw [h1]; rfl
 rcases a with _ | ad
 ·have e:l = []:=by
   rcases h with h | ⟨b,off,e,_⟩
   ·exact h
   ·cases e
  subst e;have d0:(Go.Sort.flatK (iZ w) 2 d).toList = []:=by
   apply MH;simp [hd]
  rw [d0];rw [Od];have q22:∀ (w:World) (a:Option Addr) (n c n' c':Nat),(binOp .eql 38 (.slice a n c) (.slice none n' c')).run prog w = .ok a.isNone w:=fun w a n c n' c'=>Lib.run_eql_slice_nil w _ _ a n c n' c' underlying38
  go_enter func125,ntmps125;go_wp2
  go_ret;exact ⟨_,rfl,M4 _ _ _ _,Mz _ _⟩
 ·have q22:∀ (w:World) (a:Option Addr) (n c n' c':Nat),(binOp .eql 38 (.slice a n c) (.slice none n' c')).run prog w = .ok a.isNone w:=fun w a n c n' c'=>Lib.run_eql_slice_nil w _ _ a n c n' c' underlying38
  go_enter func125,ntmps125;go_wp2_with (at_builtin; refine MX _ rfl _ _ 38 rfl w 47 i0 _ 2 32 underlying38 hi hj0 hj1 hj2 rfl (by decide) _ _ _ rfl (Nd w #[] 0 (Mx _) (MD _) (by simp)) ad l.length cap (Go.Sort.flatK (iZ w) 2 d).toList rfl ?qc1 ?qc2 hone ?qc4 ?qc5 ?qc6 ?_)
  case qc1=>simp [hd]
  case qc2 =>
   intro j u hj;have hj':j<d.size*2:=by
    rcases Nl j (d.size*2) with h | h
    ·exact h
    ·rw [Nr (by simpa using h)] at hj; cases hj
   rcases h with h | ⟨b,off,e,hlt,hc⟩
   ·subst h; simp at hd; subst hd; simp at hj'
   ·have e:=Nk e;subst e;rw [iq];rw [N2,Ny (by simpa using hj')] at hj;have hj:=Nk hj;have:=hc j ag;rw [getElem!_pos _ _ (by simpa using hj'),hj] at this;exact Lib.cell?_alloc_some _ this
  case qc4=>rw [MG]; unfold maxLen; omega
  case qc5=>rw [MG]; omega
  case qc6=>simp
  intro v' w1 hown hgrow _;have hb1:Below w w w1:=(aN ..).grown hgrow (by simp) (by simp [Value.ownBlock]);have hv:∃ a1 c1,v' = .slice a1 l.length c1:=by
   obtain ⟨_,⟨rfl,h0⟩ | ⟨g,c1,cur,rfl,_⟩⟩:=hown
   ·exact ⟨none,0,by rw [h0]⟩
   ·exact ⟨_,c1,rfl⟩
  obtain ⟨a1,c1,rfl⟩:=hv;clear hgrow;go_wp2
  go_ret;exact ⟨_,rfl,hown,hb1⟩
end Go.Proofs.YtoefpglknaiaeaaGreat
namespace Go.Proofs.YtoefpglknaiaeaaGreat
open Go.RowKit Go.Lib Go.Shelf
theorem AB (m:Int) (hm:0≤m):∀ l:List Zp,(∀ x ∈ l,-m≤x.2∧x.2≤m)→∀ y ∈ cW l,-(m*l.length)≤y.2∧y.2≤m*l.length:=by
 refine sg (by simp [cW]) ?_;intro l x ih h y hy;have hx:=h x (by simp);have ih:=ih (fun u hu=>h u (by simp [hu]));rw [jo] at hy;have e:m*((l ++ [x]).length:Int)=m*l.length+m:=by
  simp only [ME,Nb];rw [Int.natCast_add,Int.mul_add]; simp
 rw [e];have hp:0≤m*(l.length:Int):=Int.mul_nonneg hm ag;rcases List.eq_nil_or_concat (cW l) with e' | ⟨a,u,e'⟩
 ·rw [e',mB] at hy;simp at hy; subst hy; omega
 ·rw [e',Og,jh] at hy;have hu:=ih u (by rw [e']; simp)
  split at hy
  ·simp at hy;rcases hy with hy | rfl
   ·have:=ih y (by rw [e']; simp [hy]); omega
   ·simp only; omega
  ·rcases List.mem_append.1 hy with hy | hy
   ·have:=ih y (by rw [e',Og]; exact hy); omega
   ·simp at hy; subst hy; omega
theorem yZ {w:World} {d d':Array (Zg w)} {n:Nat} (hn:d.size=n) (hp:Go.Sort.PermIn 0 n d d') (hs:Go.Sort.SortedIn (ltOf (KX w)) 0 n d') :
  d'.size=n∧(d'.toList.map (Fz w)).Perm (d.toList.map (Fz w))∧(d'.toList.map (Fz w)).Pairwise fun x y=>aF x.1 y.1≤0:=by
 obtain ⟨h1,_,h3⟩:=hp;have e1:=h1.trans hn;have x1:d'.extract 0 n=d':=by rw [← e1]; exact Array.extract_size
 have x2:d.extract 0 n=d:=by rw [← hn]; exact Array.extract_size
 rw [x1,x2] at h3;refine ⟨e1,h3.map _,?_⟩;rw [N4,Ns];intro i j hi hj hij;have hi':i<d'.size:=by simpa using hi
 have hj':j<d'.size:=by simpa using hj
 have:=of_decide_eq_false (hs i j (MD _) hij ag);rw [getElem!_pos d' i hi',getElem!_pos d' j hj'] at this;simp only [NP,Fz];simp only [KX] at this;have n1:=bm d'[i].1.row d'[j].1.row;omega
def iy (W:World) (xs:List Value) (l:List Zp):Prop :=
 xs.length=l.length*2∧∀ (i:Nat) (h:i<l.length),∃ a cap,xs[i*2]? = some (.slice a l[i].1.length cap)∧xs[i*2+1]? = some (.int .i64 l[i].2)∧aZ W a l[i].1
theorem iy.push {W:World} {xs:List Value} {l:List Zp} (h:iy W xs l) {a:Option Addr} {cap:Nat} {x:Zp} (hs:aZ W a x.1):iy W (xs ++ [.slice a x.1.length cap,.int .i64 x.2]) (l ++ [x]):=by
 have lx:=h.1;refine ⟨by simp [lx]; omega,fun i hi=>?_⟩;by_cases hi':i<l.length
 ·obtain ⟨a',c',h1,h2,h3⟩:=h.2 i hi';refine ⟨a',c',?_,?_,?_⟩
  ·rw [MT ag,h1,MV hi']
  ·rw [MT ag,h2,MV hi']
  ·rw [MV hi']; exact h3
 ·have:i=l.length:=by simp at hi; omega
  subst this;refine ⟨a,cap,?_,?_,?_⟩
  ·rw [MU ag]; simp [lx]
  ·rw [MU ag]; simp [lx]
  ·simpa using hs
theorem iy.last {W:World} {xs:List Value} {l:List Zp} {y:Zp} (h:iy W xs (l ++ [y])) (z:Int):iy W (xs.set (l.length*2+1) z) (l ++ [(y.1,z)]):=by
 have lx:=h.1;refine ⟨by simpa using lx,fun i hi=>?_⟩;have hi0:i<(l ++ [y]).length:=by simpa using hi
 obtain ⟨a',c',h1,h2,h3⟩:=h.2 i hi0;by_cases hi':i<l.length
 ·rw [MV hi'] at h1 h2 h3 ⊢;refine ⟨a',c',?_,?_,h3⟩
  ·rw [MQ ag]; exact h1
  ·rw [MQ ag]; exact h2
 ·have:i=l.length:=by simp at hi; omega
  subst this;simp only [N0] at h1 h2 h3 ⊢;refine ⟨a',c',?_,?_,h3⟩
  ·rw [MQ ag]; exact h1
  ·rw [List.getElem?_set_self (by rw [lx]; simp; omega)]
theorem bH {W:World} {base n:Nat} {v:Value} {xs:List Value} (h:W.ownsRow base 47 2 v n xs):∃ a c,v = .slice a n c:=by
 obtain ⟨_,⟨rfl,h0⟩ | ⟨g,c1,cur,rfl,_⟩⟩:=h
 ·exact ⟨none,0,by rw [h0]⟩
 ·exact ⟨_,c1,rfl⟩
theorem tf {W:World} {base n:Nat} {v:Value} {xs:List Value} (h:W.ownsRow base 47 2 v n xs) (hn:0<n):∃ g c,v = .slice (some (ah g 0)) n c∧base≤g∧g<W.heap.size:=by
 have h':=h;obtain ⟨_,⟨rfl,h0⟩ | ⟨g,c1,cur,rfl,hg,_⟩⟩:=h
 ·omega
 ·exact ⟨g,c1,rfl,hg,(h'.lt g rfl).2⟩
theorem rC {W w2:World} {base n:Nat} {v:Value} {xs:List Value} {l:List Zp} (h:W.ownsRow base 47 2 v n xs) (hn:n=l.length) (he:iy w2 xs l) (hb:Below w2 w2 W):∃ a cap,v = .slice a l.length cap∧aK W a l:=by
 subst hn;have h1':=h;obtain ⟨hx,h1 | ⟨g,cap,cur,e,hg,hh,hn,hc,hs,ht⟩⟩:=h
 ·obtain ⟨rfl,h0⟩:=h1;have:l = []:=MH h0;subst this;exact ⟨none,0,rfl,MD _,.inl rfl⟩
 ·subst e;refine ⟨_,cap,rfl,MO hn hc,.inr ⟨g,0,rfl,(h1'.lt g rfl).2,?_⟩⟩;intro i hi;obtain ⟨a,cp,e0,e1,e2⟩:=he.2 i hi;refine ⟨?_,a,cp,?_,e2.next hb⟩
  ·rw [h1'.cellAt _ ag,← e1]; congr 1; omega
  ·rw [h1'.cellAt _ ag,← e0]; congr 1; omega
def nB (w2 wr:World) (v:Value) (acc:List Zp):Prop:=∃ xs,wr.ownsRow w2 47 2 v acc.length xs∧iy w2 xs acc
theorem nB.next {w2 wr w3:World} {v:Value} {acc:List Zp} (h:nB w2 wr v acc) (hb:Below wr wr w3):nB w2 w3 v acc:=by
 obtain ⟨xs,h1,h2⟩:=h;exact ⟨xs,aL h1 hb,h2⟩
theorem nB.last {w2 wr:World} {g c:Nat} {a:List Zp} {y:Zp} (h:nB w2 wr (.slice (some (ah g 0)) (a.length+1) c) (a ++ [y])) (z:Int) :
  nB w2 (wr.setCell ⟨g,a.length*2+1,none⟩ z) (.slice (some (ah g 0)) (a.length+1) c) (a ++ [(y.1,z)]):=by
 obtain ⟨xs,h1,h2⟩:=h;have e:(a ++ [y]).length=a.length+1:=by simp
 rw [e] at h1;refine ⟨_,?_,h2.last z⟩;have:=(h1.stored (a.length*2+1) z).1
 simpa using this
open _root_.Go.Proofs.Tryz
def uu (w:Int):Bool:=decide (-1000000000000≤w) && decide (w≤1000000000000)
theorem mg (x:Int):uu x=true ↔ -1000000000000≤x∧x≤1000000000000:=by simp [uu]
theorem cK (x:Int):gV x=true ↔ -1000000≤x∧x≤1000000:=by simp [gV]
theorem oA {x:Int} (h:gV x=true):uu x=true:=by
 rw [cK] at h;rw [mg];omega
theorem yC (a:Option Addr) (cap:Nat) (l:List Zp) (w:World) (h:aK w a l) (hl:l.length≤200000) (hn:0<l.length) (hw:∀ x ∈ l,uu x.2=true) :
  Calls prog 90 #[.slice a l.length cap] w fun e w'=>∃ s a' c',e = .returned (.slice a' (cW s).length c')∧s.Perm l∧(s.Pairwise fun x y=>aF x.1 y.1≤0)∧aK w' a' (cW s)∧Below w w w':=by
 obtain ⟨i0,hi,hj0,hj1,hj2⟩:=info_parts Tryz.fK;obtain ⟨d,hd,hdl,hc⟩:=h.arr;go_enter func90,ntmps90;go_wp2_with fail
 refine (yr a cap l w d hd ag hc).mono ?_;rintro e w1 ⟨v,rfl,hown,hb1⟩;obtain ⟨g,c,rfl,hg,hgl⟩:=tf hown hn;have hH:=jN hd.symm hown;have hH:=jN hd.symm hown;have hH:=jN hd.symm hown;have hH:=jN hd.symm hown;have hH:=jN hd.symm hown;have con:=Jg w w1 hb1 g 0 c hg d hH hgl ag;rw [hd] at con;have HN:=aB hn;clear hn hown hc;go_wp2_with fail
 refine con.mono ?_;clear con;rintro e w2 ⟨rfl,d',n,os,hp,hs,hw2⟩;obtain ⟨hd',hperm,hsort⟩:=yZ hd hp hs;rw [hdl] at hperm;have hb2:Below w w w2:=by rw [hw2]; exact gh hb1 hg
 have hgl2:g<w2.heap.size:=by
  rw [hw2];exact My hgl (size_sortWorldK_c (iZ w) 2 w1 g 0 n d' os)
 have zs:aK w2 (some (ah g 0)) (d'.toList.map (Fz w)):=by
  refine Es hb2 ?_ hgl2 ag;rw [hw2];exact holdsK_sortWorldK_c (iZ w) 2 w1 g 0 d d' n os hH hgl ag
 generalize hs0:d'.toList.map (Fz w)=s at hperm hsort zs;have hsl:s.length=l.length:=by rw [← hs0]; simp [hd']
 have hws:∀ x ∈ s,uu x.2=true:=fun x hx=>hw x (hperm.mem_iff.1 hx)
 have HP:=aB hperm;have HSo:=aB hsort;clear hperm hsort hw2 hs0 hd' hp hs hH hdl hd hgl h hw;rw [← hsl];rw [← hsl] at hl;clear HN;go_wp2_with fail
 go_loopw [3,13] (fun v i wr=>∃ k:Nat,k≤s.length∧i = .int .i64 k∧nB w2 wr v (cW (s.take k))∧Below w2 w2 wr) (fun _ i _=>s.length - (intOf i).toNat)
 case atStart=>exact ⟨0,MD _,rfl,⟨[],M4 _ _ _ _,rfl,fun i hi=>by simp [cW] at hi⟩,Mz _ _⟩
 case round =>
  obtain ⟨k,hk,rfl,HS,hb⟩:=hrel;have hz:=hb.size;by_cases hlt:k<s.length
  ·obtain ⟨b,off,hh,hbl,c1,ar,cr,c0,sr⟩:=(zs.next hb).elem hlt;obtain ⟨b',off',hh',hbl',c1',ar',cr',c0',sr'⟩:=zs.elem hlt;simp only [NQ,Addr.mk.injEq,and_true] at hh hh';obtain ⟨rfl,rfl⟩:=hh;obtain ⟨rfl,rfl⟩:=hh';have ee:=(hb.cell (p:=⟨g,_,none⟩) hgl2).trans c0';rw [c0] at ee;simp only [NQ,Value.slice.injEq,true_and] at ee;obtain ⟨rfl,rfl⟩:=ee;clear c0' c1' hbl';simp only [MG] at c0 c1;have step:Hid (cW (s.take (k+1))=jX (cW (s.take k)) s[k]):=by
    show cW (s.take (k+1))=_;rw [MJ hlt,jo]
   have hlen:=qB (s.take k);simp only [MR] at hlen;have hbd:=AB 1000000000000 ag (s.take k) (fun x hx=>(mg _).1 (hws x (N6 hx)));have hx:=(mg _).1 (hws s[k] (MC hlt));generalize hacc:cW (s.take k)=acc at HS step hlen hbd;clear hacc;rcases List.eq_nil_or_concat acc with e | ⟨a',y,e⟩
   ·subst e;obtain ⟨xs,ho,he⟩:=HS;obtain ⟨a3,c3,rfl⟩:=bH ho;simp only [Od] at ho;have hbA:=aN wr (.cells #[.slice ar s[k].1.length cr,.int .i64 s[k].2] 47);have q0:(wr.alloc (.cells #[.slice ar s[k].1.length cr,.int .i64 s[k].2] 47)).cell? (ah wr 0)=some (.slice ar s[k].1.length cr):=by simp
    have q1:(wr.alloc (.cells #[.slice ar s[k].1.length cr,.int .i64 s[k].2] 47)).cell? (ah wr 1)=some (.int .i64 s[k].2):=by simp
    haveI:Nonempty (cF (wr.alloc (.cells #[.slice ar s[k].1.length cr,.int .i64 s[k].2] 47))):=⟨⟨_,Mz _ _⟩⟩
    simp only [Od];go_wp2_with fail
    generalize wr.alloc _=wA at *;refine aq aG aG ?_
    repeat (go_big_quiet_step (fail))
    refine wpQuiet_nil ?_;rintro w4 ⟨⟨v4,hb4⟩,h4⟩;obtain rfl:w4=v4:=h4;have ho4:=aL (aL ho hbA) hb4;have r0:=(hb4.cell (p:=ah wr 0) (ML _ _ q0)).trans q0;have r1:=(hb4.cell (p:=ah wr 1) (ML _ _ q1)).trans q1;have hzA:=hbA.size;have hz4:=hb4.size;clear ho
    go_wp2_with (at_builtin; refine MX _ rfl _ _ 38 rfl w2 47 i0 _ 2 32 underlying38 hi hj0 hj1 hj2 rfl (by decide) _ _ _ rfl (ho4.alloc _) (ah w4 0) 1 1 [.slice ar s[k].1.length cr,.int .i64 s[k].2] rfl rfl ?Ac1 ?Ac2 ?Ac3 ?Ac4 ?Ac5 ?_)
    case Ac1 =>
     intro j u hj
     match j,hj with
     | 0,hj=>simp at hj; subst hj; simp [Addr.add]
     | 1,hj=>simp at hj; subst hj; simp [Addr.add]
    case Ac2=>intro u hu; simp at hu; rcases hu with rfl | rfl <;> rfl
    case Ac3=>unfold maxLen; first | omega | (simp; done) | (simp; omega)
    case Ac4=>first | omega | (simp; done) | (simp; omega)
    case Ac5=>simp; omega
    intro v' w5 ho5 hg5 _;have hb5:=((bg hb (bg hbA hb4)).alloc ag _).grown hg5 (by simp; omega) (fun q hq=>((ho4.alloc (.cells #[.slice ar s[k].1.length cr,.int .i64 s[k].2] 47)).lt q hq).1);clear hg5 ho4 q0 q1;go_wp2
    go_roundw
    case rel=>exact ⟨k+1,by omega,by go_num,by rw [step.out,mB]; exact ⟨_,ho5,he.push sr'⟩,hb5⟩
    case measure=>simp [intOf]; omega
   ·rw [Og] at e;subst e;by_cases hc:aF y.1 s[k].1=0
    ·have HS0:=HS;obtain ⟨xs,ho,he⟩:=HS;obtain ⟨g3,c3,rfl,hg3,hg3l⟩:=tf ho (by simp);obtain ⟨ay,cy,x0,x1,sy⟩:=he.2 a'.length (by simp);simp only [N0] at x0 x1 sy;have y0:wr.cell? ⟨g3,a'.length*2,none⟩=some (.slice ay y.1.length cy):=by rw [ho.cellAt _ (by simp <;> omega)]; exact x0
     have y1:wr.cell? ⟨g3,a'.length*2+1,none⟩=some (.int .i64 y.2):=by rw [ho.cellAt _ (by simp <;> omega)]; exact x1
     have f1:wr.frozen? ⟨g3,a'.length*2+1,none⟩=false:=ho.frozenAt _;have el:(a' ++ [y]).length=a'.length+1:=by simp
     rw [el] at ho HS0 ⊢;have hy:=hbd y (by simp);rw [el] at hlen;have hkk:((s.take k).length:Int)≤200000:=by rw [MR]; omega
     have hbA:=aN wr (.cells #[.slice ar s[k].1.length cr,.int .i64 s[k].2] 47);have q0:(wr.alloc (.cells #[.slice ar s[k].1.length cr,.int .i64 s[k].2] 47)).cell? (ah wr 0)=some (.slice ar s[k].1.length cr):=by simp
     have q1:(wr.alloc (.cells #[.slice ar s[k].1.length cr,.int .i64 s[k].2] 47)).cell? (ah wr 1)=some (.int .i64 s[k].2):=by simp
     have y0A:=(hbA.cell (p:=⟨g3,_,none⟩) hg3l).trans y0;have y1A:=(hbA.cell (p:=⟨g3,_,none⟩) hg3l).trans y1;have f1A:=(hbA.frozen (p:=⟨g3,_,none⟩) hg3l).trans f1;have hgA:=My hg3l hbA.size;haveI:Nonempty (cF (wr.alloc (.cells #[.slice ar s[k].1.length cr,.int .i64 s[k].2] 47))):=⟨⟨_,Mz _ _⟩⟩
     have sA:=sr.next hbA;have tA:=(sy.next hb).next hbA;have e1:((a'.length+1:Nat):Int) - 1=(a'.length:Int):=by omega
     have i1:(0:Int)≤(a'.length:Int):=by omega
     have i2:(a'.length:Int)<((a'.length+1:Nat):Int):=by omega
     have i3:a'.length<a'.length+1:=by omega
     clear y0 y1 f1 x0 x1;have HC:=aB hc;go_wp2_with fail
     generalize wr.alloc _=wA at *;have p0:=ak y0A;have p1:=ak q0;refine aq aG aG ?_
     repeat (go_big_quiet_step (first | (go_at_call 53; exact cG (oU _ _ _ _ _ _ _ (tA.next (cF.ok _)) (sA.next (cF.ok _))))))
     refine wpQuiet_nil ?_;rintro w4 ⟨⟨v4,hb4⟩,h4⟩;obtain rfl:w4=v4:=h4;clear p0 p1;have r0:=(hb4.cell (p:=ah wr 0) (ML _ _ q0)).trans q0;have r1:=(hb4.cell (p:=ah wr 1) (ML _ _ q1)).trans q1;have z0:=(hb4.cell (p:=⟨g3,_,none⟩) hgA).trans y0A;have z1:=(hb4.cell (p:=⟨g3,_,none⟩) hgA).trans y1A;have zf:=(hb4.frozen (p:=⟨g3,_,none⟩) hgA).trans f1A;have hzA:=hbA.size;have hz4:=hb4.size;have HS4:=(HS0.next hbA).next hb4;clear ho y0A y1A f1A q0 q1;have hv1:-9223372036854775808≤y.2+s[k].2:=by omega
     have hv2:y.2+s[k].2≤9223372036854775807:=by omega
     go_wp2_with fail
     go_region
     have hb5:Below w2 w2 (w4.setCell ⟨g3,a'.length*2+1,none⟩ (.int .i64 (y.2+s[k].2))).drew:=((bg hb (bg hbA hb4)).setCell (p:=⟨g3,a'.length*2+1,none⟩) hg3 _).drew;have HS5:nB w2 (w4.setCell ⟨g3,a'.length*2+1,none⟩ (.int .i64 (y.2+s[k].2))).drew (.slice (some (ah g3 0)) (a'.length+1) c3) (a' ++ [(y.1,y.2+s[k].2)]):=(HS4.last _).next ((Mz _ _).drew);clear HS4 HS0 z0 z1 zf r0 r1;go_wp2
     go_roundw
     case rel=>exact ⟨k+1,by omega,by go_num,by rw [step.out,jh,if_pos HC.out]; exact HS5,hb5⟩
     case measure=>simp [intOf]; omega
    ·have HS0:=HS;obtain ⟨xs,ho,he⟩:=HS;obtain ⟨g3,c3,rfl,hg3,hg3l⟩:=tf ho (by simp);obtain ⟨ay,cy,x0,x1,sy⟩:=he.2 a'.length (by simp);simp only [N0] at x0 x1 sy;have y0:wr.cell? ⟨g3,a'.length*2,none⟩=some (.slice ay y.1.length cy):=by rw [ho.cellAt _ (by simp <;> omega)]; exact x0
     have y1:wr.cell? ⟨g3,a'.length*2+1,none⟩=some (.int .i64 y.2):=by rw [ho.cellAt _ (by simp <;> omega)]; exact x1
     have f1:wr.frozen? ⟨g3,a'.length*2+1,none⟩=false:=ho.frozenAt _;have el:(a' ++ [y]).length=a'.length+1:=by simp
     rw [el] at ho HS0 ⊢;have hy:=hbd y (by simp);rw [el] at hlen;have hkk:((s.take k).length:Int)≤200000:=by rw [MR]; omega
     have hbA:=aN wr (.cells #[.slice ar s[k].1.length cr,.int .i64 s[k].2] 47);have q0:(wr.alloc (.cells #[.slice ar s[k].1.length cr,.int .i64 s[k].2] 47)).cell? (ah wr 0)=some (.slice ar s[k].1.length cr):=by simp
     have q1:(wr.alloc (.cells #[.slice ar s[k].1.length cr,.int .i64 s[k].2] 47)).cell? (ah wr 1)=some (.int .i64 s[k].2):=by simp
     have y0A:=(hbA.cell (p:=⟨g3,_,none⟩) hg3l).trans y0;have y1A:=(hbA.cell (p:=⟨g3,_,none⟩) hg3l).trans y1;have f1A:=(hbA.frozen (p:=⟨g3,_,none⟩) hg3l).trans f1;have hgA:=My hg3l hbA.size;haveI:Nonempty (cF (wr.alloc (.cells #[.slice ar s[k].1.length cr,.int .i64 s[k].2] 47))):=⟨⟨_,Mz _ _⟩⟩
     have sA:=sr.next hbA;have tA:=(sy.next hb).next hbA;have e1:((a'.length+1:Nat):Int) - 1=(a'.length:Int):=by omega
     have i1:(0:Int)≤(a'.length:Int):=by omega
     have i2:(a'.length:Int)<((a'.length+1:Nat):Int):=by omega
     have i3:a'.length<a'.length+1:=by omega
     clear y0 y1 f1 x0 x1;have HC:=aB hc;have b0:(aF y.1 s[k].1 == 0)=false:=by simpa using hc
     go_wp2_with fail
     generalize wr.alloc _=wA at *;have p0:=ak y0A;have p1:=ak q0;refine aq aG aG ?_
     repeat (go_big_quiet_step (first | (go_at_call 53; exact cG (oU _ _ _ _ _ _ _ (tA.next (cF.ok _)) (sA.next (cF.ok _))))))
     refine wpQuiet_nil ?_;rintro w4 ⟨⟨v4,hb4⟩,h4⟩;obtain rfl:w4=v4:=h4;clear p0 p1;have r0:=(hb4.cell (p:=ah wr 0) (ML _ _ q0)).trans q0;have r1:=(hb4.cell (p:=ah wr 1) (ML _ _ q1)).trans q1;have z0:=(hb4.cell (p:=⟨g3,_,none⟩) hgA).trans y0A;have z1:=(hb4.cell (p:=⟨g3,_,none⟩) hgA).trans y1A;have zf:=(hb4.frozen (p:=⟨g3,_,none⟩) hgA).trans f1A;have hzA:=hbA.size;have hz4:=hb4.size;have ho4:=aL (aL ho hbA) hb4;clear ho y0A y1A f1A
     go_wp2_with (at_builtin; refine MX _ rfl _ _ 38 rfl w2 47 i0 _ 2 32 underlying38 hi hj0 hj1 hj2 rfl (by decide) _ _ _ rfl (ho4.alloc _) (ah w4 0) 1 1 [.slice ar s[k].1.length cr,.int .i64 s[k].2] rfl rfl ?Bc1 ?Bc2 ?Bc3 ?Bc4 ?Bc5 ?_)
     case Bc1 =>
      intro j u hj
      match j,hj with
      | 0,hj=>simp at hj; subst hj; simp [Addr.add]
      | 1,hj=>simp at hj; subst hj; simp [Addr.add]
     case Bc2=>intro u hu; simp at hu; rcases hu with rfl | rfl <;> rfl
     case Bc3=>unfold maxLen; first | omega | (simp; done) | (simp; omega)
     case Bc4=>first | omega | (simp; done) | (simp; omega)
     case Bc5=>simp; omega
     intro v' w5 ho5 hg5 _;have hb5:=((bg hb (bg hbA hb4)).alloc ag _).grown hg5 (by simp; omega) (fun q hq=>((ho4.alloc (.cells #[.slice ar s[k].1.length cr,.int .i64 s[k].2] 47)).lt q hq).1);clear hg5 ho4 q0 q1;go_wp2
     go_roundw
     case rel=>exact ⟨k+1,by omega,by go_num,by rw [step.out,jh,if_neg HC.out]; exact ⟨_,by simpa using ho5,he.push sr'⟩,hb5⟩
     case measure=>simp [intOf]; omega
  ·have e:k=s.length:=by omega
   subst e;rw [MM] at HS;obtain ⟨xs,ho,he⟩:=HS;obtain ⟨a3,c3,rfl,z3⟩:=rC ho rfl he hb;go_wp2
   go_ret;exact ⟨s,a3,c3,rfl,HP.out,HSo.out,z3,hb2.trans (hb.mono hb2.size)⟩
def lS (z:List Zp):Bool:=z.any fun x=>!gV x.2
def aR (l:List Zp):Int:=if lS (canon l)=true then 3 else if 400<(canon l).length then 5 else 0
def bh (l:List Zp):List Zp:=if aR l=0 then canon l else []
theorem ou (z:List Zp):lS (bF (fun w=>w) z)=lS z:=by
 induction z with
 | nil=>rfl
 | cons x r ih =>
  unfold lS at ih ⊢;rw [bF]
  split
  ·rename_i h0
   rw [ih,List.any_cons,h0];simp [gV]
  ·rw [List.any_cons,ih,List.any_cons]
theorem Ci {z:List Zp} {k:Nat} (hk:k<z.length) (h:gV z[k].2=false):lS z=true:=by
 unfold lS;rw [List.any_eq_true];exact ⟨z[k],MC hk,by simp [h]⟩
theorem wm {z:List Zp} (h:∀ j (hj:j<z.length),gV z[j].2=true):lS z=false:=by
 unfold lS;rw [List.any_eq_false];intro x hx;obtain ⟨j,hj,rfl⟩:=No hx;simp [h j hj]
theorem ed (base:Nat) (W:World):eA base W bX []:=⟨[],M4 _ _ _ _,rfl,fun i hi=>by simp at hi⟩
theorem LS:∀ args w,(callFunc 91 args).run prog w = .ok (.enter 91 args) w:=enters_of func91 aG rfl
theorem JI (w:World):oX 91 #[] (fun w=>w) w:=by
 intro x W _ _;show Calls prog 91 #[x] W _;go_enter func91,ntmps91;go_wp2
 go_ret;exact ⟨rfl,Mz _ _⟩
def xq (l:List Zp) (w:World) (e:Ending) (w':World):Prop :=
 ∃ s a' c',e = .returned (.slice a' (cW s).length c')∧s.Perm l∧(s.Pairwise fun x y=>aF x.1 y.1≤0)∧aK w' a' (cW s)∧Below w w w'
theorem yN (a:Option Addr) (cap:Nat) (l:List Zp) (w:World) (hsum:Calls prog 90 #[.slice a l.length cap] w (xq l w)) (hl:l.length≤200000) (h8:∀ x ∈ l,x.1.length≤8) :
  Calls prog 72 #[.slice a l.length cap] w fun e w'=>∃ v,e = .returned (.tuple #[v,.int .i64 (aR l)])∧eA w w' v (bh l)∧Below w w w':=by
 go_enter func72,ntmps72;go_wp2_with fail
 refine hsum.mono ?_;clear hsum;rintro e w1 ⟨s,a1,c1,rfl,hp,hs,z1,hb1⟩;have hcan:=xw hp hs;have hm:=uG s hs;have hlen:=qB s;rw [hp.length_eq] at hlen;have h81:∀ y ∈ cW s,y.1.length≤8:=by
  intro y hy;obtain ⟨x,hx,e⟩:=hm.row y hy;rw [e];exact h8 x (hp.mem_iff.1 hx)
 have HCan:=aB hcan;clear hcan hm hp hs h8;generalize cW s=m at *;go_wp2_with fail
 go_loopw [12] (fun i wr=>∃ k:Nat,k≤m.length∧i = .int .i64 k∧Hid (∀ j (hj:j<m.length),j<k→gV m[j].2=true)∧Below w1 w1 wr) (fun i _=>m.length - (intOf i).toNat)
 case atStart=>exact ⟨0,MD _,rfl,fun j _ hj=>absurd hj (M9 _),Mz _ _⟩
 case round =>
  obtain ⟨k,hk,rfl,HI,hb⟩:=hrel;have hz:=hb.size;by_cases hlt:k<m.length
  ·obtain ⟨b,off,rfl,hbl,d1,ar,cr,d0,sr⟩:=(z1.next hb).elem hlt;cases hin:gV m[k].2
   ·have HO:=aB hin;have he:Hid (aR l=3):=by
     show aR l=3;unfold aR;rw [← HCan.out,ou,if_pos (Ci hlt hin)]
    clear hin;go_wp2_with fail
    refine (fR _ _).mono ?_;rintro e w2 ⟨rfl,rfl⟩;rw [HO.out];go_wp2_with fail
    refine MA (v:=.tuple #[bX,(3:Int)]) (by simp [results,results72,go_sem]) rfl ⟨_,by rw [he.out],?_,(bg hb1 hb).alloc (by have:=hb1.size; omega) _⟩;have hgz:bh l = []:=by unfold bh; rw [he.out]; rfl
    rw [hgz];exact ed _ _
   ·have HO:=aB hin;clear hin;go_wp2_with fail
    refine (fR _ _).mono ?_;rintro e w2 ⟨rfl,rfl⟩;rw [HO.out];go_wp2
    go_roundw
    case rel=>exact ⟨k+1,by omega,by go_num,fun j hj hjk=>by
     by_cases e:j=k
     ·subst e; exact HO.out
     ·exact HI.out j hj ag,hb.alloc hz _⟩
    case measure=>simp [intOf]; omega
  ·have e:k=m.length:=by omega
   subst e;have hall:∀ x ∈ m,gV x.2=true:=by
    intro x hx;obtain ⟨j,hj,rfl⟩:=No hx;exact HI.out j hj hj
   have ho:lS (canon l)=false:=by
    rw [← HCan.out,ou];exact wm fun j hj=>HI.out j hj hj
   go_wp2_with fail
   refine (nX 91 #[] (fun w=>w) a1 c1 m wr (z1.next hb) LS (JI _) ag h81 hall).mono ?_;rintro e w3 ⟨v,rfl,O3,hb3⟩;rw [HCan.out] at O3;have hb3':=bg (bg hb1 hb) hb3;have O3':=O3.mono (MO hb1.size hb.size);obtain ⟨a3,c3,rfl,z3⟩:=O3.zs;by_cases h4:400<(canon l).length
   ·have he:Hid (aR l=5):=by
     show aR l=5;unfold aR;rw [ho,if_neg (by decide),if_pos h4]
    go_wp2_with fail
    refine MA (v:=.tuple #[bX,(5:Int)]) (by simp [results,results72,go_sem]) rfl ⟨_,by rw [he.out],?_,hb3'⟩;have hgz:bh l = []:=by unfold bh; rw [he.out]; rfl
    rw [hgz];exact ed _ _
   ·have he:Hid (aR l=0):=by
     show aR l=0;unfold aR;rw [ho,if_neg (by decide),if_neg h4]
    go_wp2_with fail
    refine MA (v:=.tuple #[.slice a3 (canon l).length c3,aD]) (by simp [results,results72,go_sem]) rfl ⟨_,by rw [he.out],?_,hb3'⟩;have hgz:bh l=canon l:=by unfold bh; rw [he.out]; rfl
    rw [hgz];exact O3'
theorem Dr (p:Option Addr) (cap:Nat) (fv:Value) (w:World):Calls prog 126 #[.slice p 0 cap,fv] w fun e w'=>e = .returned (.tuple #[])∧w'=w :=
 AnyF.slices_SortFunc_none Tryz.sortZ p cap fv w
theorem zL (a:Option Addr) (cap:Nat) (w:World):Calls prog 90 #[.slice a 0 cap] w (xq [] w):=by
 unfold xq;go_enter func90,ntmps90;go_wp2_with fail
 refine (yr a cap [] w #[] rfl (by simp) (.inl rfl)).mono ?_;rintro e w1 ⟨v,rfl,hown,hb1⟩;obtain ⟨a1,c1,rfl⟩:=bH hown;simp only [Od];go_wp2_with fail
 refine (Dr _ _ _ _).mono ?_;rintro e w2 ⟨rfl,rfl⟩;go_wp2_with fail
 refine NH 1 ?_;rw [NK];go_wp2
 go_ret;exact ⟨[],none,0,rfl,List.Perm.refl _,Om,⟨by simp [cW],.inl rfl⟩,hb1⟩
theorem DX (a:Option Addr) (cap:Nat) (l:List Zp) (w:World) (h:aK w a l) (hl:l.length≤200000) (hw:∀ x ∈ l,uu x.2=true) :
  Calls prog 90 #[.slice a l.length cap] w (xq l w):=by
 by_cases hn:0<l.length
 ·exact yC a cap l w h hl hn hw
 ·have e:l = []:=MH ag;subst e;exact zL a cap w
theorem eU (a:Option Addr) (cap:Nat) (l:List Zp) (w:World) (h:aK w a l) (hl:l.length≤200000) (hw:∀ x ∈ l,uu x.2=true) (h8:∀ x ∈ l,x.1.length≤8) :
  Calls prog 72 #[.slice a l.length cap] w fun e w'=>∃ v,e = .returned (.tuple #[v,.int .i64 (aR l)])∧eA w w' v (bh l)∧Below w w w' :=
 yN a cap l w (DX a cap l w h hl hw) hl h8
theorem Ck:∀ (l:List Zp) (p:Option (List Vl)),uD p l=0↔(∀ x ∈ l,aQ x.1=0∧x.2≠0∧gV x.2=true)∧fh l∧∀ q,p=some q→∀ x ∈ l,aF q x.1<0
 | [],p=>by simp [uD,fh]
 | x :: r,p=>by
  have ih:=Ck r (some x.1)
  rw [uD]
  by_cases hw:aQ x.1=0
  ·rw [if_pos hw]
   by_cases h0:x.2=0∨gV x.2=false
   ·rw [if_pos h0]
    constructor
    ·intro h; omega
    ·rintro ⟨h,_⟩
     have:=h x (by simp)
     rcases h0 with h0 | h0
     ·exact absurd h0 this.2.1
     ·rw [h0] at this; exact absurd this.2.2 (by decide)
   ·rw [if_neg h0]
    have n0:x.2≠0:=fun h=>h0 (.inl h)
    have n1:gV x.2=true:=by
     cases h:gV x.2
     ·exact absurd (.inr h) h0
     ·rfl
    by_cases hc:∃ q,p=some q∧0≤aF q x.1
    ·rw [if_pos hc]
     constructor
     ·intro h; omega
     ·rintro ⟨_,_,h⟩
      obtain ⟨q,e,hq⟩:=hc
      have:=h q e x (by simp)
      omega
    ·rw [if_neg hc,ih]
     have hc':∀ q,p=some q→aF q x.1<0:=fun q e=>by
      by_cases h:0≤aF q x.1
      ·exact absurd ⟨q,e,h⟩ hc
      ·omega
     constructor
     ·rintro ⟨h1,h2,h3⟩
      have h3:=h3 x.1 rfl
      refine ⟨?_,List.pairwise_cons.2 ⟨h3,h2⟩,?_⟩
      ·intro y hy
       rcases List.mem_cons.1 hy with rfl | hy
       ·exact ⟨hw,n0,n1⟩
       ·exact h1 y hy
      ·intro q e y hy
       rcases List.mem_cons.1 hy with rfl | hy
       ·exact hc' q e
       ·exact dD (hc' q e) (by have:=h3 y hy; omega)
     ·rintro ⟨h1,h2,h3⟩
      have p:=List.pairwise_cons.1 h2
      exact ⟨fun y hy=>h1 y (by simp [hy]),p.2,fun q e y hy=>by injection e with e; subst e; exact p.1 y hy⟩
  ·rw [if_neg hw]
   constructor
   ·intro h; exact absurd h hw
   ·rintro ⟨h,_⟩; exact (h x (by simp)).1
theorem cq (l:List Zp):aM l=0↔l.length≤400∧(∀ x ∈ l,aQ x.1=0∧x.2≠0∧gV x.2=true)∧fh l:=by
 unfold aM;by_cases h:400<l.length
 ·rw [if_pos h];constructor
  ·intro h; omega
  ·rintro ⟨h',_⟩; omega
 ·rw [if_neg h,Ck];constructor
  ·rintro ⟨h1,h2,_⟩; exact ⟨by omega,h1,h2⟩
  ·rintro ⟨_,h1,h2⟩; exact ⟨h1,h2,fun q e=>by cases e⟩
def jV (f:Int→Int) (l:List Zp):List Zp:=if aM l=0 then bF f l else []
theorem nv (g:Nat) (cb:Array Value) (f:Int→Int) (a:Option Addr) (cap:Nat) (l:List Zp) (w:World) (h:aK w a l)
  (eg:∀ args w,(callFunc g args).run prog w = .ok (.enter g args) w) (hm:∀ W,oX g cb f W) :
  Calls prog 62 #[.slice a l.length cap,.func (.func g) #[] cb] w fun e w'=>∃ v,e = .returned (.tuple #[v,.int .i64 (aM l)])∧eA w w' v (jV f l)∧Below w w w':=by
 by_cases hw:aM l=0
 ·have hok:=(cq l).1 hw;have e:jV f l=bF f l:=by simp [jV,hw]
  rw [e];have Hw:=aB hw;clear hw e;go_enter func62,ntmps62;go_wp2_with fail
  refine bC (fP _ _ _ _ h) fun w1 hb1=>?_;rw [Hw.out];go_wp2_with fail
  refine (nX g cb f a cap l w1 (h.next hb1) eg (hm _) ag (fun x hx=>((bR _).1 (hok.2.1 x hx).1).1) (fun x hx=>(hok.2.1 x hx).2.2)).mono ?_;rintro e w2 ⟨v,rfl,O2,hb2⟩;have O2':=O2.mono hb1.size;obtain ⟨a1,c1,rfl,z1⟩:=O2.zs;go_wp2
  exact MA (v:=.tuple #[.slice a1 (bF f l).length c1,aD]) (by simp [results,results62,go_sem]) rfl ⟨_,by rw [Hw.out],O2',bg hb1 hb2⟩
 ·have e:jV f l = []:=by simp [jV,hw]
  rw [e];have hne:(aM l != 0)=true:=by simpa using hw
  go_enter func62,ntmps62;go_wp2_with fail
  refine bC (fP _ _ _ _ h) fun w1 hb1=>?_;go_wp2
  exact bJ rfl rfl ⟨_,rfl,ed _ _,hb1⟩
theorem LO:∀ args w,(callFunc 132 args).run prog w = .ok (.enter 132 args) w:=enters_of func132 aG rfl
theorem LV:∀ args w,(callFunc 133 args).run prog w = .ok (.enter 133 args) w:=enters_of func133 aG rfl
def kZ (w:Int):Int:=if w<0 then 0 else w
def ln (w:Int):Int:=if 0<w then 1 else 0
theorem JD (w:World):oX 132 #[] kZ w:=by
 intro x W hx _;have hx:=(cK _).1 hx;show Calls prog 132 #[x] W _;by_cases h:x<0
 ·have e:kZ x=0:=by simp [kZ,h]
  rw [e];go_enter func132,ntmps132;go_wp2
  go_ret;exact ⟨aH ag,Mz _ _⟩
 ·have e:kZ x=x:=by simp [kZ,h]
  rw [e];go_enter func132,ntmps132;go_wp2
  go_ret;exact ⟨aH ag,Mz _ _⟩
theorem JG (w:World):oX 133 #[] ln w:=by
 intro x W hx _;have hx:=(cK _).1 hx;show Calls prog 133 #[x] W _;by_cases h:0<x
 ·have e:ln x=1:=by simp [ln,h]
  rw [e];go_enter func133,ntmps133;go_wp2
  go_ret;exact ⟨aH ag,Mz _ _⟩
 ·have e:ln x=0:=by simp [ln,h]
  rw [e];go_enter func133,ntmps133;go_wp2
  go_ret;exact ⟨aH ag,Mz _ _⟩
theorem xL (a:Option Addr) (cap:Nat) (l:List Zp) (w:World) (h:aK w a l) :
  Calls prog 94 #[.slice a l.length cap] w fun e w'=>∃ v,e = .returned (.tuple #[v,.int .i64 (aM l)])∧eA w w' v (jV kZ l)∧Below w w w':=by
 go_enter func94,ntmps94;go_wp2_with fail
 refine (nv 132 #[] kZ a cap l w h LO JD).mono ?_;rintro e w1 ⟨v,rfl,O1,hb1⟩;obtain ⟨a1,c1,rfl,z1⟩:=O1.zs;go_wp2
 exact bJ rfl rfl ⟨_,rfl,O1,hb1⟩
theorem zd (a:Option Addr) (cap:Nat) (l:List Zp) (w:World) (h:aK w a l) :
  Calls prog 95 #[.slice a l.length cap] w fun e w'=>∃ v,e = .returned (.tuple #[v,.int .i64 (aM l)])∧eA w w' v (jV ln l)∧Below w w w':=by
 go_enter func95,ntmps95;go_wp2_with fail
 refine (nv 133 #[] ln a cap l w h LV JG).mono ?_;rintro e w1 ⟨v,rfl,O1,hb1⟩;obtain ⟨a1,c1,rfl,z1⟩:=O1.zs;go_wp2
 exact bJ rfl rfl ⟨_,rfl,O1,hb1⟩
theorem IT (w:World) (k n:Int) (s:ByteArray) :
  (binOp .neq 24 (.agg #[k,n,s]) (.agg #[k,n,s])).run prog w = .ok false w:=by
 rw [run_neq_struct,run_equalIn_struct w 9999 24 _ _ aG aG];simp [Program.fieldsOf,underlying24,go_sem]
theorem JP (a a':Option Addr) (cap cap':Nat) (z:List Zp) (w:World) (h:aK w a z) (h':aK w a' z) :
  Calls prog 21 #[.slice a z.length cap,.slice a' z.length cap'] w fun e w'=>e = .returned true∧Below w w w':=by
 have hl:=h.1;unfold maxLen at hl;go_enter func21,ntmps21;go_wp2_with fail
 go_loopw [14] (fun i wr=>∃ k:Nat,k≤z.length∧i = .int .i64 k∧Below w w wr) (fun i _=>z.length - (intOf i).toNat)
 case atStart=>exact ⟨0,MD _,rfl,Mz _ _⟩
 case round =>
  obtain ⟨k,hk,rfl,hb⟩:=hrel;by_cases hlt:k<z.length
  ·obtain ⟨b,off,rfl,hbl,c1,ar,cr,c0,sr⟩:=(h.next hb).elem hlt;obtain ⟨b',off',rfl,hbl',d1,br,dr,d0,tr⟩:=(h'.next hb).elem hlt;have i0:(0:Int)≤(k:Int):=by omega
   have i1:(k:Int)<(z.length:Int):=by omega
   have p0:=ak c0;have p1:=ak c1;have p2:=ak d0;have p3:=ak d1;haveI:Nonempty (cF wr):=⟨⟨wr,Mz _ _⟩⟩
   go_wp2_with fail
   refine aq aG aG ?_
   repeat (go_big_quiet_step (fail))
   refine wpQuiet_nil ?_;rintro w2 ⟨⟨v2,hb2⟩,h2⟩;obtain rfl:w2=v2:=h2;have q0:=(hb2.cell (p:=⟨b,_,none⟩) hbl).trans c0;have q2:=(hb2.cell (p:=⟨b',_,none⟩) hbl').trans d0;have sr2:=sr.next hb2;have tr2:=tr.next hb2;have hb2':=bg hb hb2;have hbl2:=My hbl hb2.size;have hbl2':=My hbl' hb2.size;have hrl:=sr.1;unfold maxLen at hrl;clear p0 p1 p2 p3 c0 c1 d0 d1 sr tr;go_wp2_with fail
   go_loopw [49] (fun i ws=>∃ j:Nat,j≤z[k].1.length∧i = .int .i64 j∧Below w2 w2 ws) (fun i _=>z[k].1.length - (intOf i).toNat)
   case atStart=>exact ⟨0,MD _,rfl,Mz _ _⟩
   case round =>
    obtain ⟨j,hj,rfl,hs⟩:=hrel;by_cases hjl:j<z[k].1.length
    ·obtain ⟨x,xo,rfl,xl,x0,x1,x2⟩:=(sr2.next hs).elem hjl;obtain ⟨y,yo,rfl,yl,y0,y1,y2⟩:=(tr2.next hs).elem hjl;have r0:=ak ((hs.cell (p:=⟨b,_,none⟩) hbl2).trans q0);have r2:=ak ((hs.cell (p:=⟨b',_,none⟩) hbl2').trans q2);have j0:(0:Int)≤(j:Int):=by omega
     have j1:(j:Int)<(z[k].1.length:Int):=by omega
     have s0:=ak x0;have s1:=ak x1;have s2:=ak x2;have s3:=ak y0;have s4:=ak y1;have s5:=ak y2;have ev:=fun w'=>IT w' z[k].1[j].1 z[k].1[j].2.1 z[k].1[j].2.2
     haveI:Nonempty (cF wr):=⟨⟨wr,Mz _ _⟩⟩
     go_wp2_with fail
     refine aq aG aG ?_
     repeat (go_big_quiet_step (fail))
     refine wpQuiet_nil ?_;rintro w3 ⟨⟨v3,hb3⟩,h3⟩;obtain rfl:w3=v3:=h3;go_wp2
     go_roundw
     case rel=>exact ⟨j+1,by omega,by go_num,bg hs hb3⟩
     case measure=>simp [intOf]; omega
    ·go_wp2
     go_roundw
     case rel=>exact ⟨k+1,by omega,by go_num,bg hb2' hs⟩
     case measure=>simp [intOf]; omega
  ·go_wp2
   go_ret;exact ⟨rfl,hb⟩
theorem yT (r:List Vl) (w:Int):∀ z:List Zp,∀ y ∈ cI z r w,y ∈ z∨y.1=aX r
 | []=>by
  unfold cI
  split
  ·simp
  ·intro y hy; simp at hy; subst hy; exact .inr rfl
 | x :: t=>by
  have ih:=yT r w t
  unfold cI
  split
  ·intro y hy
   rcases List.mem_cons.1 hy with rfl | hy
   ·exact .inl (by simp)
   ·rcases ih y hy with h | h
    ·exact .inl (by simp [h])
    ·exact .inr h
  ·split
   ·split
    ·intro y hy; exact .inl (by simp [hy])
    ·intro y hy
     rcases List.mem_cons.1 hy with rfl | hy
     ·exact .inr rfl
     ·exact .inl (by simp [hy])
   ·split
    ·intro y hy; exact .inl hy
    ·intro y hy
     rcases List.mem_cons.1 hy with rfl | hy
     ·exact .inr rfl
     ·exact .inl hy
theorem By (l:List Zp):∀ z:List Zp,∀ y ∈ l.foldl (fun z x=>cI z x.1 x.2) z,y ∈ z∨∃ x ∈ l,y.1=aX x.1:=by
 induction l with
 | nil=>intro z y hy; exact .inl hy
 | cons x r ih =>
  intro z y hy;rcases ih _ y hy with h | ⟨u,hu,e⟩
  ·rcases yT _ _ _ y h with h | h
   ·exact .inl h
   ·exact .inr ⟨x,by simp,h⟩
  ·exact .inr ⟨u,by simp [hu],e⟩
theorem mL (l:List Zp):∀ y ∈ canon l,∃ x ∈ l,y.1=aX x.1:=fun y hy=>by
 rcases By l [] y hy with h | h
 ·cases h
 ·exact h
theorem iS {l t:List Zp} (h:∀ q,wt l q=wt t q):canon l=canon t :=
 oa _ _ (eM l) (eM t) fun q=>by rw [gS,gS,h]
theorem Ev {l:List Zp} (h:aR l=0):lS (canon l)=false∧(canon l).length≤400:=by
 unfold aR at h;by_cases h1:lS (canon l)=true
 ·rw [if_pos h1] at h; omega
 ·rw [if_neg h1] at h;by_cases h2:400<(canon l).length
  ·rw [if_pos h2] at h; omega
  ·exact ⟨by simpa using h1,by omega⟩
theorem Jf {z:List Zp} (h:lS z=false):∀ x ∈ z,gV x.2=true:=by
 unfold lS at h;rw [List.any_eq_false] at h;intro x hx
 simpa using h x hx
theorem xX {l:List Zp} (hr:∀ x ∈ l,aQ x.1=0) (h:aR l=0):aM (canon l)=0:=by
 obtain ⟨h1,h2⟩:=Ev h;refine (cq _).2 ⟨h2,fun y hy=>?_,(eM l).i7⟩;obtain ⟨x,hx,e⟩:=mL l y hy;refine ⟨?_,(eM l).ne y hy,Jf h1 y hy⟩;rw [e,nF];exact hr x hx
theorem vH {W:World} {B:Nat} (hB:W.heap.size=B) (u0 u1:Value):∀ j u,[u0,u1][j]? = some u→(W.alloc (.cells #[u0,u1] 47)).cell? (((ah B 0):Addr).add j)=some u:=by
 subst hB;intro j u hj;have hn:=heap_alloc_new W (.cells #[u0,u1] 47)
 match j,hj with
 | 0,hj=>simp at hj; subst hj; simp [Addr.add]
 | 1,hj=>simp at hj; subst hj; simp [Addr.add]
theorem C8 (a:Option Addr) (m c:Nat) (x:Int):∀ u ∈ [Value.slice a m c,x],u.oneCell'=true:=by
 intro u hu; simp at hu; rcases hu with rfl | rfl <;> rfl
end Go.Proofs.YtoefpglknaiaeaaGreat
namespace Go.Proofs.YtoefpglknaiaeaaGreat
def cH (cols:List Int) (x:Ex):Int:=if (ax cols x).2≠0 then (ax cols x).2 else if (ax cols x).1≠2∧(ax cols x).1≠1 then 9 else 0
def gH (cols:List Int):List Zp→Int
 | []=>0
 | x :: r=>if eh cols x.1=0 then gH cols r else eh cols x.1
def bV (cols:List Int) (z:List Zp):Int:=if 8<cols.length then 5 else if aM z≠0 then aM z else gH cols z
def fM (cols:List Int):List Ex→Int
 | []=>0
 | x :: r=>if (ax cols x).2=0 then fM cols r else (ax cols x).2
def bM (cols:List Int) (xs:List Ex):Int:=if 8<xs.length then 5 else fM cols xs
theorem pY (cols:List Int) (z:List Zp) (k:Nat) (h:z.length≤k):gH cols (z.drop k)=0:=by rw [M7 h]; rfl
theorem pT (cols:List Int) (z:List Zp) (k:Nat) (h:k<z.length) (e:¬ eh cols z[k].1=0):gH cols (z.drop k)=eh cols z[k].1:=by
 rw [MI h,gH,if_neg e]
theorem nW (cols:List Int) (z:List Zp) (k:Nat) (h:k<z.length) (e:eh cols z[k].1=0):gH cols (z.drop k)=gH cols (z.drop (k+1)):=by
 rw [MI h,gH,if_pos e]
theorem sR (cols:List Int) (z:List Ex) (k:Nat) (h:z.length≤k):fM cols (z.drop k)=0:=by rw [M7 h]; rfl
theorem sG (cols:List Int) (z:List Ex) (k:Nat) (h:k<z.length) (e:¬ (ax cols z[k]).2=0):fM cols (z.drop k)=(ax cols z[k]).2:=by
 rw [MI h,fM,if_neg e]
theorem qP (cols:List Int) (z:List Ex) (k:Nat) (h:k<z.length) (e:(ax cols z[k]).2=0):fM cols (z.drop k)=fM cols (z.drop (k+1)):=by
 rw [MI h,fM,if_pos e]
theorem yU (cols:List Int):∀ z:List Zp,gH cols z=0↔∀ x ∈ z,dX cols x.1
 | []=>by simp [gH]
 | x :: r=>by
  have ih:=yU cols r
  rw [gH]
  by_cases h:eh cols x.1=0
  ·rw [if_pos h,ih]
   simp [(xP cols x.1).1 h]
  ·rw [if_neg h]
   constructor
   ·intro e; exact absurd e h
   ·intro e; exact absurd ((xP cols x.1).2 (e x (by simp))) h
theorem uP (cols:List Int):∀ z:List Ex,fM cols z=0↔∀ x ∈ z,(ax cols x).2=0
 | []=>by simp [fM]
 | x :: r=>by
  have ih:=uP cols r
  rw [fM]
  by_cases h:(ax cols x).2=0
  ·rw [if_pos h,ih]
   simp [h]
  ·rw [if_neg h]
   simp [h]
structure gN (cols:List Int) (z:List Zp):Prop where
 oF:cols.length≤8
 set:aM z=0
 fit:∀ x ∈ z,dX cols x.1
theorem gj (cols:List Int) (z:List Zp):bV cols z=0↔gN cols z:=by
 unfold bV;by_cases h8:8<cols.length
 ·rw [if_pos h8];constructor
  ·intro h; omega
  ·rintro ⟨h,_,_⟩; omega
 ·rw [if_neg h8];by_cases hw:aM z=0
  ·rw [if_neg (by simpa using hw),yU];exact ⟨fun h=>⟨by omega,hw,h⟩,fun h=>h.fit⟩
  ·rw [if_pos (by simpa using hw)];exact ⟨fun h=>absurd h hw,fun h=>h.set⟩
theorem Gm {cols:List Int} {x:Ex} (h:cH cols x=0):(ax cols x).2=0∧((ax cols x).1=1∨(ax cols x).1=2):=by
 unfold cH at h;by_cases h1:(ax cols x).2=0
 ·rw [if_neg (by simpa using h1)] at h;by_cases h2:(ax cols x).1≠2∧(ax cols x).1≠1
  ·rw [if_pos h2] at h; omega
  ·exact ⟨h1,by omega⟩
 ·rw [if_pos h1] at h;exact absurd h h1
theorem mw {cols:List Int} {x:Ex} (h:(ax cols x).2=0):py cols x=some (ax cols x).1:=((rH cols x).1 h).ty
def cX (x:Ex) (row:List Vl):Bool:=sw (bQ row x) == some true
def bp (xs:List Ex) (row:List Vl):List Vl:=xs.map (bQ row)
def Fp (g:List Vl→Int):List Zp→Int
 | []=>0
 | x :: r=>g x.1*x.2+Fp g r
def fB (x:Ex) (z:List Zp):List Zp:=z.filter fun p=>cX x p.1
def ig (xs:List Ex) (z:List Zp):List Zp:=z.map fun p=>(bp xs p.1,p.2)
theorem Bf {l:List Zp} (h:fh l):canon l=bF (fun w=>w) l :=
 (sh (nL _ _ h) fun q=>jy (fun w=>w) rfl q l h).symm
theorem Bu {z l:List Zp} (hz:aM z=0) (hl:l.Sublist z):aR l=0:=by
 obtain ⟨h1,h2,h3⟩:=(cq z).1 hz;have hr:fh l:=h3.sublist hl;have e:=Bf hr;have o:lS (canon l)=false:=by
  rw [e,ou];exact wm fun j hj=>(h2 _ (hl.subset (MC hj))).2.2
 have n:(canon l).length≤400:=by
  rw [e];have:=nJ (fun w=>w) l;have:=hl.length_le;omega
 unfold aR;rw [o,if_neg (by decide),if_neg ag]
theorem yj {z:List Zp} (hz:aM z=0) (p:Zp→Bool):aR (z.filter p)=0:=Bu hz List.filter_sublist
def fU (cols:List Int) (x:Ex) (z:List Zp):Int:=if cH cols x≠0 then cH cols x else if bV cols z≠0 then bV cols z else 0
def iQ (cols:List Int) (x:Ex) (z:List Zp):List Zp:=if fU cols x z=0 then canon (fB x z) else []
def jS (cols:List Int) (xs:List Ex) (z:List Zp):Int:=if bM cols xs≠0 then bM cols xs else if bV cols z≠0 then bV cols z else aR (ig xs z)
def nr (cols:List Int) (xs:List Ex) (z:List Zp):List Zp:=if jS cols xs z=0 then canon (ig xs z) else []
theorem kG {cols:List Int} {xs:List Ex} (h:bM cols xs=0):xs.length≤8∧∀ x ∈ xs,(ax cols x).2=0:=by
 unfold bM at h;by_cases h8:8<xs.length
 ·rw [if_pos h8] at h; omega
 ·rw [if_neg h8,uP] at h;exact ⟨by omega,h⟩
end Go.Proofs.YtoefpglknaiaeaaGreat
