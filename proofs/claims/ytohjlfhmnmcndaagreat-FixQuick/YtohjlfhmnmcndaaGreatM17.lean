/- Together: T3, T4, R1, R2, R3, D1, VI, UA, UB. -/
import Derived.Laws.MakeOwn
import Derived.Test.YtohjlfhmnmcndaaGreatM16
import Derived.Test.YtohjlfhmnmcndaaGreatM6
import Derived.Test.YtohjlfhmnmcndaaGreatM7
import Derived.Test.YtohjlfhmnmcndaaGreatM2
import Derived.Test.YtohjlfhmnmcndaaGreatM13
import Derived.Test.YtohjlfhmnmcndaaGreatM3
import Derived.Test.YtohjlfhmnmcndaaGreatM8
import Derived.Test.YtohjlfhmnmcndaaGreatM11
import Derived.Test.YtohjlfhmnmcndaaGreatM9
namespace Go.Proofs.YtohjlfhmnmcndaaGreat
open Go.RowKit
set_option maxRecDepth 100000
set_option maxHeartbeats 16000000
theorem mY (cols:List Int) (x:Ex) (ca:Option Addr) (ccap:Nat) (a:Option Addr) (cap:Nat) (w:World) (hk:bd w.heap.size w a x.ks) (hc:bc w.heap.size w ca cols) :
  Calls Tryz.prog 109 #[.slice ca cols.length ccap,lC x.k x.v x.c a x.ks.length cap] w fun e w'=>e = .returned (.tuple #[.int .i64 (an cols x).1,.int .i64 (an cols x).2])∧Below w.heap.size w w':=by
 have hl:=hc.1;unfold maxLen at hl;generalize hr:an cols x=r;have HR:Hid (an cols x=r):=hr;clear hr;by_cases h16:16<cols.length
 ·have er:r=(0,5):=by rw [← HR.out,an,if_pos h16]
  subst er;clear HR;go_enter Tryz.func109,Tryz.ntmps109;go_wp2
  exact Nl (v:=.tuple #[.int .i64 0,.int .i64 5]) (by simp [results,Tryz.results109,go_sem]) rfl ⟨rfl,(Nk _ _).alloc (Nj _) _⟩
 go_enter Tryz.func109,Tryz.ntmps109;go_wp2_with fail
 have S0:=mb.new w x.k x.v x.c a x.ks.length cap 27;have hal:=aa w (.cells (ig x a cap) 27);have z0:w.heap.size<(w.alloc (.cells (ig x a cap) 27)).heap.size:=by simp
 generalize w.alloc (.cells (ig x a cap) 27)=w0 at *;go_loopw [16] (fun i wr=>∃ j:Nat,j≤cols.length∧i = .int .i64 j∧Hid (eQ cols=eQ (cols.drop j))∧wr=w0) (fun i _=>cols.length - (intOf i).toNat)
 case atStart=>exact ⟨0,Nr _,rfl,rfl,rfl⟩
 case round =>
  obtain ⟨j,hj,rfl,HE,rfl⟩:=hrel;by_cases hlt:j<cols.length
  ·obtain ⟨b,off,rfl,hbl,c⟩:=(hc.next hal (Nj _)).elem hlt;by_cases g1:cols[j]<1
   ·have er:r=(0,1):=by
     rw [← HR.out,an,if_neg h16,HE.out,nK cols j hlt (.inl g1),if_pos rfl]
    subst er;clear HR HE;go_wp2
    exact Nl (v:=.tuple #[.int .i64 0,.int .i64 1]) (by simp [results,Tryz.results109,go_sem]) rfl ⟨rfl,hal⟩
   by_cases g2:4<cols[j]
   ·have er:r=(0,1):=by
     rw [← HR.out,an,if_neg h16,HE.out,nK cols j hlt (.inr g2),if_pos rfl]
    subst er;clear HR HE;go_wp2
    exact Nl (v:=.tuple #[.int .i64 0,.int .i64 1]) (by simp [results,Tryz.results109,go_sem]) rfl ⟨rfl,hal⟩
   have HC:Hid (eQ (cols.drop j)=eQ (cols.drop (j+1))):=sS cols j hlt g1 g2;go_wp2
   go_roundw
   case rel=>exact ⟨j+1,by omega,by go_num,HE.out.trans HC.out,trivial⟩
   case measure=>simp [intOf]; omega
  ·have hcb:eQ cols=true:=by rw [HE.out,uQ cols j (by omega)]
   have er:r=((aU cols x 0 1).1,(aU cols x 0 1).2.1):=by rw [← HR.out,tG (by omega) hcb]
   have HI:Hid ((aU cols x 0 1).2.1=0→eL (aU cols x 0 1).1):=fun h =>
    xp (oa hcb) x _ ((jQ cols x 0 1 (aU cols x 0 1).1 (aU cols x 0 1).2.2).1 (Prod.ext rfl (Prod.ext h rfl))).1
   have HZ:Hid (¬ (aU cols x 0 1).2.1=0→(aU cols x 0 1).1=0):=rL cols x 0 1;have T0:jr (wr.alloc (.cells #[.slice ca cols.length ccap,.int .i64 0] 170)) wr.heap.size ca cols.length ccap 0:=⟨by simp,by simp,by simp,by simp⟩
   have hal2:=aa wr (.cells #[.slice ca cols.length ccap,.int .i64 0] 170);have con:=Dv hcb x w.heap.size wr.heap.size ca ccap a cap 0 1 _ (bd.next (chain hal hal2) (Nj _) hk) (hc.next (chain hal hal2) (Nj _)) hal.size T0 (by omega) (by omega) (by omega) (by omega);generalize aU cols x 0 1=ty at *;subst er;clear HR HE hcb;obtain ⟨s0,s1,s2,s3,s4,s5⟩:=S0;simp only [Np] at s1 s2 s3 s4 s5;obtain ⟨t1,t2,t3⟩:=ty;go_wp2_with fail
   refine con.mono ?_;rintro e w5 ⟨rfl,hX,_⟩;have hb5:=(chain hal hal2).trans (hX.below hal.size);clear con s0 s1 s2 s3 s4 s5 hX T0 hal2;by_cases he:t2=0
   ·subst he;have hin:eL t1:=HI.out rfl;have el:lv (t1,0,t3)=cX t1:=rfl;rw [el];clear HI HZ el;obtain ⟨n,rfl⟩:∃ n:Nat,t1=n:=⟨t1.toNat,by unfold eL at hin; omega⟩
    have hn:1≤n∧n≤4:=by unfold eL at hin; omega
    have HIn:Hid (eL (n:Int)):=hin;clear hin;go_wp2_with fail
    go_loopw [10] (fun i wr=>∃ j:Nat,1≤j∧j≤n∧i = .int .i64 j∧Below w.heap.size w wr) (fun i _=>n - (intOf i).toNat)
    case atStart=>exact ⟨1,by omega,by omega,rfl,hb5⟩
    case round =>
     obtain ⟨j,hj1,hjn,rfl,hb⟩:=hrel;have HJ:Hid (eL (j:Int)):=by show eL _; unfold eL; omega
     by_cases e:j=n
     ·subst e;go_wp2_with fail
      refine (mn (j:Int) _ HJ.out).mono ?_;rintro e w7 ⟨rfl,hb7⟩;have hb7':=chain hb hb7;go_wp2
      exact Nl (v:=.tuple #[.int .i64 j,.int .i64 0]) (by simp [results,Tryz.results109,go_sem]) rfl ⟨rfl,hb7'⟩
     ·have hne:(cX (j:Int) == cX (n:Int))=false:=by
       have:¬ cX (j:Int)=cX (n:Int):=fun q=>e (by have:=Kt HJ.out HIn.out q; omega)
       simpa using this
      go_wp2_with fail
      refine (mn (j:Int) _ HJ.out).mono ?_;rintro e w7 ⟨rfl,hb7⟩;have hb7':=chain hb hb7;go_wp2
      go_roundw
      case rel=>exact ⟨j+1,by omega,by omega,by go_num,hb7'⟩
      case measure=>simp [intOf]; omega
   ·have ez:t1=0:=HZ.out he;subst ez;have q':(t2 != 0)=true:=by simpa using he
    clear HI HZ;go_wp2
    exact Nl (v:=.tuple #[.int .i64 0,.int .i64 t2]) (by simp [results,Tryz.results109,go_sem]) rfl ⟨rfl,hb5⟩
theorem BG (cols:List Int) (row:List Vl) (ca:Option Addr) (ccap:Nat) (ra:Option Addr) (rcap:Nat) (w:World) (hc:bc w.heap.size w ca cols) (hs:aM w ra row) :
  Calls Tryz.prog 87 #[.slice ca cols.length ccap,.slice ra row.length rcap] w fun e w'=>e = .returned (.int .i64 (di cols row))∧Below w.heap.size w w':=by
 have hl:=hs.1;unfold maxLen at hl;generalize hr:di cols row=r;have HR:Hid (di cols row=r):=hr;clear hr;by_cases hlen:row.length=cols.length
 ·have HG:Hid (dJ cols row=r):=by show dJ cols row=r; rw [← HR.out,di,if_neg (by simp [hlen])]
  have HL:Hid (row.length=cols.length):=hlen;have q:((cols.length:Int) != (row.length:Int))=false:=by simp; omega
  clear HR hlen;go_enter Tryz.func87,Tryz.ntmps87;go_wp2_with fail
  go_loopw [14] (fun i wr=>∃ j:Nat,j≤row.length∧i = .int .i64 j∧Hid (dJ cols row=dJ (cols.drop j) (row.drop j))∧Below w.heap.size w wr) (fun i _=>row.length - (intOf i).toNat)
  case atStart=>exact ⟨0,Nr _,rfl,rfl,Nk _ _⟩
  case round =>
   obtain ⟨j,hj,rfl,HE,hb⟩:=hrel;have hz:=hb.size;by_cases hlt:j<row.length
   ·have hlt':j<cols.length:=by have:=HL.out; omega
    obtain ⟨b,off,rfl,hbl,r0,r1,r2⟩:=(hs.next hb).elem hlt;obtain ⟨b',off',rfl,hbl',c0⟩:=(hc.next hb (Nj _)).elem hlt';generalize hv:row[j]=v at *;generalize hcj:cols[j]=cj at *;have HV:Hid (row[j]=v):=hv;have HC:Hid (cols[j]=cj):=hcj;clear hv hcj;obtain ⟨k,n,s⟩:=v;go_wp2_with fail
    refine (fY _ _ _ _).mono ?_;rintro e w1 ⟨rfl,hb1⟩;have hb1':=chain hb hb1;have d0:=(hb1.cell (p:=⟨b,off+j*3,none⟩) hbl).trans r0;have c1:=(hb1.cell (p:=⟨b',off'+j,none⟩) (by show b'<_; omega)).trans c0;clear r0 r1 r2 c0;by_cases hw:aI k n s=0
    ·rw [hw];have HW:Hid (aY row[j]=0):=by show aY row[j]=0; rw [HV.out]; exact hw
     clear hw;have p0:=ag d0;have p1:=ag c1;haveI:Nonempty (bW w1):=⟨⟨_,Nk _ _⟩⟩
     by_cases kc:k=cj;subst kc;have HN:Hid (dJ (cols.drop j) (row.drop j)=dJ (cols.drop (j+1)) (row.drop (j+1))):=kU cols row j hlt hlt' HW.out (.inr (by rw [HV.out,HC.out]));rotate_left;have q2:(k != cj)=true:=by simpa using kc
     by_cases k1:k=1;subst k1;have HN:Hid (dJ (cols.drop j) (row.drop j)=dJ (cols.drop (j+1)) (row.drop (j+1))):=kU cols row j hlt hlt' HW.out (.inl (by rw [HV.out]));rotate_left;have q1:(k != 1)=true:=by simpa using k1
     have er:r=9:=by rw [← HG.out,HE.out,tQ cols row j hlt hlt' HW.out (by rw [HV.out]; exact k1) (by rw [HV.out,HC.out]; exact kc)]
     subst er;clear HG HE;go_wp2_with fail
     refine aq (by kernel_rfl) (by kernel_rfl) ?_
     repeat (go_big_quiet_step (fail))
     refine wpQuiet_nil ?_;rintro w2 ⟨⟨v2,hb2⟩,h2⟩;obtain rfl:w2=v2:=h2;clear p0 p1 d0 c1;go_wp2_with fail
     go_ret;exact ⟨rfl,chain hb1' hb2⟩
     all_goals
      go_wp2_with fail
      refine aq (by kernel_rfl) (by kernel_rfl) ?_
      repeat (go_big_quiet_step (fail))
      refine wpQuiet_nil ?_;rintro w2 ⟨⟨v2,hb2⟩,h2⟩;obtain rfl:w2=v2:=h2;clear p0 p1 d0 c1;go_wp2_with fail
      go_roundw
      case rel=>exact ⟨j+1,by omega,by go_num,HE.out.trans HN.out,chain hb1' hb2⟩
      case measure=>simp [intOf]; omega
    ·have er:r=aI k n s:=by rw [← HG.out,HE.out,qv cols row j hlt hlt' (by rw [HV.out]; exact hw),HV.out]; rfl
     subst er;clear HG HE;have q3:(aI k n s != 0)=true:=by simpa using hw
     go_wp2_with fail
     go_ret;exact ⟨rfl,hb1'⟩
   ·have er:r=0:=by rw [← HG.out,HE.out,vd cols row j (by omega)]
    subst er;clear HG HE;go_wp2_with fail
    go_ret;exact ⟨rfl,hb⟩
 ·have er:r=8:=by rw [← HR.out,di,if_pos hlen]
  subst er;have q:((cols.length:Int) != (row.length:Int))=true:=by simp; omega
  clear HR;go_enter Tryz.func87,Tryz.ntmps87;go_wp2_with fail
  go_ret;exact ⟨rfl,Nk _ _⟩
end Go.Proofs.YtohjlfhmnmcndaaGreat
namespace Go.Proofs.YtohjlfhmnmcndaaGreat
open Go.RowKit Go.Lib Go.Shelf
set_option maxRecDepth 100000
set_option maxHeartbeats 16000000
def Safe (B:Nat) (W:World) (a:Option Addr) (r:List Vl):Prop:=r = []∨gm W a∨∀ b off,a=some ⟨b,off,none⟩→b<B
theorem Safe.next {B:Nat} {W w1:World} {a:Option Addr} {r:List Vl} (h:Safe B W a r) (hb:Below W.heap.size W w1):Safe B w1 a r:=by
 rcases h with h | h | h
 ·exact .inl h
 ·exact .inr (.inl (h.next hb))
 ·exact .inr (.inr h)
def xM (B:Nat) (W:World) (xs:List Value) (l:List Zp):Prop :=
 xs.length=l.length*2∧∀ (i:Nat) (h:i<l.length),∃ a cap,xs[i*2]? = some (.slice a l[i].1.length cap)∧xs[i*2+1]? = some (.int .i64 l[i].2)∧aM W a l[i].1∧Safe B W a l[i].1
theorem xM.next {B:Nat} {W w1:World} {xs:List Value} {l:List Zp} (h:xM B W xs l) (hb:Below W.heap.size W w1):xM B w1 xs l :=
 ⟨h.1,fun i hi=>by
  obtain ⟨a,cap,h1,h2,h3,h4⟩:=h.2 i hi
  exact ⟨a,cap,h1,h2,h3.next hb,h4.next hb⟩⟩
theorem xM.append {B:Nat} {W:World} {xs ys:List Value} {l t:List Zp} (h:xM B W xs l) (k:xM B W ys t):xM B W (xs ++ ys) (l ++ t):=by
 have lx:=h.1;have ly:=k.1;refine ⟨by simp [lx,ly]; omega,fun i hi=>?_⟩;by_cases hi':i<l.length
 ·obtain ⟨a',c',h1,h2,h3⟩:=h.2 i hi';rw [Ny hi'];refine ⟨a',c',?_,?_,h3⟩
  ·rw [NC (by omega),h1]
  ·rw [NC (by omega),h2]
 ·have hi2:i - l.length<t.length:=by simp at hi; omega
  obtain ⟨a',c',h1,h2,h3⟩:=k.2 (i - l.length) hi2;rw [Ob (by omega)];refine ⟨a',c',?_,?_,h3⟩
  ·rw [NG (by omega),← h1]; congr 1; omega
  ·rw [NG (by omega),← h2]; congr 1; omega
def Ip (B:Nat) (W:World) (v:Value) (l:List Zp):Prop:=∃ xs,W.ownsRow B 58 2 v l.length xs∧xM B W xs l
theorem Ip.next {B:Nat} {W w1:World} {v:Value} {l:List Zp} (h:Ip B W v l) (hb:Below W.heap.size W w1):Ip B w1 v l:=by
 obtain ⟨xs,h1,h2⟩:=h;exact ⟨xs,aS h1 hb,h2.next hb⟩
structure Nc (a:Option Addr) (cap n:Nat):Prop where
 nil:a=none→cap=0
 room:n≤cap
 max:cap≤maxLen
theorem Ip.zs {B:Nat} {W:World} {v:Value} {l:List Zp} (h:Ip B W v l):∃ a cap,v = .slice a l.length cap∧aL W a l∧Nc a cap l.length:=by
 obtain ⟨xs,h1,h2⟩:=h;have h1':=h1;obtain ⟨hx,h1 | ⟨g,cap,cur,e,hg,hh,hn,hc,hs,ht⟩⟩:=h1
 ·obtain ⟨rfl,h0⟩:=h1;have:l = []:=Nu h0;subst this;exact ⟨none,0,rfl,⟨Nr _,.inl rfl⟩,fun _=>rfl,by simp,Nr _⟩
 ·subst e;refine ⟨_,cap,rfl,⟨Nw hn hc,.inr ⟨g,0,rfl,?_,?_⟩⟩,fun e=>(by cases e),hn,hc⟩
  ·exact (h1'.lt g rfl).2
  ·intro i hi;obtain ⟨a,cp,e0,e1,e2,e3⟩:=h2.2 i hi;refine ⟨?_,a,cp,?_,e2⟩
   ·rw [h1'.cellAt _ (by omega),← e1]; congr 1; omega
   ·rw [h1'.cellAt _ (by omega),← e0]; congr 1; omega
theorem nv {W:World} {base e size n:Nat} {v:Value} {xs:List Value} (h:W.ownsRow base e size v n xs):∃ a c,v = .slice a n c:=by
 obtain ⟨_,⟨rfl,h0⟩ | ⟨g,c1,cur,rfl,_⟩⟩:=h
 ·exact ⟨none,0,by rw [h0]⟩
 ·exact ⟨_,c1,rfl⟩
def Ld (xs:List Value) (l:List Vl):Prop:=xs.length=l.length*3∧∀ (i:Nat) (h:i<l.length),xs[i*3]? = some (.int .i64 l[i].1)∧xs[i*3+1]? = some (.int .i64 l[i].2.1)∧xs[i*3+2]? = some (.string l[i].2.2)
theorem Ld.push {xs:List Value} {l:List Vl} (h:Ld xs l) (v:Vl):Ld (xs ++ [.int .i64 v.1,.int .i64 v.2.1,.string v.2.2]) (l ++ [v]):=by
 have lx:=h.1;refine ⟨by simp [lx]; omega,fun i hi=>?_⟩;by_cases hi':i<l.length
 ·obtain ⟨h0,h1,h2⟩:=h.2 i hi';rw [Ny hi'];refine ⟨?_,?_,?_⟩
  ·rw [NC (by omega),h0]
  ·rw [NC (by omega),h1]
  ·rw [NC (by omega),h2]
 ·have:i=l.length:=by simp at hi; omega
  subst this;simp only [OS];refine ⟨?_,?_,?_⟩
  ·rw [NG (by omega)]; simp [lx]
  ·rw [NG (by omega)]; simp [lx]
  ·rw [NG (by omega)]; simp [lx]
theorem aL.take {W:World} {a:Option Addr} {z:List Zp} (h:aL W a z) (k:Nat):aL W a (z.take k):=by
 obtain ⟨h0,rfl | ⟨b,off,e,hlt,hr⟩⟩:=h
 ·exact ⟨by simp,.inl (by simp)⟩
 ·refine ⟨by rw [NN]; omega,.inr ⟨b,off,e,hlt,fun i hi=>?_⟩⟩;rw [NN] at hi;rw [List.getElem_take];exact hr i (by omega)
theorem aL.drop {W:World} {b off:Nat} {z:List Zp} (h:aL W (some ⟨b,off,none⟩) z) (k:Nat):aL W (some ⟨b,off+k*2,none⟩) (z.drop k):=by
 obtain ⟨h0,rfl | ⟨b',off',e,hlt,hr⟩⟩:=h
 ·exact ⟨by simp,.inl (by simp)⟩
 ·injection e with e
  injection e with e1 e2 _
  subst e1 e2;refine ⟨by rw [List.length_drop]; omega,.inr ⟨b,off+k*2,rfl,hlt,fun i hi=>?_⟩⟩;rw [List.length_drop] at hi;rw [List.getElem_drop];have:=hr (k+i) (by omega);rw [show off+(k+i)*2=off+k*2+i*2 by omega] at this;exact this
theorem nQ (a:Option Addr) (cap:Nat) (l:List Zp) (w:World) (h:aL w a l) :
  Calls Tryz.prog 86 #[.slice a l.length cap] w fun e w'=>e = .returned (.int .i64 (aF l))∧Below w.heap.size w w':=by
 have hl:=h.1;unfold maxLen at hl;by_cases h8:400<l.length
 ·have e:aF l=5:=by simp [aF,h8]
  rw [e];clear e;go_enter Tryz.func86,Tryz.ntmps86;go_wp2
  go_ret;exact ⟨rfl,Nk _ _⟩
 ·have e:aF l=lF none l:=by simp [aF,h8]
  rw [e];clear e;go_enter Tryz.func86,Tryz.ntmps86;go_wp2_with fail
  go_loopw [10] (fun i w1=>∃ k:Nat,k≤l.length∧i = .int .i64 k∧Hid (lF none l=lF (fm l k) (l.drop k))∧Hid (∀ t (ht:t<l.length),t<k→aJ l[t].1=0)∧Below w.heap.size w w1) (fun i _=>l.length - (intOf i).toNat)
  case atStart=>exact ⟨0,Nr _,rfl,rfl,fun t _ ht=>absurd ht (N7 _),Nk _ _⟩
  case round =>
   obtain ⟨k,hk,rfl,HC,HA,hb⟩:=hrel;by_cases hlt:k<l.length
   ·have i0:(0:Int)≤(k:Int):=by omega
    have i4:(k:Int)<(l.length:Int):=by omega
    obtain ⟨b,off,rfl,hbl,c1,ar,cr,c0,sr⟩:=(h.next hb).elem hlt;have HZ:Hid (aL w (some ⟨b,off,none⟩) l):=h;clear h;by_cases hw:aJ l[k].1=0
    ·have Hw:Hid (aJ l[k].1=0):=hw;clear hw;go_wp2_with fail
     refine (vk _ _ _ _ sr).mono ?_;rintro e w1 ⟨rfl,hb1⟩;rw [Hw.out];have hb1':=bS hb hb1;have e1:=(hb1.cell (p:=⟨b,_,none⟩) hbl).trans c1;have e0:=(hb1.cell (p:=⟨b,_,none⟩) hbl).trans c0;by_cases h0:l[k].2=0
     ·have HN:Hid (lF none l=3):=HC.out.trans (oA l k hlt Hw.out (.inl h0));go_wp2
      go_ret;exact ⟨aA HN.out.symm,hb1'⟩
     ·have g0:(l[k].2 == 0)=false:=by simpa using h0
      cases h1:hJ l[k].2
      ·have HN:Hid (lF none l=3):=HC.out.trans (oA l k hlt Hw.out (.inr h1));have H1:Hid (hJ l[k].2=false):=h1;clear h1;go_wp2_with fail
       refine (kM _ _).mono ?_;rintro e w2 ⟨rfl,rfl⟩;rw [H1.out];go_wp2
       go_ret;exact ⟨aA HN.out.symm,hb1'⟩
      ·have H1:Hid (hJ l[k].2=true):=h1;clear h1;by_cases hp:0<k
       ·obtain ⟨b',off',hh,hbl',⟨d1,ap,cp,d0,sp⟩,-⟩:=(HZ.out.next hb1').KH (j:=k - 1) (k:=k) (by omega) hlt;simp only [OO,Addr.mk.injEq] at hh;obtain ⟨rfl,rfl,-⟩:=hh;have sr1:=sr.next hb1;have j0:(0:Int)<(k:Int):=by omega
        have j1:(0:Int)≤(k:Int) - 1:=by omega
        have j2:(k:Int) - 1<(l.length:Int):=by omega
        have j3:((k:Int) - 1).toNat=k - 1:=by omega
        have p0:=ag d0;have p1:=ag e0;have HR:Hid (gC (l[k - 1]'(by omega)).1=true):=((cO _).1 (HA.out (k - 1) (by omega) (by omega))).2;haveI:Nonempty (bW w1):=⟨⟨w1,Nk _ _⟩⟩
        have hbd:=qY (l[k - 1]'(by omega)).1 l[k].1;by_cases hc:0≤aG (l[k - 1]'(by omega)).1 l[k].1
        ·have HN:Hid (lF none l=2):=HC.out.trans (yu l k hlt Hw.out h0 H1.out hp hc);have hcm:(aG (l[k - 1]'(by omega)).1 l[k].1 != -1)=true:=by simp; omega
         clear hbd hc;go_wp2_with fail
         refine (kM _ _).mono ?_;rintro e w2 ⟨rfl,rfl⟩;rw [H1.out];go_wp2_with fail
         refine aq (by kernel_rfl) (by kernel_rfl) ?_
         repeat (go_big_quiet_step (first | (go_at_call 24; exact bE (tz _ _ _ _ _ _ _ (sp.next (bW.ok _)) (sr1.next (bW.ok _)) HR.out))))
         refine wpQuiet_nil ?_;rintro w3 ⟨⟨v3,hb3⟩,h3⟩;obtain rfl:w3=v3:=h3;go_wp2
         go_ret;exact ⟨aA HN.out.symm,bS hb1' hb3⟩
        ·have HN:Hid (lF none l=lF (fm l (k+1)) (l.drop (k+1))):=HC.out.trans (ob l k hlt Hw.out h0 H1.out (fun _=>hc));have hcm:aG (l[k - 1]'(by omega)).1 l[k].1 = -1:=by omega
         clear hbd hc;go_wp2_with fail
         refine (kM _ _).mono ?_;rintro e w2 ⟨rfl,rfl⟩;rw [H1.out];go_wp2_with fail
         refine aq (by kernel_rfl) (by kernel_rfl) ?_
         repeat (go_big_quiet_step (first | (go_at_call 24; exact bE (tz _ _ _ _ _ _ _ (sp.next (bW.ok _)) (sr1.next (bW.ok _)) HR.out))))
         refine wpQuiet_nil ?_;rintro w3 ⟨⟨v3,hb3⟩,h3⟩;obtain rfl:w3=v3:=h3;go_wp2
         go_roundw
         case rel=>exact ⟨k+1,by omega,by go_num,HN.out,fun t ht htk=>by
          by_cases e:t=k
          ·subst e; exact Hw.out
          ·exact HA.out t ht (by omega),bS hb1' hb3⟩
         case measure=>simp [intOf]; omega
       ·have k0:k=0:=by omega
        subst k0;have HN:Hid (lF none l=lF (fm l (0+1)) (l.drop (0+1))):=HC.out.trans (ob l 0 hlt Hw.out h0 H1.out (fun h=>absurd h hp));haveI:Nonempty (bW w1):=⟨⟨w1,Nk _ _⟩⟩
        go_wp2_with fail
        refine (kM _ _).mono ?_;rintro e w2 ⟨rfl,rfl⟩;rw [H1.out];go_wp2_with fail
        refine aq (by kernel_rfl) (by kernel_rfl) ?_
        repeat (go_big_quiet_step (fail))
        refine wpQuiet_nil ?_;rintro w3 ⟨⟨v3,hb3⟩,h3⟩;obtain rfl:w3=v3:=h3;go_wp2
        go_roundw
        case rel=>exact ⟨0+1,by omega,by go_num,HN.out,fun t ht htk=>by
         have:t=0:=by omega
         subst this; exact Hw.out,bS hb1' hb3⟩
        case measure=>simp [intOf]; omega
    ·have Hw:Hid (¬ aJ l[k].1=0):=hw;have hne:(aJ l[k].1 != 0)=true:=by simpa using hw
     have HN:Hid (lF none l=aJ l[k].1):=HC.out.trans (B6 l k hlt hw);clear hw;go_wp2_with fail
     refine (vk _ _ _ _ sr).mono ?_;rintro e w1 ⟨rfl,hb1⟩;go_wp2
     go_ret;exact ⟨aA HN.out.symm,bS hb hb1⟩
   ·go_wp2
    go_ret;exact ⟨aA (by rw [HC.out,Cg l k (by omega)]),hb⟩
theorem BV.dt {W:World} {g n:Nat} {zs:List (List Zp)} (h:BV W g n zs):gL W (some ⟨g,0,none⟩) zs:=by
 have key:∀ (i:Nat) (hi:i<zs.length),∃ (y:Option Addr × Nat),W.cell? ⟨g,i,none⟩=some (.slice y.1 zs[i].length y.2)∧aL W y.1 zs[i]∧(y.1=none→y.2=0):=fun i hi=>by
  obtain ⟨v,base,_,h2,h3⟩:=h.laid i hi;obtain ⟨a,c,rfl,h4,h5⟩:=h3.xK;exact ⟨(a,c),h2,h4,h5⟩
 obtain ⟨f,hf⟩:=Go.Deep.choose_lt (α:=Option Addr × Nat) (n:=zs.length) (p:=fun i y=>∃ hi:i<zs.length,W.cell? ⟨g,i,none⟩=some (.slice y.1 zs[i].length y.2)∧aL W y.1 zs[i]∧(y.1=none→y.2=0)) (fun i hi=>by obtain ⟨y,hy⟩:=key i hi; exact ⟨y,hi,hy⟩);refine .inr ⟨g,0,fun i=>(f i).1,fun i=>(f i).2,rfl,h.lt,fun i hi=>?_⟩;obtain ⟨_,h1⟩:=hf i hi;rw [Np];exact h1
theorem zO (cols:List Int) (ca:Option Addr) (ccap:Nat) (a:Option Addr) (cap:Nat) (l:List Zp) (w:World) (hc:bc w.heap.size w ca cols) (h:aL w a l) :
  Calls Tryz.prog 62 #[.slice ca cols.length ccap,.slice a l.length cap] w fun e w'=>e = .returned (.int .i64 (bz cols l))∧Below w.heap.size w w':=by
 have hl:=h.1;unfold maxLen at hl;have hcl:=hc.1;unfold maxLen at hcl;by_cases h8:8<cols.length
 ·have e:bz cols l=5:=by simp [bz,h8]
  rw [e];have hz:(8:Int)<(cols.length:Int):=by omega
  go_enter Tryz.func62,Tryz.ntmps62;go_wp2
  go_ret;exact ⟨rfl,Nk _ _⟩
 have hz:¬ (8:Int)<(cols.length:Int):=by omega
 by_cases hw:aF l=0
 ·have e:bz cols l=fB cols l:=by simp [bz,h8,hw]
  rw [e];clear e;have Hw:Hid (aF l=0):=hw;clear hw;go_enter Tryz.func62,Tryz.ntmps62;go_wp2_with fail
  refine (nQ _ _ _ _ h).mono ?_;rintro e w1 ⟨rfl,hb1⟩;rw [Hw.out];go_wp2_with fail
  go_loopw [18] (fun i wr=>∃ k:Nat,k≤l.length∧i = .int .i64 k∧Hid (fB cols l=fB cols (l.drop k))∧Below w.heap.size w wr) (fun i _=>l.length - (intOf i).toNat)
  case atStart=>exact ⟨0,Nr _,rfl,rfl,hb1⟩
  case round =>
   obtain ⟨k,hk,rfl,HC,hb⟩:=hrel;have hz:=hb.size;by_cases hlt:k<l.length
   ·obtain ⟨b,off,rfl,hbl,c1,ar,cr,c0,sr⟩:=(h.next hb).elem hlt;have con:=BG cols l[k].1 ca ccap ar cr wr ((hc.next hb (Nj _)).up hb.size) sr;have i0:(0:Int)≤(k:Int):=by omega
    have i1:(k:Int)<(l.length:Int):=by omega
    by_cases hw:di cols l[k].1=0
    ·have Hw:Hid (di cols l[k].1=0):=hw;rw [hw] at con;clear hw;go_wp2_with fail
     refine con.mono ?_;rintro e w2 ⟨rfl,hb2⟩;go_wp2
     go_roundw
     case rel=>exact ⟨k+1,by omega,by go_num,HC.out.trans (rK cols l k hlt Hw.out),chain hb hb2⟩
     case measure=>simp [intOf]; omega
    ·have HN:Hid (fB cols l=di cols l[k].1):=HC.out.trans (uy cols l k hlt hw);have hne:(di cols l[k].1 != 0)=true:=by simpa using hw
     generalize di cols l[k].1=t at *;go_wp2_with fail
     refine con.mono ?_;rintro e w2 ⟨rfl,hb2⟩;go_wp2
     go_ret;exact ⟨aA HN.out.symm,chain hb hb2⟩
   ·have HN:Hid (fB cols l=0):=HC.out.trans (vG cols l k (by omega));go_wp2
    go_ret;exact ⟨aA HN.out.symm,hb⟩
 ·have e:bz cols l=aF l:=by simp [bz,h8,hw]
  rw [e];have hne:(aF l != 0)=true:=by simpa using hw
  clear e hw;have con:=nQ a cap l w h;generalize aF l=t at *;go_enter Tryz.func62,Tryz.ntmps62;go_wp2_with fail
  refine con.mono ?_;rintro e w1 ⟨rfl,hb1⟩;go_wp2
  go_ret;exact ⟨rfl,hb1⟩
theorem As (ts:List (List Int)) (data:List (List Zp)) (ta:Option Addr) (tc:Nat) (a:Option Addr) (cap:Nat) (w:World) (hT:fy w.heap.size w ta ts) (hD:gL w a data) (hn:data.length≤10000000000000) :
  Calls Tryz.prog 34 #[.slice ta ts.length tc,.slice a data.length cap] w fun e w'=>e = .returned (.int .i64 (bG ts data))∧Below w.heap.size w w':=by
 generalize hr:bG ts data=r;have HR:Hid (bG ts data=r):=hr;clear hr;go_enter Tryz.func34,Tryz.ntmps34;by_cases hl:data.length=ts.length;rotate_left
 ·have hne:((ts.length:Int) != (data.length:Int))=true:=by simp; omega
  have e:r=8:=by rw [← HR.out]; unfold bG; rw [if_pos hl]
  subst e;go_wp2_with fail
  go_ret;exact ⟨rfl,Nk _ _⟩
 have hne:((ts.length:Int) != (data.length:Int))=false:=by simp; omega
 have HR':Hid (r=cV (ts.drop 0) (data.drop 0)):=by show _=_; rw [← HR.out]; unfold bG; rw [if_neg (by simpa using hl)]; rfl
 have hl1:data.length≤ts.length:=by omega
 have hl2:ts.length≤data.length:=by omega
 clear HR hl;go_wp2_with fail
 clear hne;go_loopw [14] (fun i wr=>∃ j:Nat,j≤data.length∧i = .int .i64 j∧Hid (r=cV (ts.drop j) (data.drop j))∧Below w.heap.size w wr) (fun i _=>data.length - (intOf i).toNat)
 case atStart=>exact ⟨0,Nr _,rfl,HR',Nk _ _⟩
 case round =>
  obtain ⟨j,hj,rfl,HT,hb⟩:=hrel;by_cases hlt:j<data.length
  ·have hlt':j<ts.length:=by omega
   obtain ⟨b1,o1,ai,ci,rfl,hb1,c1,hi⟩:=(hT.next hb (Nj _)).elem hlt';obtain ⟨b2,o2,zi,zc,rfl,hb2,c2,hz,_⟩:=(hD.next hb).elem hlt;have hjz:(j:Int)<(data.length:Int):=by omega
   have hjt:(j:Int)<(ts.length:Int):=by omega
   have hj0:(0:Int)≤(j:Int):=by omega
   have HBad:Hid (¬ bz ts[j] data[j]=0→r=bz ts[j] data[j]):=fun c=>HT.out.trans (tO hlt' hlt c)
   have HOk:Hid (bz ts[j] data[j]=0→r=cV (ts.drop (j+1)) (data.drop (j+1))):=fun c=>HT.out.trans (pX hlt' hlt c)
   have con:∀ n:bW wr,Calls Tryz.prog 62 #[.slice ai ts[j].length ci,.slice zi data[j].length zc] n.now fun e w'=>e = .returned (.int .i64 (bz ts[j] data[j]))∧Below n.now.heap.size n.now w':=fun n=>zO ts[j] ai ci zi zc data[j] n.now (((hi.up hb.size).next n.ok (Nj _)).up n.ok.size) (hz.next n.ok)
   clear HT;generalize bz ts[j] data[j]=er at *;have p1:=ag c1;have p2:=ag c2;haveI:Nonempty (bW wr):=⟨⟨_,Nk _ _⟩⟩
   go_wp2_with fail
   refine aq (by kernel_rfl) (by kernel_rfl) ?_
   repeat (go_big_quiet_step (first | (go_at_call 62; exact bE (con _))))
   refine wpQuiet_nil ?_;rintro w5 ⟨⟨v5,hb5⟩,h5⟩;obtain rfl:w5=v5:=h5;clear p1 p2 this c1 c2 con;by_cases h0:er=0
   ·have HT':Hid (r=cV (ts.drop (j+1)) (data.drop (j+1))):=HOk.out h0;subst h0;clear HBad HOk;go_wp2_with fail
    go_roundw
    case rel=>exact ⟨j+1,by omega,by go_num,HT',chain hb hb5⟩
    case measure=>simp [intOf]; omega
   ·have e:r=er:=HBad.out h0;have h0b:(er != 0)=true:=by simpa using h0
    subst e;clear HBad HOk;go_wp2_with fail
    go_ret;exact ⟨rfl,chain hb hb5⟩
  ·have e:r=0:=by rw [HT.out,sj (by omega)]
   have hjn:¬ (j:Int)<(data.length:Int):=by omega
   subst e;clear HT;go_wp2_with fail
   go_ret;exact ⟨rfl,hb⟩
def tE (k:Int):Int:=if k<1∨13<k then -1 else cJ k
theorem Hk (k:Int) (w:World):Calls Tryz.prog 81 #[.int .i64 k] w fun e w'=>e = .returned (.int .i64 (tE k))∧Below w.heap.size w w':=by
 by_cases h:k<1∨13<k
 ·have e:tE k = -1:=by unfold tE; rw [if_pos h]
  rw [e];have hz:(decide (k<1) || decide (13<k))=true:=by simpa using h
  by_cases h1:k<1
  ·go_enter Tryz.func81,Tryz.ntmps81;go_wp2_with fail
   go_ret;exact ⟨rfl,Nk _ _⟩
  ·have h2:13<k:=by omega
   go_enter Tryz.func81,Tryz.ntmps81;go_wp2_with fail
   go_ret;exact ⟨rfl,Nk _ _⟩
 ·have hc:k=1∨k=2∨k=3∨k=4∨k=5∨k=6∨k=7∨k=8∨k=9∨k=10∨k=11∨k=12∨k=13:=by omega
  have hal:=(Nk w.heap.size w).alloc (Nj _) (.cells #[.int .i64 0,.int .i64 0,.int .i64 1,.int .i64 1,.int .i64 2,.int .i64 2,.int .i64 2,.int .i64 2,.int .i64 2,.int .i64 2,.int .i64 1,.int .i64 1,.int .i64 1,.int .i64 1] 3);clear h;rcases hc with rfl | rfl | rfl | rfl | rfl | rfl | rfl | rfl | rfl | rfl | rfl | rfl | rfl
  all_goals (
   go_enter Tryz.func81,Tryz.ntmps81;go_wp2_with fail
   go_ret;exact ⟨rfl,hal⟩)
def ints (l:List Int):List Value:=l.map (Value.int .i64)
theorem uT (l:List Int) (t:Int):ints (l ++ [t])=ints l ++ [.int .i64 t]:=by unfold ints; rw [Om]; rfl
theorem kZ (cols:List Int) (xs:List Ex) (ca:Option Addr) (ccap:Nat) (xa:Option Addr) (xcap:Nat) (w:World) (hk:bd w.heap.size w xa xs) (hc:bc w.heap.size w ca cols) :
  Calls Tryz.prog 83 #[.slice ca cols.length ccap,.slice xa xs.length xcap] w fun e w'=>∃ v,e = .returned (.tuple #[v,.int .i64 (aP cols xs)])∧(aP cols xs=0→w'.ownsRow w.heap.size 3 1 v xs.length (ints (dP cols xs)))∧(¬ aP cols xs=0→v = .slice none 0 0)∧Below w.heap.size w w':=by
 obtain ⟨ii,hii,hv0,hv1,hv2⟩:=info_parts sM;by_cases h8:8<xs.length
 ·have e:aP cols xs=5:=by simp [aP,h8]
  rw [e];have hz:(8:Int)<(xs.length:Int):=by omega
  go_enter Tryz.func83,Tryz.ntmps83;go_wp2
  exact Nl (v:=.tuple #[.slice none 0 0,.int .i64 5]) (by simp [results,Tryz.results83,go_sem]) rfl ⟨_,rfl,fun c=>by omega,fun _=>rfl,Nk _ _⟩
 ·have e:aP cols xs=dU cols xs:=by simp [aP,h8]
  have HE:Hid (aP cols xs=dU cols xs):=e;generalize aP cols xs=le at *;clear e;have hz:¬ (8:Int)<(xs.length:Int):=by omega
  go_enter Tryz.func83,Tryz.ntmps83;go_wp2_with fail
  go_loopw [6,15] (fun v i wr=>∃ j:Nat,j≤xs.length∧i = .int .i64 j∧wr.ownsRow w.heap.size 3 1 v j (ints (dP cols (xs.take j)))∧Hid (dU cols xs=dU cols (xs.drop j))∧Below w.heap.size w wr) (fun _ i _=>xs.length - (intOf i).toNat)
  case atStart=>exact ⟨0,Nr _,rfl,NP _ _ _ _,rfl,Nk _ _⟩
  case round =>
   obtain ⟨j,hj,rfl,Oj,HT,hb⟩:=hrel;have hzb:=hb.size;by_cases hlt:j<xs.length
   ·obtain ⟨b,off,ai,ci,rfl,hbl,sx,kx⟩:=(bd.next hb (Nj _) hk).elem hlt;obtain ⟨x0,x1,x2,x3,x4,x5⟩:=sx;have con:=mY cols xs[j] ca ccap ai ci wr (kx.up hzb) ((hc.next hb (Nj _)).up hzb);have hj0:(0:Int)≤(j:Int):=by omega
    have hjz:(j:Int)<(xs.length:Int):=by omega
    by_cases h0:(an cols xs[j]).2=0
    ·have HN:Hid (dU cols xs=dU cols (xs.drop (j+1))):=HT.out.trans (qt cols xs j hlt h0);have HY:Hid (ints (dP cols (xs.take (j+1)))=ints (dP cols (xs.take j)) ++ [.int .i64 (an cols xs[j]).1]):=by show _=_; rw [vW cols hlt,uT]
     rw [h0] at con;generalize (an cols xs[j]).1=t at *;generalize ints (dP cols (xs.take j))=ys at *;clear h0;go_wp2_with fail
     refine con.mono ?_;rintro e w2 ⟨rfl,hb2⟩;clear con x0 x1 x2 x3 x4 x5;have O2:=aS Oj hb2;have hz2:=hb2.size;dsimp only;go_wp2_with (first | (at_builtin; refine NZ _ rfl _ _ 45 rfl w.heap.size 3 ii _ 1 8 Tryz.underlying45 hii hv0 hv1 hv2 rfl (by decide) _ _ _ rfl (O2.alloc _) ⟨w2.heap.size,0,none⟩ 1 1 [.int .i64 t] rfl rfl ?Ac1 ?Ac2 ?Ac3 ?Ac4 ?Ac5 ?_))
     case Ac1 =>
      intro i u hu
      match i,hu with
      | 0,hu=>simp at hu; subst hu; simp [Addr.add]
     case Ac2=>intro u hu; simp at hu; subst hu; rfl
     case Ac3=>unfold maxLen; omega
     case Ac4=>omega
     case Ac5=>simp; omega
     intro v' w3 o3 g3 _;have hb3:Below w.heap.size w w3:=(chain hb hb2).trans (((Nk _ _).alloc (by omega) _).grown g3 (by simp; omega) (fun q hq=>((O2.alloc (.cells #[.int .i64 t] 3)).lt q hq).1));rw [← HY.out] at o3;clear g3 O2 Oj HY;go_wp2
     go_roundw
     case rel=>exact ⟨j+1,by omega,by go_num,o3,HN,hb3⟩
     case measure=>simp [intOf]; omega
    ·have HN:Hid (le=(an cols xs[j]).2):=HE.out.trans (HT.out.trans (so cols xs j hlt h0));have hne:((an cols xs[j]).2 != 0)=true:=by simpa using h0
     generalize (an cols xs[j]).1=t at *;generalize (an cols xs[j]).2=t2 at *;have el:=HN.out;subst el;have H0:Hid (¬ le=0):=h0;clear h0;go_wp2_with fail
     refine con.mono ?_;rintro e w2 ⟨rfl,hb2⟩;clear con;dsimp only;go_wp2
     exact Nl (v:=.tuple #[.slice none 0 0,.int .i64 le]) (by simp [results,Tryz.results83,go_sem]) rfl ⟨_,rfl,fun c=>absurd c H0.out,fun _=>rfl,chain hb hb2⟩
   ·have el:le=0:=HE.out.trans (HT.out.trans (rG cols xs j (by omega)));subst el;have ej:j=xs.length:=by omega
    subst ej;rw [NL] at Oj;have OH:Hid _:=Oj;obtain ⟨aj,cj,rfl⟩:=nv Oj;clear Oj;go_wp2_with fail
    first
     | exact Nl (v:=.tuple #[.slice aj xs.length cj,.int .i64 0]) (by simp [results,Tryz.results83,go_sem]) rfl ⟨_,rfl,fun _=>OH.out,fun c=>absurd rfl c,hb⟩
     | exact Nl (v:=.tuple #[.slice aj xs.length cj,.int .i64 0]) (by simp [results,Tryz.results83,go_sem]) rfl ⟨_,rfl,OH.out,hb⟩
theorem qQ (cols:List Int) (gs:List Ag) (ca:Option Addr) (ccap:Nat) (xa:Option Addr) (xcap:Nat) (w:World) (hk:jD w.heap.size w xa gs) (hc:bc w.heap.size w ca cols) (h8:gs.length≤8) :
  Calls Tryz.prog 85 #[.slice ca cols.length ccap,.slice xa gs.length xcap] w fun e w'=>∃ v,e = .returned (.tuple #[v,.int .i64 (bV cols gs)])∧(bV cols gs=0→w'.ownsRow w.heap.size 3 1 v gs.length (ints (cQ cols gs)))∧(¬ bV cols gs=0→v = .slice none 0 0)∧Below w.heap.size w w':=by
 obtain ⟨ii,hii,hv0,hv1,hv2⟩:=info_parts sM;generalize hle:bV cols gs=le;have HE:Hid (bV cols gs=le):=hle;clear hle;go_enter Tryz.func85,Tryz.ntmps85;go_wp2_with fail
 go_loopw [6,13] (fun v i wr=>∃ j:Nat,j≤gs.length∧i = .int .i64 j∧wr.ownsRow w.heap.size 3 1 v j (ints (cQ cols (gs.take j)))∧Hid (le=bV cols (gs.drop j))∧Below w.heap.size w wr) (fun _ i _=>gs.length - (intOf i).toNat)
 case atStart=>exact ⟨0,Nr _,rfl,NP _ _ _ _,HE.out.symm,Nk _ _⟩
 case round =>
  obtain ⟨j,hj,rfl,Oj,HT,hb⟩:=hrel;have hzb:=hb.size;by_cases hlt:j<gs.length
  ·obtain ⟨b,off,ai,ci,rfl,hbl,x0,sx,kx⟩:=(jD.next hb (Nj _) hk).elem hlt;obtain ⟨x1,x2,x3,x4,x5,x6⟩:=sx;have hjz:(j:Int)<gs.length:=by omega
   have hal:=aa wr (.cells #[.int .i64 gs[j].1,.int .i64 gs[j].2.k,.int .i64 gs[j].2.v.1,.int .i64 gs[j].2.v.2.1,.string gs[j].2.v.2.2,.int .i64 gs[j].2.c,.slice ai gs[j].2.ks.length ci] 133);have q0:=aw wr #[.int .i64 gs[j].1,.int .i64 gs[j].2.k,.int .i64 gs[j].2.v.1,.int .i64 gs[j].2.v.2.1,.string gs[j].2.v.2.2,.int .i64 gs[j].2.c,.slice ai gs[j].2.ks.length ci] 133
   have HY:Hid (ints (cQ cols (gs.take (j+1)))=ints (cQ cols (gs.take j)) ++ [.int .i64 (oo cols gs[j])]):=by show _=_; rw [rX cols hlt,uT]
   have HA:Hid (oo cols gs[j]=if gs[j].1=4∨gs[j].1=5 then (an cols gs[j].2).1 else 3):=rfl;generalize ints (cQ cols (gs.take j))=ys at *;generalize oo cols gs[j]=at1 at *;have O1:=aS Oj hal;have hA1:=chain hb hal;have kk:=(bd.next hal hzb kx).up (Nw hzb hal.size);have cc:=((hc.next hb (Nj _)).next hal hzb).up (Nw hzb hal.size);have con:=mY cols gs[j].2 ca ccap ai ci _ kk cc
   have HMe:Hid (bX cols gs[j]=if gs[j].1=1 then 0 else if gs[j].1<2∨5<gs[j].1 then 1 else if (an cols gs[j].2).2≠0 then (an cols gs[j].2).2 else if gs[j].1=3∧(an cols gs[j].2).1≠3∧(an cols gs[j].2).1≠1 then 9 else 0):=rfl;unfold lC at con;go_upto_region 5 with fail
   clear x0 x1 x2 x3 x4 x5 x6 kx kk cc;generalize wr.alloc (.cells #[.int .i64 gs[j].1,.int .i64 gs[j].2.k,.int .i64 gs[j].2.v.1,.int .i64 gs[j].2.v.2.1,.string gs[j].2.v.2.2,.int .i64 gs[j].2.c,.slice ai gs[j].2.ks.length ci] 133)=wk at *;have HOk:Hid (bX cols gs[j]=0→le=bV cols (gs.drop (j+1))):=fun h=>HT.out.trans (sR cols gs j hlt h)
   have HBad:Hid (¬ bX cols gs[j]=0→le=bX cols gs[j]):=fun h=>HT.out.trans (vR cols gs j hlt h)
   clear HT Oj;generalize hkd:gs[j].1=kd at *;clear hkd;have hz1:=hA1.size;have p0:wk.cell? ⟨wr.heap.size,0,none⟩=some (.int .i64 kd):=cell_of (i:=0) q0 rfl;have p1:wk.cell? ⟨wr.heap.size,1,none⟩=some (.int .i64 gs[j].2.k):=cell_of (i:=1) q0 rfl;have p2:wk.cell? ⟨wr.heap.size,2,none⟩=some (.int .i64 gs[j].2.v.1):=cell_of (i:=2) q0 rfl;have p3:wk.cell? ⟨wr.heap.size,3,none⟩=some (.int .i64 gs[j].2.v.2.1):=cell_of (i:=3) q0 rfl;have p4:wk.cell? ⟨wr.heap.size,4,none⟩=some (.string gs[j].2.v.2.2):=cell_of (i:=4) q0 rfl
   have p5:wk.cell? ⟨wr.heap.size,5,none⟩=some (.int .i64 gs[j].2.c):=cell_of (i:=5) q0 rfl;have p6:wk.cell? ⟨wr.heap.size,6,none⟩=some (.slice ai gs[j].2.ks.length ci):=cell_of (i:=6) q0 rfl;by_cases hr:kd<1∨5<kd
   ·have em:bX cols gs[j]=1:=by rw [HMe.out,if_neg (by omega),if_pos (by omega)]
    have el:le=1:=by rw [HBad.out (by rw [em]; decide),em]
    subst el;clear con HMe HOk HBad em HY HA;by_cases hr1:kd<1;rotate_left;have hr2:5<kd:=by omega
    all_goals
     go_wp2_with fail
     first
      | exact Nl (v:=.tuple #[.slice none 0 0,.int .i64 1]) (by simp [results,Tryz.results85,go_sem]) rfl ⟨_,rfl,fun c=>absurd c (by decide),fun _=>rfl,hA1⟩
      | exact Nl (v:=.tuple #[.slice none 0 0,.int .i64 1]) (by simp [results,Tryz.results85,go_sem]) rfl ⟨_,rfl,rfl,hA1⟩
      | exact Nl (v:=.tuple #[.slice none 0 0,.int .i64 1]) (by simp [results,Tryz.results85,go_sem]) rfl ⟨rfl,hA1⟩
   ·have hr1:¬ kd<1:=fun h=>hr (.inl h)
    have hr2:¬ 5<kd:=fun h=>hr (.inr h)
    clear hr;by_cases h1:kd=1
    ·subst h1;have HN:Hid (le=bV cols (gs.drop (j+1))):=HOk.out (by rw [HMe.out,if_pos rfl]);have HZ:Hid (ints (cQ cols (gs.take (j+1)))=ys ++ [.int .i64 3]):=by show _=_; rw [HY.out,HA.out,if_neg (by decide)]
     clear con HMe HOk HBad HY HA;have uf:∀ u ∈ [Value.int .i64 3],u.oneCell'=true:=by intro u hu; simp at hu; subst hu; rfl
     have at1:∀ i u,[Value.int .i64 3][i]? = some u→(wk.alloc (.cells #[.int .i64 3] 3)).cell? ((⟨wk.heap.size,0,none⟩:Addr).add i)=some u:=by
      intro i u hu
      match i,hu with
      | 0,hu=>simp at hu; subst hu; simp [Addr.add]
     have len1:j+1≤maxLen:=by unfold maxLen; omega
     have byt1:(j+1)*8≤140737488355328:=by omega
     have bas1:w.heap.size≤(wk.alloc (.cells #[.int .i64 3] 3)).heap.size:=by simp; omega
     have OA:=O1.alloc (.cells #[.int .i64 3] 3);go_wp2_with (first | (at_builtin; refine NZ _ rfl _ _ 45 rfl w.heap.size 3 ii _ 1 8 Tryz.underlying45 hii hv0 hv1 hv2 rfl (by decide) _ _ _ rfl OA ⟨wk.heap.size,0,none⟩ 1 1 [.int .i64 3] rfl rfl at1 uf len1 byt1 bas1 ?_))
     intro v' w5 o5 g5 _;have hb5:Below w.heap.size w w5:=hA1.trans (((Nk _ _).alloc (by omega) _).grown g5 (by simp; omega) (fun q hq=>(OA.lt q hq).1));rw [← HZ.out] at o5;clear g5 uf at1 OA HZ;go_wp2_with fail
     go_roundw
     case rel=>exact ⟨j+1,by omega,by go_num,o5,HN,hb5⟩
     case measure=>simp [intOf]; omega
    ·have h1b:(kd == 1)=false:=by simpa using h1
     by_cases h0:(an cols gs[j].2).2=0
     ·rw [h0] at con;have hm:bX cols gs[j]=if kd=3∧(an cols gs[j].2).1≠3∧(an cols gs[j].2).1≠1 then 9 else 0:=by rw [HMe.out,if_neg h1,if_neg (by omega),if_neg (by simpa using h0)]
      have HMm:Hid (bX cols gs[j]=if kd=3∧(an cols gs[j].2).1≠3∧(an cols gs[j].2).1≠1 then 9 else 0):=hm;clear hm HMe h0;generalize (an cols gs[j].2).1=t at *;have hk4:kd=2∨kd=3∨kd=4∨kd=5:=by omega
      clear h1 hr1 hr2 h1b;by_cases hbad:kd=3∧t≠3∧t≠1
      ·obtain ⟨rfl,ht3,ht1⟩:=hbad;have em:bX cols gs[j]=9:=by rw [HMm.out,if_pos ⟨rfl,ht3,ht1⟩]
       have el:le=9:=by rw [HBad.out (by rw [em]; decide),em]
       subst el;have t3:(t != 3)=true:=by simpa using ht3
       have t1:(t != 1)=true:=by simpa using ht1
       clear HMm HOk HBad em ht3 ht1 hk4 HY HA;go_wp2_with fail
       refine con.mono ?_;rintro e w4 ⟨rfl,hb4⟩;have c0:=(hb4.cell (p:=⟨wr.heap.size,0,none⟩) (ae q0)).trans p0;have O4:=aS O1 hb4;have hA4:=chain hA1 hb4;have hz4:=hA4.size;clear con p0 p1 p2 p3 p4 p5 p6;dsimp only;go_wp2_with fail
       first
        | exact Nl (v:=.tuple #[.slice none 0 0,.int .i64 9]) (by simp [results,Tryz.results85,go_sem]) rfl ⟨_,rfl,fun c=>absurd c (by decide),fun _=>rfl,hA4⟩
        | exact Nl (v:=.tuple #[.slice none 0 0,.int .i64 9]) (by simp [results,Tryz.results85,go_sem]) rfl ⟨_,rfl,rfl,hA4⟩
        | exact Nl (v:=.tuple #[.slice none 0 0,.int .i64 9]) (by simp [results,Tryz.results85,go_sem]) rfl ⟨rfl,hA4⟩
      ·have HN:Hid (le=bV cols (gs.drop (j+1))):=HOk.out (by rw [HMm.out,if_neg hbad]);have hcase:((kd=2)∨(kd=3∧t=1)∨(kd=3∧t=3))∨kd=4∨kd=5:=by
        rcases hk4 with e | e | e | e
        ·exact .inl (.inl e)
        ·by_cases e3:t=3
         ·exact .inl (.inr (.inr ⟨e,e3⟩))
         ·by_cases e1:t=1
          ·exact .inl (.inr (.inl ⟨e,e1⟩))
          ·exact absurd ⟨e,e3,e1⟩ hbad
        ·exact .inr (.inl e)
        ·exact .inr (.inr e)
       clear HMm HOk HBad hbad hk4;rcases hcase with hcase | hcase
       ·have HZ:Hid (ints (cQ cols (gs.take (j+1)))=ys ++ [.int .i64 3]):=by show _=_; rw [HY.out,HA.out,if_neg (by omega)]
        clear HY HA;rcases hcase with rfl | ⟨rfl,rfl⟩ | ⟨rfl,rfl⟩
        all_goals (
         go_wp2_with fail
         refine con.mono ?_;rintro e w4 ⟨rfl,hb4⟩;have c0:=(hb4.cell (p:=⟨wr.heap.size,0,none⟩) (ae q0)).trans p0;have O4:=aS O1 hb4;have hA4:=chain hA1 hb4;have hz4:=hA4.size;clear con p0 p1 p2 p3 p4 p5 p6;dsimp only;have uf:∀ u ∈ [Value.int .i64 3],u.oneCell'=true:=by intro u hu; simp at hu; subst hu; rfl
         have at1:∀ i u,[Value.int .i64 3][i]? = some u→(w4.alloc (.cells #[.int .i64 3] 3)).cell? ((⟨w4.heap.size,0,none⟩:Addr).add i)=some u:=by
          intro i u hu
          match i,hu with
          | 0,hu=>simp at hu; subst hu; simp [Addr.add]
         have len1:j+1≤maxLen:=by unfold maxLen; omega
         have byt1:(j+1)*8≤140737488355328:=by omega
         have bas1:w.heap.size≤(w4.alloc (.cells #[.int .i64 3] 3)).heap.size:=by simp; omega
         have OA:=O4.alloc (.cells #[.int .i64 3] 3);go_wp2_with (first | (at_builtin; refine NZ _ rfl _ _ 45 rfl w.heap.size 3 ii _ 1 8 Tryz.underlying45 hii hv0 hv1 hv2 rfl (by decide) _ _ _ rfl OA ⟨w4.heap.size,0,none⟩ 1 1 [.int .i64 3] rfl rfl at1 uf len1 byt1 bas1 ?_))
         intro v' w5 o5 g5 _;have hb5:Below w.heap.size w w5:=hA4.trans (((Nk _ _).alloc (by omega) _).grown g5 (by simp; omega) (fun q hq=>(OA.lt q hq).1));rw [← HZ.out] at o5;clear g5 uf at1 OA HZ;go_wp2_with fail
         go_roundw
         case rel=>exact ⟨j+1,by omega,by go_num,o5,HN,hb5⟩
         case measure=>simp [intOf]; omega)
       ·have HZ:Hid (ints (cQ cols (gs.take (j+1)))=ys ++ [.int .i64 t]):=by show _=_; rw [HY.out,HA.out,if_pos (by omega)]
        clear HY HA;rcases hcase with rfl | rfl
        all_goals (
         go_wp2_with fail
         refine con.mono ?_;rintro e w4 ⟨rfl,hb4⟩;have c0:=(hb4.cell (p:=⟨wr.heap.size,0,none⟩) (ae q0)).trans p0;have O4:=aS O1 hb4;have hA4:=chain hA1 hb4;have hz4:=hA4.size;clear con p0 p1 p2 p3 p4 p5 p6;dsimp only;have uf:∀ u ∈ [Value.int .i64 t],u.oneCell'=true:=by intro u hu; simp at hu; subst hu; rfl
         have at1:∀ i u,[Value.int .i64 t][i]? = some u→(w4.alloc (.cells #[.int .i64 t] 3)).cell? ((⟨w4.heap.size,0,none⟩:Addr).add i)=some u:=by
          intro i u hu
          match i,hu with
          | 0,hu=>simp at hu; subst hu; simp [Addr.add]
         have len1:j+1≤maxLen:=by unfold maxLen; omega
         have byt1:(j+1)*8≤140737488355328:=by omega
         have bas1:w.heap.size≤(w4.alloc (.cells #[.int .i64 t] 3)).heap.size:=by simp; omega
         have OA:=O4.alloc (.cells #[.int .i64 t] 3);go_wp2_with (first | (at_builtin; refine NZ _ rfl _ _ 45 rfl w.heap.size 3 ii _ 1 8 Tryz.underlying45 hii hv0 hv1 hv2 rfl (by decide) _ _ _ rfl OA ⟨w4.heap.size,0,none⟩ 1 1 [.int .i64 t] rfl rfl at1 uf len1 byt1 bas1 ?_))
         intro v' w5 o5 g5 _;have hb5:Below w.heap.size w w5:=hA4.trans (((Nk _ _).alloc (by omega) _).grown g5 (by simp; omega) (fun q hq=>(OA.lt q hq).1));rw [← HZ.out] at o5;clear g5 uf at1 OA HZ;go_wp2_with fail
         go_roundw
         case rel=>exact ⟨j+1,by omega,by go_num,o5,HN,hb5⟩
         case measure=>simp [intOf]; omega)
     ·have em:bX cols gs[j]=(an cols gs[j].2).2:=by rw [HMe.out,if_neg h1,if_neg (by omega),if_pos h0]
      have el:le=(an cols gs[j].2).2:=by rw [HBad.out (by rw [em]; exact h0),em]
      have H0:Hid (¬ le=0):=by show ¬ _; rw [el]; exact h0
      have hne:(le != 0)=true:=by rw [el]; simpa using h0
      rw [← el] at con;clear HMe HOk HBad em h0 el HY HA;generalize (an cols gs[j].2).1=t at *;go_wp2_with fail
      refine con.mono ?_;rintro e w4 ⟨rfl,hb4⟩;have c0:=(hb4.cell (p:=⟨wr.heap.size,0,none⟩) (ae q0)).trans p0;have O4:=aS O1 hb4;have hA4:=chain hA1 hb4;have hz4:=hA4.size;clear con p0 p1 p2 p3 p4 p5 p6;dsimp only;go_wp2_with fail
      first
       | exact Nl (v:=.tuple #[.slice none 0 0,.int .i64 le]) (by simp [results,Tryz.results85,go_sem]) rfl ⟨_,rfl,fun c=>absurd c H0.out,fun _=>rfl,hA4⟩
       | exact Nl (v:=.tuple #[.slice none 0 0,.int .i64 le]) (by simp [results,Tryz.results85,go_sem]) rfl ⟨_,rfl,rfl,hA4⟩
       | exact Nl (v:=.tuple #[.slice none 0 0,.int .i64 le]) (by simp [results,Tryz.results85,go_sem]) rfl ⟨rfl,hA4⟩
  ·have e:j=gs.length:=by omega
   subst e;have el:le=0:=by rw [HT.out,List.drop_length]; rfl
   subst el;rw [NL] at Oj;have OH:Hid _:=Oj;obtain ⟨aj,cj,rfl⟩:=nv Oj;clear Oj;go_wp2_with fail
   first
    | exact Nl (v:=.tuple #[.slice aj gs.length cj,.int .i64 0]) (by simp [results,Tryz.results85,go_sem]) rfl ⟨_,rfl,fun _=>OH.out,fun c=>absurd rfl c,hb⟩
    | exact Nl (v:=.tuple #[.slice aj gs.length cj,.int .i64 0]) (by simp [results,Tryz.results85,go_sem]) rfl ⟨_,rfl,OH.out,hb⟩
end Go.Proofs.YtohjlfhmnmcndaaGreat
