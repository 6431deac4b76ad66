/- Together: Z2, Z3, X0, Y1, W6, W7, W12, X1, Y8. -/
import Derived.Shelf.Abstract
import Derived.Test.YtjebpkhkjkjphaaGreatM1
import Derived.Test.YtjebpkhkjkjphaaGreatM0
namespace Go.Proofs.YtjebpkhkjkjphaaGreat
open Go.RowKit
set_option maxRecDepth 100000
set_option maxHeartbeats 16000000
abbrev Zp:Type:=List Vl × Int
def uT (W:World) (b off:Nat) (x:Zp):Prop :=
 W.cell? ⟨b,off+1,none⟩=some (.int .i64 x.2)∧∃ a cap,W.cell? ⟨b,off,none⟩=some (.slice a x.1.length cap)∧aY W a x.1
theorem uT.next {W w1:World} {b off:Nat} {x:Zp} (h:uT W b off x) (hlt:b<W.heap.size) (hb:Below W.heap.size W w1):uT w1 b off x:=by
 obtain ⟨h1,a,cap,h2,h3⟩:=h;exact ⟨(hb.cell (p:=⟨b,_,none⟩) hlt).trans h1,a,cap,(hb.cell (p:=⟨b,_,none⟩) hlt).trans h2,h3.next hb⟩
def bP (W:World) (a:Option Addr) (l:List Zp):Prop :=
 l.length≤maxLen∧(l = []∨∃ b off,a=some ⟨b,off,none⟩∧b<W.heap.size∧∀ (i:Nat) (h:i<l.length),uT W b (off+i*2) l[i])
theorem bP.next {W w1:World} {a:Option Addr} {l:List Zp} (h:bP W a l) (hb:Below W.heap.size W w1):bP w1 a l:=by
 obtain ⟨h0,h | ⟨b,off,e,hlt,hr⟩⟩:=h
 ·exact ⟨h0,.inl h⟩
 ·exact ⟨h0,.inr ⟨b,off,e,Hi hlt hb.size,fun i hi=>(hr i hi).next hlt hb⟩⟩
theorem bP.elem {W:World} {a:Option Addr} {l:List Zp} (h:bP W a l) {k:Nat} (hk:k<l.length) :
  ∃ b off,a=some ⟨b,off,none⟩∧b<W.heap.size∧uT W b (off+k*2) l[k]:=by
 obtain ⟨_,h | ⟨b,off,e,hlt,hr⟩⟩:=h
 ·subst h; simp at hk
 ·exact ⟨b,off,e,hlt,hr k hk⟩
theorem bP.Gw {W:World} {a:Option Addr} {l:List Zp} (h:bP W a l) {j k:Nat} (hj:j<l.length) (hk:k<l.length) :
  ∃ b off,a=some ⟨b,off,none⟩∧b<W.heap.size∧uT W b (off+j*2) l[j]∧uT W b (off+k*2) l[k]:=by
 obtain ⟨_,h | ⟨b,off,e,hlt,hr⟩⟩:=h
 ·subst h; simp at hk
 ·exact ⟨b,off,e,hlt,hr j hj,hr k hk⟩
def mC:Option (List Vl)→List Zp→Int
 | _,[]=>0
 | p,x :: r=>if bt x.1=0 then (if x.2=0∨ke x.2=false then 3 else if ∃ q,p=some q∧0≤aL q x.1 then 2 else mC (some x.1) r) else bt x.1
def dL (l:List Zp):Int:=if 400<l.length then 5 else mC none l
def fG (l:List Zp) (k:Nat):Option (List Vl):=if k=0 then none else (l[k - 1]?).map (·.1)
theorem mX (l:List Zp) (k:Nat) (h:k<l.length):fG l (k+1)=some l[k].1:=by simp [fG,h]
theorem ot (l:List Zp) (k:Nat) (h:k<l.length) (h0:0<k):fG l k=some (l[k - 1]'(by omega)).1:=by
 obtain ⟨j,rfl⟩:∃ j,k=j+1:=⟨k - 1,by omega⟩
 exact mX l j (by omega)
theorem DM (l:List Zp) (k:Nat) (h:l.length≤k):mC (fG l k) (l.drop k)=0:=by rw [Ig h]; rfl
theorem Em (l:List Zp) (k:Nat) (h:k<l.length) (hw:¬ bt l[k].1=0):mC (fG l k) (l.drop k)=bt l[k].1:=by
 rw [Hk h,mC,if_neg hw]
theorem sV (l:List Zp) (k:Nat) (h:k<l.length) (hw:bt l[k].1=0) (h0:l[k].2=0∨ke l[k].2=false):mC (fG l k) (l.drop k)=3:=by
 rw [Hk h,mC,if_pos hw,if_pos h0]
theorem AZ (l:List Zp) (k:Nat) (h:k<l.length) (hw:bt l[k].1=0) (h0:¬ l[k].2=0) (h1:ke l[k].2=true) (hp:0<k) (hc:0≤aL (l[k - 1]'(by omega)).1 l[k].1):mC (fG l k) (l.drop k)=2:=by
 rw [Hk h,mC,if_pos hw,if_neg (by simp [h0,h1]),if_pos ⟨_,ot l k h hp,hc⟩]
theorem sR (l:List Zp) (k:Nat) (h:k<l.length) (hw:bt l[k].1=0) (h0:¬ l[k].2=0) (h1:ke l[k].2=true) (hc:∀ _:0<k,¬ 0≤aL (l[k - 1]'(by omega)).1 l[k].1):mC (fG l k) (l.drop k)=mC (fG l (k+1)) (l.drop (k+1)):=by
 rw [Hk h,mC,if_pos hw,if_neg (by simp [h0,h1]),mX l k h];rw [if_neg];rintro ⟨q,hq,hc'⟩;by_cases hp:0<k
 ·rw [ot l k h hp] at hq;injection hq with hq
  subst hq;exact hc hp hc'
 ·have:k=0:=by omega
  subst this;simp [fG] at hq
theorem kz {w wr w2:World} {o:Obj} (hb:Below w.heap.size w wr) (h2:Below (wr.alloc o).heap.size (wr.alloc o) w2):Below w.heap.size w w2 :=
 hb.trans (((He _ _).alloc hb.size _).trans (h2.mono (by have:=hb.size; simp; omega)))
theorem fL {w wr w2:World} (hb:Below w.heap.size w wr) (h2:Below wr.heap.size wr w2):Below w.heap.size w w2 :=
 hb.trans (h2.mono hb.size)
theorem pK (a:Option Addr) (cap:Nat) (l:List Zp) (w:World) (h:bP w a l) :
  Calls Tryz.prog 42 #[.slice a l.length cap] w fun e w'=>e = .returned (.int .i64 (dL l))∧Below w.heap.size w w':=by
 have hl:=h.1;unfold maxLen at hl;by_cases h8:400<l.length
 ·have e:dL l=5:=by simp [dL,h8]
  rw [e];clear e;go_enter Tryz.func42,Tryz.ntmps42;go_wp2
  go_ret;exact ⟨rfl,He _ _⟩
 ·have e:dL l=mC none l:=by simp [dL,h8]
  rw [e];clear e;go_enter Tryz.func42,Tryz.ntmps42;go_wp2_with fail
  go_loopw [11] (fun i w1=>∃ k:Nat,k≤l.length∧i = .int .i64 k∧Hid (mC none l=mC (fG l k) (l.drop k))∧Below w.heap.size w w1) (fun i _=>l.length - (intOf i).toNat)
  case atStart=>exact ⟨0,Hl _,rfl,rfl,He _ _⟩
  case round =>
   obtain ⟨k,hk,rfl,HC,hb⟩:=hrel;have hz:=hb.size;by_cases hlt:k<l.length
   ·obtain ⟨b,off,rfl,hbl,c1,ar,cr,c0,sr⟩:=(h.next hb).elem hlt;have HZ:Hid (bP w (some ⟨b,off,none⟩) l):=h;clear h;by_cases hw:bt l[k].1=0
    ·have Hw:Hid (bt l[k].1=0):=hw;clear hw;go_wp2_with fail
     refine (mJ _ _ _ _ (sr.next ((He _ _).alloc (Hd _) _))).mono ?_;rintro e w1 ⟨rfl,hb1⟩;rw [Hw.out];have hb1':=kz hb hb1;have hz1:wr.heap.size<w1.heap.size:=by have:=hb1.size; simp at this; omega
     have e0:w1.cell? ⟨wr.heap.size,0,none⟩=some (.slice ar l[k].1.length cr):=(hb1.cell (p:=⟨wr.heap.size,0,none⟩) (by simp)).trans (by simp);have e1:w1.cell? ⟨wr.heap.size,1,none⟩=some (.int .i64 l[k].2):=(hb1.cell (p:=⟨wr.heap.size,1,none⟩) (by simp)).trans (by simp);by_cases h0:l[k].2=0
     ·have HN:Hid (mC none l=3):=HC.out.trans (sV l k hlt Hw.out (.inl h0));go_wp2
      go_ret;exact ⟨aQ HN.out.symm,hb1'⟩
     ·have g0:(l[k].2 == 0)=false:=by simpa using h0
      cases h1:ke l[k].2
      ·have HN:Hid (mC none l=3):=HC.out.trans (sV l k hlt Hw.out (.inr h1));have H1:Hid (ke l[k].2=false):=h1;clear h1;go_wp2_with fail
       refine (ec _ _).mono ?_;rintro e w2 ⟨rfl,rfl⟩;rw [H1.out];go_wp2
       go_ret;exact ⟨aQ HN.out.symm,hb1'⟩
      ·have H1:Hid (ke l[k].2=true):=h1;clear h1;by_cases hp:0<k
       ·obtain ⟨b',off',hh,hbl',⟨d1,ap,cp,d0,sp⟩,-⟩:=(HZ.out.next hb1').Gw (j:=k - 1) (k:=k) (by omega) hlt;simp only [Jd,Addr.mk.injEq] at hh;obtain ⟨rfl,rfl,-⟩:=hh;have sr1:=(sr.next ((He _ _).alloc (Hd _) _)).next hb1;have i0:(0:Int)<(k:Int):=by omega
        have i1:(0:Int)≤(k:Int) - 1:=by omega
        have i2:(k:Int) - 1<(l.length:Int):=by omega
        have i3:((k:Int) - 1).toNat=k - 1:=by omega
        have p0:=ax d0;have p1:=ax e0;have p2:=ax e1;haveI:Nonempty (du w1):=⟨⟨w1,He _ _⟩⟩
        by_cases hc:0≤aL (l[k - 1]'(by omega)).1 l[k].1
        ·have HN:Hid (mC none l=2):=HC.out.trans (AZ l k hlt Hw.out h0 H1.out hp hc);go_wp2_with fail
         refine (ec _ _).mono ?_;rintro e w2 ⟨rfl,rfl⟩;rw [H1.out];go_wp2_with fail
         refine aI (by kernel_rfl) (by kernel_rfl) ?_
         repeat (go_big_quiet_step (first | (go_at_call 70; exact cS (kP _ _ _ _ _ _ _ (sp.next (du.ok _)) (sr1.next (du.ok _))))))
         refine wpQuiet_nil ?_;rintro _ ⟨⟨w2,hb2⟩,rfl⟩;go_wp2
         go_ret;exact ⟨aQ HN.out.symm,fL hb1' hb2⟩
        ·have HN:Hid (mC none l=mC (fG l (k+1)) (l.drop (k+1))):=HC.out.trans (sR l k hlt Hw.out h0 H1.out (fun _=>hc));have hc':aL (l[k - 1]'(by omega)).1 l[k].1<0:=by omega
         go_wp2_with fail
         refine (ec _ _).mono ?_;rintro e w2 ⟨rfl,rfl⟩;rw [H1.out];go_wp2_with fail
         refine aI (by kernel_rfl) (by kernel_rfl) ?_
         repeat (go_big_quiet_step (first | (go_at_call 70; exact cS (kP _ _ _ _ _ _ _ (sp.next (du.ok _)) (sr1.next (du.ok _))))))
         refine wpQuiet_nil ?_;rintro _ ⟨⟨w2,hb2⟩,rfl⟩;go_wp2
         go_roundw
         case rel=>exact ⟨k+1,by omega,by go_num,HN.out,fL hb1' hb2⟩
         case measure=>simp [intOf]; omega
       ·have k0:k=0:=by omega
        subst k0;have HN:Hid (mC none l=mC (fG l (0+1)) (l.drop (0+1))):=HC.out.trans (sR l 0 hlt Hw.out h0 H1.out (fun h=>absurd h hp));haveI:Nonempty (du w1):=⟨⟨w1,He _ _⟩⟩
        go_wp2_with fail
        refine (ec _ _).mono ?_;rintro e w2 ⟨rfl,rfl⟩;rw [H1.out];go_wp2_with fail
        refine aI (by kernel_rfl) (by kernel_rfl) ?_
        repeat (go_big_quiet_step (fail))
        refine wpQuiet_nil ?_;rintro _ ⟨⟨w2,hb2⟩,rfl⟩;go_wp2
        go_roundw
        case rel=>exact ⟨0+1,by omega,by go_num,HN.out,fL hb1' hb2⟩
        case measure=>simp [intOf]; omega
    ·have Hw:Hid (¬ bt l[k].1=0):=hw;have hne:(bt l[k].1 != 0)=true:=by simpa using hw
     have HN:Hid (mC none l=bt l[k].1):=HC.out.trans (Em l k hlt hw);clear hw;go_wp2_with fail
     refine (mJ _ _ _ _ (sr.next ((He _ _).alloc (Hd _) _))).mono ?_;rintro e w1 ⟨rfl,hb1⟩;go_wp2
     go_ret;exact ⟨aQ HN.out.symm,kz hb hb1⟩
   ·go_wp2
    go_ret;exact ⟨aQ (by rw [HC.out,DM l k (by omega)]),hb⟩
theorem Tryz.i5:(Tryz.prog.info? 63).map (fun i=>(i.zero,i.size,i.bytes))=some (some (.agg #[.slice none 0 0,.int .i64 0]),2,32):=by kernel_rfl
theorem Tryz.oU:(Tryz.prog.info? 24).map (fun i=>(i.zero,i.size,i.bytes))=some (some (.agg #[.int .i64 0,.int .i64 0,.string ⟨#[]⟩]),3,32):=by kernel_rfl
def bE (v:Vl):Vl:=(v.1,di v.1 v.2.1,fl v.1 v.2.2)
def bU (l:List Vl):List Vl:=l.map bE
def fQ (W:World) (a:Option Addr):Prop:=∀ b off,a=some ⟨b,off,none⟩→∃ c z,W.heap[b]? = some (.cells c 24 z)
theorem fQ.next {W w1:World} {a:Option Addr} (h:fQ W a) (hb:Below W.heap.size W w1):fQ w1 a:=by
 intro b off e;obtain ⟨c,z,h1⟩:=h b off e;have hlt:b<W.heap.size:=by
  rcases Ic b W.heap.size with h | h
  ·exact h
  ·rw [Iy h] at h1; cases h1
 exact ⟨c,z,(hb.block b hlt).trans h1⟩
theorem oy {W w1:World} (hb:Below W.heap.size W w1) (row:Option Nat):W.grownBy w1 row:=⟨hb.os,hb.tape,hb.output,hb.size,fun k hk _=>hb.block k hk⟩
theorem bg {W w1:World} {base e size n:Nat} {v:Value} {xs:List Value} (h:W.ownsRow base e size v n xs) (hb:Below W.heap.size W w1):w1.ownsRow base e size v n xs:=by
 refine h.kept (oy hb none) ?_;cases v.ownBlock <;> simp
def rQ (W:World) (xs:List Value) (l:List Zp):Prop :=
 xs.length=l.length*2∧∀ (i:Nat) (h:i<l.length),∃ a cap,xs[i*2]? = some (.slice a l[i].1.length cap)∧xs[i*2+1]? = some (.int .i64 l[i].2)∧aY W a l[i].1∧fQ W a
theorem rQ.next {W w1:World} {xs:List Value} {l:List Zp} (h:rQ W xs l) (hb:Below W.heap.size W w1):rQ w1 xs l :=
 ⟨h.1,fun i hi=>by
  obtain ⟨a,cap,h1,h2,h3,h4⟩:=h.2 i hi
  exact ⟨a,cap,h1,h2,h3.next hb,h4.next hb⟩⟩
def fN (base:Nat) (W:World) (v:Value) (l:List Zp):Prop:=∃ xs,W.ownsRow base 63 2 v l.length xs∧rQ W xs l
theorem fN.next {base:Nat} {W w1:World} {v:Value} {l:List Zp} (h:fN base W v l) (hb:Below W.heap.size W w1):fN base w1 v l:=by
 obtain ⟨xs,h1,h2⟩:=h;exact ⟨xs,bg h1 hb,h2.next hb⟩
theorem fN.mono {base base':Nat} {W:World} {v:Value} {l:List Zp} (h:fN base W v l) (hb:base'≤base):fN base' W v l:=by
 obtain ⟨xs,⟨h0,h1⟩,h2⟩:=h;refine ⟨xs,⟨h0,?_⟩,h2⟩;rcases h1 with h1 | ⟨g,cap,cur,e,hg,h3⟩
 ·exact .inl h1
 ·exact .inr ⟨g,cap,cur,e,HJ hb hg,h3⟩
theorem fN.zs {base:Nat} {W:World} {v:Value} {l:List Zp} (h:fN base W v l):∃ a cap,v = .slice a l.length cap∧bP W a l:=by
 obtain ⟨xs,h1,h2⟩:=h;have h1':=h1;obtain ⟨hx,h1 | ⟨g,cap,cur,e,hg,hh,hn,hc,hs,ht⟩⟩:=h1
 ·obtain ⟨rfl,h0⟩:=h1;have:l = []:=Hs h0;subst this;exact ⟨none,0,rfl,Hl _,.inl rfl⟩
 ·subst e;refine ⟨_,cap,rfl,HJ hn hc,.inr ⟨g,0,rfl,?_,?_⟩⟩
  ·exact (h1'.lt g rfl).2
  ·intro i hi;obtain ⟨a,cp,e0,e1,e2,e3⟩:=h2.2 i hi;refine ⟨?_,a,cp,?_,e2⟩
   ·rw [h1'.cellAt _ (by omega),← e1]; congr 1; omega
   ·rw [h1'.cellAt _ (by omega),← e0]; congr 1; omega
theorem iq {W w1:World} {base n:Nat} {v:Value} {xs:List Value} {a:Option Addr} {r:List Vl} (h:aY W a r) (ht:fQ W a) (ho:W.ownsRow base 63 2 v n xs) (hg:W.grownBy w1 v.ownBlock):aY w1 a r∧fQ w1 a:=by
 have key:∀ b off,a=some ⟨b,off,none⟩→w1.heap[b]? = W.heap[b]?:=by
  intro b off e;obtain ⟨c,z,h1⟩:=ht b off e;have hlt:b<W.heap.size:=by
   rcases Ic b W.heap.size with h | h
   ·exact h
   ·rw [Iy h] at h1; cases h1
  refine hg.block b hlt ?_;obtain ⟨_,⟨rfl,_⟩ | ⟨g,cap,cur,rfl,_,hh,_⟩⟩:=ho
  ·simp [Value.ownBlock]
  ·simp only [Value.ownBlock];intro e;injection e with e
   subst e;rw [hh] at h1;simp at h1
 refine ⟨⟨h.1,?_⟩,?_⟩
 ·rcases h.2 with h | ⟨b,off,e,hr,hlt⟩
  ·exact .inl h
  ·refine .inr ⟨b,off,e,fun i hi=>?_,Hi hlt hg.size⟩;have k:=key b off e;obtain ⟨c0,c1,c2⟩:=hr i hi;exact ⟨(Hz (a:=⟨b,_,none⟩) k).trans c0,(Hz (a:=⟨b,_,none⟩) k).trans c1,(Hz (a:=⟨b,_,none⟩) k).trans c2⟩
 ·intro b off e;obtain ⟨c,z,h1⟩:=ht b off e;exact ⟨c,z,(key b off e).trans h1⟩
theorem CJ {W w1:World} {base:Nat} {v v':Value} {xs:List Value} {l:List Zp} {a:Option Addr} {cap:Nat} {r:List Vl} {x:Int}
  (ho:W.ownsRow base 63 2 v l.length xs) (he:rQ W xs l) (hs:aY W a r) (ht:fQ W a)
  (ho':w1.ownsRow base 63 2 v' (l.length+1) (xs ++ [.slice a r.length cap,.int .i64 x])) (hg:W.grownBy w1 v.ownBlock):fN base w1 v' (l ++ [(r,x)]):=by
 refine ⟨_,by simpa using ho',by simp [he.1]; omega,?_⟩;intro i hi;by_cases hi':i<l.length
 ·obtain ⟨a',c',h1,h2,h3,h4⟩:=he.2 i hi';have g:=iq h3 h4 ho hg;have lx:=he.1;refine ⟨a',c',?_,?_,?_,g.2⟩
  ·rw [Ia (by omega),h1,H7 hi']
  ·rw [Ia (by omega),h2,H7 hi']
  ·rw [H7 hi']; exact g.1
 ·have:i=l.length:=by simp at hi; omega
  subst this;have lx:=he.1;have g:=iq hs ht ho hg;refine ⟨a,cap,?_,?_,?_,g.2⟩
  ·rw [H9 (by omega)]; simp [lx]
  ·rw [H9 (by omega)]; simp [lx]
  ·simpa using g.1
def fU (W:World) (B n:Nat) (l:List Vl) (k:Nat):Prop:=∃ xs,W.ownsRow B 24 3 (.slice (some ⟨B,0,none⟩) n n) n xs∧∀ (j:Nat) (h:j<l.length),j<k→xs[j*3]? = some (.int .i64 (bE l[j]).1)∧xs[j*3+1]? = some (.int .i64 (bE l[j]).2.1)∧xs[j*3+2]? = some (.string (bE l[j]).2.2)
theorem fU.step {W:World} {B n:Nat} {l:List Vl} {k:Nat} (h:fU W B n l k) (hk:k<l.length) (hn:n=l.length) :
  fU (((W.setCell ⟨B,k*3,none⟩ (.int .i64 (bE l[k]).1)).setCell ⟨B,k*3+1,none⟩ (.int .i64 (bE l[k]).2.1)).setCell ⟨B,k*3+2,none⟩ (.string (bE l[k]).2.2)) B n l (k+1):=by
 obtain ⟨xs,h1,h2⟩:=h;have lx:=h1.1;refine ⟨_,((((h1.stored (k*3) _).1.stored (k*3+1) _).1).stored (k*3+2) _).1,?_⟩;intro j hj hjk;by_cases e:j=k
 ·subst e;refine ⟨?_,?_,?_⟩ <;> simp [List.getElem?_set,lx,hn] <;> omega
 ·obtain ⟨g0,g1,g2⟩:=h2 j hj (by omega);refine ⟨?_,?_,?_⟩
  ·rw [Hv (by omega),Hv (by omega),Hv (by omega)]; exact g0
  ·rw [Hv (by omega),Hv (by omega),Hv (by omega)]; exact g1
  ·rw [Hv (by omega),Hv (by omega),Hv (by omega)]; exact g2
theorem fU.next {W w1:World} {B n:Nat} {l:List Vl} {k:Nat} (h:fU W B n l k) (hb:Below W.heap.size W w1):fU w1 B n l k:=by
 obtain ⟨xs,h1,h2⟩:=h;exact ⟨xs,bg h1 hb,h2⟩
theorem fU.cells {W:World} {B n:Nat} {l:List Vl} {k:Nat} (h:fU W B n l k) (hk:k<n):(∃ u0 u1 u2,W.cell? ⟨B,k*3,none⟩=some u0∧W.cell? ⟨B,k*3+1,none⟩=some u1∧W.cell? ⟨B,k*3+2,none⟩=some u2)∧W.frozen? ⟨B,k*3,none⟩=false∧W.frozen? ⟨B,k*3+1,none⟩=false∧W.frozen? ⟨B,k*3+2,none⟩=false∧B<W.heap.size:=by
 obtain ⟨xs,h1,h2⟩:=h;have lx:=h1.1;refine ⟨⟨xs[k*3]'(by omega),xs[k*3+1]'(by omega),xs[k*3+2]'(by omega),?_,?_,?_⟩,h1.frozenAt _,h1.frozenAt _,h1.frozenAt _,(h1.lt B rfl).2⟩
 ·rw [h1.cellAt _ (by omega)]; exact H4 (by omega)
 ·rw [h1.cellAt _ (by omega)]; exact H4 (by omega)
 ·rw [h1.cellAt _ (by omega)]; exact H4 (by omega)
theorem fU.done {W:World} {B n:Nat} {l:List Vl} (h:fU W B n l l.length) (hn:n=l.length) (h8:l.length≤8):aY W (some ⟨B,0,none⟩) (bU l)∧fQ W (some ⟨B,0,none⟩):=by
 obtain ⟨xs,h1,h2⟩:=h;subst hn;refine ⟨⟨by simp [bU,maxLen]; omega,.inr ⟨B,0,rfl,?_,(h1.lt B rfl).2⟩⟩,?_⟩
 ·intro i hi;have hi':i<l.length:=by simpa [bU] using hi
  obtain ⟨g0,g1,g2⟩:=h2 i hi' hi';simp only [bU,IJ];refine ⟨?_,?_,?_⟩
  ·rw [h1.cellAt _ (by omega),← g0]; congr 1; omega
  ·rw [h1.cellAt _ (by omega),← g1]; congr 1; omega
  ·rw [h1.cellAt _ (by omega),← g2]; congr 1; omega
 ·intro b off e;obtain ⟨_,⟨e',_⟩ | ⟨g,cap,cur,e',_,hh,_⟩⟩:=h1
  ·cases e'
  ·simp only [Value.slice.injEq,Jd,Addr.mk.injEq] at e e';obtain ⟨rfl,_⟩:=e;rw [← e'.1.1] at hh;exact ⟨_,_,hh⟩
theorem uV (a:Option Addr) (cap:Nat) (l:List Vl) (w:World) (h:aY w a l) (h8:l.length≤8) :
  Calls Tryz.prog 75 #[.slice a l.length cap] w fun e w'=>e = .returned (.slice (some ⟨w.heap.size,0,none⟩) l.length l.length)∧(aY w' (some ⟨w.heap.size,0,none⟩) (bU l)∧fQ w' (some ⟨w.heap.size,0,none⟩))∧Below w.heap.size w w':=by
 obtain ⟨i0,hi,hz0,hz1,hz2⟩:=info_parts Tryz.oU;go_enter Tryz.func75,Tryz.ntmps75;go_wp2_with (first | (at_make; refine wpList_make_full _ rfl _ _ 61 rfl w.heap.size 24 i0 _ 3 Tryz.underlying61 hi hz0 hz1 .i64 .i64 l.length l.length l.length rfl rfl rfl rfl (by rw [hz2]; omega) (by unfold maxLen; omega) (Hd _) ?_))
 intro w1 hown hgrow;have hb0:Below w.heap.size w w1:=(He _ _).grown hgrow (Hd _) (by simp);have hB0:fU w1 w.heap.size l.length l 0:=⟨_,hown,fun j _ hj=>absurd hj (Iu _)⟩
 clear hown hgrow;go_wp2_with fail
 go_loopw [11] (fun i wr=>∃ k:Nat,k≤l.length∧i = .int .i64 k∧fU wr w.heap.size l.length l k∧Below w.heap.size w wr) (fun i _=>l.length - (intOf i).toNat)
 case atStart=>exact ⟨0,Hl _,rfl,hB0,hb0⟩
 case round =>
  obtain ⟨k,hk,rfl,HB,hb⟩:=hrel;have hz:=hb.size;by_cases hlt:k<l.length
  ·obtain ⟨b,off,rfl,hbl,c0,c1,c2⟩:=(h.next hb).elem hlt;have i0:(0:Int)≤(k:Int):=by omega
   have i1:(k:Int)<(l.length:Int):=by omega
   go_wp2_with fail
   refine (kR _ _ _ _).mono ?_;rintro e w2 ⟨rfl,hb2⟩;have HB2:=(HB.next ((He _ _).alloc (Hd _) _)).next hb2;obtain ⟨⟨u0,u1,u2,d0,d1,d2⟩,f0,f1,f2,hlb⟩:=HB2.cells hlt;go_wp2
   go_roundw
   case rel =>
    refine ⟨k+1,by omega,by go_num,?_,?_⟩
    ·exact HB2.step hlt rfl
    ·exact (((kz hb hb2).setCell (p:=⟨w.heap.size,k*3,none⟩) (Hd _) _).setCell (p:=⟨w.heap.size,k*3+1,none⟩) (Hd _) _).setCell (p:=⟨w.heap.size,k*3+2,none⟩) (Hd _) _
   case measure=>simp [intOf]; omega
  ·have e:k=l.length:=by omega
   subst e;go_wp2
   go_ret;exact ⟨rfl,HB.done rfl h8,hb⟩
end Go.Proofs.YtjebpkhkjkjphaaGreat
namespace Go.Proofs.YtjebpkhkjkjphaaGreat
set_option maxRecDepth 100000
set_option maxHeartbeats 16000000
inductive Ex where
 | mk (k:Int) (v:Vl) (c:Int) (ks:List Ex)
def Ex.k:Ex→Int | .mk k _ _ _=>k
def Ex.v:Ex→Vl | .mk _ v _ _=>v
def Ex.c:Ex→Int | .mk _ _ c _=>c
def Ex.ks:Ex→List Ex | .mk _ _ _ ks=>ks
mutual
theorem Ex.ind {P:Ex→Prop} (h:∀ k v c ks,(∀ x ∈ ks,P x)→P (.mk k v c ks)):∀ x,P x
 | .mk k v c ks=>h k v c ks (Ex.Cx h ks)
theorem Ex.Cx {P:Ex→Prop} (h:∀ k v c ks,(∀ x ∈ ks,P x)→P (.mk k v c ks)):∀ ks:List Ex,∀ x ∈ ks,P x
 | [],_,hx=>by simp at hx
 | y :: r,x,hx=>by
  rcases List.mem_cons.mp hx with e | hx
  ·exact e ▸ Ex.ind h y
  ·exact Ex.Cx h r x hx
end
def dw (k:Int):Nat:=if k=1∨k=2 then 0 else if k=3∨k=16 then 1 else if k=17 then 3 else 2
def ed (k:Int) (len:Nat) (n d:Int):Int:=if 200<n∨20<d then 4 else if k<1∨18<k then 1 else if len≠dw k then 5 else 0
def kE (a b:Int):Option Int:=if a=b∨b=1 then some a else if a=1 then some b else none
def cM:Option Int→Int × Int | some t=>(t,0) | none=>(0,9)
def bV (t:Int) (ts:List Int):Option Int:=if ts.all (fun k=>(kE k t).isSome) then some t else none
def dP (k:Int) (ts:List Int):Option Int :=
 if k=3∨k=4∨k=5 then bV 2 ts
 else if 6≤k∧k≤11 then (if (kE (ts.getD 0 0) (ts.getD 1 0)).isSome then some 2 else none)
 else if k=12∨k=13∨k=14 then bV 3 ts
 else if k=15 then bV 4 ts
 else if k=16 then some 2
 else if k=17 then (if (kE (ts.getD 0 0) 2).isSome then kE (ts.getD 1 0) (ts.getD 2 0) else none)
 else kE (ts.getD 0 0) (ts.getD 1 0)
def bh (v:Vl):Int:=aR v.1 v.2.1 v.2.2
def kM (v:Vl):Int × Int:=if bh v=0 then (v.1,0) else (0,bh v)
def j8 (af:List Int) (c:Int):Int × Int:=if c<0∨af.length≤c then (0,7) else (af.getD c.toNat 0,0)
def dG (af:List Int) (k:Int) (v:Vl) (c:Int) (ts:List Int):Int × Int :=
 if k=1 then kM v else if k=2 then j8 af c else cM (dP k ts)
mutual
def aV (af:List Int):Ex→Int→Int→Int × Int × Int
 | .mk k v c ks,n,d =>
  if ed k ks.length (n+1) d≠0 then (0,ed k ks.length (n+1) d,n+1)
  else if (bp af ks [] (n+1) (d+1)).1≠0 then (0,(bp af ks [] (n+1) (d+1)).1,(bp af ks [] (n+1) (d+1)).2.2)
  else ((dG af k v c (bp af ks [] (n+1) (d+1)).2.1).1,(dG af k v c (bp af ks [] (n+1) (d+1)).2.1).2,(bp af ks [] (n+1) (d+1)).2.2)
def bp (af:List Int):List Ex→List Int→Int→Int→Int × List Int × Int
 | [],acc,n,_=>(0,acc,n)
 | x :: r,acc,n,d =>
  if (aV af x n d).2.1≠0 then ((aV af x n d).2.1,acc,(aV af x n d).2.2)
  else bp af r (acc ++ [(aV af x n d).1]) (aV af x n d).2.2 d
end
mutual
def gF:Ex→Nat | .mk _ _ _ ks=>1+jF ks
def jF:List Ex→Nat | []=>0 | x :: r=>gF x+jF r
end
mutual
def nM:Ex→Nat | .mk _ _ _ ks=>1+lL ks
def lL:List Ex→Nat | []=>0 | x :: r=>max (nM x) (lL r)
end
mutual
def fI (af:List Int):Ex→Option Int
 | .mk k v c ks=>if k<1∨18<k∨ks.length≠dw k then none else
  (eK af ks).bind fun ts=>if (dG af k v c ts).2=0 then some (dG af k v c ts).1 else none
def eK (af:List Int):List Ex→Option (List Int)
 | []=>some []
 | x :: r=>(fI af x).bind fun t=>(eK af r).map fun ts=>t :: ts
end
theorem qs:∀ x:Ex,1≤gF x | .mk _ _ _ ks=>by rw [gF]; omega
theorem pH (af:List Int):∀ (ks:List Ex),(∀ x ∈ ks,∀ n d t n',aV af x n d=(t,0,n')↔fI af x=some t∧n'=n+gF x∧n'≤200∧d+nM x≤21) →
  ∀ acc n d ts n',n≤200→d≤21→(bp af ks acc n d=(0,acc ++ ts,n')↔eK af ks=some ts∧n'=n+jF ks∧n'≤200∧d+lL ks≤21)
 | [],_,acc,n,d,ts,n',hn,hd=>by
  simp only [bp,eK,jF,lL,Prod.mk.injEq,true_and,Jd]
  constructor
  ·rintro ⟨h,rfl⟩
   have:ts = []:=by simpa using h
   exact ⟨this.symm,by simp,hn,by simpa using hd⟩
  ·rintro ⟨rfl,h,_⟩
   exact ⟨by simp,by simpa using h.symm⟩
 | x :: r,hx,acc,n,d,ts,n',hn,hd=>by
  have ih:=pH af r (fun y hy=>hx y (List.mem_cons_of_mem _ hy))
  have h0:=hx x (List.mem_cons_self ..) n d
  rcases hq:aV af x n d with ⟨t,e,m⟩
  rw [bp,hq,eK,jF,lL]
  have hs:=qs x
  by_cases he:e=0
  ·subst he
   have h1:=(h0 t m).1 hq
   obtain ⟨p1,p2,p3,p4⟩:=h1
   simp only [ne_eq,not_true,if_false,p1,Option.bind_some]
   constructor
   ·intro h
    match ts,h with
    | [],h =>
     exfalso
     have:=congrArg (fun z=>z.2.1.length) h
     have hl:∀ (l:List Ex) acc n d,(bp af l acc n d).1=0→acc.length≤(bp af l acc n d).2.1.length:=by
      intro l
      induction l with
      | nil=>intro acc n d _; simp [bp]
      | cons y l ihl =>
       intro acc n d h
       rw [bp] at h ⊢
       split at h
       ·rename_i hne
        exact absurd h hne
       ·rename_i hne
        rw [if_neg hne]
        have:=ihl _ _ _ h
        simp at this
        omega
     have h2:=hl r (acc ++ [t]) m d (by rw [h])
     rw [h] at h2
     simp at h2
     omega
    | u :: us,h =>
     have hu:u=t:=by
      have hl:∀ (l:List Ex) acc n d,(bp af l acc n d).1=0→acc <+: (bp af l acc n d).2.1:=by
       intro l
       induction l with
       | nil=>intro acc n d _; simp [bp]
       | cons y l ihl =>
        intro acc n d h
        rw [bp] at h ⊢
        split at h
        ·rename_i hne
         exact absurd h hne
        ·rename_i hne
         rw [if_neg hne]
         exact (List.prefix_append _ _).trans (ihl _ _ _ h)
      have h2:=hl r (acc ++ [t]) m d (by rw [h])
      rw [h] at h2
      simp only [List.prefix_append_right_inj] at h2
      exact (List.cons_prefix_cons.mp h2).1.symm
     subst hu
     have h':bp af r (acc ++ [u]) m d=(0,(acc ++ [u]) ++ us,n'):=by simpa using h
     obtain ⟨q1,q2,q3,q4⟩:=(ih (acc ++ [u]) m d us n' p3 hd).1 h'
     refine ⟨by simp [q1],by omega,q3,by omega⟩
   ·rintro ⟨q1,q2,q3,q4⟩
    rw [Option.map_eq_some_iff] at q1
    obtain ⟨us,q1,rfl⟩:=q1
    have:=(ih (acc ++ [t]) m d us n' p3 hd).2 ⟨q1,by omega,q3,by omega⟩
    simpa using this
  ·simp only [ne_eq,he,not_false_eq_true,if_true,Prod.mk.injEq,false_and,false_iff]
   rintro ⟨q1,q2,q3,q4⟩
   rw [IG] at q1
   obtain ⟨u,q1,_⟩:=q1
   have:=(h0 u (n+gF x)).2 ⟨q1,rfl,by omega,by omega⟩
   rw [hq] at this
   simp at this
   exact he this.2.1
theorem iH (af:List Int):∀ x n d t n',aV af x n d=(t,0,n')↔fI af x=some t∧n'=n+gF x∧n'≤200∧d+nM x≤21:=by
 refine Ex.ind fun k v c ks ih n d t n'=>?_
 have hk:=pH af ks (fun x hx=>ih x hx) [] (n+1) (d+1);rw [aV,fI,gF,nM];by_cases hw:ed k ks.length (n+1) d=0
 ·have hw':¬ (200<n+1∨20<d)∧¬ (k<1∨18<k)∧ks.length=dw k:=by
   unfold ed at hw;by_cases h1:200<n+1∨20<d
   ·simp [h1] at hw
   by_cases h2:k<1∨18<k
   ·simp [h1,h2] at hw
   by_cases h3:ks.length=dw k
   ·exact ⟨h1,h2,h3⟩
   ·simp [h1,h2,h3] at hw
  obtain ⟨h1,h2,h3⟩:=hw';rw [if_neg (by simp [hw]),if_neg (show ¬ (k<1∨18<k∨ks.length≠dw k) by simp [h3]; omega)];rcases hq:bp af ks [] (n+1) (d+1) with ⟨e,ts,m⟩
  by_cases he:e=0
  ·subst he;obtain ⟨p1,p2,p3,p4⟩:=(hk ts m (by omega) (by omega)).1 (by simpa using hq);simp only [ne_eq,not_true,if_false,p1,Option.bind_some];by_cases hn:(dG af k v c ts).2=0
   ·simp only [hn,if_true,Prod.mk.injEq,true_and,Jd];constructor
    ·rintro ⟨rfl,rfl⟩;exact ⟨rfl,by omega,p3,by omega⟩
    ·rintro ⟨rfl,q2,q3,q4⟩;exact ⟨rfl,by omega⟩
   ·simp [hn]
  ·simp only [ne_eq,he,not_false_eq_true,if_true,Prod.mk.injEq,false_and,and_false,false_iff];rintro ⟨q1,q2,q3,q4⟩;rw [IG] at q1;obtain ⟨us,q1,_⟩:=q1;have:=(hk us (n+1+jF ks) (by omega) (by omega)).2 ⟨q1,rfl,by omega,by omega⟩;rw [hq] at this;simp at this;exact he this.1
 ·rw [if_pos hw];simp only [Prod.mk.injEq,hw,false_and,and_false,false_iff];rintro ⟨q1,q2,q3,q4⟩;apply hw
  split at q1
  ·simp at q1
  ·rename_i hc
   unfold ed;rw [if_neg (by omega),if_neg (by omega),if_neg (by simp; omega)]
theorem D2 {af:List Int} {x:Ex} {n d:Int} (h:(aV af x n d).2.1=0):(aV af x n d).2.2≤200∧n<(aV af x n d).2.2:=by
 have:=(iH af x n d (aV af x n d).1 (aV af x n d).2.2).1 (by rw [← h]);have:=qs x;omega
end Go.Proofs.YtjebpkhkjkjphaaGreat
namespace Go.Proofs.YtjebpkhkjkjphaaGreat
open Go.RowKit
set_option maxRecDepth 100000
set_option maxHeartbeats 16000000
abbrev ji (x:Ex) (a:Option Addr) (c:Nat):Array Value:=#[.int .i64 x.k,.int .i64 x.v.1,.int .i64 x.v.2.1,.string x.v.2.2,.int .i64 x.c,.slice a x.ks.length c]
abbrev iY (k:Int) (v:Vl) (c:Int) (a:Option Addr) (n cap:Nat):Value :=
 .agg #[.int .i64 k,.int .i64 v.1,.int .i64 v.2.1,.string v.2.2,.int .i64 c,.slice a n cap]
abbrev fg (v:Vl):Value:=.agg #[.int .i64 v.1,.int .i64 v.2.1,.string v.2.2]
theorem zU (k:Int) (w:World) :
  Calls Tryz.prog 159 #[.int .i64 k] w fun e w'=>e = .returned (.int .i64 (dw k:Nat))∧Below w.heap.size w w':=by
 unfold dw;by_cases h1:k=1
 ·subst h1; go_enter Tryz.func159,Tryz.ntmps159; go_wp2_with fail; go_ret; exact ⟨rfl,He _ _⟩
 by_cases h2:k=2
 ·subst h2; go_enter Tryz.func159,Tryz.ntmps159; go_wp2_with fail; go_ret; exact ⟨rfl,He _ _⟩
 by_cases h3:k=3
 ·subst h3; go_enter Tryz.func159,Tryz.ntmps159; go_wp2_with fail; go_ret; exact ⟨rfl,He _ _⟩
 by_cases h4:k=16
 ·subst h4; go_enter Tryz.func159,Tryz.ntmps159; go_wp2_with fail; go_ret; exact ⟨rfl,He _ _⟩
 by_cases h5:k=17
 ·subst h5; go_enter Tryz.func159,Tryz.ntmps159; go_wp2_with fail; go_ret; exact ⟨rfl,He _ _⟩
 rw [if_neg (by omega),if_neg (by omega),if_neg (by omega)];have q1:(k == 1)=false:=by simpa using h1
 have q2:(k == 2)=false:=by simpa using h2
 have q3:(k == 3)=false:=by simpa using h3
 have q4:(k == 16)=false:=by simpa using h4
 have q5:(k == 17)=false:=by simpa using h5
 go_enter Tryz.func159,Tryz.ntmps159;go_wp2
 go_ret;exact ⟨rfl,He _ _⟩
def bJ (a b:Int):Int × Int:=cM (kE a b)
theorem Fi (a:Int):bJ a a=(a,0):=by simp [bJ,kE,cM]
theorem FN (a:Int):bJ a 1=(a,0):=by simp [bJ,kE,cM]
theorem Ft {b:Int} (h:¬ b=1):bJ 1 b=(b,0):=by
 have h':¬ 1=b:=fun e=>h e.symm
 simp [bJ,kE,cM,h,h']
theorem FO {a b:Int} (h1:¬ a=b) (h2:¬ b=1) (h3:¬ a=1):bJ a b=(0,9):=by simp [bJ,kE,cM,h1,h2,h3]
theorem bO (a b:Int) (w:World) :
  Calls Tryz.prog 132 #[.int .i64 a,.int .i64 b] w fun e w'=>e = .returned (.tuple #[.int .i64 (bJ a b).1,.int .i64 (bJ a b).2])∧Below w.heap.size w w':=by
 by_cases h1:a=b
 ·subst h1;rw [Fi];go_enter Tryz.func132,Tryz.ntmps132;go_wp2
  exact Hf (v:=.tuple #[.int .i64 a,.int .i64 0]) (by simp [results,Tryz.results132,go_sem]) rfl ⟨rfl,He _ _⟩
 have q1:(a == b)=false:=by simpa using h1
 by_cases h2:b=1
 ·subst h2;rw [FN];go_enter Tryz.func132,Tryz.ntmps132;go_wp2
  exact Hf (v:=.tuple #[.int .i64 a,.int .i64 0]) (by simp [results,Tryz.results132,go_sem]) rfl ⟨rfl,He _ _⟩
 have q2:(b == 1)=false:=by simpa using h2
 by_cases h3:a=1
 ·subst h3;rw [Ft h2];go_enter Tryz.func132,Tryz.ntmps132;go_wp2
  exact Hf (v:=.tuple #[.int .i64 b,.int .i64 0]) (by simp [results,Tryz.results132,go_sem]) rfl ⟨rfl,He _ _⟩
 have q3:(a == 1)=false:=by simpa using h3
 rw [FO h1 h2 h3];go_enter Tryz.func132,Tryz.ntmps132;go_wp2
 exact Hf (v:=.tuple #[.int .i64 0,.int .i64 9]) (by simp [results,Tryz.results132,go_sem]) rfl ⟨rfl,He _ _⟩
theorem ml (k n:Int) (s:ByteArray) (w:World) :
  Calls Tryz.prog 174 #[.agg #[.int .i64 k,.int .i64 n,.string s]] w fun e w'=>e = .returned (.bool (k == 1))∧Below w.heap.size w w':=by
 go_enter Tryz.func174,Tryz.ntmps174;go_wp2
 go_ret;exact ⟨rfl,((He _ _).alloc (Hd _) _)⟩
structure ik (W:World) (b off:Nat) (k:Int) (v:Vl) (c:Int) (a:Option Addr) (n cap:Nat):Prop where
 c0:W.cell? ⟨b,off,none⟩=some (.int .i64 k)
 c1:W.cell? ⟨b,off+1,none⟩=some (.int .i64 v.1)
 c2:W.cell? ⟨b,off+2,none⟩=some (.int .i64 v.2.1)
 c3:W.cell? ⟨b,off+3,none⟩=some (.string v.2.2)
 c4:W.cell? ⟨b,off+4,none⟩=some (.int .i64 c)
 c5:W.cell? ⟨b,off+5,none⟩=some (.slice a n cap)
theorem ik.next {W w1:World} {B b off:Nat} {k:Int} {v:Vl} {c:Int} {a:Option Addr} {n cap:Nat} (h:ik W b off k v c a n cap) (hb:Below B W w1) (hB:b<B):ik w1 b off k v c a n cap :=
 ⟨(hb.cell (p:=⟨b,_,none⟩) hB).trans h.c0,(hb.cell (p:=⟨b,_,none⟩) hB).trans h.c1,(hb.cell (p:=⟨b,_,none⟩) hB).trans h.c2,(hb.cell (p:=⟨b,_,none⟩) hB).trans h.c3,(hb.cell (p:=⟨b,_,none⟩) hB).trans h.c4,(hb.cell (p:=⟨b,_,none⟩) hB).trans h.c5⟩
theorem ik.new (w:World) (k:Int) (v:Vl) (c:Int) (a:Option Addr) (n cap t:Nat):ik (w.alloc (.cells #[.int .i64 k,.int .i64 v.1,.int .i64 v.2.1,.string v.2.2,.int .i64 c,.slice a n cap] t)) w.heap.size 0 k v c a n cap :=
 ⟨by simp,by simp,by simp,by simp,by simp,by simp⟩
theorem oN {k:Int} {n:Nat} {m d:Int} (h:200<m∨20<d):ed k n m d=4:=by simp [ed,h]
theorem nX {k:Int} {n:Nat} {m d:Int} (h:¬ 200<m) (h':¬ 20<d) (h2:k<1∨18<k):ed k n m d=1:=by simp [ed,h,h',h2]
theorem uH {k:Int} {n:Nat} {m d:Int} (h:¬ 200<m) (h':¬ 20<d) (h2:¬ k<1) (h3:¬ 18<k) (h4:¬ n=dw k):ed k n m d=5:=by simp [ed,h,h',h2,h3,h4]
theorem Aq {k:Int} {n:Nat} {m d:Int} (h:¬ 200<m) (h':¬ 20<d) (h2:¬ k<1) (h3:¬ 18<k) (h4:n=dw k):ed k n m d=0:=by simp [ed,h,h',h2,h3,h4]
theorem rF (k:Int) (v:Vl) (c:Int) (a:Option Addr) (n cap:Nat) (m d:Int) (w:World) :
  Calls Tryz.prog 127 #[iY k v c a n cap,.int .i64 m,.int .i64 d] w fun e w'=>e = .returned (.int .i64 (ed k n m d))∧Below w.heap.size w w':=by
 by_cases h1:200<m;rw [oN (.inl h1)];rotate_left;by_cases h2:20<d;rw [oN (.inr h2)];rotate_left;by_cases h3:k<1;rw [nX h1 h2 (.inl h3)];rotate_left;by_cases h4:18<k;rw [nX h1 h2 (.inr h4)];rotate_left;obtain ⟨q,hq,hn⟩:∃ q:Bool,((n:Int) != ((dw k:Nat):Int))=q∧ed k n m d=if q then 5 else 0:=by
  by_cases h5:n=dw k
  ·exact ⟨false,by simp [h5],by rw [Aq h1 h2 h3 h4 h5]; rfl⟩
  ·exact ⟨true,by simp; omega,by rw [uH h1 h2 h3 h4 h5]; rfl⟩
 rw [hn];clear hn;go_enter Tryz.func127,Tryz.ntmps127;go_wp2_with fail
 have hA:Below w.heap.size w (w.alloc (.cells #[.int .i64 k,.int .i64 v.1,.int .i64 v.2.1,.string v.2.2,.int .i64 c,.slice a n cap] 27)):=((He _ _).alloc (Hd _) _)
 have S:=ik.new w k v c a n cap 27;generalize w.alloc (.cells #[.int .i64 k,.int .i64 v.1,.int .i64 v.2.1,.string v.2.2,.int .i64 c,.slice a n cap] 27)=wA at *;have p0:=ax S.c0;have p5:=ax S.c5;simp only [Hu] at p5;haveI:Nonempty (du wA):=⟨⟨_,He _ _⟩⟩
 refine aI (by kernel_rfl) (by kernel_rfl) ?_
 repeat (go_big_quiet_step (first | (go_at_call 159; exact cS (zU _ _))))
 refine wpQuiet_nil ?_;rintro w3 ⟨⟨v3,hb3⟩,h3'⟩;obtain rfl:w3=v3:=h3';have hb:=chain hA hb3;clear p0 p5 S hA hb3;cases q
 ·go_wp2_with fail
  go_ret;exact ⟨rfl,hb⟩
 ·go_wp2_with fail
  go_ret;exact ⟨rfl,hb⟩
 all_goals
  go_enter Tryz.func127,Tryz.ntmps127;go_wp2_with fail
  go_ret;exact ⟨rfl,((He _ _).alloc (Hd _) _)⟩
def mf (n:Int):Bool:=decide (-1000000000000000≤n) && decide (n≤1000000000000000)
theorem xf {n:Int} (h:mf n=true):-1000000000000000≤n∧n≤1000000000000000:=by simpa [mf] using h
theorem Gl {n:Int} (h:mf n=false):n < -1000000000000000∨1000000000000000<n:=by
 unfold mf at h;by_cases a:-1000000000000000≤n
 ·by_cases b:n≤1000000000000000
  ·simp [a,b] at h
  ·right; omega
 ·left; omega
theorem Fx {n:Int} (h:n < -1000000000000000∨1000000000000000<n):mf n=false:=by
 cases e:mf n
 ·rfl
 ·have:=xf e; omega
def jg (n:Int):Int:=if mf n then 3 else 1
def js (n:Int):Int:=if mf n then n else 0
def kY (k n:Int):Bool:=k == 3 && mf n
def Gq (c n n':Int):Option Int:=if c=43 then some (n+n') else if c=45 then some (n - n') else if c=42 then some (n*n') else none
def ru:Option Int→Int | some x=>jg x | none=>1
def vx:Option Int→Int | some x=>js x | none=>0
def nm (c k n k' n':Int):Option Int:=if kY k n && kY k' n' then Gq c n n' else none
theorem mH (n:Int) (w:World) :
  Calls Tryz.prog 105 #[.int .i64 n] w fun e w'=>e = .returned (.bool (mf n))∧w'=w:=by
 by_cases h0:-1000000000000000≤n
 ·go_enter Tryz.func105,Tryz.ntmps105;go_wp2
  go_ret;exact ⟨eF (by simp [mf,h0]),rfl⟩
 ·have hd:decide (-1000000000000000≤n)=false:=by simpa using h0
  have e:mf n=false:=by simp only [mf,hd,Bool.false_and]
  go_enter Tryz.func105,Tryz.ntmps105;go_wp2
  go_ret;exact ⟨rfl,rfl⟩
theorem vW (n:Int) (w:World) (h:mf n=true) :
  Calls Tryz.prog 179 #[.int .i64 n] w fun e w'=>e = .returned (.agg #[.int .i64 3,.int .i64 n,.string ⟨#[]⟩])∧Below w.heap.size w w':=by
 go_enter Tryz.func179,Tryz.ntmps179;go_wp2_with fail
 refine (mH _ _).mono ?_;rintro e w1 ⟨rfl,rfl⟩;rw [h];go_wp2
 exact Hf (v:=.agg #[.int .i64 3,.int .i64 n,.string ⟨#[]⟩]) (by simp [results,Tryz.results179,go_sem]) rfl ⟨rfl,(He _ _).alloc (Hd _) _⟩
theorem wQ (n:Int) (w:World) (h:mf n=false) :
  Calls Tryz.prog 179 #[.int .i64 n] w fun e w'=>e = .returned (.agg #[.int .i64 1,.int .i64 0,.string ⟨#[]⟩])∧Below w.heap.size w w':=by
 go_enter Tryz.func179,Tryz.ntmps179;go_wp2_with fail
 refine (mH _ _).mono ?_;rintro e w1 ⟨rfl,rfl⟩;rw [h];have R0:=fy.new w (.int .i64 0) (.int .i64 0) (.string ⟨#[]⟩) 24;go_wp2_with fail
 refine (dp _).mono ?_;rintro e w1 ⟨rfl,hb1⟩;have R1:=R0.next hb1;have ⟨r0,r1,r2,r3,r4,r5,r6⟩:=R1;go_wp2
 exact Hf (v:=.agg #[.int .i64 1,.int .i64 0,.string ⟨#[]⟩]) (by simp [results,Tryz.results179,go_sem,r1,r2,r3]) rfl ⟨rfl,aF (jH hb1) (Hd _)⟩
theorem qN (n:Int) (w:World) :
  Calls Tryz.prog 179 #[.int .i64 n] w fun e w'=>e = .returned (.agg #[.int .i64 (jg n),.int .i64 (js n),.string ⟨#[]⟩])∧Below w.heap.size w w':=by
 cases h:mf n
 ·have e1:jg n=1:=by simp [jg,h]
  have e2:js n=0:=by simp [js,h]
  rw [e1,e2]; exact wQ n w h
 ·have e1:jg n=3:=by simp [jg,h]
  have e2:js n=n:=by simp [js,h]
  rw [e1,e2]; exact vW n w h
theorem kL (n:Int) (w:World) (h0:-1000000000000000≤n) (h1:n≤1000000000000000) :
  Calls Tryz.prog 212 #[.int .i64 n] w fun e w'=>e = .returned (.int .i64 (n.natAbs:Int))∧w'=w:=by
 by_cases h:n<0
 ·go_enter Tryz.func212,Tryz.ntmps212;go_wp2
  go_ret;exact ⟨aQ (by omega),rfl⟩
 ·go_enter Tryz.func212,Tryz.ntmps212;go_wp2
  go_ret;exact ⟨aQ (by omega),rfl⟩
theorem qZ (k n:Int) (s:ByteArray) (w:World) :
  Calls Tryz.prog 210 #[.agg #[.int .i64 k,.int .i64 n,.string s]] w fun e w'=>e = .returned (.bool (kY k n))∧Below w.heap.size w w':=by
 by_cases hk:k=3
 ·subst hk;have e0:(aR 3 n s == 0)=kY 3 n:=by
   cases h:mf n
   ·have:=Gl h;have e:aR 3 n s=3:=by
     rcases this with t | t
     ·exact pV n s t
     ·exact qB n s t
    simp [kY,h,e]
   ·have:=xf h;have e:aR 3 n s=0:=sU n s (by omega) (by omega);simp [kY,h,e]
  have E0:Hid ((aR 3 n s == 0)=kY 3 n):=e0;clear e0;go_enter Tryz.func210,Tryz.ntmps210;go_wp2_with fail
  refine (gr _ _ _ _).mono ?_;rintro e w1 ⟨rfl,hb1⟩;go_wp2
  go_ret;exact ⟨eF E0.out,jH hb1⟩
 ·have b3:(k == 3)=false:=by simpa using hk
  go_enter Tryz.func210,Tryz.ntmps210;go_wp2
  go_ret;exact ⟨eF (by simp [kY,b3]),(He _ _).alloc (Hd _) _⟩
theorem Ec (a b:Int) (h:(1000000000000000 / (a.natAbs:Int))<(b.natAbs:Int)) (ha:a≠0):mf (a*b)=false:=by
 apply Fx;have h1:1000000000000000<(a.natAbs:Int)*(b.natAbs:Int):=by
  have p:0<(a.natAbs:Int):=by omega
  have:=Int.lt_mul_of_ediv_lt p h;rw [Int.mul_comm]; exact this
 have h2:((a*b).natAbs:Int)=(a.natAbs:Int)*(b.natAbs:Int):=by rw [Int.natAbs_mul]; exact Int.natCast_mul _ _
 rw [← h2] at h1;omega
theorem Fc (a b:Int) (h:(b.natAbs:Int)≤1000000000000000 / (a.natAbs:Int)) (ha:a≠0):-1000000000000000≤a*b∧a*b≤1000000000000000:=by
 have h1:(a.natAbs:Int)*(b.natAbs:Int)≤1000000000000000:=by
  have p:0<(a.natAbs:Int):=by omega
  have:=Int.mul_le_of_le_ediv p h;rw [Int.mul_comm]; exact this
 have h2:((a*b).natAbs:Int)=(a.natAbs:Int)*(b.natAbs:Int):=by rw [Int.natAbs_mul]; exact Int.natCast_mul _ _
 rw [← h2] at h1;omega
theorem zd (b:Int) (w:World) :
  Calls Tryz.prog 211 #[.int .i64 0,.int .i64 b] w fun e w'=>e = .returned (.agg #[.int .i64 (jg (0*b)),.int .i64 (js (0*b)),.string ⟨#[]⟩])∧Below w.heap.size w w':=by
 rw [Int.zero_mul];have R0:=fy.new w (.int .i64 0) (.int .i64 0) (.string ⟨#[]⟩) 24;go_enter Tryz.func211,Tryz.ntmps211;go_wp2_with fail
 refine (qN _ _).mono ?_;rintro e w1 ⟨rfl,hb1⟩;have R1:=R0.next hb1;have ⟨r0,r1,r2,r3,r4,r5,r6⟩:=R1;go_wp2
 exact Hf (v:=.agg #[.int .i64 (jg 0),.int .i64 (js 0),.string ⟨#[]⟩]) (by simp [results,Tryz.results211,go_sem,r1,r2,r3]) rfl ⟨rfl,aF (jH hb1) (Hd _)⟩
theorem tL (a b:Int) (w:World) (a0:-1000000000000000≤a) (a1:a≤1000000000000000) (b0:-1000000000000000≤b) (b1:b≤1000000000000000) (ha:a≠0) (h:(1000000000000000 / (a.natAbs:Int))<(b.natAbs:Int)) :
  Calls Tryz.prog 211 #[.int .i64 a,.int .i64 b] w fun e w'=>e = .returned (.agg #[.int .i64 1,.int .i64 0,.string ⟨#[]⟩])∧Below w.heap.size w w':=by
 have R0:=fy.new w (.int .i64 0) (.int .i64 0) (.string ⟨#[]⟩) 24;have bn:(a != 0)=true:=by simpa using ha
 have p0:0<(a.natAbs:Int):=by omega
 have p1:(a.natAbs:Int)≤1000000000000000:=by omega
 have q0:0≤(b.natAbs:Int):=by omega
 have q1:(b.natAbs:Int)≤1000000000000000:=by omega
 go_enter Tryz.func211,Tryz.ntmps211;go_wp2_with fail
 refine (kL _ _ b0 b1).mono ?_;rintro e w1 ⟨rfl,rfl⟩;go_wp2_with fail
 refine (kL _ _ a0 a1).mono ?_;rintro e w1 ⟨rfl,rfl⟩;generalize (a.natAbs:Int)=A at *;generalize (b.natAbs:Int)=B at *;go_wp2_with fail
 refine (dp _).mono ?_;rintro e w1 ⟨rfl,hb1⟩;have R1:=R0.next hb1;have ⟨r0,r1,r2,r3,r4,r5,r6⟩:=R1;go_wp2
 exact Hf (v:=.agg #[.int .i64 1,.int .i64 0,.string ⟨#[]⟩]) (by simp [results,Tryz.results211,go_sem,r1,r2,r3]) rfl ⟨rfl,aF (jH hb1) (Hd _)⟩
theorem vX (a b:Int) (w:World) (a0:-1000000000000000≤a) (a1:a≤1000000000000000) (b0:-1000000000000000≤b) (b1:b≤1000000000000000) (ha:a≠0) (h:(b.natAbs:Int)≤(1000000000000000 / (a.natAbs:Int))) :
  Calls Tryz.prog 211 #[.int .i64 a,.int .i64 b] w fun e w'=>e = .returned (.agg #[.int .i64 (jg (a*b)),.int .i64 (js (a*b)),.string ⟨#[]⟩])∧Below w.heap.size w w':=by
 have hm:=Fc a b h ha;obtain ⟨m0,m1⟩:=hm;have R0:=fy.new w (.int .i64 0) (.int .i64 0) (.string ⟨#[]⟩) 24;have bn:(a != 0)=true:=by simpa using ha
 have p0:0<(a.natAbs:Int):=by omega
 have p1:(a.natAbs:Int)≤1000000000000000:=by omega
 have q0:0≤(b.natAbs:Int):=by omega
 have q1:(b.natAbs:Int)≤1000000000000000:=by omega
 go_enter Tryz.func211,Tryz.ntmps211;go_wp2_with fail
 refine (kL _ _ b0 b1).mono ?_;rintro e w1 ⟨rfl,rfl⟩;go_wp2_with fail
 refine (kL _ _ a0 a1).mono ?_;rintro e w1 ⟨rfl,rfl⟩;have ew:wrap64 (a*b)=a*b:=by unfold wrap64; omega
 generalize (a.natAbs:Int)=A at *;generalize (b.natAbs:Int)=B at *;go_wp2_with fail
 refine (qN _ _).mono ?_;rintro e w1 ⟨rfl,hb1⟩;have R1:=R0.next hb1;have ⟨r0,r1,r2,r3,r4,r5,r6⟩:=R1;go_wp2
 exact Hf (v:=.agg #[.int .i64 (jg (a*b)),.int .i64 (js (a*b)),.string ⟨#[]⟩]) (by simp [results,Tryz.results211,go_sem,r1,r2,r3]) rfl ⟨rfl,aF (jH hb1) (Hd _)⟩
theorem tM (a b:Int) (w:World) (a0:-1000000000000000≤a) (a1:a≤1000000000000000) (b0:-1000000000000000≤b) (b1:b≤1000000000000000) :
  Calls Tryz.prog 211 #[.int .i64 a,.int .i64 b] w fun e w'=>e = .returned (.agg #[.int .i64 (jg (a*b)),.int .i64 (js (a*b)),.string ⟨#[]⟩])∧Below w.heap.size w w':=by
 by_cases ha:a=0
 ·subst ha; exact zd b w
 by_cases h:(1000000000000000 / (a.natAbs:Int))<(b.natAbs:Int)
 ·have e:=Ec a b h ha;have e1:jg (a*b)=1:=by simp [jg,e]
  have e2:js (a*b)=0:=by simp [js,e]
  rw [e1,e2]; exact tL a b w a0 a1 b0 b1 ha h
 ·exact vX a b w a0 a1 b0 b1 ha (by omega)
theorem vI (c k n k' n' : Int) (s s' : ByteArray) (w : World) :
    Calls Tryz.prog 208 #[.int .i32 c, .agg #[.int .i64 k, .int .i64 n, .string s], .agg #[.int .i64 k', .int .i64 n', .string s']] w fun e w' => e = .returned (.agg #[.int .i64 (ru (nm c k n k' n')), .int .i64 (vx (nm c k n k' n')), .string ⟨#[]⟩]) ∧ Below w.heap.size w w' := by
  have T := ph.new w k n k' n' s s'
  have g : kY k n = true → -1000000000000000 ≤ n ∧ n ≤ 1000000000000000 := fun h => by unfold kY at h; simp at h; exact xf h.2
  have g' : kY k' n' = true → -1000000000000000 ≤ n' ∧ n' ≤ 1000000000000000 := fun h => by unfold kY at h; simp at h; exact xf h.2
  obtain ⟨o, ho⟩ : ∃ o, o = nm c k n k' n' := ⟨_, rfl⟩
  rw [← ho]
  unfold nm Gq at ho
  by_cases c1 : c = 43
  rotate_left
  by_cases c2 : c = 45
  rotate_left
  by_cases c3 : c = 42
  all_goals (
    cases h1 : kY k n <;> cases h2 : kY k' n')
  all_goals (
    simp only [h1, h2, Bool.and_true, Bool.and_false, I9, if_true, if_false] at ho
    simp only [h1, I9, false_implies, forall_const] at g
    simp only [h2, I9, false_implies, forall_const] at g'
    try (rcases g with ⟨q0, q1⟩)
    try (rcases g' with ⟨p0, p1⟩)
    try simp only [c1, c2, c3, if_true, if_false] at ho
    try simp only [c1, if_true, if_false] at ho
    try simp only [c2, if_true] at ho
    try (have d1 : (c == 43) = false := by simpa using c1)
    try (have d2 : (c == 45) = false := by simpa using c2)
    try (have d3 : (c == 42) = false := by simpa using c3)
    try subst c1
    try subst c2
    try subst c3
    try simp at ho
    subst ho)
  all_goals (
    go_enter Tryz.func208, Tryz.ntmps208
    go_wp2_with fail
    generalize ((w.alloc (.cells #[.int .i64 k, .int .i64 n, .string s] 24)).alloc (.cells #[.int .i64 k', .int .i64 n', .string s'] 24)).alloc (.cells #[.int .i64 0, .int .i64 0, .string ⟨#[]⟩] 24) = W0 at *
    repeat (first | refine (qZ _ _ _ _).mono ?_ | refine (qN _ _).mono ?_ | refine (tM _ _ _ q0 q1 p0 p1).mono ?_ | refine (dp _).mono ?_
            rintro e w1 ⟨rfl, hb⟩
            replace T := T.next hb
            clear hb
            have ⟨a0, a1, a2, a3, a4, a5, a6⟩ := T.p
            have ⟨b0, b1, b2, b3, b4, b5, b6⟩ := T.q
            have ⟨r0, r1, r2, r3, r4, r5, r6⟩ := T.r
            try simp only [h1, h2]
            go_wp2_with fail)
    have HB := T.b
    first | exact Hf (v := .agg #[.int .i64 1, .int .i64 0, .string ⟨#[]⟩]) (by simp [results, Tryz.results208, go_sem, r1, r2, r3]) rfl ⟨rfl, aF HB (by omega)⟩ | exact Hf (v := .agg #[.int .i64 (jg (n + n')), .int .i64 (js (n + n')), .string ⟨#[]⟩]) (by simp [results, Tryz.results208, go_sem, r1, r2, r3]) rfl ⟨rfl, aF HB (by omega)⟩ | exact Hf (v := .agg #[.int .i64 (jg (n - n')), .int .i64 (js (n - n')), .string ⟨#[]⟩]) (by simp [results, Tryz.results208, go_sem, r1, r2, r3]) rfl ⟨rfl, aF HB (by omega)⟩ | exact Hf (v := .agg #[.int .i64 (jg (n * n')), .int .i64 (js (n * n')), .string ⟨#[]⟩]) (by simp [results, Tryz.results208, go_sem, r1, r2, r3]) rfl ⟨rfl, aF HB (by omega)⟩)
def jn (k:Int) (s:ByteArray) (k':Int) (s':ByteArray):Bool:=k == 4 && (k' == 4 && decide (s.size+s'.size≤60))
def jl (k:Int) (s:ByteArray) (k':Int) (s':ByteArray):Int:=if jn k s k' s' then 4 else 1
def jN (k:Int) (s:ByteArray) (k':Int) (s':ByteArray):ByteArray:=if jn k s k' s' then s ++ s' else ⟨#[]⟩
theorem Fl (k n k' n':Int) (s s':ByteArray) (w:World) (h':(k != 4)=true) :
  Calls Tryz.prog 201 #[.agg #[.int .i64 k,.int .i64 n,.string s],.agg #[.int .i64 k',.int .i64 n',.string s']] w fun e w'=>e = .returned (.agg #[.int .i64 1,.int .i64 0,.string ⟨#[]⟩])∧Below w.heap.size w w':=by
 have A0:=((fy.new w (.int .i64 k) (.int .i64 n) (.string s) 24).alloc (.cells #[.int .i64 k',.int .i64 n',.string s'] 24)).alloc (.cells #[.int .i64 0,.int .i64 0,.string ⟨#[]⟩] 24);have B0:=(fy.new (w.alloc (.cells #[.int .i64 k,.int .i64 n,.string s] 24)) (.int .i64 k') (.int .i64 n') (.string s') 24).alloc (.cells #[.int .i64 0,.int .i64 0,.string ⟨#[]⟩] 24);have R0:=fy.new ((w.alloc (.cells #[.int .i64 k,.int .i64 n,.string s] 24)).alloc (.cells #[.int .i64 k',.int .i64 n',.string s'] 24)) (.int .i64 0) (.int .i64 0) (.string ⟨#[]⟩) 24;simp only [Hg] at B0 R0
 go_enter Tryz.func201,Tryz.ntmps201;go_wp2_with fail
 refine (dp _).mono ?_;rintro e w1 ⟨rfl,hb1⟩;have A1:=A0.next hb1;have B1:=B0.next hb1;have R1:=R0.next hb1;have ⟨a0,a1,a2,a3,a4,a5,a6⟩:=A1;have ⟨b0,b1,b2,b3,b4,b5,b6⟩:=B1;have ⟨r0,r1,r2,r3,r4,r5,r6⟩:=R1;go_wp2_with fail
 have z1:=hb1.size;simp at z1;exact Hf (v:=.agg #[.int .i64 1,.int .i64 0,.string ⟨#[]⟩]) (by simp [results,Tryz.results201,go_sem,r1,r2,r3]) rfl ⟨rfl,aF (ig hb1) (by omega)⟩
theorem Fe (k n k' n':Int) (s s':ByteArray) (w:World) (e:k=4) (h':(k' != 4)=true) :
  Calls Tryz.prog 201 #[.agg #[.int .i64 k,.int .i64 n,.string s],.agg #[.int .i64 k',.int .i64 n',.string s']] w fun e w'=>e = .returned (.agg #[.int .i64 1,.int .i64 0,.string ⟨#[]⟩])∧Below w.heap.size w w':=by
 subst e;have A0:=((fy.new w (.int .i64 4) (.int .i64 n) (.string s) 24).alloc (.cells #[.int .i64 k',.int .i64 n',.string s'] 24)).alloc (.cells #[.int .i64 0,.int .i64 0,.string ⟨#[]⟩] 24);have B0:=(fy.new (w.alloc (.cells #[.int .i64 4,.int .i64 n,.string s] 24)) (.int .i64 k') (.int .i64 n') (.string s') 24).alloc (.cells #[.int .i64 0,.int .i64 0,.string ⟨#[]⟩] 24);have R0:=fy.new ((w.alloc (.cells #[.int .i64 4,.int .i64 n,.string s] 24)).alloc (.cells #[.int .i64 k',.int .i64 n',.string s'] 24)) (.int .i64 0) (.int .i64 0) (.string ⟨#[]⟩) 24;simp only [Hg] at B0 R0
 go_enter Tryz.func201,Tryz.ntmps201;go_wp2_with fail
 refine (dp _).mono ?_;rintro e w1 ⟨rfl,hb1⟩;have A1:=A0.next hb1;have B1:=B0.next hb1;have R1:=R0.next hb1;have ⟨a0,a1,a2,a3,a4,a5,a6⟩:=A1;have ⟨b0,b1,b2,b3,b4,b5,b6⟩:=B1;have ⟨r0,r1,r2,r3,r4,r5,r6⟩:=R1;go_wp2_with fail
 have z1:=hb1.size;simp at z1;exact Hf (v:=.agg #[.int .i64 1,.int .i64 0,.string ⟨#[]⟩]) (by simp [results,Tryz.results201,go_sem,r1,r2,r3]) rfl ⟨rfl,aF (ig hb1) (by omega)⟩
theorem FD (k n k' n':Int) (s s':ByteArray) (w:World) (e:k=4) (e':k'=4) (z1:s.size≤60) (z2:s'.size≤60) (h:60<s.size+s'.size) :
  Calls Tryz.prog 201 #[.agg #[.int .i64 k,.int .i64 n,.string s],.agg #[.int .i64 k',.int .i64 n',.string s']] w fun e w'=>e = .returned (.agg #[.int .i64 1,.int .i64 0,.string ⟨#[]⟩])∧Below w.heap.size w w':=by
 subst e;subst e';have y1:(s.size:Int)≤60:=by omega
 have y2:(s'.size:Int)≤60:=by omega
 have y3:60<(s.size:Int)+(s'.size:Int):=by omega
 have y4:¬ ((s.size:Int)+(s'.size:Int)≤60):=by omega
 have A0:=((fy.new w (.int .i64 4) (.int .i64 n) (.string s) 24).alloc (.cells #[.int .i64 4,.int .i64 n',.string s'] 24)).alloc (.cells #[.int .i64 0,.int .i64 0,.string ⟨#[]⟩] 24);have B0:=(fy.new (w.alloc (.cells #[.int .i64 4,.int .i64 n,.string s] 24)) (.int .i64 4) (.int .i64 n') (.string s') 24).alloc (.cells #[.int .i64 0,.int .i64 0,.string ⟨#[]⟩] 24);have R0:=fy.new ((w.alloc (.cells #[.int .i64 4,.int .i64 n,.string s] 24)).alloc (.cells #[.int .i64 4,.int .i64 n',.string s'] 24)) (.int .i64 0) (.int .i64 0) (.string ⟨#[]⟩) 24;simp only [Hg] at B0 R0
 go_enter Tryz.func201,Tryz.ntmps201;go_wp2_with fail
 refine (dp _).mono ?_;rintro e w1 ⟨rfl,hb1⟩;have A1:=A0.next hb1;have B1:=B0.next hb1;have R1:=R0.next hb1;have ⟨a0,a1,a2,a3,a4,a5,a6⟩:=A1;have ⟨b0,b1,b2,b3,b4,b5,b6⟩:=B1;have ⟨r0,r1,r2,r3,r4,r5,r6⟩:=R1;go_wp2_with fail
 have z1:=hb1.size;simp at z1;exact Hf (v:=.agg #[.int .i64 1,.int .i64 0,.string ⟨#[]⟩]) (by simp [results,Tryz.results201,go_sem,r1,r2,r3]) rfl ⟨rfl,aF (ig hb1) (by omega)⟩
theorem FU (k n k' n':Int) (s s':ByteArray) (w:World) (e:k=4) (e':k'=4) (z1:s.size≤60) (z2:s'.size≤60) (h:s.size+s'.size≤60) :
  Calls Tryz.prog 201 #[.agg #[.int .i64 k,.int .i64 n,.string s],.agg #[.int .i64 k',.int .i64 n',.string s']] w fun e w'=>e = .returned (.agg #[.int .i64 4,.int .i64 0,.string (s ++ s')])∧Below w.heap.size w w':=by
 subst e;subst e';have y1:(s.size:Int)≤60:=by omega
 have y2:(s'.size:Int)≤60:=by omega
 have y3:¬ 60<(s.size:Int)+(s'.size:Int):=by omega
 have y4:(s.size:Int)+(s'.size:Int)≤60:=by omega
 go_enter Tryz.func201,Tryz.ntmps201;go_wp2
 exact Hf (v:=.agg #[.int .i64 4,.int .i64 0,.string (s ++ s')]) (by simp [results,Tryz.results201,go_sem]) rfl ⟨rfl,(((He _ _).alloc (Hd _) _).alloc (by simp) _).alloc (by simp; omega) _⟩
theorem Bi (k n k' n':Int) (s s':ByteArray) (w:World) (z:k=4→s.size≤60) (z':k'=4→s'.size≤60) :
  Calls Tryz.prog 201 #[.agg #[.int .i64 k,.int .i64 n,.string s],.agg #[.int .i64 k',.int .i64 n',.string s']] w fun e w'=>e = .returned (.agg #[.int .i64 (jl k s k' s'),.int .i64 0,.string (jN k s k' s')])∧Below w.heap.size w w':=by
 by_cases h:k=4
 ·by_cases h':k'=4
  ·by_cases hs:s.size+s'.size≤60
   ·have e:jn k s k' s'=true:=by simp [jn,h,h',hs]
    have e1:jl k s k' s'=4:=by simp [jl,e]
    have e2:jN k s k' s'=s ++ s':=by simp [jN,e]
    rw [e1,e2]; exact FU k n k' n' s s' w h h' (z h) (z' h') hs
   ·have e:jn k s k' s'=false:=by simp [jn,hs]
    have e1:jl k s k' s'=1:=by simp [jl,e]
    have e2:jN k s k' s'=⟨#[]⟩:=by simp [jN,e]
    rw [e1,e2]; exact FD k n k' n' s s' w h h' (z h) (z' h') (by omega)
  ·have e:jn k s k' s'=false:=by simp [jn,h']
   have e1:jl k s k' s'=1:=by simp [jl,e]
   have e2:jN k s k' s'=⟨#[]⟩:=by simp [jN,e]
   rw [e1,e2]; exact Fe k n k' n' s s' w h (by simpa using h')
 ·have e:jn k s k' s'=false:=by simp [jn,h]
  have e1:jl k s k' s'=1:=by simp [jl,e]
  have e2:jN k s k' s'=⟨#[]⟩:=by simp [jN,e]
  rw [e1,e2]; exact Fl k n k' n' s s' w (by simpa using h)
end Go.Proofs.YtjebpkhkjkjphaaGreat
namespace Go.Proofs.YtjebpkhkjkjphaaGreat
set_option maxRecDepth 100000
set_option maxHeartbeats 16000000
def kV (o:Option Bool):Vl:=(tk o,tn o,⟨#[]⟩)
def kT (v:Vl):Option Bool:=cls v.1 v.2.1
def Eh (a b:Vl):Vl:=kV (FW (kT a) (kT b))
def GJ (a b:Vl):Vl:=kV (GP (kT a) (kT b))
def jK (a:Vl):Vl:=kV (od (kT a))
def Gf (a b:Vl):Vl:=kV (GH a.1 a.2.1 a.2.2 b.1 b.2.1 b.2.2)
def Eg (a b:Vl):Vl:=kV (EC a.1 a.2.1 a.2.2 b.1 b.2.1 b.2.2)
def kW (c:Int) (a b:Vl):Vl:=(ru (nm c a.1 a.2.1 b.1 b.2.1),vx (nm c a.1 a.2.1 b.1 b.2.1),⟨#[]⟩)
def mu (a b:Vl):Vl:=(jl a.1 a.2.2 b.1 b.2.2,0,jN a.1 a.2.2 b.1 b.2.2)
def kj (a b:Vl):Vl:=if a.1=1 then b else a
def fV:Vl:=(0,0,⟨#[]⟩)
def nv (k:Int) (a b:Vl):Vl :=
 if k=4 then Eh a b else if k=5 then GJ a b else if k=6 then Gf a b else if k=7 then jK (Gf a b)
 else if k=8 then Eg a b else if k=11 then jK (Eg a b) else if k=10 then Eg b a else if k=9 then jK (Eg b a)
 else if k=12 then kW 43 a b else if k=13 then kW 45 a b else if k=14 then kW 42 a b else if k=15 then mu a b else kj a b
def kf (row:List Vl) (k:Int) (v:Vl) (c:Int) (us:List Vl):Vl :=
 if k=1 then bE v else if k=2 then bE (row.getD c.toNat fV) else if k=3 then jK (us.getD 0 fV)
 else if k=16 then kV (some ((us.getD 0 fV).1 == 1))
 else if k=17 then (if kT (us.getD 0 fV) == some true then us.getD 1 fV else us.getD 2 fV)
 else nv k (us.getD 0 fV) (us.getD 1 fV)
mutual
def bq (row:List Vl):Ex→Vl | .mk k v c ks=>kf row k v c (mN row ks)
def mN (row:List Vl):List Ex→List Vl | []=>[] | x :: r=>bq row x :: mN row r
end
theorem gA (row:List Vl):∀ ks,mN row ks=ks.map (bq row)
 | []=>rfl
 | x :: r=>by rw [mN,gA row r]; rfl
theorem yP (o:Option Bool):bh (kV o)=0:=by rcases o with _ | _ | _ <;> rfl
theorem Bk (o:Option Bool):(kV o).1=1∨(kV o).1=2:=by rcases o with _ | _ <;> simp [kV,tk]
theorem jy (v:Vl):bh (bE v)=bh v:=by
 obtain ⟨k,n,s⟩:=v;unfold bh bE aR di fl;by_cases h1:k=1
 ·simp [h1]
 by_cases h2:k=2
 ·simp [h2]
 by_cases h3:k=3
 ·simp [h3]
 by_cases h4:k=4
 ·simp [h4]
 simp [h1,h2,h3,h4]
theorem yl (c:Int) (a b:Vl):bh (kW c a b)=0∧((kW c a b).1=1∨(kW c a b).1=3):=by
 unfold kW bh;rcases nm c a.1 a.2.1 b.1 b.2.1 with _ | x
 ·simp [ru,aR]
 ·by_cases h:mf x=true
  ·have h':=h;simp only [mf,IB,decide_eq_true_eq] at h';simp [ru,vx,jg,js,h,aR,h']
  ·simp [ru,jg,h,aR]
theorem uw (a b:Vl):bh (mu a b)=0∧((mu a b).1=1∨(mu a b).1=4):=by
 unfold mu bh jl jN;by_cases h:jn a.1 a.2.2 b.1 b.2.2=true
 ·have h':=h;simp only [jn,IB,decide_eq_true_eq] at h';simp [h,aR,h']
 ·simp [h,aR]
theorem Dz {k:Int} (h:6≤k) (h':k≤11) (a b:Vl):∃ o,nv k a b=kV o:=by
 obtain rfl | rfl | rfl | rfl | rfl | rfl:k=6∨k=7∨k=8∨k=9∨k=10∨k=11:=by omega
 all_goals exact ⟨_,rfl⟩
theorem Dr {k:Int} (h:12≤k) (h':k≤14) (a b:Vl):∃ c,nv k a b=kW c a b:=by
 obtain rfl | rfl | rfl:k=12∨k=13∨k=14:=by omega
 all_goals exact ⟨_,rfl⟩
theorem Ao {k:Int} (h:k<4∨15<k) (a b:Vl):nv k a b=kj a b:=by
 unfold nv;rw [if_neg (by omega),if_neg (by omega),if_neg (by omega),if_neg (by omega),if_neg (by omega),if_neg (by omega),if_neg (by omega),if_neg (by omega),if_neg (by omega),if_neg (by omega),if_neg (by omega),if_neg (by omega)]
def eL:List Int→List Vl→Int
 | c :: cs,v :: vs=>if bh v≠0 then bh v else if v.1≠1∧v.1≠c then 9 else eL cs vs
 | _,_=>0
def ei (af:List Int) (row:List Vl):Int:=if row.length≠af.length then 8 else eL af row
theorem tr:∀ (af:List Int) (row:List Vl),row.length=af.length→(eL af row=0↔∀ i (h:i<row.length),bh row[i]=0∧(row[i].1=1∨row[i].1=af.getD i 0))
 | [],[],_=>by simp [eL]
 | [],_ :: _,h=>by simp at h
 | _ :: _,[],h=>by simp at h
 | c :: cs,v :: vs,h=>by
  have ih:=tr cs vs (by simpa using h)
  rw [eL]
  by_cases h1:bh v=0
  ·rw [if_neg (by simp [h1])]
   by_cases h2:v.1≠1∧v.1≠c
   ·rw [if_pos h2]
    simp only [show ¬ (9:Int)=0 by decide,false_iff]
    intro hh
    have:=(hh 0 (by simp)).2
    simp at this
    omega
   ·rw [if_neg h2,ih]
    constructor
    ·intro hh i hi
     match i,hi with
     | 0,_ =>
      refine ⟨h1,?_⟩
      simp
      omega
     | i+1,hi =>
      have:=hh i (by simpa using hi)
      simpa using this
    ·intro hh i hi
     have:=hh (i+1) (by simpa using hi)
     simpa using this
  ·rw [if_pos h1]
   constructor
   ·intro hh; exact absurd hh h1
   ·intro hh; exact absurd (hh 0 (by simp)).1 h1
structure et (af:List Int) (row:List Vl):Prop where
 len:row.length=af.length
 one:∀ i (h:i<row.length),bh row[i]=0∧(row[i].1=1∨row[i].1=af.getD i 0)
theorem su (af:List Int) (row:List Vl):ei af row=0↔et af row:=by
 unfold ei;by_cases h:row.length=af.length
 ·rw [if_neg (by simp [h]),tr af row h];exact ⟨fun k=>⟨h,k⟩,fun k=>k.2⟩
 ·rw [if_pos h];simp only [show ¬ (8:Int)=0 by decide,false_iff];exact fun k=>h k.1
theorem sj {a b t:Int} (h:kE a b=some t):(a=1∧t=b)∨(b=1∧t=a)∨(a=t∧b=t):=by
 unfold kE at h
 split at h
 ·rename_i h1; rcases h1 with h1 | h1
  ·right; right; simp at h; omega
  ·right; left; simp at h; omega
 ·split at h
  ·left; simp at h; omega
  ·simp at h
theorem iC {t u:Int} {ts:List Int} (h:bV t ts=some u):u=t:=by
 unfold bV at h
 split at h
 ·simpa using h.symm
 ·simp at h
theorem ql {af:List Int}:∀ {ks:List Ex} {ts:List Int},eK af ks=some ts→ts.length=ks.length
 | [],ts,h=>by simp [eK] at h; simp [h]
 | x :: r,ts,h=>by
  rw [eK,IG] at h
  obtain ⟨t,_,h⟩:=h
  rw [Option.map_eq_some_iff] at h
  obtain ⟨us,h,rfl⟩:=h
  simp [ql h]
theorem jO {af:List Int}:∀ {ks:List Ex} {ts:List Int},eK af ks=some ts→∀ (i:Nat) (h:i<ks.length),fI af ks[i]=some (ts.getD i 0)
 | [],ts,_=>by intro i h; simp at h
 | x :: r,ts,h=>by
  rw [eK,IG] at h
  obtain ⟨t,h0,h⟩:=h
  rw [Option.map_eq_some_iff] at h
  obtain ⟨us,h,rfl⟩:=h
  intro i hi
  match i,hi with
  | 0,_=>simpa using h0
  | i+1,hi=>simpa using jO h i (by simpa using hi)
theorem lP {af:List Int} {k:Int} {v:Vl} {c:Int} {ks:List Ex} {t:Int} (h:fI af (.mk k v c ks)=some t) :
  1≤k∧k≤18∧ks.length=dw k∧∃ ts,eK af ks=some ts∧dG af k v c ts=(t,0):=by
 rw [fI] at h
 split at h
 ·simp at h
 ·rename_i hk
  rw [IG] at h;obtain ⟨ts,h1,h2⟩:=h
  split at h2
  ·rename_i h3
   refine ⟨by omega,by omega,by omega,ts,h1,?_⟩;simp at h2;exact Prod.ext h2 h3
  ·simp at h2
theorem Dh {v:Vl} {t:Int} (h:kM v=(t,0)):bh v=0∧v.1=t:=by
 unfold kM at h
 split at h
 ·rename_i hw; simp at h; exact ⟨hw,h⟩
 ·rename_i hw; simp at h; exact absurd h.2 hw
theorem xd {af:List Int} {c t:Int} (h:j8 af c=(t,0)):0≤c∧c.toNat<af.length∧af.getD c.toNat 0=t:=by
 unfold j8 at h
 split at h
 ·simp at h
 ·rename_i hc
  simp only [Prod.mk.injEq,and_true] at h;exact ⟨by omega,by omega,h⟩
theorem C1 {o:Option Int} {t:Int} (h:cM o=(t,0)):o=some t:=by
 cases o with
 | none=>simp [cM] at h
 | some u=>simp [cM] at h; rw [h]
def Of (t:Int) (u:Vl):Prop:=bh u=0∧(u.1=1∨u.1=t)
theorem oH (o:Option Bool):Of 2 (kV o):=⟨yP o,Bk o⟩
theorem xj {a b t:Int} {u:Vl} (h:kE a b=some t) (hu:Of a u):Of t u:=by
 refine ⟨hu.1,?_⟩;rcases sj h with ⟨q,rfl⟩ | ⟨_,rfl⟩ | ⟨rfl,_⟩
 ·left; rcases hu.2 with e | e <;> omega
 ·exact hu.2
 ·exact hu.2
theorem xq {a b t:Int} {u:Vl} (h:kE a b=some t) (hu:Of b u):Of t u:=by
 refine ⟨hu.1,?_⟩;rcases sj h with ⟨_,rfl⟩ | ⟨q,rfl⟩ | ⟨_,rfl⟩
 ·exact hu.2
 ·left; rcases hu.2 with e | e <;> omega
 ·exact hu.2
theorem rf {af:List Int} {row:List Vl} (hf:et af row):∀ x t,fI af x=some t→Of t (bq row x):=by
 refine Ex.ind fun k v c ks ih t h=>?_
 obtain ⟨h1,h18,hl,ts,hts,hn⟩:=lP h;have hlen:=ql hts;have hkid:∀ i (hi:i<ks.length),Of (ts.getD i 0) ((mN row ks).getD i fV):=by
  intro i hi;have:=ih ks[i] (Hm _) _ (jO hts i hi);rw [gA]
  simpa [List.getD,hi] using this
 rw [bq];generalize mN row ks=us at hkid;unfold dG at hn;unfold kf
 split at hn
 ·rename_i hk
  rw [if_pos hk];obtain ⟨q1,q2⟩:=Dh hn;exact ⟨(jy v).trans q1,.inr q2⟩
 rename_i hk1
 rw [if_neg hk1]
 split at hn
 ·rename_i hk
  rw [if_pos hk];obtain ⟨q0,q1,q2⟩:=xd hn;have hl':=hf.len;have:=hf.one c.toNat (by omega);rw [q2] at this;have e:row.getD c.toNat fV=row[c.toNat]'(by omega):=by simp [List.getD,show c.toNat<row.length by omega]
  rw [e];exact ⟨(jy _).trans this.1,this.2⟩
 rename_i hk2
 rw [if_neg hk2];have hn:=C1 hn;unfold dP at hn;have l2:k≠3→k≠16→k≠17→ks.length=2:=by
  intro h3 h16 h17;rw [hl]; unfold dw;rw [if_neg (by omega),if_neg (by omega),if_neg h17]
 by_cases hk3:k=3
 ·rw [if_pos hk3];rw [if_pos (by omega)] at hn;rw [iC hn];exact oH _
 rw [if_neg hk3];by_cases hk16:k=16
 ·rw [if_pos hk16];subst hk16;simp at hn;rw [← hn];exact oH _
 rw [if_neg hk16];by_cases hk17:k=17
 ·rw [if_pos hk17];subst hk17;have l3:ks.length=3:=hl;simp only [show ¬ ((17:Int)=3∨(17:Int)=4∨(17:Int)=5) by decide,show ¬ (6≤(17:Int)∧(17:Int)≤11) by decide,show ¬ ((17:Int)=12∨(17:Int)=13∨(17:Int)=14) by decide,show ¬ (17:Int)=15 by decide,show ¬ (17:Int)=16 by decide,if_false,if_true] at hn
  split at hn
  ·split
   ·exact xj hn (hkid 1 (by omega))
   ·exact xq hn (hkid 2 (by omega))
  ·simp at hn
 rw [if_neg hk17];have l2:=l2 hk3 hk16 hk17;have k0:=hkid 0 (by omega);have k1:=hkid 1 (by omega);by_cases b4:k=4
 ·rw [if_pos (by omega)] at hn; rw [iC hn,b4]; exact oH _
 by_cases b5:k=5
 ·rw [if_pos (by omega)] at hn; rw [iC hn,b5]; exact oH _
 rw [if_neg (by omega)] at hn;by_cases b6:6≤k∧k≤11
 ·rw [if_pos b6] at hn;have ht:t=2:=by
   split at hn <;> simp at hn; exact hn.symm
  subst ht;obtain ⟨o,e⟩:=Dz b6.1 b6.2 (us.getD 0 fV) (us.getD 1 fV);rw [e];exact oH _
 rw [if_neg b6] at hn;by_cases b12:k=12∨k=13∨k=14
 ·rw [if_pos b12] at hn;have ht:=iC hn;subst ht;obtain ⟨o,e⟩:=Dr (by omega) (by omega) (us.getD 0 fV) (us.getD 1 fV) (k:=k);rw [e];exact yl _ _ _
 rw [if_neg b12] at hn;by_cases b15:k=15
 ·rw [if_pos b15] at hn;have ht:=iC hn;subst ht;rw [b15];exact uw _ _
 rw [if_neg b15,if_neg hk16,if_neg hk17] at hn;rw [Ao (by omega)];unfold kj
 split
 ·exact xq hn k1
 ·exact xj hn k0
end Go.Proofs.YtjebpkhkjkjphaaGreat
namespace Go.Proofs.YtjebpkhkjkjphaaGreat
open Go.RowKit
set_option maxRecDepth 100000
set_option maxHeartbeats 16000000
theorem oG {v:Vl} (h:bh v=0):v.1=4→v.2.2.size≤60:=by
 obtain ⟨k,n,s⟩:=v;intro e;simp only at e;subst e;unfold bh aR at h;simp at h;exact h
def Since (lo:Nat) (w W:World):Prop:=w.heap.size≤W.heap.size∧∀ k,lo≤k→k<w.heap.size→W.heap[k]? = w.heap[k]?
theorem Since.refl (lo:Nat) (w:World):Since lo w w:=⟨Hd _,fun _ _ _=>rfl⟩
theorem Since.trans {lo:Nat} {a b c:World} (h:Since lo a b) (k:Since lo b c):Since lo a c :=
 ⟨HJ h.1 k.1,fun i hi hl=>(k.2 i hi (Hi hl h.1)).trans (h.2 i hi hl)⟩
theorem Since.of {lo:Nat} {w W:World} (h:Below w.heap.size w W):Since lo w W:=⟨h.size,fun k _ hk=>h.block k hk⟩
theorem Since.up {lo lo':Nat} {w W:World} (h:Since lo w W) (hl:lo≤lo'):Since lo' w W:=⟨h.1,fun k hk=>h.2 k (HJ hl hk)⟩
theorem Since.cell {lo:Nat} {w W:World} (h:Since lo w W) {p:Addr} (h1:lo≤p.block) (h2:p.block<w.heap.size):W.cell? p=w.cell? p:=Hz (w:=w) (h.2 p.block h1 h2)
theorem Since.set {lo:Nat} {w W:World} (h:Since lo w W) (g o:Nat) (u:Value) (hg:g<lo):Since lo w (W.setCell ⟨g,o,none⟩ u) :=
 ⟨by simpa using h.1,fun k hk hl=>(Im W ⟨g,o,none⟩ u k (by show k≠g; omega)).trans (h.2 k hk hl)⟩
def pe (lo:Nat) (u:Value) (f:Vl→Vl→Vl) (w:World):Prop :=
 ∃ g cb,u = .func (.func g) #[] cb∧(∀ args w,(callFunc g args).run Tryz.prog w = .ok (.enter g args) w) ∧
  ∀ (p q:Vl) (W:World),bh p=0→bh q=0→Since lo w W→Calls Tryz.prog g (#[fg p,fg q] ++ cb) W fun e w'=>e = .returned (fg (f p q))∧Below W.heap.size W w'
theorem pe.next {lo:Nat} {u:Value} {f:Vl→Vl→Vl} {w w1:World} (h:pe lo u f w) (hb:Since lo w w1):pe lo u f w1:=by
 obtain ⟨g,cb,e,eg,hd⟩:=h;exact ⟨g,cb,e,eg,fun p q W hp hq hW=>hd p q W hp hq (hb.trans hW)⟩
theorem F8 (lo:Nat) (w:World):pe lo (.func (.func 194) #[] #[]) Eh w :=
 ⟨194,#[],rfl,enters_of Tryz.func194 (by kernel_rfl) rfl,fun p q W _ _ _=>by rw [IQ]; exact DT p.1 p.2.1 q.1 q.2.1 p.2.2 q.2.2 W⟩
theorem Gp (lo:Nat) (w:World):pe lo (.func (.func 195) #[] #[]) GJ w :=
 ⟨195,#[],rfl,enters_of Tryz.func195 (by kernel_rfl) rfl,fun p q W _ _ _=>by rw [IQ]; exact Gc p.1 p.2.1 q.1 q.2.1 p.2.2 q.2.2 W⟩
theorem Ew (lo:Nat) (w:World):pe lo (.func (.func 196) #[] #[]) Gf w :=
 ⟨196,#[],rfl,enters_of Tryz.func196 (by kernel_rfl) rfl,fun p q W _ _ _=>by rw [IQ]; exact zj p.1 p.2.1 q.1 q.2.1 p.2.2 q.2.2 W⟩
theorem xy (lo:Nat) (w:World):pe lo (.func (.func 198) #[] #[]) Eg w :=
 ⟨198,#[],rfl,enters_of Tryz.func198 (by kernel_rfl) rfl,fun p q W _ _ _=>by rw [IQ]; exact AQ p.1 p.2.1 q.1 q.2.1 p.2.2 q.2.2 W⟩
theorem DO (lo:Nat) (w:World):pe lo (.func (.func 201) #[] #[]) mu w :=
 ⟨201,#[],rfl,enters_of Tryz.func201 (by kernel_rfl) rfl,fun p q W hp hq _=>by rw [IQ]; exact Bi p.1 p.2.1 q.1 q.2.1 p.2.2 q.2.2 W (oG hp) (oG hq)⟩
theorem CG (p q:Vl) (w:World):Calls Tryz.prog 202 #[fg p,fg q] w fun e w'=>e = .returned (fg (kj p q))∧Below w.heap.size w w':=by
 obtain ⟨k,n,s⟩:=p;obtain ⟨k',n',s'⟩:=q;by_cases h:k=1
 ·subst h;have e:kj (1,n,s) (k',n',s')=(k',n',s'):=rfl;rw [e];go_enter Tryz.func202,Tryz.ntmps202;go_wp2_with fail
  have A0:=((fy.new w (.int .i64 1) (.int .i64 n) (.string s) 24).alloc (.cells #[.int .i64 k',.int .i64 n',.string s'] 24)).alloc (.cells #[.int .i64 0,.int .i64 0,.string ⟨#[]⟩] 24);have B0:=(fy.new (w.alloc (.cells #[.int .i64 1,.int .i64 n,.string s] 24)) (.int .i64 k') (.int .i64 n') (.string s') 24).alloc (.cells #[.int .i64 0,.int .i64 0,.string ⟨#[]⟩] 24);have R0:=fy.new ((w.alloc (.cells #[.int .i64 1,.int .i64 n,.string s] 24)).alloc (.cells #[.int .i64 k',.int .i64 n',.string s'] 24)) (.int .i64 0) (.int .i64 0) (.string ⟨#[]⟩) 24;simp only [Hg] at B0 R0
  refine (ml _ _ _ _).mono ?_;rintro e w1 ⟨rfl,hb1⟩;have ⟨b0,b1,b2,b3,b4,b5,b6⟩:=B0.next hb1;have ⟨r0,r1,r2,r3,r4,r5,r6⟩:=R0.next hb1;have z1:=hb1.size;simp at z1;go_wp2
  exact Hf (v:=.agg #[.int .i64 k',.int .i64 n',.string s']) (by simp [results,Tryz.results202,go_sem,r1,r2,r3]) rfl ⟨rfl,aF (ig hb1) (by omega)⟩
 ·have e:kj (k,n,s) (k',n',s')=(k,n,s):=by simp [kj,h]
  rw [e];have q1:(k == 1)=false:=by simpa using h
  go_enter Tryz.func202,Tryz.ntmps202;go_wp2_with fail
  have A0:=((fy.new w (.int .i64 k) (.int .i64 n) (.string s) 24).alloc (.cells #[.int .i64 k',.int .i64 n',.string s'] 24)).alloc (.cells #[.int .i64 0,.int .i64 0,.string ⟨#[]⟩] 24);have R0:=fy.new ((w.alloc (.cells #[.int .i64 k,.int .i64 n,.string s] 24)).alloc (.cells #[.int .i64 k',.int .i64 n',.string s'] 24)) (.int .i64 0) (.int .i64 0) (.string ⟨#[]⟩) 24;simp only [Hg] at R0;refine (ml _ _ _ _).mono ?_;rintro e w1 ⟨rfl,hb1⟩;rw [q1];have ⟨b0,b1,b2,b3,b4,b5,b6⟩:=A0.next hb1;have ⟨r0,r1,r2,r3,r4,r5,r6⟩:=R0.next hb1;have z1:=hb1.size;simp at z1;go_wp2
  exact Hf (v:=.agg #[.int .i64 k,.int .i64 n,.string s]) (by simp [results,Tryz.results202,go_sem,r1,r2,r3]) rfl ⟨rfl,aF (ig hb1) (by omega)⟩
theorem Dy (lo:Nat) (w:World):pe lo (.func (.func 202) #[] #[]) kj w :=
 ⟨202,#[],rfl,enters_of Tryz.func202 (by kernel_rfl) rfl,fun p q W _ _ _=>by rw [IQ]; exact CG p q W⟩
end Go.Proofs.YtjebpkhkjkjphaaGreat
