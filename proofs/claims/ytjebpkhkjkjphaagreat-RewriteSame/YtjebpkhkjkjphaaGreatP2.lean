/- Together: Z2, Z3, X0, Y1, W6, W7, W12, X1, Y8. -/
import Derived.Shelf.Abstract
import Derived.Test.YtjebpkhkjkjphaaGreatP1
import Derived.Test.YtjebpkhkjkjphaaGreatP0
namespace Go.Proofs.YtjebpkhkjkjphaaGreat
open Go.RowKit
set_option maxRecDepth 100000
set_option maxHeartbeats 16000000
abbrev Zp:Type:=List Vl × Int
def zg (W:World) (b off:Nat) (x:Zp):Prop :=
 W.cell? ⟨b,off+1,none⟩=some (.int .i64 x.2)∧∃ a cap,W.cell? ⟨b,off,none⟩=some (.slice a x.1.length cap)∧bg W a x.1
theorem zg.next {W w1:World} {b off:Nat} {x:Zp} (h:zg W b off x) (hlt:b<W.heap.size) (hb:Below W.heap.size W w1):zg w1 b off x:=by
 obtain ⟨h1,a,cap,h2,h3⟩:=h;exact ⟨(hb.cell (p:=⟨b,_,none⟩) hlt).trans h1,a,cap,(hb.cell (p:=⟨b,_,none⟩) hlt).trans h2,h3.next hb⟩
def bc (W:World) (a:Option Addr) (l:List Zp):Prop :=
 l.length≤maxLen∧(l = []∨∃ b off,a=some ⟨b,off,none⟩∧b<W.heap.size∧∀ (i:Nat) (h:i<l.length),zg W b (off+i*2) l[i])
theorem bc.next {W w1:World} {a:Option Addr} {l:List Zp} (h:bc W a l) (hb:Below W.heap.size W w1):bc w1 a l:=by
 obtain ⟨h0,h | ⟨b,off,e,hlt,hr⟩⟩:=h
 ·exact ⟨h0,.inl h⟩
 ·exact ⟨h0,.inr ⟨b,off,e,Mh hlt hb.size,fun i hi=>(hr i hi).next hlt hb⟩⟩
theorem bc.elem {W:World} {a:Option Addr} {l:List Zp} (h:bc W a l) {k:Nat} (hk:k<l.length) :
  ∃ b off,a=some ⟨b,off,none⟩∧b<W.heap.size∧zg W b (off+k*2) l[k]:=by
 obtain ⟨_,h | ⟨b,off,e,hlt,hr⟩⟩:=h
 ·subst h; simp at hk
 ·exact ⟨b,off,e,hlt,hr k hk⟩
theorem bc.KK {W:World} {a:Option Addr} {l:List Zp} (h:bc W a l) {j k:Nat} (hj:j<l.length) (hk:k<l.length) :
  ∃ b off,a=some ⟨b,off,none⟩∧b<W.heap.size∧zg W b (off+j*2) l[j]∧zg W b (off+k*2) l[k]:=by
 obtain ⟨_,h | ⟨b,off,e,hlt,hr⟩⟩:=h
 ·subst h; simp at hk
 ·exact ⟨b,off,e,hlt,hr j hj,hr k hk⟩
def oF:Option (List Vl)→List Zp→Int
 | _,[]=>0
 | p,x :: r=>if ba x.1=0 then (if x.2=0∨lZ x.2=false then 3 else if ∃ q,p=some q∧0≤aK q x.1 then 2 else oF (some x.1) r) else ba x.1
def aR (l:List Zp):Int:=if 400<l.length then 5 else oF none l
def gI (l:List Zp) (k:Nat):Option (List Vl):=if k=0 then none else (l[k - 1]?).map (·.1)
theorem pe (l:List Zp) (k:Nat) (h:k<l.length):gI l (k+1)=some l[k].1:=by simp [gI,h]
theorem pO (l:List Zp) (k:Nat) (h:k<l.length) (h0:0<k):gI l k=some (l[k - 1]'(by omega)).1:=by
 obtain ⟨j,rfl⟩:∃ j,k=j+1:=⟨k - 1,by omega⟩
 exact pe l j (by omega)
theorem Hp (l:List Zp) (k:Nat) (h:l.length≤k):oF (gI l k) (l.drop k)=0:=by rw [MG h]; rfl
theorem G9 (l:List Zp) (k:Nat) (h:k<l.length) (hw:¬ ba l[k].1=0):oF (gI l k) (l.drop k)=ba l[k].1:=by
 rw [Mi h,oF,if_neg hw]
theorem vx (l:List Zp) (k:Nat) (h:k<l.length) (hw:ba l[k].1=0) (h0:l[k].2=0∨lZ l[k].2=false):oF (gI l k) (l.drop k)=3:=by
 rw [Mi h,oF,if_pos hw,if_pos h0]
theorem Ej (l:List Zp) (k:Nat) (h:k<l.length) (hw:ba l[k].1=0) (h0:¬ l[k].2=0) (h1:lZ l[k].2=true) (hp:0<k) (hc:0≤aK (l[k - 1]'(by omega)).1 l[k].1):oF (gI l k) (l.drop k)=2:=by
 rw [Mi h,oF,if_pos hw,if_neg (by simp [h0,h1]),if_pos ⟨_,pO l k h hp,hc⟩]
theorem vT (l:List Zp) (k:Nat) (h:k<l.length) (hw:ba l[k].1=0) (h0:¬ l[k].2=0) (h1:lZ l[k].2=true) (hc:∀ _:0<k,¬ 0≤aK (l[k - 1]'(by omega)).1 l[k].1):oF (gI l k) (l.drop k)=oF (gI l (k+1)) (l.drop (k+1)):=by
 rw [Mi h,oF,if_pos hw,if_neg (by simp [h0,h1]),pe l k h];rw [if_neg];rintro ⟨q,hq,hc'⟩;by_cases hp:0<k
 ·rw [pO l k h hp] at hq;injection hq with hq
  subst hq;exact hc hp hc'
 ·have:k=0:=by omega
  subst this;simp [gI] at hq
theorem mr {w wr w2:World} {o:Obj} (hb:Below w.heap.size w wr) (h2:Below (wr.alloc o).heap.size (wr.alloc o) w2):Below w.heap.size w w2 :=
 hb.trans (((Md _ _).alloc hb.size _).trans (h2.mono (by have:=hb.size; simp; omega)))
theorem cB {w wr w2:World} (hb:Below w.heap.size w wr) (h2:Below wr.heap.size wr w2):Below w.heap.size w w2 :=
 hb.trans (h2.mono hb.size)
theorem eN (a:Option Addr) (cap:Nat) (l:List Zp) (w:World) (h:bc w a l) :
  Calls Tryz.prog 42 #[.slice a l.length cap] w fun e w'=>e = .returned (.int .i64 (aR l))∧Below w.heap.size w w':=by
 have hl:=h.1;unfold maxLen at hl;by_cases h8:400<l.length
 ·have e:aR l=5:=by simp [aR,h8]
  rw [e];clear e;go_enter Tryz.func42,Tryz.ntmps42;go_wp2
  go_ret;exact ⟨rfl,Md _ _⟩
 ·have e:aR l=oF none l:=by simp [aR,h8]
  rw [e];clear e;go_enter Tryz.func42,Tryz.ntmps42;go_wp2_with fail
  go_loopw [11] (fun i w1=>∃ k:Nat,k≤l.length∧i = .int .i64 k∧Hid (oF none l=oF (gI l k) (l.drop k))∧Below w.heap.size w w1) (fun i _=>l.length - (intOf i).toNat)
  case atStart=>exact ⟨0,Mj _,rfl,rfl,Md _ _⟩
  case round =>
   obtain ⟨k,hk,rfl,HC,hb⟩:=hrel;have hz:=hb.size;by_cases hlt:k<l.length
   ·obtain ⟨b,off,rfl,hbl,c1,ar,cr,c0,sr⟩:=(h.next hb).elem hlt;have HZ:=aw h;clear h;by_cases hw:ba l[k].1=0
    ·have Hw:=aw hw;clear hw;go_wp2_with fail
     refine (oH _ _ _ _ (sr.next ((Md _ _).alloc (Mc _) _))).mono ?_;rintro e w1 ⟨rfl,hb1⟩;rw [Hw.out];have hb1':=mr hb hb1;have hz1:wr.heap.size<w1.heap.size:=by have:=hb1.size; simp at this; omega
     have e0:w1.cell? ⟨wr.heap.size,0,none⟩=some (.slice ar l[k].1.length cr):=(hb1.cell (p:=⟨wr.heap.size,0,none⟩) (by simp)).trans (by simp);have e1:w1.cell? ⟨wr.heap.size,1,none⟩=some (.int .i64 l[k].2):=(hb1.cell (p:=⟨wr.heap.size,1,none⟩) (by simp)).trans (by simp);by_cases h0:l[k].2=0
     ·have HN:Hid (oF none l=3):=HC.out.trans (vx l k hlt Hw.out (.inl h0));go_wp2
      go_ret;exact ⟨aN HN.out.symm,hb1'⟩
     ·have g0:(l[k].2 == 0)=false:=by simpa using h0
      cases h1:lZ l[k].2
      ·have HN:Hid (oF none l=3):=HC.out.trans (vx l k hlt Hw.out (.inr h1));have H1:=aw h1;clear h1;go_wp2_with fail
       refine (eQ _ _).mono ?_;rintro e w2 ⟨rfl,rfl⟩;rw [H1.out];go_wp2
       go_ret;exact ⟨aN HN.out.symm,hb1'⟩
      ·have H1:=aw h1;clear h1;by_cases hp:0<k
       ·obtain ⟨b',off',hh,hbl',⟨d1,ap,cp,d0,sp⟩,-⟩:=(HZ.out.next hb1').KK (j:=k - 1) (k:=k) (by omega) hlt;simp only [NC,Addr.mk.injEq] at hh;obtain ⟨rfl,rfl,-⟩:=hh;have sr1:=(sr.next ((Md _ _).alloc (Mc _) _)).next hb1;have i0:(0:Int)<(k:Int):=by omega
        have i1:(0:Int)≤(k:Int) - 1:=by omega
        have i2:(k:Int) - 1<(l.length:Int):=by omega
        have i3:((k:Int) - 1).toNat=k - 1:=by omega
        have p0:=aq d0;have p1:=aq e0;have p2:=aq e1;haveI:Nonempty (dG w1):=⟨⟨w1,Md _ _⟩⟩
        by_cases hc:0≤aK (l[k - 1]'(by omega)).1 l[k].1
        ·have HN:Hid (oF none l=2):=HC.out.trans (Ej l k hlt Hw.out h0 H1.out hp hc);go_wp2_with fail
         refine (eQ _ _).mono ?_;rintro e w2 ⟨rfl,rfl⟩;rw [H1.out];go_wp2_with fail
         refine aI (by kernel_rfl) (by kernel_rfl) ?_
         repeat (go_big_quiet_step (first | (go_at_call 70; exact du (mK _ _ _ _ _ _ _ (sp.next (dG.ok _)) (sr1.next (dG.ok _))))))
         refine wpQuiet_nil ?_;rintro _ ⟨⟨w2,hb2⟩,rfl⟩;go_wp2
         go_ret;exact ⟨aN HN.out.symm,cB hb1' hb2⟩
        ·have HN:Hid (oF none l=oF (gI l (k+1)) (l.drop (k+1))):=HC.out.trans (vT l k hlt Hw.out h0 H1.out (fun _=>hc));have hc':aK (l[k - 1]'(by omega)).1 l[k].1<0:=by omega
         go_wp2_with fail
         refine (eQ _ _).mono ?_;rintro e w2 ⟨rfl,rfl⟩;rw [H1.out];go_wp2_with fail
         refine aI (by kernel_rfl) (by kernel_rfl) ?_
         repeat (go_big_quiet_step (first | (go_at_call 70; exact du (mK _ _ _ _ _ _ _ (sp.next (dG.ok _)) (sr1.next (dG.ok _))))))
         refine wpQuiet_nil ?_;rintro _ ⟨⟨w2,hb2⟩,rfl⟩;go_wp2
         go_roundw
         case rel=>exact ⟨k+1,by omega,by go_num,HN.out,cB hb1' hb2⟩
         case measure=>simp [intOf]; omega
       ·have k0:k=0:=by omega
        subst k0;have HN:Hid (oF none l=oF (gI l (0+1)) (l.drop (0+1))):=HC.out.trans (vT l 0 hlt Hw.out h0 H1.out (fun h=>absurd h hp));haveI:Nonempty (dG w1):=⟨⟨w1,Md _ _⟩⟩
        go_wp2_with fail
        refine (eQ _ _).mono ?_;rintro e w2 ⟨rfl,rfl⟩;rw [H1.out];go_wp2_with fail
        refine aI (by kernel_rfl) (by kernel_rfl) ?_
        repeat (go_big_quiet_step (fail))
        refine wpQuiet_nil ?_;rintro _ ⟨⟨w2,hb2⟩,rfl⟩;go_wp2
        go_roundw
        case rel=>exact ⟨0+1,by omega,by go_num,HN.out,cB hb1' hb2⟩
        case measure=>simp [intOf]; omega
    ·have Hw:=aw hw;have hne:(ba l[k].1 != 0)=true:=by simpa using hw
     have HN:Hid (oF none l=ba l[k].1):=HC.out.trans (G9 l k hlt hw);clear hw;go_wp2_with fail
     refine (oH _ _ _ _ (sr.next ((Md _ _).alloc (Mc _) _))).mono ?_;rintro e w1 ⟨rfl,hb1⟩;go_wp2
     go_ret;exact ⟨aN HN.out.symm,mr hb hb1⟩
   ·go_wp2
    go_ret;exact ⟨aN (by rw [HC.out,Hp l k (by omega)]),hb⟩
theorem Tryz.gH:(Tryz.prog.info? 63).map (fun i=>(i.zero,i.size,i.bytes))=some (some (.agg #[.slice none 0 0,.int .i64 0]),2,32):=by kernel_rfl
theorem Tryz.qs:(Tryz.prog.info? 24).map (fun i=>(i.zero,i.size,i.bytes))=some (some (.agg #[.int .i64 0,.int .i64 0,.string ⟨#[]⟩]),3,32):=by kernel_rfl
def bF (v:Vl):Vl:=(v.1,dE v.1 v.2.1,fN v.1 v.2.2)
def bz (l:List Vl):List Vl:=l.map bF
def gp (W:World) (a:Option Addr):Prop:=∀ b off,a=some ⟨b,off,none⟩→∃ c z,W.heap[b]? = some (.cells c 24 z)
theorem gp.next {W w1:World} {a:Option Addr} (h:gp W a) (hb:Below W.heap.size W w1):gp w1 a:=by
 intro b off e;obtain ⟨c,z,h1⟩:=h b off e;have hlt:b<W.heap.size:=by
  rcases ME b W.heap.size with h | h
  ·exact h
  ·rw [M3 h] at h1; cases h1
 exact ⟨c,z,(hb.block b hlt).trans h1⟩
theorem rA {W w1:World} (hb:Below W.heap.size W w1) (row:Option Nat):W.grownBy w1 row:=⟨hb.os,hb.tape,hb.output,hb.size,fun k hk _=>hb.block k hk⟩
theorem bp {W w1:World} {base e size n:Nat} {v:Value} {xs:List Value} (h:W.ownsRow base e size v n xs) (hb:Below W.heap.size W w1):w1.ownsRow base e size v n xs:=by
 refine h.kept (rA hb none) ?_;cases v.ownBlock <;> simp
def wh (W:World) (xs:List Value) (l:List Zp):Prop :=
 xs.length=l.length*2∧∀ (i:Nat) (h:i<l.length),∃ a cap,xs[i*2]? = some (.slice a l[i].1.length cap)∧xs[i*2+1]? = some (.int .i64 l[i].2)∧bg W a l[i].1∧gp W a
theorem wh.next {W w1:World} {xs:List Value} {l:List Zp} (h:wh W xs l) (hb:Below W.heap.size W w1):wh w1 xs l :=
 ⟨h.1,fun i hi=>by
  obtain ⟨a,cap,h1,h2,h3,h4⟩:=h.2 i hi
  exact ⟨a,cap,h1,h2,h3.next hb,h4.next hb⟩⟩
def dH (base:Nat) (W:World) (v:Value) (l:List Zp):Prop:=∃ xs,W.ownsRow base 63 2 v l.length xs∧wh W xs l
theorem dH.next {base:Nat} {W w1:World} {v:Value} {l:List Zp} (h:dH base W v l) (hb:Below W.heap.size W w1):dH base w1 v l:=by
 obtain ⟨xs,h1,h2⟩:=h;exact ⟨xs,bp h1 hb,h2.next hb⟩
theorem dH.mono {base base':Nat} {W:World} {v:Value} {l:List Zp} (h:dH base W v l) (hb:base'≤base):dH base' W v l:=by
 obtain ⟨xs,⟨h0,h1⟩,h2⟩:=h;refine ⟨xs,⟨h0,?_⟩,h2⟩;rcases h1 with h1 | ⟨g,cap,cur,e,hg,h3⟩
 ·exact .inl h1
 ·exact .inr ⟨g,cap,cur,e,Mr hb hg,h3⟩
theorem dH.zs {base:Nat} {W:World} {v:Value} {l:List Zp} (h:dH base W v l):∃ a cap,v = .slice a l.length cap∧bc W a l:=by
 obtain ⟨xs,h1,h2⟩:=h;have h1':=h1;obtain ⟨hx,h1 | ⟨g,cap,cur,e,hg,hh,hn,hc,hs,ht⟩⟩:=h1
 ·obtain ⟨rfl,h0⟩:=h1;have:l = []:=Mo h0;subst this;exact ⟨none,0,rfl,Mj _,.inl rfl⟩
 ·subst e;refine ⟨_,cap,rfl,Mr hn hc,.inr ⟨g,0,rfl,?_,?_⟩⟩
  ·exact (h1'.lt g rfl).2
  ·intro i hi;obtain ⟨a,cp,e0,e1,e2,e3⟩:=h2.2 i hi;refine ⟨?_,a,cp,?_,e2⟩
   ·rw [h1'.cellAt _ (by omega),← e1]; congr 1; omega
   ·rw [h1'.cellAt _ (by omega),← e0]; congr 1; omega
theorem jy {W w1:World} {base n:Nat} {v:Value} {xs:List Value} {a:Option Addr} {r:List Vl} (h:bg W a r) (ht:gp W a) (ho:W.ownsRow base 63 2 v n xs) (hg:W.grownBy w1 v.ownBlock):bg w1 a r∧gp w1 a:=by
 have key:∀ b off,a=some ⟨b,off,none⟩→w1.heap[b]? = W.heap[b]?:=by
  intro b off e;obtain ⟨c,z,h1⟩:=ht b off e;have hlt:b<W.heap.size:=by
   rcases ME b W.heap.size with h | h
   ·exact h
   ·rw [M3 h] at h1; cases h1
  refine hg.block b hlt ?_;obtain ⟨_,⟨rfl,_⟩ | ⟨g,cap,cur,rfl,_,hh,_⟩⟩:=ho
  ·simp [Value.ownBlock]
  ·simp only [Value.ownBlock];intro e;injection e with e
   subst e;rw [hh] at h1;simp at h1
 refine ⟨⟨h.1,?_⟩,?_⟩
 ·rcases h.2 with h | ⟨b,off,e,hr,hlt⟩
  ·exact .inl h
  ·refine .inr ⟨b,off,e,fun i hi=>?_,Mh hlt hg.size⟩;have k:=key b off e;obtain ⟨c0,c1,c2⟩:=hr i hi;exact ⟨(Mv (a:=⟨b,_,none⟩) k).trans c0,(Mv (a:=⟨b,_,none⟩) k).trans c1,(Mv (a:=⟨b,_,none⟩) k).trans c2⟩
 ·intro b off e;obtain ⟨c,z,h1⟩:=ht b off e;exact ⟨c,z,(key b off e).trans h1⟩
theorem FF {W w1:World} {base:Nat} {v v':Value} {xs:List Value} {l:List Zp} {a:Option Addr} {cap:Nat} {r:List Vl} {x:Int}
  (ho:W.ownsRow base 63 2 v l.length xs) (he:wh W xs l) (hs:bg W a r) (ht:gp W a)
  (ho':w1.ownsRow base 63 2 v' (l.length+1) (xs ++ [.slice a r.length cap,.int .i64 x])) (hg:W.grownBy w1 v.ownBlock):dH base w1 v' (l ++ [(r,x)]):=by
 refine ⟨_,by simpa using ho',by simp [he.1]; omega,?_⟩;intro i hi;by_cases hi':i<l.length
 ·obtain ⟨a',c',h1,h2,h3,h4⟩:=he.2 i hi';have g:=jy h3 h4 ho hg;have lx:=he.1;refine ⟨a',c',?_,?_,?_,g.2⟩
  ·rw [Mx (by omega),h1,Mz hi']
  ·rw [Mx (by omega),h2,Mz hi']
  ·rw [Mz hi']; exact g.1
 ·have:i=l.length:=by simp at hi; omega
  subst this;have lx:=he.1;have g:=jy hs ht ho hg;refine ⟨a,cap,?_,?_,?_,g.2⟩
  ·rw [My (by omega)]; simp [lx]
  ·rw [My (by omega)]; simp [lx]
  ·simpa using g.1
def gY (W:World) (B n:Nat) (l:List Vl) (k:Nat):Prop:=∃ xs,W.ownsRow B 24 3 (.slice (some ⟨B,0,none⟩) n n) n xs∧∀ (j:Nat) (h:j<l.length),j<k→xs[j*3]? = some (.int .i64 (bF l[j]).1)∧xs[j*3+1]? = some (.int .i64 (bF l[j]).2.1)∧xs[j*3+2]? = some (.string (bF l[j]).2.2)
theorem gY.step {W:World} {B n:Nat} {l:List Vl} {k:Nat} (h:gY W B n l k) (hk:k<l.length) (hn:n=l.length) :
  gY (((W.setCell ⟨B,k*3,none⟩ (.int .i64 (bF l[k]).1)).setCell ⟨B,k*3+1,none⟩ (.int .i64 (bF l[k]).2.1)).setCell ⟨B,k*3+2,none⟩ (.string (bF l[k]).2.2)) B n l (k+1):=by
 obtain ⟨xs,h1,h2⟩:=h;have lx:=h1.1;refine ⟨_,((((h1.stored (k*3) _).1.stored (k*3+1) _).1).stored (k*3+2) _).1,?_⟩;intro j hj hjk;by_cases e:j=k
 ·subst e;refine ⟨?_,?_,?_⟩ <;> simp [List.getElem?_set,lx,hn] <;> omega
 ·obtain ⟨g0,g1,g2⟩:=h2 j hj (by omega);refine ⟨?_,?_,?_⟩
  ·rw [Mt (by omega),Mt (by omega),Mt (by omega)]; exact g0
  ·rw [Mt (by omega),Mt (by omega),Mt (by omega)]; exact g1
  ·rw [Mt (by omega),Mt (by omega),Mt (by omega)]; exact g2
theorem gY.next {W w1:World} {B n:Nat} {l:List Vl} {k:Nat} (h:gY W B n l k) (hb:Below W.heap.size W w1):gY w1 B n l k:=by
 obtain ⟨xs,h1,h2⟩:=h;exact ⟨xs,bp h1 hb,h2⟩
theorem gY.cells {W:World} {B n:Nat} {l:List Vl} {k:Nat} (h:gY W B n l k) (hk:k<n):(∃ u0 u1 u2,W.cell? ⟨B,k*3,none⟩=some u0∧W.cell? ⟨B,k*3+1,none⟩=some u1∧W.cell? ⟨B,k*3+2,none⟩=some u2)∧W.frozen? ⟨B,k*3,none⟩=false∧W.frozen? ⟨B,k*3+1,none⟩=false∧W.frozen? ⟨B,k*3+2,none⟩=false∧B<W.heap.size:=by
 obtain ⟨xs,h1,h2⟩:=h;have lx:=h1.1;refine ⟨⟨xs[k*3]'(by omega),xs[k*3+1]'(by omega),xs[k*3+2]'(by omega),?_,?_,?_⟩,h1.frozenAt _,h1.frozenAt _,h1.frozenAt _,(h1.lt B rfl).2⟩
 ·rw [h1.cellAt _ (by omega)]; exact Ms (by omega)
 ·rw [h1.cellAt _ (by omega)]; exact Ms (by omega)
 ·rw [h1.cellAt _ (by omega)]; exact Ms (by omega)
theorem gY.done {W:World} {B n:Nat} {l:List Vl} (h:gY W B n l l.length) (hn:n=l.length) (h8:l.length≤8):bg W (some ⟨B,0,none⟩) (bz l)∧gp W (some ⟨B,0,none⟩):=by
 obtain ⟨xs,h1,h2⟩:=h;subst hn;refine ⟨⟨by simp [bz,maxLen]; omega,.inr ⟨B,0,rfl,?_,(h1.lt B rfl).2⟩⟩,?_⟩
 ·intro i hi;have hi':i<l.length:=by simpa [bz] using hi
  obtain ⟨g0,g1,g2⟩:=h2 i hi' hi';simp only [bz,MY];refine ⟨?_,?_,?_⟩
  ·rw [h1.cellAt _ (by omega),← g0]; congr 1; omega
  ·rw [h1.cellAt _ (by omega),← g1]; congr 1; omega
  ·rw [h1.cellAt _ (by omega),← g2]; congr 1; omega
 ·intro b off e;obtain ⟨_,⟨e',_⟩ | ⟨g,cap,cur,e',_,hh,_⟩⟩:=h1
  ·cases e'
  ·simp only [Value.slice.injEq,NC,Addr.mk.injEq] at e e';obtain ⟨rfl,_⟩:=e;rw [← e'.1.1] at hh;exact ⟨_,_,hh⟩
theorem zh (a:Option Addr) (cap:Nat) (l:List Vl) (w:World) (h:bg w a l) (h8:l.length≤8) :
  Calls Tryz.prog 75 #[.slice a l.length cap] w fun e w'=>e = .returned (.slice (some ⟨w.heap.size,0,none⟩) l.length l.length)∧(bg w' (some ⟨w.heap.size,0,none⟩) (bz l)∧gp w' (some ⟨w.heap.size,0,none⟩))∧Below w.heap.size w w':=by
 obtain ⟨i0,hi,hz0,hz1,hz2⟩:=info_parts Tryz.qs;go_enter Tryz.func75,Tryz.ntmps75;go_wp2_with (first | (at_make; refine wpList_make_full _ rfl _ _ 61 rfl w.heap.size 24 i0 _ 3 Tryz.underlying61 hi hz0 hz1 .i64 .i64 l.length l.length l.length rfl rfl rfl rfl (by rw [hz2]; omega) (by unfold maxLen; omega) (Mc _) ?_))
 intro w1 hown hgrow;have hb0:Below w.heap.size w w1:=(Md _ _).grown hgrow (Mc _) (by simp);have hB0:gY w1 w.heap.size l.length l 0:=⟨_,hown,fun j _ hj=>absurd hj (MP _)⟩
 clear hown hgrow;go_wp2_with fail
 go_loopw [11] (fun i wr=>∃ k:Nat,k≤l.length∧i = .int .i64 k∧gY wr w.heap.size l.length l k∧Below w.heap.size w wr) (fun i _=>l.length - (intOf i).toNat)
 case atStart=>exact ⟨0,Mj _,rfl,hB0,hb0⟩
 case round =>
  obtain ⟨k,hk,rfl,HB,hb⟩:=hrel;have hz:=hb.size;by_cases hlt:k<l.length
  ·obtain ⟨b,off,rfl,hbl,c0,c1,c2⟩:=(h.next hb).elem hlt;have i0:(0:Int)≤(k:Int):=by omega
   have i1:(k:Int)<(l.length:Int):=by omega
   go_wp2_with fail
   refine (mQ _ _ _ _).mono ?_;rintro e w2 ⟨rfl,hb2⟩;have HB2:=(HB.next ((Md _ _).alloc (Mc _) _)).next hb2;obtain ⟨⟨u0,u1,u2,d0,d1,d2⟩,f0,f1,f2,hlb⟩:=HB2.cells hlt;go_wp2
   go_roundw
   case rel =>
    refine ⟨k+1,by omega,by go_num,?_,?_⟩
    ·exact HB2.step hlt rfl
    ·exact (((mr hb hb2).setCell (p:=⟨w.heap.size,k*3,none⟩) (Mc _) _).setCell (p:=⟨w.heap.size,k*3+1,none⟩) (Mc _) _).setCell (p:=⟨w.heap.size,k*3+2,none⟩) (Mc _) _
   case measure=>simp [intOf]; omega
  ·have e:k=l.length:=by omega
   subst e;go_wp2
   go_ret;exact ⟨rfl,HB.done rfl h8,hb⟩
end Go.Proofs.YtjebpkhkjkjphaaGreat
namespace Go.Proofs.YtjebpkhkjkjphaaGreat
set_option maxRecDepth 100000
set_option maxHeartbeats 16000000
inductive Ex where
 | mk (k:Int) (v:Vl) (c:Int) (ks:List Ex)
def Ex.k:Ex→Int | .mk k _ _ _=>k
def Ex.v:Ex→Vl | .mk _ v _ _=>v
def Ex.c:Ex→Int | .mk _ _ c _=>c
def Ex.ks:Ex→List Ex | .mk _ _ _ ks=>ks
mutual
theorem Ex.ind {P:Ex→Prop} (h:∀ k v c ks,(∀ x ∈ ks,P x)→P (.mk k v c ks)):∀ x,P x
 | .mk k v c ks=>h k v c ks (Ex.FZ h ks)
theorem Ex.FZ {P:Ex→Prop} (h:∀ k v c ks,(∀ x ∈ ks,P x)→P (.mk k v c ks)):∀ ks:List Ex,∀ x ∈ ks,P x
 | [],_,hx=>by simp at hx
 | y :: r,x,hx=>by
  rcases List.mem_cons.mp hx with e | hx
  ·exact e ▸ Ex.ind h y
  ·exact Ex.FZ h r x hx
end
def eL (k:Int):Nat:=if k=1∨k=2 then 0 else if k=3∨k=16 then 1 else if k=17 then 3 else 2
def fp (k:Int) (len:Nat) (n d:Int):Int:=if 200<n∨20<d then 4 else if k<1∨18<k then 1 else if len≠eL k then 5 else 0
def rC (a b:Int):Option Int:=if a=b∨b=1 then some a else if a=1 then some b else none
def dB:Option Int→Int × Int | some t=>(t,0) | none=>(0,9)
def cS (t:Int) (ts:List Int):Option Int:=if ts.all (fun k=>(rC k t).isSome) then some t else none
def fm (k:Int) (ts:List Int):Option Int :=
 if k=3∨k=4∨k=5 then cS 2 ts
 else if 6≤k∧k≤11 then (if (rC (ts.getD 0 0) (ts.getD 1 0)).isSome then some 2 else none)
 else if k=12∨k=13∨k=14 then cS 3 ts
 else if k=15 then cS 4 ts
 else if k=16 then some 2
 else if k=17 then (if (rC (ts.getD 0 0) 2).isSome then rC (ts.getD 1 0) (ts.getD 2 0) else none)
 else rC (ts.getD 0 0) (ts.getD 1 0)
def bt (v:Vl):Int:=aU v.1 v.2.1 v.2.2
def mT (v:Vl):Int × Int:=if bt v=0 then (v.1,0) else (0,bt v)
def kW (af:List Int) (c:Int):Int × Int:=if c<0∨af.length≤c then (0,7) else (af.getD c.toNat 0,0)
def eA (af:List Int) (k:Int) (v:Vl) (c:Int) (ts:List Int):Int × Int :=
 if k=1 then mT v else if k=2 then kW af c else dB (fm k ts)
mutual
def bf (af:List Int):Ex→Int→Int→Int × Int × Int
 | .mk k v c ks,n,d =>
  if fp k ks.length (n+1) d≠0 then (0,fp k ks.length (n+1) d,n+1)
  else if (bE af ks [] (n+1) (d+1)).1≠0 then (0,(bE af ks [] (n+1) (d+1)).1,(bE af ks [] (n+1) (d+1)).2.2)
  else ((eA af k v c (bE af ks [] (n+1) (d+1)).2.1).1,(eA af k v c (bE af ks [] (n+1) (d+1)).2.1).2,(bE af ks [] (n+1) (d+1)).2.2)
def bE (af:List Int):List Ex→List Int→Int→Int→Int × List Int × Int
 | [],acc,n,_=>(0,acc,n)
 | x :: r,acc,n,d =>
  if (bf af x n d).2.1≠0 then ((bf af x n d).2.1,acc,(bf af x n d).2.2)
  else bE af r (acc ++ [(bf af x n d).1]) (bf af x n d).2.2 d
end
mutual
def lR:Ex→Nat | .mk _ _ _ ks=>1+nI ks
def nI:List Ex→Nat | []=>0 | x :: r=>lR x+nI r
end
mutual
def uI:Ex→Nat | .mk _ _ _ ks=>1+pS ks
def pS:List Ex→Nat | []=>0 | x :: r=>max (uI x) (pS r)
end
mutual
def kt (af:List Int):Ex→Option Int
 | .mk k v c ks=>if k<1∨18<k∨ks.length≠eL k then none else
  (hZ af ks).bind fun ts=>if (eA af k v c ts).2=0 then some (eA af k v c ts).1 else none
def hZ (af:List Int):List Ex→Option (List Int)
 | []=>some []
 | x :: r=>(kt af x).bind fun t=>(hZ af r).map fun ts=>t :: ts
end
theorem tm:∀ x:Ex,1≤lR x | .mk _ _ _ ks=>by rw [lR]; omega
theorem rS (af:List Int):∀ (ks:List Ex),(∀ x ∈ ks,∀ n d t n',bf af x n d=(t,0,n')↔kt af x=some t∧n'=n+lR x∧n'≤200∧d+uI x≤21) →
  ∀ acc n d ts n',n≤200→d≤21→(bE af ks acc n d=(0,acc ++ ts,n')↔hZ af ks=some ts∧n'=n+nI ks∧n'≤200∧d+pS ks≤21)
 | [],_,acc,n,d,ts,n',hn,hd=>by
  simp only [bE,hZ,nI,pS,Prod.mk.injEq,true_and,NC]
  constructor
  ·rintro ⟨h,rfl⟩
   have:ts = []:=by simpa using h
   exact ⟨this.symm,by simp,hn,by simpa using hd⟩
  ·rintro ⟨rfl,h,_⟩
   exact ⟨by simp,by simpa using h.symm⟩
 | x :: r,hx,acc,n,d,ts,n',hn,hd=>by
  have ih:=rS af r (fun y hy=>hx y (List.mem_cons_of_mem _ hy))
  have h0:=hx x (List.mem_cons_self ..) n d
  rcases hq:bf af x n d with ⟨t,e,m⟩
  rw [bE,hq,hZ,nI,pS]
  have hs:=tm x
  by_cases he:e=0
  ·subst he
   have h1:=(h0 t m).1 hq
   obtain ⟨p1,p2,p3,p4⟩:=h1
   simp only [ne_eq,not_true,if_false,p1,Option.bind_some]
   constructor
   ·intro h
    match ts,h with
    | [],h =>
     exfalso
     have:=congrArg (fun z=>z.2.1.length) h
     have hl:∀ (l:List Ex) acc n d,(bE af l acc n d).1=0→acc.length≤(bE af l acc n d).2.1.length:=by
      intro l
      induction l with
      | nil=>intro acc n d _; simp [bE]
      | cons y l ihl =>
       intro acc n d h
       rw [bE] at h ⊢
       split at h
       ·rename_i hne
        exact absurd h hne
       ·rename_i hne
        rw [if_neg hne]
        have:=ihl _ _ _ h
        simp at this
        omega
     have h2:=hl r (acc ++ [t]) m d (by rw [h])
     rw [h] at h2
     simp at h2
     omega
    | u :: us,h =>
     have hu:u=t:=by
      have hl:∀ (l:List Ex) acc n d,(bE af l acc n d).1=0→acc <+: (bE af l acc n d).2.1:=by
       intro l
       induction l with
       | nil=>intro acc n d _; simp [bE]
       | cons y l ihl =>
        intro acc n d h
        rw [bE] at h ⊢
        split at h
        ·rename_i hne
         exact absurd h hne
        ·rename_i hne
         rw [if_neg hne]
         exact (List.prefix_append _ _).trans (ihl _ _ _ h)
      have h2:=hl r (acc ++ [t]) m d (by rw [h])
      rw [h] at h2
      simp only [List.prefix_append_right_inj] at h2
      exact (List.cons_prefix_cons.mp h2).1.symm
     subst hu
     have h':bE af r (acc ++ [u]) m d=(0,(acc ++ [u]) ++ us,n'):=by simpa using h
     obtain ⟨q1,q2,q3,q4⟩:=(ih (acc ++ [u]) m d us n' p3 hd).1 h'
     refine ⟨by simp [q1],by omega,q3,by omega⟩
   ·rintro ⟨q1,q2,q3,q4⟩
    rw [Option.map_eq_some_iff] at q1
    obtain ⟨us,q1,rfl⟩:=q1
    have:=(ih (acc ++ [t]) m d us n' p3 hd).2 ⟨q1,by omega,q3,by omega⟩
    simpa using this
  ·simp only [ne_eq,he,not_false_eq_true,if_true,Prod.mk.injEq,false_and,false_iff]
   rintro ⟨q1,q2,q3,q4⟩
   rw [Nf] at q1
   obtain ⟨u,q1,_⟩:=q1
   have:=(h0 u (n+lR x)).2 ⟨q1,rfl,by omega,by omega⟩
   rw [hq] at this
   simp at this
   exact he this.2.1
theorem kR (af:List Int):∀ x n d t n',bf af x n d=(t,0,n')↔kt af x=some t∧n'=n+lR x∧n'≤200∧d+uI x≤21:=by
 refine Ex.ind fun k v c ks ih n d t n'=>?_
 have hk:=rS af ks (fun x hx=>ih x hx) [] (n+1) (d+1);rw [bf,kt,lR,uI];by_cases hw:fp k ks.length (n+1) d=0
 ·have hw':¬ (200<n+1∨20<d)∧¬ (k<1∨18<k)∧ks.length=eL k:=by
   unfold fp at hw;by_cases h1:200<n+1∨20<d
   ·simp [h1] at hw
   by_cases h2:k<1∨18<k
   ·simp [h1,h2] at hw
   by_cases h3:ks.length=eL k
   ·exact ⟨h1,h2,h3⟩
   ·simp [h1,h2,h3] at hw
  obtain ⟨h1,h2,h3⟩:=hw';rw [if_neg (by simp [hw]),if_neg (show ¬ (k<1∨18<k∨ks.length≠eL k) by simp [h3]; omega)];rcases hq:bE af ks [] (n+1) (d+1) with ⟨e,ts,m⟩
  by_cases he:e=0
  ·subst he;obtain ⟨p1,p2,p3,p4⟩:=(hk ts m (by omega) (by omega)).1 (by simpa using hq);simp only [ne_eq,not_true,if_false,p1,Option.bind_some];by_cases hn:(eA af k v c ts).2=0
   ·simp only [hn,if_true,Prod.mk.injEq,true_and,NC];constructor
    ·rintro ⟨rfl,rfl⟩;exact ⟨rfl,by omega,p3,by omega⟩
    ·rintro ⟨rfl,q2,q3,q4⟩;exact ⟨rfl,by omega⟩
   ·simp [hn]
  ·simp only [ne_eq,he,not_false_eq_true,if_true,Prod.mk.injEq,false_and,and_false,false_iff];rintro ⟨q1,q2,q3,q4⟩;rw [Nf] at q1;obtain ⟨us,q1,_⟩:=q1;have:=(hk us (n+1+nI ks) (by omega) (by omega)).2 ⟨q1,rfl,by omega,by omega⟩;rw [hq] at this;simp at this;exact he this.1
 ·rw [if_pos hw];simp only [Prod.mk.injEq,hw,false_and,and_false,false_iff];rintro ⟨q1,q2,q3,q4⟩;apply hw
  split at q1
  ·simp at q1
  ·rename_i hc
   unfold fp;rw [if_neg (by omega),if_neg (by omega),if_neg (by simp; omega)]
theorem Ip {af:List Int} {x:Ex} {n d:Int} (h:(bf af x n d).2.1=0):(bf af x n d).2.2≤200∧n<(bf af x n d).2.2:=by
 have:=(kR af x n d (bf af x n d).1 (bf af x n d).2.2).1 (by rw [← h]);have:=tm x;omega
end Go.Proofs.YtjebpkhkjkjphaaGreat
namespace Go.Proofs.YtjebpkhkjkjphaaGreat
open Go.RowKit
set_option maxRecDepth 100000
set_option maxHeartbeats 16000000
abbrev fS (x:Ex) (a:Option Addr) (c:Nat):Array Value:=#[.int .i64 x.k,.int .i64 x.v.1,.int .i64 x.v.2.1,.string x.v.2.2,.int .i64 x.c,.slice a x.ks.length c]
abbrev iU (k:Int) (v:Vl) (c:Int) (a:Option Addr) (n cap:Nat):Value :=
 .agg (hJ k v.1 v.2.1 v.2.2 c a n cap)
abbrev fW (v:Vl):Value:=.agg #[.int .i64 v.1,.int .i64 v.2.1,.string v.2.2]
theorem CL (k:Int) (w:World) :
  Calls Tryz.prog 159 #[.int .i64 k] w fun e w'=>e = .returned (.int .i64 (eL k:Nat))∧Below w.heap.size w w':=by
 unfold eL;by_cases h1:k=1
 ·subst h1; go_enter Tryz.func159,Tryz.ntmps159; go_wp2_with fail; go_ret; exact ⟨rfl,Md _ _⟩
 by_cases h2:k=2
 ·subst h2; go_enter Tryz.func159,Tryz.ntmps159; go_wp2_with fail; go_ret; exact ⟨rfl,Md _ _⟩
 by_cases h3:k=3
 ·subst h3; go_enter Tryz.func159,Tryz.ntmps159; go_wp2_with fail; go_ret; exact ⟨rfl,Md _ _⟩
 by_cases h4:k=16
 ·subst h4; go_enter Tryz.func159,Tryz.ntmps159; go_wp2_with fail; go_ret; exact ⟨rfl,Md _ _⟩
 by_cases h5:k=17
 ·subst h5; go_enter Tryz.func159,Tryz.ntmps159; go_wp2_with fail; go_ret; exact ⟨rfl,Md _ _⟩
 rw [if_neg (by omega),if_neg (by omega),if_neg (by omega)];have q1:(k == 1)=false:=by simpa using h1
 have q2:(k == 2)=false:=by simpa using h2
 have q3:(k == 3)=false:=by simpa using h3
 have q4:(k == 16)=false:=by simpa using h4
 have q5:(k == 17)=false:=by simpa using h5
 go_enter Tryz.func159,Tryz.ntmps159;go_wp2
 go_ret;exact ⟨rfl,Md _ _⟩
def bR (a b:Int):Int × Int:=dB (rC a b)
theorem Ke (a:Int):bR a a=(a,0):=by simp [bR,rC,dB]
theorem JN (a:Int):bR a 1=(a,0):=by simp [bR,rC,dB]
theorem Kn {b:Int} (h:¬ b=1):bR 1 b=(b,0):=by
 have h':¬ 1=b:=fun e=>h e.symm
 simp [bR,rC,dB,h,h']
theorem JO {a b:Int} (h1:¬ a=b) (h2:¬ b=1) (h3:¬ a=1):bR a b=(0,9):=by simp [bR,rC,dB,h1,h2,h3]
theorem cn (a b:Int) (w:World) :
  Calls Tryz.prog 132 #[.int .i64 a,.int .i64 b] w fun e w'=>e = .returned (.tuple #[.int .i64 (bR a b).1,.int .i64 (bR a b).2])∧Below w.heap.size w w':=by
 by_cases h1:a=b
 ·subst h1;rw [Ke];go_enter Tryz.func132,Tryz.ntmps132;go_wp2
  exact Me (v:=.tuple #[.int .i64 a,.int .i64 0]) (by simp [results,Tryz.results132,go_sem]) rfl ⟨rfl,Md _ _⟩
 have q1:(a == b)=false:=by simpa using h1
 by_cases h2:b=1
 ·subst h2;rw [JN];go_enter Tryz.func132,Tryz.ntmps132;go_wp2
  exact Me (v:=.tuple #[.int .i64 a,.int .i64 0]) (by simp [results,Tryz.results132,go_sem]) rfl ⟨rfl,Md _ _⟩
 have q2:(b == 1)=false:=by simpa using h2
 by_cases h3:a=1
 ·subst h3;rw [Kn h2];go_enter Tryz.func132,Tryz.ntmps132;go_wp2
  exact Me (v:=.tuple #[.int .i64 b,.int .i64 0]) (by simp [results,Tryz.results132,go_sem]) rfl ⟨rfl,Md _ _⟩
 have q3:(a == 1)=false:=by simpa using h3
 rw [JO h1 h2 h3];go_enter Tryz.func132,Tryz.ntmps132;go_wp2
 exact Me (v:=.tuple #[.int .i64 0,.int .i64 9]) (by simp [results,Tryz.results132,go_sem]) rfl ⟨rfl,Md _ _⟩
theorem oo (k n:Int) (s:ByteArray) (w:World) :
  Calls Tryz.prog 174 #[.agg #[.int .i64 k,.int .i64 n,.string s]] w fun e w'=>e = .returned (.bool (k == 1))∧Below w.heap.size w w':=by
 go_enter Tryz.func174,Tryz.ntmps174;go_wp2
 go_ret;exact ⟨rfl,((Md _ _).alloc (Mc _) _)⟩
structure jP (W:World) (b off:Nat) (k:Int) (v:Vl) (c:Int) (a:Option Addr) (n cap:Nat):Prop where
 c0:W.cell? ⟨b,off,none⟩=some (.int .i64 k)
 c1:W.cell? ⟨b,off+1,none⟩=some (.int .i64 v.1)
 c2:W.cell? ⟨b,off+2,none⟩=some (.int .i64 v.2.1)
 c3:W.cell? ⟨b,off+3,none⟩=some (.string v.2.2)
 c4:W.cell? ⟨b,off+4,none⟩=some (.int .i64 c)
 c5:W.cell? ⟨b,off+5,none⟩=some (.slice a n cap)
theorem jP.next {W w1:World} {B b off:Nat} {k:Int} {v:Vl} {c:Int} {a:Option Addr} {n cap:Nat} (h:jP W b off k v c a n cap) (hb:Below B W w1) (hB:b<B):jP w1 b off k v c a n cap :=
 ⟨(hb.cell (p:=⟨b,_,none⟩) hB).trans h.c0,(hb.cell (p:=⟨b,_,none⟩) hB).trans h.c1,(hb.cell (p:=⟨b,_,none⟩) hB).trans h.c2,(hb.cell (p:=⟨b,_,none⟩) hB).trans h.c3,(hb.cell (p:=⟨b,_,none⟩) hB).trans h.c4,(hb.cell (p:=⟨b,_,none⟩) hB).trans h.c5⟩
theorem jP.new (w:World) (k:Int) (v:Vl) (c:Int) (a:Option Addr) (n cap t:Nat):jP (w.alloc (.cells (hJ k v.1 v.2.1 v.2.2 c a n cap) t)) w.heap.size 0 k v c a n cap :=
 ⟨by simp,by simp,by simp,by simp,by simp,by simp⟩
theorem qo {k:Int} {n:Nat} {m d:Int} (h:200<m∨20<d):fp k n m d=4:=by simp [fp,h]
theorem qy {k:Int} {n:Nat} {m d:Int} (h:¬ 200<m) (h':¬ 20<d) (h2:k<1∨18<k):fp k n m d=1:=by simp [fp,h,h',h2]
theorem yO {k:Int} {n:Nat} {m d:Int} (h:¬ 200<m) (h':¬ 20<d) (h2:¬ k<1) (h3:¬ 18<k) (h4:¬ n=eL k):fp k n m d=5:=by simp [fp,h,h',h2,h3,h4]
theorem Fj {k:Int} {n:Nat} {m d:Int} (h:¬ 200<m) (h':¬ 20<d) (h2:¬ k<1) (h3:¬ 18<k) (h4:n=eL k):fp k n m d=0:=by simp [fp,h,h',h2,h3,h4]
theorem tB (k:Int) (v:Vl) (c:Int) (a:Option Addr) (n cap:Nat) (m d:Int) (w:World) :
  Calls Tryz.prog 127 #[iU k v c a n cap,.int .i64 m,.int .i64 d] w fun e w'=>e = .returned (.int .i64 (fp k n m d))∧Below w.heap.size w w':=by
 by_cases h1:200<m;rw [qo (.inl h1)];rotate_left;by_cases h2:20<d;rw [qo (.inr h2)];rotate_left;by_cases h3:k<1;rw [qy h1 h2 (.inl h3)];rotate_left;by_cases h4:18<k;rw [qy h1 h2 (.inr h4)];rotate_left;obtain ⟨q,hq,hn⟩:∃ q:Bool,((n:Int) != ((eL k:Nat):Int))=q∧fp k n m d=if q then 5 else 0:=by
  by_cases h5:n=eL k
  ·exact ⟨false,by simp [h5],by rw [Fj h1 h2 h3 h4 h5]; rfl⟩
  ·exact ⟨true,by simp; omega,by rw [yO h1 h2 h3 h4 h5]; rfl⟩
 rw [hn];clear hn;go_enter Tryz.func127,Tryz.ntmps127;go_wp2_with fail
 have hA:Below w.heap.size w (w.alloc (.cells (hJ k v.1 v.2.1 v.2.2 c a n cap) 27)):=((Md _ _).alloc (Mc _) _)
 have S:=jP.new w k v c a n cap 27;generalize w.alloc (.cells (hJ k v.1 v.2.1 v.2.2 c a n cap) 27)=wA at *;have p0:=aq S.c0;have p5:=aq S.c5;simp only [Mq] at p5;haveI:Nonempty (dG wA):=⟨⟨_,Md _ _⟩⟩
 refine aI (by kernel_rfl) (by kernel_rfl) ?_
 repeat (go_big_quiet_step (first | (go_at_call 159; exact du (CL _ _))))
 refine wpQuiet_nil ?_;rintro w3 ⟨⟨v3,hb3⟩,h3'⟩;obtain rfl:w3=v3:=h3';have hb:=chain hA hb3;clear p0 p5 S hA hb3;cases q
 ·go_wp2_with fail
  go_ret;exact ⟨rfl,hb⟩
 ·go_wp2_with fail
  go_ret;exact ⟨rfl,hb⟩
 all_goals
  go_enter Tryz.func127,Tryz.ntmps127;go_wp2_with fail
  go_ret;exact ⟨rfl,((Md _ _).alloc (Mc _) _)⟩
def nM (n:Int):Bool:=decide (-1000000000000000≤n) && decide (n≤1000000000000000)
theorem Ai {n:Int} (h:nM n=true):-1000000000000000≤n∧n≤1000000000000000:=by simpa [nM] using h
theorem K4 {n:Int} (h:nM n=false):n < -1000000000000000∨1000000000000000<n:=by
 unfold nM at h;by_cases a:-1000000000000000≤n
 ·by_cases b:n≤1000000000000000
  ·simp [a,b] at h
  ·right; omega
 ·left; omega
theorem JZ {n:Int} (h:n < -1000000000000000∨1000000000000000<n):nM n=false:=by
 cases e:nM n
 ·rfl
 ·have:=Ai e; omega
def j8 (n:Int):Int:=if nM n then 3 else 1
def ky (n:Int):Int:=if nM n then n else 0
def oy (k n:Int):Bool:=k == 3 && nM n
def KU (c n n':Int):Option Int:=if c=43 then some (n+n') else if c=45 then some (n - n') else if c=42 then some (n*n') else none
def uu:Option Int→Int | some x=>j8 x | none=>1
def xQ:Option Int→Int | some x=>ky x | none=>0
def pj (c k n k' n':Int):Option Int:=if oy k n && oy k' n' then KU c n n' else none
theorem oO (n:Int) (w:World) :
  Calls Tryz.prog 105 #[.int .i64 n] w fun e w'=>e = .returned (.bool (nM n))∧w'=w:=by
 by_cases h0:-1000000000000000≤n
 ·go_enter Tryz.func105,Tryz.ntmps105;go_wp2
  go_ret;exact ⟨fr (by simp [nM,h0]),rfl⟩
 ·have hd:decide (-1000000000000000≤n)=false:=by simpa using h0
  have e:nM n=false:=by simp only [nM,hd,Bool.false_and]
  go_enter Tryz.func105,Tryz.ntmps105;go_wp2
  go_ret;exact ⟨rfl,rfl⟩
theorem zO (n:Int) (w:World) (h:nM n=true) :
  Calls Tryz.prog 179 #[.int .i64 n] w fun e w'=>e = .returned (.agg #[.int .i64 3,.int .i64 n,.string ⟨#[]⟩])∧Below w.heap.size w w':=by
 go_enter Tryz.func179,Tryz.ntmps179;go_wp2_with fail
 refine (oO _ _).mono ?_;rintro e w1 ⟨rfl,rfl⟩;rw [h];go_wp2
 exact Me (v:=.agg #[.int .i64 3,.int .i64 n,.string ⟨#[]⟩]) (by simp [results,Tryz.results179,go_sem]) rfl ⟨rfl,(Md _ _).alloc (Mc _) _⟩
theorem Aw (n:Int) (w:World) (h:nM n=false) :
  Calls Tryz.prog 179 #[.int .i64 n] w fun e w'=>e = .returned (.agg #[.int .i64 1,.int .i64 0,.string ⟨#[]⟩])∧Below w.heap.size w w':=by
 go_enter Tryz.func179,Tryz.ntmps179;go_wp2_with fail
 refine (oO _ _).mono ?_;rintro e w1 ⟨rfl,rfl⟩;rw [h];have R0:=gu.new w (.int .i64 0) (.int .i64 0) (.string ⟨#[]⟩) 24;go_wp2_with fail
 refine (dN _).mono ?_;rintro e w1 ⟨rfl,hb1⟩;have R1:=R0.next hb1;have ⟨r0,r1,r2,r3,r4,r5,r6⟩:=R1;go_wp2
 exact Me (v:=.agg #[.int .i64 1,.int .i64 0,.string ⟨#[]⟩]) (by simp [results,Tryz.results179,go_sem,r1,r2,r3]) rfl ⟨rfl,aF (kO hb1) (Mc _)⟩
theorem uj (n:Int) (w:World) :
  Calls Tryz.prog 179 #[.int .i64 n] w fun e w'=>e = .returned (.agg #[.int .i64 (j8 n),.int .i64 (ky n),.string ⟨#[]⟩])∧Below w.heap.size w w':=by
 cases h:nM n
 ·have e1:j8 n=1:=by simp [j8,h]
  have e2:ky n=0:=by simp [ky,h]
  rw [e1,e2]; exact Aw n w h
 ·have e1:j8 n=3:=by simp [j8,h]
  have e2:ky n=n:=by simp [ky,h]
  rw [e1,e2]; exact zO n w h
theorem nA (n:Int) (w:World) (h0:-1000000000000000≤n) (h1:n≤1000000000000000) :
  Calls Tryz.prog 212 #[.int .i64 n] w fun e w'=>e = .returned (.int .i64 (n.natAbs:Int))∧w'=w:=by
 by_cases h:n<0
 ·go_enter Tryz.func212,Tryz.ntmps212;go_wp2
  go_ret;exact ⟨aN (by omega),rfl⟩
 ·go_enter Tryz.func212,Tryz.ntmps212;go_wp2
  go_ret;exact ⟨aN (by omega),rfl⟩
theorem uw (k n:Int) (s:ByteArray) (w:World) :
  Calls Tryz.prog 210 #[.agg #[.int .i64 k,.int .i64 n,.string s]] w fun e w'=>e = .returned (.bool (oy k n))∧Below w.heap.size w w':=by
 by_cases hk:k=3
 ·subst hk;have e0:(aU 3 n s == 0)=oy 3 n:=by
   cases h:nM n
   ·have:=K4 h;have e:aU 3 n s=3:=by
     rcases this with t | t
     ·exact rV n s t
     ·exact sl n s t
    simp [oy,h,e]
   ·have:=Ai h;have e:aU 3 n s=0:=uO n s (by omega) (by omega);simp [oy,h,e]
  have E0:=aw e0;clear e0;go_enter Tryz.func210,Tryz.ntmps210;go_wp2_with fail
  refine (iy _ _ _ _).mono ?_;rintro e w1 ⟨rfl,hb1⟩;go_wp2
  go_ret;exact ⟨fr E0.out,kO hb1⟩
 ·have b3:(k == 3)=false:=by simpa using hk
  go_enter Tryz.func210,Tryz.ntmps210;go_wp2
  go_ret;exact ⟨fr (by simp [oy,b3]),(Md _ _).alloc (Mc _) _⟩
theorem G8 (a b:Int) (h:(1000000000000000 / (a.natAbs:Int))<(b.natAbs:Int)) (ha:a≠0):nM (a*b)=false:=by
 apply JZ;have h1:1000000000000000<(a.natAbs:Int)*(b.natAbs:Int):=by
  have p:0<(a.natAbs:Int):=by omega
  have:=Int.lt_mul_of_ediv_lt p h;rw [Int.mul_comm]; exact this
 have h2:((a*b).natAbs:Int)=(a.natAbs:Int)*(b.natAbs:Int):=by rw [Int.natAbs_mul]; exact Int.natCast_mul _ _
 rw [← h2] at h1;omega
theorem Kc (a b:Int) (h:(b.natAbs:Int)≤1000000000000000 / (a.natAbs:Int)) (ha:a≠0):-1000000000000000≤a*b∧a*b≤1000000000000000:=by
 have h1:(a.natAbs:Int)*(b.natAbs:Int)≤1000000000000000:=by
  have p:0<(a.natAbs:Int):=by omega
  have:=Int.mul_le_of_le_ediv p h;rw [Int.mul_comm]; exact this
 have h2:((a*b).natAbs:Int)=(a.natAbs:Int)*(b.natAbs:Int):=by rw [Int.natAbs_mul]; exact Int.natCast_mul _ _
 rw [← h2] at h1;omega
theorem DF (b:Int) (w:World) :
  Calls Tryz.prog 211 #[.int .i64 0,.int .i64 b] w fun e w'=>e = .returned (.agg #[.int .i64 (j8 (0*b)),.int .i64 (ky (0*b)),.string ⟨#[]⟩])∧Below w.heap.size w w':=by
 rw [Int.zero_mul];have R0:=gu.new w (.int .i64 0) (.int .i64 0) (.string ⟨#[]⟩) 24;go_enter Tryz.func211,Tryz.ntmps211;go_wp2_with fail
 refine (uj _ _).mono ?_;rintro e w1 ⟨rfl,hb1⟩;have R1:=R0.next hb1;have ⟨r0,r1,r2,r3,r4,r5,r6⟩:=R1;go_wp2
 exact Me (v:=.agg #[.int .i64 (j8 0),.int .i64 (ky 0),.string ⟨#[]⟩]) (by simp [results,Tryz.results211,go_sem,r1,r2,r3]) rfl ⟨rfl,aF (kO hb1) (Mc _)⟩
theorem xn (a b:Int) (w:World) (a0:-1000000000000000≤a) (a1:a≤1000000000000000) (b0:-1000000000000000≤b) (b1:b≤1000000000000000) (ha:a≠0) (h:(1000000000000000 / (a.natAbs:Int))<(b.natAbs:Int)) :
  Calls Tryz.prog 211 #[.int .i64 a,.int .i64 b] w fun e w'=>e = .returned (.agg #[.int .i64 1,.int .i64 0,.string ⟨#[]⟩])∧Below w.heap.size w w':=by
 have R0:=gu.new w (.int .i64 0) (.int .i64 0) (.string ⟨#[]⟩) 24;have bn:(a != 0)=true:=by simpa using ha
 have p0:0<(a.natAbs:Int):=by omega
 have p1:(a.natAbs:Int)≤1000000000000000:=by omega
 have q0:0≤(b.natAbs:Int):=by omega
 have q1:(b.natAbs:Int)≤1000000000000000:=by omega
 go_enter Tryz.func211,Tryz.ntmps211;go_wp2_with fail
 refine (nA _ _ b0 b1).mono ?_;rintro e w1 ⟨rfl,rfl⟩;go_wp2_with fail
 refine (nA _ _ a0 a1).mono ?_;rintro e w1 ⟨rfl,rfl⟩;generalize (a.natAbs:Int)=A at *;generalize (b.natAbs:Int)=B at *;go_wp2_with fail
 refine (dN _).mono ?_;rintro e w1 ⟨rfl,hb1⟩;have R1:=R0.next hb1;have ⟨r0,r1,r2,r3,r4,r5,r6⟩:=R1;go_wp2
 exact Me (v:=.agg #[.int .i64 1,.int .i64 0,.string ⟨#[]⟩]) (by simp [results,Tryz.results211,go_sem,r1,r2,r3]) rfl ⟨rfl,aF (kO hb1) (Mc _)⟩
theorem yG (a b:Int) (w:World) (a0:-1000000000000000≤a) (a1:a≤1000000000000000) (b0:-1000000000000000≤b) (b1:b≤1000000000000000) (ha:a≠0) (h:(b.natAbs:Int)≤(1000000000000000 / (a.natAbs:Int))) :
  Calls Tryz.prog 211 #[.int .i64 a,.int .i64 b] w fun e w'=>e = .returned (.agg #[.int .i64 (j8 (a*b)),.int .i64 (ky (a*b)),.string ⟨#[]⟩])∧Below w.heap.size w w':=by
 have hm:=Kc a b h ha;obtain ⟨m0,m1⟩:=hm;have R0:=gu.new w (.int .i64 0) (.int .i64 0) (.string ⟨#[]⟩) 24;have bn:(a != 0)=true:=by simpa using ha
 have p0:0<(a.natAbs:Int):=by omega
 have p1:(a.natAbs:Int)≤1000000000000000:=by omega
 have q0:0≤(b.natAbs:Int):=by omega
 have q1:(b.natAbs:Int)≤1000000000000000:=by omega
 go_enter Tryz.func211,Tryz.ntmps211;go_wp2_with fail
 refine (nA _ _ b0 b1).mono ?_;rintro e w1 ⟨rfl,rfl⟩;go_wp2_with fail
 refine (nA _ _ a0 a1).mono ?_;rintro e w1 ⟨rfl,rfl⟩;have ew:wrap64 (a*b)=a*b:=by unfold wrap64; omega
 generalize (a.natAbs:Int)=A at *;generalize (b.natAbs:Int)=B at *;go_wp2_with fail
 refine (uj _ _).mono ?_;rintro e w1 ⟨rfl,hb1⟩;have R1:=R0.next hb1;have ⟨r0,r1,r2,r3,r4,r5,r6⟩:=R1;go_wp2
 exact Me (v:=.agg #[.int .i64 (j8 (a*b)),.int .i64 (ky (a*b)),.string ⟨#[]⟩]) (by simp [results,Tryz.results211,go_sem,r1,r2,r3]) rfl ⟨rfl,aF (kO hb1) (Mc _)⟩
theorem vt (a b:Int) (w:World) (a0:-1000000000000000≤a) (a1:a≤1000000000000000) (b0:-1000000000000000≤b) (b1:b≤1000000000000000) :
  Calls Tryz.prog 211 #[.int .i64 a,.int .i64 b] w fun e w'=>e = .returned (.agg #[.int .i64 (j8 (a*b)),.int .i64 (ky (a*b)),.string ⟨#[]⟩])∧Below w.heap.size w w':=by
 by_cases ha:a=0
 ·subst ha; exact DF b w
 by_cases h:(1000000000000000 / (a.natAbs:Int))<(b.natAbs:Int)
 ·have e:=G8 a b h ha;have e1:j8 (a*b)=1:=by simp [j8,e]
  have e2:ky (a*b)=0:=by simp [ky,e]
  rw [e1,e2]; exact xn a b w a0 a1 b0 b1 ha h
 ·exact yG a b w a0 a1 b0 b1 ha (by omega)
theorem zX (c k n k' n':Int) (s s':ByteArray) (w:World) :
 Calls Tryz.prog 208 #[.int .i32 c,.agg #[.int .i64 k,.int .i64 n,.string s],.agg #[.int .i64 k',.int .i64 n',.string s']] w fun e w'=>e = .returned (.agg #[.int .i64 (uu (pj c k n k' n')),.int .i64 (xQ (pj c k n k' n')),.string ⟨#[]⟩])∧Below w.heap.size w w':=by
 have T:=rP.new w k n k' n' s s';have g:oy k n=true → -1000000000000000≤n∧n≤1000000000000000:=fun h=>by unfold oy at h; simp at h; exact Ai h.2
 have g':oy k' n'=true → -1000000000000000≤n'∧n'≤1000000000000000:=fun h=>by unfold oy at h; simp at h; exact Ai h.2
 obtain ⟨o,ho⟩:∃ o,o=pj c k n k' n':=⟨_,rfl⟩
 rw [← ho];unfold pj KU at ho;by_cases c1:c=43;rotate_left;by_cases c2:c=45;rotate_left;by_cases c3:c=42
 all_goals (
  cases h1:oy k n <;> cases h2:oy k' n')
 all_goals (
  simp only [h1,h2,Bool.and_true,Bool.and_false,Nq,if_true,if_false] at ho;simp only [h1,Nq,false_implies,forall_const] at g;simp only [h2,Nq,false_implies,forall_const] at g';try (rcases g with ⟨q0,q1⟩)
  try (rcases g' with ⟨p0,p1⟩)
  try simp only [c1,c2,c3,if_true,if_false] at ho
  try simp only [c1,if_true,if_false] at ho
  try simp only [c2,if_true] at ho
  try (have d1:(c == 43)=false:=by simpa using c1)
  try (have d2:(c == 45)=false:=by simpa using c2)
  try (have d3:(c == 42)=false:=by simpa using c3)
  try subst c1
  try subst c2
  try subst c3
  try simp at ho
  subst ho)
 all_goals (
  go_enter Tryz.func208,Tryz.ntmps208;go_wp2_with fail
  generalize ((w.alloc (.cells #[.int .i64 k,.int .i64 n,.string s] 24)).alloc (.cells #[.int .i64 k',.int .i64 n',.string s'] 24)).alloc (.cells #[.int .i64 0,.int .i64 0,.string ⟨#[]⟩] 24)=W0 at *
  repeat (first | refine (uw _ _ _ _).mono ?_ | refine (uj _ _).mono ?_ | refine (vt _ _ _ q0 q1 p0 p1).mono ?_ | refine (dN _).mono ?_
          rintro e w1 ⟨rfl,hb⟩;replace T:=T.next hb;clear hb;have ⟨a0,a1,a2,a3,a4,a5,a6⟩:=T.p;have ⟨b0,b1,b2,b3,b4,b5,b6⟩:=T.q;have ⟨r0,r1,r2,r3,r4,r5,r6⟩:=T.r;try simp only [h1,h2]
          go_wp2_with fail)
  have HB:=T.b
  first | exact Me (v:=.agg #[.int .i64 1,.int .i64 0,.string ⟨#[]⟩]) (by simp [results,Tryz.results208,go_sem,r1,r2,r3]) rfl ⟨rfl,aF HB (by omega)⟩ | exact Me (v:=.agg #[.int .i64 (j8 (n+n')),.int .i64 (ky (n+n')),.string ⟨#[]⟩]) (by simp [results,Tryz.results208,go_sem,r1,r2,r3]) rfl ⟨rfl,aF HB (by omega)⟩ | exact Me (v:=.agg #[.int .i64 (j8 (n - n')),.int .i64 (ky (n - n')),.string ⟨#[]⟩]) (by simp [results,Tryz.results208,go_sem,r1,r2,r3]) rfl ⟨rfl,aF HB (by omega)⟩ | exact Me (v:=.agg #[.int .i64 (j8 (n*n')),.int .i64 (ky (n*n')),.string ⟨#[]⟩]) (by simp [results,Tryz.results208,go_sem,r1,r2,r3]) rfl ⟨rfl,aF HB (by omega)⟩)
def km (k:Int) (s:ByteArray) (k':Int) (s':ByteArray):Bool:=k == 4 && (k' == 4 && decide (s.size+s'.size≤60))
def kp (k:Int) (s:ByteArray) (k':Int) (s':ByteArray):Int:=if km k s k' s' then 4 else 1
def kM (k:Int) (s:ByteArray) (k':Int) (s':ByteArray):ByteArray:=if km k s k' s' then s ++ s' else ⟨#[]⟩
theorem JI (k n k' n':Int) (s s':ByteArray) (w:World) (h':(k != 4)=true) :
  Calls Tryz.prog 201 #[.agg #[.int .i64 k,.int .i64 n,.string s],.agg #[.int .i64 k',.int .i64 n',.string s']] w fun e w'=>e = .returned (.agg #[.int .i64 1,.int .i64 0,.string ⟨#[]⟩])∧Below w.heap.size w w':=by
 have A0:=((gu.new w (.int .i64 k) (.int .i64 n) (.string s) 24).alloc (.cells #[.int .i64 k',.int .i64 n',.string s'] 24)).alloc (.cells #[.int .i64 0,.int .i64 0,.string ⟨#[]⟩] 24);have B0:=(gu.new (w.alloc (.cells #[.int .i64 k,.int .i64 n,.string s] 24)) (.int .i64 k') (.int .i64 n') (.string s') 24).alloc (.cells #[.int .i64 0,.int .i64 0,.string ⟨#[]⟩] 24);have R0:=gu.new ((w.alloc (.cells #[.int .i64 k,.int .i64 n,.string s] 24)).alloc (.cells #[.int .i64 k',.int .i64 n',.string s'] 24)) (.int .i64 0) (.int .i64 0) (.string ⟨#[]⟩) 24;simp only [Mf] at B0 R0
 go_enter Tryz.func201,Tryz.ntmps201;go_wp2_with fail
 refine (dN _).mono ?_;rintro e w1 ⟨rfl,hb1⟩;have A1:=A0.next hb1;have B1:=B0.next hb1;have R1:=R0.next hb1;have ⟨a0,a1,a2,a3,a4,a5,a6⟩:=A1;have ⟨b0,b1,b2,b3,b4,b5,b6⟩:=B1;have ⟨r0,r1,r2,r3,r4,r5,r6⟩:=R1;go_wp2_with fail
 have z1:=hb1.size;simp at z1;exact Me (v:=.agg #[.int .i64 1,.int .i64 0,.string ⟨#[]⟩]) (by simp [results,Tryz.results201,go_sem,r1,r2,r3]) rfl ⟨rfl,aF (ji hb1) (by omega)⟩
theorem JS (k n k' n':Int) (s s':ByteArray) (w:World) (e:k=4) (h':(k' != 4)=true) :
  Calls Tryz.prog 201 #[.agg #[.int .i64 k,.int .i64 n,.string s],.agg #[.int .i64 k',.int .i64 n',.string s']] w fun e w'=>e = .returned (.agg #[.int .i64 1,.int .i64 0,.string ⟨#[]⟩])∧Below w.heap.size w w':=by
 subst e;have A0:=((gu.new w (.int .i64 4) (.int .i64 n) (.string s) 24).alloc (.cells #[.int .i64 k',.int .i64 n',.string s'] 24)).alloc (.cells #[.int .i64 0,.int .i64 0,.string ⟨#[]⟩] 24);have B0:=(gu.new (w.alloc (.cells #[.int .i64 4,.int .i64 n,.string s] 24)) (.int .i64 k') (.int .i64 n') (.string s') 24).alloc (.cells #[.int .i64 0,.int .i64 0,.string ⟨#[]⟩] 24);have R0:=gu.new ((w.alloc (.cells #[.int .i64 4,.int .i64 n,.string s] 24)).alloc (.cells #[.int .i64 k',.int .i64 n',.string s'] 24)) (.int .i64 0) (.int .i64 0) (.string ⟨#[]⟩) 24;simp only [Mf] at B0 R0
 go_enter Tryz.func201,Tryz.ntmps201;go_wp2_with fail
 refine (dN _).mono ?_;rintro e w1 ⟨rfl,hb1⟩;have A1:=A0.next hb1;have B1:=B0.next hb1;have R1:=R0.next hb1;have ⟨a0,a1,a2,a3,a4,a5,a6⟩:=A1;have ⟨b0,b1,b2,b3,b4,b5,b6⟩:=B1;have ⟨r0,r1,r2,r3,r4,r5,r6⟩:=R1;go_wp2_with fail
 have z1:=hb1.size;simp at z1;exact Me (v:=.agg #[.int .i64 1,.int .i64 0,.string ⟨#[]⟩]) (by simp [results,Tryz.results201,go_sem,r1,r2,r3]) rfl ⟨rfl,aF (ji hb1) (by omega)⟩
theorem JM (k n k' n':Int) (s s':ByteArray) (w:World) (e:k=4) (e':k'=4) (z1:s.size≤60) (z2:s'.size≤60) (h:60<s.size+s'.size) :
  Calls Tryz.prog 201 #[.agg #[.int .i64 k,.int .i64 n,.string s],.agg #[.int .i64 k',.int .i64 n',.string s']] w fun e w'=>e = .returned (.agg #[.int .i64 1,.int .i64 0,.string ⟨#[]⟩])∧Below w.heap.size w w':=by
 subst e;subst e';have y1:(s.size:Int)≤60:=by omega
 have y2:(s'.size:Int)≤60:=by omega
 have y3:60<(s.size:Int)+(s'.size:Int):=by omega
 have y4:¬ ((s.size:Int)+(s'.size:Int)≤60):=by omega
 have A0:=((gu.new w (.int .i64 4) (.int .i64 n) (.string s) 24).alloc (.cells #[.int .i64 4,.int .i64 n',.string s'] 24)).alloc (.cells #[.int .i64 0,.int .i64 0,.string ⟨#[]⟩] 24);have B0:=(gu.new (w.alloc (.cells #[.int .i64 4,.int .i64 n,.string s] 24)) (.int .i64 4) (.int .i64 n') (.string s') 24).alloc (.cells #[.int .i64 0,.int .i64 0,.string ⟨#[]⟩] 24);have R0:=gu.new ((w.alloc (.cells #[.int .i64 4,.int .i64 n,.string s] 24)).alloc (.cells #[.int .i64 4,.int .i64 n',.string s'] 24)) (.int .i64 0) (.int .i64 0) (.string ⟨#[]⟩) 24;simp only [Mf] at B0 R0
 go_enter Tryz.func201,Tryz.ntmps201;go_wp2_with fail
 refine (dN _).mono ?_;rintro e w1 ⟨rfl,hb1⟩;have A1:=A0.next hb1;have B1:=B0.next hb1;have R1:=R0.next hb1;have ⟨a0,a1,a2,a3,a4,a5,a6⟩:=A1;have ⟨b0,b1,b2,b3,b4,b5,b6⟩:=B1;have ⟨r0,r1,r2,r3,r4,r5,r6⟩:=R1;go_wp2_with fail
 have z1:=hb1.size;simp at z1;exact Me (v:=.agg #[.int .i64 1,.int .i64 0,.string ⟨#[]⟩]) (by simp [results,Tryz.results201,go_sem,r1,r2,r3]) rfl ⟨rfl,aF (ji hb1) (by omega)⟩
theorem Kq (k n k' n':Int) (s s':ByteArray) (w:World) (e:k=4) (e':k'=4) (z1:s.size≤60) (z2:s'.size≤60) (h:s.size+s'.size≤60) :
  Calls Tryz.prog 201 #[.agg #[.int .i64 k,.int .i64 n,.string s],.agg #[.int .i64 k',.int .i64 n',.string s']] w fun e w'=>e = .returned (.agg #[.int .i64 4,.int .i64 0,.string (s ++ s')])∧Below w.heap.size w w':=by
 subst e;subst e';have y1:(s.size:Int)≤60:=by omega
 have y2:(s'.size:Int)≤60:=by omega
 have y3:¬ 60<(s.size:Int)+(s'.size:Int):=by omega
 have y4:(s.size:Int)+(s'.size:Int)≤60:=by omega
 go_enter Tryz.func201,Tryz.ntmps201;go_wp2
 exact Me (v:=.agg #[.int .i64 4,.int .i64 0,.string (s ++ s')]) (by simp [results,Tryz.results201,go_sem]) rfl ⟨rfl,(((Md _ _).alloc (Mc _) _).alloc (by simp) _).alloc (by simp; omega) _⟩
theorem EO (k n k' n':Int) (s s':ByteArray) (w:World) (z:k=4→s.size≤60) (z':k'=4→s'.size≤60) :
  Calls Tryz.prog 201 #[.agg #[.int .i64 k,.int .i64 n,.string s],.agg #[.int .i64 k',.int .i64 n',.string s']] w fun e w'=>e = .returned (.agg #[.int .i64 (kp k s k' s'),.int .i64 0,.string (kM k s k' s')])∧Below w.heap.size w w':=by
 by_cases h:k=4
 ·by_cases h':k'=4
  ·by_cases hs:s.size+s'.size≤60
   ·have e:km k s k' s'=true:=by simp [km,h,h',hs]
    have e1:kp k s k' s'=4:=by simp [kp,e]
    have e2:kM k s k' s'=s ++ s':=by simp [kM,e]
    rw [e1,e2]; exact Kq k n k' n' s s' w h h' (z h) (z' h') hs
   ·have e:km k s k' s'=false:=by simp [km,hs]
    have e1:kp k s k' s'=1:=by simp [kp,e]
    have e2:kM k s k' s'=⟨#[]⟩:=by simp [kM,e]
    rw [e1,e2]; exact JM k n k' n' s s' w h h' (z h) (z' h') (by omega)
  ·have e:km k s k' s'=false:=by simp [km,h']
   have e1:kp k s k' s'=1:=by simp [kp,e]
   have e2:kM k s k' s'=⟨#[]⟩:=by simp [kM,e]
   rw [e1,e2]; exact JS k n k' n' s s' w h (by simpa using h')
 ·have e:km k s k' s'=false:=by simp [km,h]
  have e1:kp k s k' s'=1:=by simp [kp,e]
  have e2:kM k s k' s'=⟨#[]⟩:=by simp [kM,e]
  rw [e1,e2]; exact JI k n k' n' s s' w (by simpa using h)
end Go.Proofs.YtjebpkhkjkjphaaGreat
namespace Go.Proofs.YtjebpkhkjkjphaaGreat
set_option maxRecDepth 100000
set_option maxHeartbeats 16000000
def om (o:Option Bool):Vl:=(tk o,tn o,⟨#[]⟩)
def kH (v:Vl):Option Bool:=cls v.1 v.2.1
def ID (a b:Vl):Vl:=om (Je (kH a) (kH b))
def Ln (a b:Vl):Vl:=om (LA (kH a) (kH b))
def lv (a:Vl):Vl:=om (pM (kH a))
def KD (a b:Vl):Vl:=om (Lj a.1 a.2.1 a.2.2 b.1 b.2.1 b.2.2)
def I8 (a b:Vl):Vl:=om (Ji a.1 a.2.1 a.2.2 b.1 b.2.1 b.2.2)
def mS (c:Int) (a b:Vl):Vl:=(uu (pj c a.1 a.2.1 b.1 b.2.1),xQ (pj c a.1 a.2.1 b.1 b.2.1),⟨#[]⟩)
def oC (a b:Vl):Vl:=(kp a.1 a.2.2 b.1 b.2.2,0,kM a.1 a.2.2 b.1 b.2.2)
def l6 (a b:Vl):Vl:=if a.1=1 then b else a
def eD:Vl:=(0,0,⟨#[]⟩)
def nG (k:Int) (a b:Vl):Vl :=
 if k=4 then ID a b else if k=5 then Ln a b else if k=6 then KD a b else if k=7 then lv (KD a b)
 else if k=8 then I8 a b else if k=11 then lv (I8 a b) else if k=10 then I8 b a else if k=9 then lv (I8 b a)
 else if k=12 then mS 43 a b else if k=13 then mS 45 a b else if k=14 then mS 42 a b else if k=15 then oC a b else l6 a b
def gh (row:List Vl) (k:Int) (v:Vl) (c:Int) (us:List Vl):Vl :=
 if k=1 then bF v else if k=2 then bF (row.getD c.toNat eD) else if k=3 then lv (us.getD 0 eD)
 else if k=16 then om (some ((us.getD 0 eD).1 == 1))
 else if k=17 then (if kH (us.getD 0 eD) == some true then us.getD 1 eD else us.getD 2 eD)
 else nG k (us.getD 0 eD) (us.getD 1 eD)
mutual
def aW (row:List Vl):Ex→Vl | .mk k v c ks=>gh row k v c (jB row ks)
def jB (row:List Vl):List Ex→List Vl | []=>[] | x :: r=>aW row x :: jB row r
end
theorem cV (row:List Vl):∀ ks,jB row ks=ks.map (aW row)
 | []=>rfl
 | x :: r=>by rw [jB,cV row r]; rfl
theorem Cu (o:Option Bool):bt (om o)=0:=by rcases o with _ | _ | _ <;> rfl
theorem F9 (o:Option Bool):(om o).1=1∨(om o).1=2:=by rcases o with _ | _ <;> simp [om,tk]
theorem kF (v:Vl):bt (bF v)=bt v:=by
 obtain ⟨k,n,s⟩:=v;unfold bt bF aU dE fN;by_cases h1:k=1
 ·simp [h1]
 by_cases h2:k=2
 ·simp [h2]
 by_cases h3:k=3
 ·simp [h3]
 by_cases h4:k=4
 ·simp [h4]
 simp [h1,h2,h3,h4]
theorem Cd (c:Int) (a b:Vl):bt (mS c a b)=0∧((mS c a b).1=1∨(mS c a b).1=3):=by
 unfold mS bt;rcases pj c a.1 a.2.1 b.1 b.2.1 with _ | x
 ·simp [uu,aU]
 ·by_cases h:nM x=true
  ·have h':=h;simp only [nM,MZ,decide_eq_true_eq] at h';simp [uu,xQ,j8,ky,h,aU,h']
  ·simp [uu,j8,h,aU]
theorem xS (a b:Vl):bt (oC a b)=0∧((oC a b).1=1∨(oC a b).1=4):=by
 unfold oC bt kp kM;by_cases h:km a.1 a.2.2 b.1 b.2.2=true
 ·have h':=h;simp only [km,MZ,decide_eq_true_eq] at h';simp [h,aU,h']
 ·simp [h,aU]
theorem IK {k:Int} (h:6≤k) (h':k≤11) (a b:Vl):∃ o,nG k a b=om o:=by
 obtain rfl | rfl | rfl | rfl | rfl | rfl:k=6∨k=7∨k=8∨k=9∨k=10∨k=11:=by omega
 all_goals exact ⟨_,rfl⟩
theorem GP {k:Int} (h:12≤k) (h':k≤14) (a b:Vl):∃ c,nG k a b=mS c a b:=by
 obtain rfl | rfl | rfl:k=12∨k=13∨k=14:=by omega
 all_goals exact ⟨_,rfl⟩
theorem Fx {k:Int} (h:k<4∨15<k) (a b:Vl):nG k a b=l6 a b:=by
 unfold nG;rw [if_neg (by omega),if_neg (by omega),if_neg (by omega),if_neg (by omega),if_neg (by omega),if_neg (by omega),if_neg (by omega),if_neg (by omega),if_neg (by omega),if_neg (by omega),if_neg (by omega),if_neg (by omega)]
def fx:List Int→List Vl→Int
 | c :: cs,v :: vs=>if bt v≠0 then bt v else if v.1≠1∧v.1≠c then 9 else fx cs vs
 | _,_=>0
def fP (af:List Int) (row:List Vl):Int:=if row.length≠af.length then 8 else fx af row
theorem vF:∀ (af:List Int) (row:List Vl),row.length=af.length→(fx af row=0↔∀ i (h:i<row.length),bt row[i]=0∧(row[i].1=1∨row[i].1=af.getD i 0))
 | [],[],_=>by simp [fx]
 | [],_ :: _,h=>by simp at h
 | _ :: _,[],h=>by simp at h
 | c :: cs,v :: vs,h=>by
  have ih:=vF cs vs (by simpa using h)
  rw [fx]
  by_cases h1:bt v=0
  ·rw [if_neg (by simp [h1])]
   by_cases h2:v.1≠1∧v.1≠c
   ·rw [if_pos h2]
    simp only [show ¬ (9:Int)=0 by decide,false_iff]
    intro hh
    have:=(hh 0 (by simp)).2
    simp at this
    omega
   ·rw [if_neg h2,ih]
    constructor
    ·intro hh i hi
     match i,hi with
     | 0,_ =>
      refine ⟨h1,?_⟩
      simp
      omega
     | i+1,hi =>
      have:=hh i (by simpa using hi)
      simpa using this
    ·intro hh i hi
     have:=hh (i+1) (by simpa using hi)
     simpa using this
  ·rw [if_pos h1]
   constructor
   ·intro hh; exact absurd hh h1
   ·intro hh; exact absurd (hh 0 (by simp)).1 h1
structure fM (af:List Int) (row:List Vl):Prop where
 len:row.length=af.length
 one:∀ i (h:i<row.length),bt row[i]=0∧(row[i].1=1∨row[i].1=af.getD i 0)
theorem vh (af:List Int) (row:List Vl):fP af row=0↔fM af row:=by
 unfold fP;by_cases h:row.length=af.length
 ·rw [if_neg (by simp [h]),vF af row h];exact ⟨fun k=>⟨h,k⟩,fun k=>k.2⟩
 ·rw [if_pos h];simp only [show ¬ (8:Int)=0 by decide,false_iff];exact fun k=>h k.1
theorem uT {a b t:Int} (h:rC a b=some t):(a=1∧t=b)∨(b=1∧t=a)∨(a=t∧b=t):=by
 unfold rC at h
 split at h
 ·rename_i h1; rcases h1 with h1 | h1
  ·right; right; simp at h; omega
  ·right; left; simp at h; omega
 ·split at h
  ·left; simp at h; omega
  ·simp at h
theorem jN {t u:Int} {ts:List Int} (h:cS t ts=some u):u=t:=by
 unfold cS at h
 split at h
 ·simpa using h.symm
 ·simp at h
theorem tf {af:List Int}:∀ {ks:List Ex} {ts:List Int},hZ af ks=some ts→ts.length=ks.length
 | [],ts,h=>by simp [hZ] at h; simp [h]
 | x :: r,ts,h=>by
  rw [hZ,Nf] at h
  obtain ⟨t,_,h⟩:=h
  rw [Option.map_eq_some_iff] at h
  obtain ⟨us,h,rfl⟩:=h
  simp [tf h]
theorem kT {af:List Int}:∀ {ks:List Ex} {ts:List Int},hZ af ks=some ts→∀ (i:Nat) (h:i<ks.length),kt af ks[i]=some (ts.getD i 0)
 | [],ts,_=>by intro i h; simp at h
 | x :: r,ts,h=>by
  rw [hZ,Nf] at h
  obtain ⟨t,h0,h⟩:=h
  rw [Option.map_eq_some_iff] at h
  obtain ⟨us,h,rfl⟩:=h
  intro i hi
  match i,hi with
  | 0,_=>simpa using h0
  | i+1,hi=>simpa using kT h i (by simpa using hi)
theorem nV {af:List Int} {k:Int} {v:Vl} {c:Int} {ks:List Ex} {t:Int} (h:kt af (.mk k v c ks)=some t) :
  1≤k∧k≤18∧ks.length=eL k∧∃ ts,hZ af ks=some ts∧eA af k v c ts=(t,0):=by
 rw [kt] at h
 split at h
 ·simp at h
 ·rename_i hk
  rw [Nf] at h;obtain ⟨ts,h1,h2⟩:=h
  split at h2
  ·rename_i h3
   refine ⟨by omega,by omega,by omega,ts,h1,?_⟩;simp at h2;exact Prod.ext h2 h3
  ·simp at h2
theorem Hd {v:Vl} {t:Int} (h:mT v=(t,0)):bt v=0∧v.1=t:=by
 unfold mT at h
 split at h
 ·rename_i hw; simp at h; exact ⟨hw,h⟩
 ·rename_i hw; simp at h; exact absurd h.2 hw
theorem AB {af:List Int} {c t:Int} (h:kW af c=(t,0)):0≤c∧c.toNat<af.length∧af.getD c.toNat 0=t:=by
 unfold kW at h
 split at h
 ·simp at h
 ·rename_i hc
  simp only [Prod.mk.injEq,and_true] at h;exact ⟨by omega,by omega,h⟩
theorem Ho {o:Option Int} {t:Int} (h:dB o=(t,0)):o=some t:=by
 cases o with
 | none=>simp [dB] at h
 | some u=>simp [dB] at h; rw [h]
def Of (t:Int) (u:Vl):Prop:=bt u=0∧(u.1=1∨u.1=t)
theorem rn (o:Option Bool):Of 2 (om o):=⟨Cu o,F9 o⟩
theorem AN {a b t:Int} {u:Vl} (h:rC a b=some t) (hu:Of a u):Of t u:=by
 refine ⟨hu.1,?_⟩;rcases uT h with ⟨q,rfl⟩ | ⟨_,rfl⟩ | ⟨rfl,_⟩
 ·left; rcases hu.2 with e | e <;> omega
 ·exact hu.2
 ·exact hu.2
theorem Bh {a b t:Int} {u:Vl} (h:rC a b=some t) (hu:Of b u):Of t u:=by
 refine ⟨hu.1,?_⟩;rcases uT h with ⟨_,rfl⟩ | ⟨q,rfl⟩ | ⟨_,rfl⟩
 ·exact hu.2
 ·left; rcases hu.2 with e | e <;> omega
 ·exact hu.2
theorem um {af:List Int} {row:List Vl} (hf:fM af row):∀ x t,kt af x=some t→Of t (aW row x):=by
 refine Ex.ind fun k v c ks ih t h=>?_
 obtain ⟨h1,h18,hl,ts,hts,hn⟩:=nV h;have hlen:=tf hts;have hkid:∀ i (hi:i<ks.length),Of (ts.getD i 0) ((jB row ks).getD i eD):=by
  intro i hi;have:=ih ks[i] (Mk _) _ (kT hts i hi);rw [cV]
  simpa [List.getD,hi] using this
 rw [aW];generalize jB row ks=us at hkid;unfold eA at hn;unfold gh
 split at hn
 ·rename_i hk
  rw [if_pos hk];obtain ⟨q1,q2⟩:=Hd hn;exact ⟨(kF v).trans q1,.inr q2⟩
 rename_i hk1
 rw [if_neg hk1]
 split at hn
 ·rename_i hk
  rw [if_pos hk];obtain ⟨q0,q1,q2⟩:=AB hn;have hl':=hf.len;have:=hf.one c.toNat (by omega);rw [q2] at this;have e:row.getD c.toNat eD=row[c.toNat]'(by omega):=by simp [List.getD,show c.toNat<row.length by omega]
  rw [e];exact ⟨(kF _).trans this.1,this.2⟩
 rename_i hk2
 rw [if_neg hk2];have hn:=Ho hn;unfold fm at hn;have l2:k≠3→k≠16→k≠17→ks.length=2:=by
  intro h3 h16 h17;rw [hl]; unfold eL;rw [if_neg (by omega),if_neg (by omega),if_neg h17]
 by_cases hk3:k=3
 ·rw [if_pos hk3];rw [if_pos (by omega)] at hn;rw [jN hn];exact rn _
 rw [if_neg hk3];by_cases hk16:k=16
 ·rw [if_pos hk16];subst hk16;simp at hn;rw [← hn];exact rn _
 rw [if_neg hk16];by_cases hk17:k=17
 ·rw [if_pos hk17];subst hk17;have l3:ks.length=3:=hl;simp only [show ¬ ((17:Int)=3∨(17:Int)=4∨(17:Int)=5) by decide,show ¬ (6≤(17:Int)∧(17:Int)≤11) by decide,show ¬ ((17:Int)=12∨(17:Int)=13∨(17:Int)=14) by decide,show ¬ (17:Int)=15 by decide,show ¬ (17:Int)=16 by decide,if_false,if_true] at hn
  split at hn
  ·split
   ·exact AN hn (hkid 1 (by omega))
   ·exact Bh hn (hkid 2 (by omega))
  ·simp at hn
 rw [if_neg hk17];have l2:=l2 hk3 hk16 hk17;have k0:=hkid 0 (by omega);have k1:=hkid 1 (by omega);by_cases b4:k=4
 ·rw [if_pos (by omega)] at hn; rw [jN hn,b4]; exact rn _
 by_cases b5:k=5
 ·rw [if_pos (by omega)] at hn; rw [jN hn,b5]; exact rn _
 rw [if_neg (by omega)] at hn;by_cases b6:6≤k∧k≤11
 ·rw [if_pos b6] at hn;have ht:t=2:=by
   split at hn <;> simp at hn; exact hn.symm
  subst ht;obtain ⟨o,e⟩:=IK b6.1 b6.2 (us.getD 0 eD) (us.getD 1 eD);rw [e];exact rn _
 rw [if_neg b6] at hn;by_cases b12:k=12∨k=13∨k=14
 ·rw [if_pos b12] at hn;have ht:=jN hn;subst ht;obtain ⟨o,e⟩:=GP (by omega) (by omega) (us.getD 0 eD) (us.getD 1 eD) (k:=k);rw [e];exact Cd _ _ _
 rw [if_neg b12] at hn;by_cases b15:k=15
 ·rw [if_pos b15] at hn;have ht:=jN hn;subst ht;rw [b15];exact xS _ _
 rw [if_neg b15,if_neg hk16,if_neg hk17] at hn;rw [Fx (by omega)];unfold l6
 split
 ·exact Bh hn k1
 ·exact AN hn k0
end Go.Proofs.YtjebpkhkjkjphaaGreat
namespace Go.Proofs.YtjebpkhkjkjphaaGreat
open Go.RowKit
set_option maxRecDepth 100000
set_option maxHeartbeats 16000000
theorem pU {v:Vl} (h:bt v=0):v.1=4→v.2.2.size≤60:=by
 obtain ⟨k,n,s⟩:=v;intro e;simp only at e;subst e;unfold bt aU at h;simp at h;exact h
def Since (lo:Nat) (w W:World):Prop:=w.heap.size≤W.heap.size∧∀ k,lo≤k→k<w.heap.size→W.heap[k]? = w.heap[k]?
theorem Since.refl (lo:Nat) (w:World):Since lo w w:=⟨Mc _,fun _ _ _=>rfl⟩
theorem Since.trans {lo:Nat} {a b c:World} (h:Since lo a b) (k:Since lo b c):Since lo a c :=
 ⟨Mr h.1 k.1,fun i hi hl=>(k.2 i hi (Mh hl h.1)).trans (h.2 i hi hl)⟩
theorem Since.of {lo:Nat} {w W:World} (h:Below w.heap.size w W):Since lo w W:=⟨h.size,fun k _ hk=>h.block k hk⟩
theorem Since.up {lo lo':Nat} {w W:World} (h:Since lo w W) (hl:lo≤lo'):Since lo' w W:=⟨h.1,fun k hk=>h.2 k (Mr hl hk)⟩
theorem Since.cell {lo:Nat} {w W:World} (h:Since lo w W) {p:Addr} (h1:lo≤p.block) (h2:p.block<w.heap.size):W.cell? p=w.cell? p:=Mv (w:=w) (h.2 p.block h1 h2)
theorem Since.set {lo:Nat} {w W:World} (h:Since lo w W) (g o:Nat) (u:Value) (hg:g<lo):Since lo w (W.setCell ⟨g,o,none⟩ u) :=
 ⟨by simpa using h.1,fun k hk hl=>(ML W ⟨g,o,none⟩ u k (by show k≠g; omega)).trans (h.2 k hk hl)⟩
def rB (lo:Nat) (u:Value) (f:Vl→Vl→Vl) (w:World):Prop :=
 ∃ g cb,u = .func (.func g) #[] cb∧(∀ args w,(callFunc g args).run Tryz.prog w = .ok (.enter g args) w) ∧
  ∀ (p q:Vl) (W:World),bt p=0→bt q=0→Since lo w W→Calls Tryz.prog g (#[fW p,fW q] ++ cb) W fun e w'=>e = .returned (fW (f p q))∧Below W.heap.size W w'
theorem rB.next {lo:Nat} {u:Value} {f:Vl→Vl→Vl} {w w1:World} (h:rB lo u f w) (hb:Since lo w w1):rB lo u f w1:=by
 obtain ⟨g,cb,e,eg,hd⟩:=h;exact ⟨g,cb,e,eg,fun p q W hp hq hW=>hd p q W hp hq (hb.trans hW)⟩
theorem JQ (lo:Nat) (w:World):rB lo (.func (.func 194) #[] #[]) ID w :=
 ⟨194,#[],rfl,enters_of Tryz.func194 (by kernel_rfl) rfl,fun p q W _ _ _=>by rw [Nr]; exact IB p.1 p.2.1 q.1 q.2.1 p.2.2 q.2.2 W⟩
theorem KJ (lo:Nat) (w:World):rB lo (.func (.func 195) #[] #[]) Ln w :=
 ⟨195,#[],rfl,enters_of Tryz.func195 (by kernel_rfl) rfl,fun p q W _ _ _=>by rw [Nr]; exact Kk p.1 p.2.1 q.1 q.2.1 p.2.2 q.2.2 W⟩
theorem Jq (lo:Nat) (w:World):rB lo (.func (.func 196) #[] #[]) KD w :=
 ⟨196,#[],rfl,enters_of Tryz.func196 (by kernel_rfl) rfl,fun p q W _ _ _=>by rw [Nr]; exact CX p.1 p.2.1 q.1 q.2.1 p.2.2 q.2.2 W⟩
theorem Bg (lo:Nat) (w:World):rB lo (.func (.func 198) #[] #[]) I8 w :=
 ⟨198,#[],rfl,enters_of Tryz.func198 (by kernel_rfl) rfl,fun p q W _ _ _=>by rw [Nr]; exact FL p.1 p.2.1 q.1 q.2.1 p.2.2 q.2.2 W⟩
theorem G4 (lo:Nat) (w:World):rB lo (.func (.func 201) #[] #[]) oC w :=
 ⟨201,#[],rfl,enters_of Tryz.func201 (by kernel_rfl) rfl,fun p q W hp hq _=>by rw [Nr]; exact EO p.1 p.2.1 q.1 q.2.1 p.2.2 q.2.2 W (pU hp) (pU hq)⟩
theorem F2 (p q:Vl) (w:World):Calls Tryz.prog 202 #[fW p,fW q] w fun e w'=>e = .returned (fW (l6 p q))∧Below w.heap.size w w':=by
 obtain ⟨k,n,s⟩:=p;obtain ⟨k',n',s'⟩:=q;by_cases h:k=1
 ·subst h;have e:l6 (1,n,s) (k',n',s')=(k',n',s'):=rfl;rw [e];go_enter Tryz.func202,Tryz.ntmps202;go_wp2_with fail
  have A0:=((gu.new w (.int .i64 1) (.int .i64 n) (.string s) 24).alloc (.cells #[.int .i64 k',.int .i64 n',.string s'] 24)).alloc (.cells #[.int .i64 0,.int .i64 0,.string ⟨#[]⟩] 24);have B0:=(gu.new (w.alloc (.cells #[.int .i64 1,.int .i64 n,.string s] 24)) (.int .i64 k') (.int .i64 n') (.string s') 24).alloc (.cells #[.int .i64 0,.int .i64 0,.string ⟨#[]⟩] 24);have R0:=gu.new ((w.alloc (.cells #[.int .i64 1,.int .i64 n,.string s] 24)).alloc (.cells #[.int .i64 k',.int .i64 n',.string s'] 24)) (.int .i64 0) (.int .i64 0) (.string ⟨#[]⟩) 24;simp only [Mf] at B0 R0
  refine (oo _ _ _ _).mono ?_;rintro e w1 ⟨rfl,hb1⟩;have ⟨b0,b1,b2,b3,b4,b5,b6⟩:=B0.next hb1;have ⟨r0,r1,r2,r3,r4,r5,r6⟩:=R0.next hb1;have z1:=hb1.size;simp at z1;go_wp2
  exact Me (v:=.agg #[.int .i64 k',.int .i64 n',.string s']) (by simp [results,Tryz.results202,go_sem,r1,r2,r3]) rfl ⟨rfl,aF (ji hb1) (by omega)⟩
 ·have e:l6 (k,n,s) (k',n',s')=(k,n,s):=by simp [l6,h]
  rw [e];have q1:(k == 1)=false:=by simpa using h
  go_enter Tryz.func202,Tryz.ntmps202;go_wp2_with fail
  have A0:=((gu.new w (.int .i64 k) (.int .i64 n) (.string s) 24).alloc (.cells #[.int .i64 k',.int .i64 n',.string s'] 24)).alloc (.cells #[.int .i64 0,.int .i64 0,.string ⟨#[]⟩] 24);have R0:=gu.new ((w.alloc (.cells #[.int .i64 k,.int .i64 n,.string s] 24)).alloc (.cells #[.int .i64 k',.int .i64 n',.string s'] 24)) (.int .i64 0) (.int .i64 0) (.string ⟨#[]⟩) 24;simp only [Mf] at R0;refine (oo _ _ _ _).mono ?_;rintro e w1 ⟨rfl,hb1⟩;rw [q1];have ⟨b0,b1,b2,b3,b4,b5,b6⟩:=A0.next hb1;have ⟨r0,r1,r2,r3,r4,r5,r6⟩:=R0.next hb1;have z1:=hb1.size;simp at z1;go_wp2
  exact Me (v:=.agg #[.int .i64 k,.int .i64 n,.string s]) (by simp [results,Tryz.results202,go_sem,r1,r2,r3]) rfl ⟨rfl,aF (ji hb1) (by omega)⟩
theorem Iy (lo:Nat) (w:World):rB lo (.func (.func 202) #[] #[]) l6 w :=
 ⟨202,#[],rfl,enters_of Tryz.func202 (by kernel_rfl) rfl,fun p q W _ _ _=>by rw [Nr]; exact F2 p q W⟩
end Go.Proofs.YtjebpkhkjkjphaaGreat
