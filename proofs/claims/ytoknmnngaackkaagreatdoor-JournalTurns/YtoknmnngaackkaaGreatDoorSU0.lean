/- Together: JG2, JG3, JG4, JT1, JT2, JT3. -/
import Derived.Deep.DeepCutAuto
import Derived.Test.YtoknmnngaackkaaGreatDoorST13
import Derived.Test.YtoknmnngaackkaaGreatDoorST12
import Derived.Test.YtoknmnngaackkaaGreatDoorST14
namespace Go.Proofs.YtoknmnngaackkaaGreatDoor
open Go.RowKit Go.Lib Go.Shelf
set_option maxRecDepth 100000
set_option maxHeartbeats 16000000
set_option maxRecDepth 100000
set_option maxHeartbeats 4000000
def cH (l:List cM):List UInt8:=l.flatMap fun x=>dL (bW [x]).1
theorem l8 (a b:List cM):cH (a ++ b)=cH a ++ cH b:=List.flatMap_append
theorem jE:∀ (l:List cM) (i:Nat) (acc r:List UInt8),ga i acc l = .ok r→r=acc ++ cH l∧∀ x ∈ l,(bW [x]).2.1=0
 | [],i,acc,r,h=>by rw [ga] at h; cases h; exact ⟨by simp [cH],by simp⟩
 | x :: l,i,acc,r,h=>by
  rw [ga] at h
  by_cases e:(bW [x]).2.1≠0
  ·rw [if_pos e] at h; cases h
  ·rw [if_neg e] at h
   by_cases hb:100000<(acc ++ dL (bW [x]).1).length
   ·rw [if_pos hb] at h; cases h
   ·rw [if_neg hb] at h
    obtain ⟨h1,h2⟩:=jE l _ _ _ h
    refine ⟨by rw [h1,Jg]; rfl,fun y hy=>?_⟩
    rcases List.mem_cons.1 hy with rfl | hy
    ·simpa using e
    ·exact h2 y hy
theorem rK:∀ (l:List cM) (i:Nat) (acc:List UInt8),(∀ x ∈ l,(bW [x]).2.1=0)→(acc ++ cH l).length≤100000→ga i acc l = .ok (acc ++ cH l)
 | [],i,acc,_,_=>by rw [ga]; simp [cH]
 | x :: l,i,acc,h,hl=>by
  have e:acc ++ cH (x :: l)=(acc ++ dL (bW [x]).1) ++ cH l:=by simp [cH]
  rw [e] at hl ⊢
  rw [ga,if_neg (by simpa using h x (by simp)),if_neg (by rw [Jf] at hl; omega),rK l _ _ (fun y hy=>h y (by simp [hy])) hl]
theorem tz (t:ByteArray) (rest:List UInt8) (h:t.size≤4000):eV (fU t ++ rest)=t.size:=by
 unfold fU;rw [Jg];exact uB ak _
theorem yt {t:ByteArray} (h:t.size≤4000) (rest:List UInt8):dd (dL t ++ rest)=(t,t.size+4):=by
 have hl:=jz t;have hh:=kW t;have e:dL t ++ rest=fU t ++ (uw (jt 7439 (fU t)) ++ rest):=by unfold dL; rw [Jg]
 have hp:eV (dL t ++ rest)=t.size:=by rw [e]; exact tz t _ h
 unfold dd;rw [hp,if_neg (by rw [Jf]; omega),if_neg (by rw [Jf]; omega)];have hd:(dL t ++ rest).drop (2+t.size)=uw (jt 7439 (fU t)) ++ rest:=by
  rw [e,List.drop_left' ak]
 have ht:(dL t ++ rest).take (2+t.size)=fU t:=by
  rw [e,List.take_left' ak]
 rw [hd,ht,if_pos (uB (rL _ _ (by decide)) _)];have hb:((dL t ++ rest).drop 2).take t.size=t.data.toList:=by
  rw [e];unfold fU;rw [Jg];show ((t.data.toList ++ _)).take t.size=_;rw [List.take_left' (ek t)]
 rw [hb];exact Prod.ext rfl (by show 2+t.size+2=t.size+4; omega)
theorem vV {x:cM} (h:(bW [x]).2.1=0):fq (bW [x]).1=some (ct x):=by
 obtain ⟨h1,h2⟩:=rR h;unfold fq;rw [h1,h2,if_pos rfl];show (if (bW [ct x]).2.1=0∧(bW [ct x]).1=(bW [x]).1 then some (ct x) else none)=_;rw [AU h,if_pos ⟨h,rfl⟩]
theorem uu:∀ (l:List cM) (n:Nat) (bs:List UInt8) (p:Nat) (acc:List cM) (rest:List UInt8),bs.drop p=cH l ++ rest→(∀ x ∈ l,(bW [x]).2.1=0)→km (n+l.length) bs p acc=km n bs (p+(cH l).length) (acc ++ l.map ct)
 | [],n,bs,p,acc,rest,_,_=>by simp [cH]
 | x :: l,n,bs,p,acc,rest,hd,h=>by
  have hx:=h x (by simp)
  have e:cH (x :: l) ++ rest=dL (bW [x]).1 ++ (cH l ++ rest):=by simp [cH]
  rw [e] at hd
  have ha:=yt (oX hx) (cH l ++ rest)
  rw [← hd] at ha
  rw [Jo,← Nat.add_assoc,km,ha]
  simp only [vV hx]
  have hd2:bs.drop (p+((bW [x]).1.size+4))=cH l ++ rest:=by
   rw [← List.drop_drop,hd,← jz,List.drop_left]
  rw [uu l n bs _ _ rest hd2 fun y hy=>h y (by simp [hy])]
  congr 1
  ·show p+((bW [x]).1.size+4)+(cH l).length=p+(cH (x :: l)).length;have:(cH (x :: l)).length=(dL (bW [x]).1).length+(cH l).length:=by simp [cH]
   rw [this,jz];omega
  ·simp
theorem qP {n:Nat} {bs:List UInt8} {p:Nat} {acc:List cM} (h:(dd (bs.drop p)).1=eB):km n bs p acc=(acc,p):=by
 cases n with
 | zero=>rfl
 | succ n=>rw [km,h,iT]
theorem kX:∀ l:List cM,l.length≤(cH l).length
 | []=>I6 _
 | x :: l=>by
  have:(cH (x :: l)).length=(dL (bW [x]).1).length+(cH l).length:=by simp [cH]
  rw [this,jz,Jo]
  have:=kX l
  omega
theorem yY {l:List cM} {rest:List UInt8} (h:∀ x ∈ l,(bW [x]).2.1=0) (hr:(dd rest).1=eB):eF (cH l ++ rest)=(l.map ct,(cH l).length):=by
 unfold eF;have hle:=kX l;have e:(cH l ++ rest).length+1=((cH l ++ rest).length+1 - l.length)+l.length:=by rw [Jf]; omega
 rw [e,uu l _ _ 0 [] rest (by simp) h,qP]
 ·simp
 ·rw [Jm,List.drop_left]; exact hr
set_option maxHeartbeats 8000000
theorem bf.zP {α:Type} {En:jP α} {size:Nat} {S:Nat→Prop} {W:World} {a:Option Addr} {l:List α} (h:bf En size S W a l) (k:Nat):bf En size S W a (l.take k):=by
 rcases h with rfl | ⟨b,off,e,h1,h2,h3⟩
 ·exact .inl (by simp)
 ·refine .inr ⟨b,off,e,h1,h2,fun i hi=>?_⟩;rw [Jr] at hi;obtain ⟨cs,c1,c2,c3⟩:=h3 i ak;exact ⟨cs,c1,c2,by rw [List.getElem_take]; exact c3⟩
theorem bf.Hy {α:Type} {En:jP α} {size:Nat} {S:Nat→Prop} {W:World} {b off:Nat} {l:List α} (h:bf En size S W (some (af b off)) l) {k:Nat} (hk:k<l.length):bf En size S W (some ⟨b,off+k*size,none⟩) [l[k]]:=by
 rcases h with rfl | ⟨b',off',e,h1,h2,h3⟩
 ·simp at hk
 ·cases e;refine .inr ⟨b,_,rfl,h1,h2,fun i hi=>?_⟩;have:i=0:=by simpa using hi
  subst this;obtain ⟨cs,c1,c2,c3⟩:=h3 k hk;refine ⟨cs,c1,fun j u hu=>?_,c3⟩;have:=c2 j u hu
  rwa [show off+k*size+0*size+j=off+k*size+j by omega]
end Go.Proofs.YtoknmnngaackkaaGreatDoor
namespace Go.Proofs.YtoknmnngaackkaaGreatDoor
open Go.RowKit Go.Lib Go.Shelf Go.ChangeShapes Go.WideShapes Go.ChangeAt
set_option maxRecDepth 100000
set_option maxHeartbeats 16000000
theorem qf {H:Type} {enc:TypeId × Value→H} {W:World} {a:Option Addr} {n cap:Nat} {d:DataW H} {p:List MemPlace} (h:DataW.Trod enc Tryz.prog W 0 (fun _=>true) true 22 (.slice a n cap) d p):n≤cap:=by
 obtain ⟨fuel,hf⟩:=h;rcases DataW.trod_slice Tryz.underlying22 hf with ⟨hcs,_⟩ | ⟨a',len,cap',elems,rest,m,hm,hcs,hx,_,hc,_⟩
 ·simp [Value.cells] at hcs;omega
 ·simp [Value.cells] at hcs;obtain ⟨rfl,rfl,rfl⟩:=hcs;exact hc
end Go.Proofs.YtoknmnngaackkaaGreatDoor
namespace Go.Proofs.YtoknmnngaackkaaGreatDoor
open Go.RowKit Go.Lib Go.Shelf
set_option maxRecDepth 100000
set_option maxHeartbeats 16000000
set_option maxRecDepth 100000
set_option maxHeartbeats 8000000
theorem uO:∀ (l:List cM) (n:Nat),n≤(cH l).length→∃ k,k≤l.length∧(cH (l.take k)).length≤n∧(∀ h:k<l.length,n<(cH (l.take k)).length+(dL (bW [l[k]]).1).length)
 | [],n,h=>⟨0,I6 _,by simp [cH],fun h=>by simp at h⟩
 | x :: l,n,h=>by
  have e:(cH (x :: l)).length=(dL (bW [x]).1).length+(cH l).length:=by simp [cH]
  by_cases hn:(dL (bW [x]).1).length≤n
  ·obtain ⟨k,h1,h2,h3⟩:=uO l (n - (dL (bW [x]).1).length) ak
   have e2:(cH ((x :: l).take (k+1))).length=(dL (bW [x]).1).length+(cH (l.take k)).length:=by simp [cH]
   refine ⟨k+1,by simpa using h1,by omega,fun hk=>?_⟩
   have hk':k<l.length:=by simpa using hk
   have:=h3 hk'
   rw [e2,List.getElem_cons_succ]
   omega
  ·exact ⟨0,by omega,by simp [cH],fun _=>by show n<(cH []).length+(dL (bW [x]).1).length; omega⟩
theorem vH {t:ByteArray} (h:t.size≤4000) (more:List UInt8) {n:Nat} (hn:n<(dL t).length):(dd ((dL t ++ more).take n)).1=eB:=by
 have hl:=jz t;have e:(dL t ++ more).take n=(dL t).take n:=by rw [List.take_append,Nat.sub_eq_zero_of_le ak]; simp
 have hlen:((dL t).take n).length=n:=by rw [Jr]; omega
 rw [e];unfold dd;rw [hlen];by_cases h2:n<2
 ·rw [if_pos h2]
 ·have hp:eV ((dL t).take n)=t.size:=by
   have h1:eV ((dL t).take n)=eV (dL t):=by
    unfold eV;simp only [List.getD_eq_getElem?_getD,List.getElem?_take];rw [if_pos ak,if_pos ak]
   rw [h1];have e2:dL t=fU t ++ uw (jt 7439 (fU t)):=rfl;rw [e2];exact tz t _ h
  rw [if_neg h2,hp,if_pos ak]
theorem xI {l:List cM} {r:List UInt8} (hl:ga 0 [] l = .ok r) {n:Nat} (hn:n≤r.length):∃ k,k≤l.length∧eF (r.take n)=((l.take k).map ct,(cH (l.take k)).length)∧(cH (l.take k)).length≤n ∧
  (k=l.length→(cH (l.take k)).length=r.length)∧∀ h:k<l.length,ga 0 [] [l[k]] = .ok (dL (bW [l[k]]).1)∧n<(cH (l.take k)).length+(dL (bW [l[k]]).1).length:=by
 obtain ⟨h1,h2⟩:=jE l 0 [] r hl;rw [Jq] at h1;subst h1;have hlen:=jD l 0 [] (Jc _) hl;obtain ⟨k,k1,k2,k3⟩:=uO l n hn;refine ⟨k,k1,?_,k2,fun e=>by rw [e,JR],fun h=>⟨?_,k3 h⟩⟩
 ·have e:cH l=cH (l.take k) ++ cH (l.drop k):=by rw [← l8,List.take_append_drop]
  have e2:(cH l).take n=cH (l.take k) ++ (cH (l.drop k)).take (n - (cH (l.take k)).length):=by rw [e,List.take_append,Jx k2]
  rw [e2];refine yY (fun x hx=>h2 x (List.mem_of_mem_take hx)) ?_;by_cases hk:k<l.length
  ·have e3:=I9 hk;have e4:cH (l.drop k)=dL (bW [l[k]]).1 ++ cH (l.drop (k+1)):=by rw [e3]; exact JN
   rw [e4];exact vH (oX (h2 _ (Jk hk))) _ (by have:=k3 hk; omega)
  ·rw [JK ak];show (dd (([]:List UInt8).take _)).1=eB;rw [List.take_nil]; rfl
 ·have hr:(dL (bW [l[k]]).1).length≤(cH l).length:=by
   have e:cH l=cH (l.take k) ++ cH (l.drop k):=by rw [← l8,List.take_append_drop]
   have e3:=I9 h;have e4:cH (l.drop k)=dL (bW [l[k]]).1 ++ cH (l.drop (k+1)):=by rw [e3]; exact JN
   rw [e,e4,Jf,Jf]; omega
  have:=rK [l[k]] 0 [] (fun y hy=>by rw [JA] at hy; rw [hy]; exact h2 _ (Jk h)) (by simp [cH]; omega)
  simpa [cH] using this
theorem tk {w:World} (c:Nat) (hG:GP w w):Calls Tryz.prog 12 #[.slice none 0 c] w fun e w'=>Below w w w'∧e = .returned (.tuple #[aL,aB,aB]):=by
 have con:=jg [] none c (fun _=>True) (w:=w) (.inl rfl) (Jc _) (by decide)
 have HG:=ah hG;clear hG;go_enter Tryz.func12,Tryz.ntmps12;go_wp2_with fail
 go_loopw [5,6] (fun ov pv wr=>ov = .slice none 0 0∧pv = .int .i64 0∧wr=w) (fun _ _ _=>0)
 case atStart=>exact ⟨rfl,rfl,rfl⟩
 case round =>
  obtain ⟨rfl,rfl,rfl⟩:=hrel;go_wp2_with fail
  refine cR con fun w2 hb2=>?_;clear con;have con:=mK eB (HG.out.up hb2 (I6 _) hb2.size);rw [iT] at con;go_wp2_with fail
  refine con.mono ?_;rintro e w3 ⟨hb3,rfl⟩;clear con;have hb:=chain hb2 hb3;have hal:=bR w3 (.cells cO 57);have hbe:=chain hb hal;go_wp2_with (first | (refine aT rfl 57 _ _ rfl cO cO rfl rfl dB rfl (eh rfl) ?_))
  exact I7 (v:=.tuple #[aL,aB,aB]) (by simp [results,Tryz.results12,go_sem]) rfl ⟨hbe,rfl⟩
def GS (A:Option Addr):Prop:=A=none∨∃ b off,A=some ⟨b,off,none⟩
def Ia (w:World) (r:Except Er (List UInt8)) (e:Ending) (w':World):Prop :=
 Below w w w'∧∃ A cap,e = .returned (.tuple #[.slice A (lf r).length cap,.agg #[.int .i64 (jr r).1,.int .i64 (jr r).2]])∧bf mC 1 (fun b=>w.heap.size≤b) w' A (lf r)∧(lf r).length≤cap∧GS A
theorem yR (a:Option Addr) (c:Nat) {w:World}:Calls Tryz.prog 10 #[.slice a 0 c] w fun e w'=>Below w w w'∧e = .returned (.tuple #[aL,.agg #[aB,aB]]):=by
 obtain ⟨hal1,QF⟩:=dZ w #[aB,aB] 27;go_enter Tryz.func10,Tryz.ntmps10;go_upto_block 0 with fail
 generalize w.alloc _=w1 at *;go_wp2_with fail
 go_loopw [4,11] (fun ov iv wr=>ov = .slice none 0 0∧iv = .int .i64 0∧wr=w1) (fun _ _ _=>0)
 case atStart=>exact ⟨rfl,rfl,rfl⟩
 case round =>
  obtain ⟨rfl,rfl,rfl⟩:=hrel;obtain ⟨f0,f1⟩:=dp QF;obtain ⟨q0,q1⟩:=kL QF;go_wp2_with fail
  have QE:=dJ QF aB aB;have hbE:=iW (g:=w.heap.size) hal1 (I6 _) aB aB;generalize ((wr.setCell (af w 0) aB).setCell (af w 1) aB)=wE at *;obtain ⟨x0,x1⟩:=dp QE;exact I7 (v:=.tuple #[aL,.agg #[aB,aB]]) (by simp [results,Tryz.results10,go_sem,x0,x1]) rfl ⟨hbE,rfl⟩
theorem qL (l:List cM) (a:Option Addr) (c:Nat) {w:World} (hG:GP w w) (hn:l.length≤1000000000000000) (hks:bf cy 16 (fun b=>b<w.heap.size) w a l):Calls Tryz.prog 10 #[.slice a l.length c] w (Ia w (ga 0 [] l)):=by
 by_cases hl:l = []
 ·subst hl;refine (yR a c).mono ?_;rintro e w2 ⟨hb,rfl⟩;exact ⟨hb,none,0,rfl,.inl rfl,I6 _,.inl rfl⟩
 ·refine (lM l a c hG hn hks).mono ?_;rintro e w2 ⟨hb,h⟩;cases hM:ga 0 [] l with
  | error x=>rw [hM] at h; exact ⟨hb,none,0,h,.inl rfl,I6 _,.inl rfl⟩
  | ok r =>
   rw [hM] at h;obtain ⟨A,cap,rfl,h2,h3⟩:=h;refine ⟨hb,A,cap,rfl,h2,h3,.inr ?_⟩;rcases h2 with h2 | ⟨b,off,e,_⟩
   ·exfalso;obtain ⟨h4,_⟩:=jE l 0 [] r hM;have:=kX l;rw [h2,Jq] at h4;rw [← h4] at this;exact hl (List.length_eq_zero_iff.1 (Nat.le_zero.1 this))
   ·exact ⟨b,off,e⟩
theorem qi:eF []=([],0):=qP (n:=1) (bs:=[]) (p:=0) (acc:=[]) rfl
theorem nc (bs:List UInt8) (A:Option Addr) (cap:Nat) {w:World} (hA:GS A) (hG:GP w w) (hl:bf mC 1 (fun b=>b<w.heap.size) w A bs) (hc:bs.length≤cap) (hn:bs.length≤100000):Calls Tryz.prog 12 #[.slice A bs.length cap] w fun e w'=>Below w w w'∧∃ a c,e = .returned (.tuple #[.slice a (eF bs).1.length c,.int .i64 ((eF bs).2:Nat),aB])∧bf cy 16 (fun b=>w.heap.size≤b) w' a (eF bs).1:=by
 rcases hA with rfl | ⟨b,off,rfl⟩
 ·have hb:bs = []:=by
   rcases hl with h | ⟨_,_,e,_⟩
   ·exact h
   ·cases e
  subst hb;refine (tk cap hG).mono ?_;rintro e w2 ⟨hb,rfl⟩;rw [qi];exact ⟨hb,none,0,rfl,.inl rfl⟩
 ·exact lG bs b off cap hG hl hc hn
theorem nT (l:List cM) (a:Option Addr) (c:Nat) (at':Int) {w:World} (hG:GP w w) (hn:l.length≤100000000000000) (hc:l.length≤c) (hl:bf cy 16 (fun b=>b<w.heap.size) w a l):Calls Tryz.prog 5 #[.slice a l.length c,at'] w fun e w'=>e = .returned true∧Below w w w':=by
 have con0:=pE hG;have HG:Hid (GP w w):=hG;have L0:Hid (bf cy 16 (fun b=>b<w.heap.size) w a l):=hl;have HN:Hid (l.length≤100000000000000∧l.length≤c):=⟨hn,hc⟩
 clear hl hG hn hc;go_enter Tryz.func5,Tryz.ntmps5;go_wp2_with fail
 refine con0.mono ?_;rintro e w1 ⟨hb1,rfl⟩;have low:∀ {W:World} {a:Option Addr} {l:List cM},Below w w W→bf cy 16 (fun b=>b<w.heap.size) w a l→bf cy 16 (fun b=>b<W.heap.size) W a l:=fun hb h=>bf.mono bJ (fun b h _=>Ja h hb.size) (h.nx bJ (hb:Below w w _))
 have gup:∀ {W:World},Below w w W→GP W W.heap.size:=fun hb=>HG.out.up hb (I6 _) hb.size
 have con1:=qL l a c (gup hb1) (by have:=HN.out; omega) (low hb1 L0.out);have HB1:Hid (Below w w w1):=hb1;obtain ⟨A,hA⟩:∃ A,A=ga 0 [] l:=⟨_,rfl⟩
 have HA':Hid (ga 0 [] l=A):=hA.symm;rw [← hA] at con1;clear con0 hb1 hA;go_wp2_with fail
 refine con1.mono ?_;rintro e w2 ⟨hb2,aA,cA,rfl,LA,hcA,hAd⟩;clear con1;have hal3:=bR w2 (.cells #[.int .i64 (jr A).1,.int .i64 (jr A).2] 27);have QA:=aD w2 #[.int .i64 (jr A).1,.int .i64 (jr A).2] 27;have hb3:=chain hb2 hal3;have HB3:Hid (Below w w (w2.alloc (.cells #[.int .i64 (jr A).1,.int .i64 (jr A).2] 27))):=HB1.out.trans (hb3.mono HB1.out.size)
 have LA3:Hid (bf mC 1 (fun b=>b<w2.heap.size) (w2.alloc (.cells #[.int .i64 (jr A).1,.int .i64 (jr A).2] 27)) aA (lf A)):=(LA.mono pK fun b _ h=>h).nx pK hal3;have HC:Hid ((lf A).length≤cA):=hcA;have HAD:Hid (GS aA):=hAd;have hg3:w.heap.size≤w2.heap.size:=by have:=HB1.out.size; have:=hb2.size; omega
 clear LA hal3 hb2 hb3 HB1 hcA hAd;go_upto_region 4 with fail
 generalize (w2.alloc (.cells #[.int .i64 (jr A).1,.int .i64 (jr A).2] 27))=w3 at *;obtain ⟨a0,a1⟩:=dp QA;by_cases h1:(jr A).1=0
 case neg =>
  have z1:((jr A).1 != 0)=true:=by rw [bne_iff_ne]; exact h1
  clear h1;go_wp2_with fail
  go_ret;exact ⟨rfl,HB3.out⟩
 rw [h1] at a0;by_cases h2:at'<0
 case pos =>
  clear h1;go_wp2_with fail
  go_ret;exact ⟨rfl,HB3.out⟩
 obtain ⟨n,rfl⟩:∃ n:Nat,at'=n:=⟨at'.toNat,by omega⟩
 obtain ⟨r,rfl⟩:∃ r,A = .ok r:=by
  cases A with
  | ok r=>exact ⟨r,rfl⟩
  | error e=>exact absurd h1 (oe l _ _ HA'.out)
 clear h1;have e1:(lf (.ok r):List UInt8)=r:=rfl;have LA4:Hid (bf mC 1 (fun b=>b<w2.heap.size) w3 aA r):=LA3.out;have HC4:Hid (r.length≤cA):=HC.out;clear LA3 HC e1;by_cases h3:(r.length:Int)<(n:Int)
 case pos =>
  have h3':((lf (.ok r):List UInt8).length:Int)<(n:Int):=h3;go_wp2_with fail
  go_ret;exact ⟨rfl,HB3.out⟩
 have h3':¬ ((lf (.ok r):List UInt8).length:Int)<(n:Int):=h3;obtain ⟨k,k1,k2,k3,k4,k5⟩:=xI HA'.out (n:=n) ak;have hnr:n≤r.length:=by omega
 have hr5:=jD l 0 [] (Jc _) HA'.out;obtain ⟨q,hq⟩:∃ q,(cH (l.take k)).length=q:=⟨_,rfl⟩
 rw [hq] at k2 k3 k4 k5;have HT:Hid ((k=l.length→q=r.length)∧∀ h:k<l.length,ga 0 [] [l[k]] = .ok (dL (bW [l[k]]).1)∧n<q+(dL (bW [l[k]]).1).length):=⟨k4,k5⟩
 have hx:=(jE l 0 [] r HA'.out).2;have HX:Hid (∀ x ∈ l.take k,(bW [x]).2.1=0):=fun x h=>hx x (List.mem_of_mem_take h)
 have hk5:k≤100000:=by have h1:=kX (l.take k); rw [hq,Jr,Nat.min_eq_left k1] at h1; omega
 have hlk:(l.take k).length=k:=by rw [Jr,Nat.min_eq_left k1]
 have hlb:((l.take k).map ct).length=k:=by rw [JB,hlk]
 have hBD:∀ x ∈ (l.take k).map ct,sQ x:=fun x h=>by
  obtain ⟨y,hy,rfl⟩:=List.mem_map.1 h;exact (vY (HX.out y hy)).2 _ (by simp)
 have hGD:∀ x ∈ l.take k,yi x:=fun x h=>(vB (iX (HX.out x h)).1).2 x (by simp)
 have con2:Calls Tryz.prog 12 #[.slice aA n cA] w3 fun e w'=>Below w3 w3 w'∧∃ a c,e = .returned (.tuple #[.slice a k c,.int .i64 (q:Nat),aB])∧bf cy 16 (fun b=>w3.heap.size≤b) w' a ((l.take k).map ct):=by
  have:=nc (r.take n) aA cA (w:=w3) HAD.out (gup HB3.out) ((LA4.out.zP n).mono pK fun b h _=>by have:b<w2.heap.size:=h; have:=lt_of_heap QA; show b<_; omega) (by rw [Jr]; have:=HC4.out; omega) (by rw [Jr]; omega);rw [k2,Jr,Nat.min_eq_left hnr] at this;rw [hlb] at this;exact this
 have con3:∀ W,Below w w W→Calls Tryz.prog 14 #[.slice a k c] W fun e w'=>Below W W w'∧∃ a' c',e = .returned (.slice a' k c')∧bf cy 16 (fun _=>True) w' a' ((l.take k).map ct):=fun W hW=>by
  have:=mU (l.take k) (by rw [hlk]; exact hk5) hGD a c W (low hW (L0.out.zP k));rw [hlk] at this;unfold G9 at this;rw [hlb] at this;exact this
 have con4:∀ (W:World) (a1 a2:Option Addr) (c1 c2:Nat),bf cy 16 (fun _=>True) W a1 ((l.take k).map ct)→bf cy 16 (fun _=>True) W a2 ((l.take k).map ct)→Calls Tryz.prog 13 #[.slice a1 k c1,.slice a2 k c2] W (Cm W):=fun W a1 a2 c1 c2 x1 x2=>by
  have:=oP ((l.take k).map ct) (by rw [hlb]; exact hk5) hBD a1 a2 c1 c2 W ⟨x1,x2⟩;rw [hlb] at this;exact this
 have H3:Hid _:=con3;have H4:Hid _:=con4;generalize (l.take k).map ct=B at *;have hcn:(n:Int)≤(cA:Int):=by have:=HC4.out; omega
 have hqn:(q:Int)≤(n:Int):=by omega
 have hkl:(k:Int)≤(l.length:Int):=by omega
 have hkc:(k:Int)≤(c:Int):=by have:=HN.out; omega
 have HKL:Hid (k≤l.length):=k1;have HNR:Hid (n≤r.length∧r.length≤100000):=⟨hnr,hr5⟩
 clear k2 k3 k4 k5 con3 con4 hq hx HX hlk hlb hBD hGD hr5 hnr k1 LA4 HC4 HAD;go_upto_region 6 with fail
 clear h3' a0 a1 h3;go_wp2_with fail
 refine con2.mono ?_;rintro e w4 ⟨hb4,am,cm,rfl,Lm⟩;clear con2;have HB4:Hid (Below w w w4):=chain HB3.out hb4;have QA4:=bH hb4 QA;have con:=H3.out w4 HB4.out;have HLm:Hid (bf cy 16 (fun _=>True) w4 am B):=Lm.mono bJ fun _ _ _=>trivial
 have HQ4:Hid _:=QA4;clear Lm hb4 QA QA4;go_wp2_with fail
 refine con.mono ?_;rintro e w5 ⟨hb5,a3,c3,rfl,L3⟩;clear con;have con:=H4.out w5 am a3 cm c3 (HLm.out.nx bJ hb5) L3;go_wp2_with fail
 refine cR con fun w6 hb6=>?_;clear con;have hb56:=chain hb5 hb6;have HB6:Hid (Below w w w6):=chain HB4.out hb56;have Q6:=(hb56.block _ (lt_of_heap HQ4.out)).trans HQ4.out;have HQ6:Hid _:=Q6;clear hb5 hb6 hb56 L3 HLm HB4 HQ4 Q6 H3 H4;by_cases hkk:k=l.length
 ·have b1:((k:Int) == (l.length:Int))=true:=by rw [hkk]; exact beq_self_eq_true _
  have b2:((q:Int) == ((lf (.ok r):List UInt8).length:Int))=true:=by rw [HT.out.1 hkk]; exact beq_self_eq_true _
  clear hkk;go_wp2_with fail
  go_ret;exact ⟨rfl,HB6.out⟩
 ·have b1:((k:Int) == (l.length:Int))=false:=by rw [beq_eq_false_iff_ne]; omega
  have hlt:k<l.length:=by have:=HKL.out; omega
  obtain ⟨p2,p3⟩:=HT.out.2 hlt;obtain ⟨b,off,rfl,-⟩:=L0.out.Gw hlt;have con5:=lM [l[k]] (some ⟨b,off+k*16,none⟩) (c - k) (gup HB6.out) (by simp) (low HB6.out (L0.out.Hy hlt));rw [p2] at con5;have kk1:k≤k+1:=Nat.le_succ _;have kk2:k+1≤l.length:=hlt;have kk3:k+1≤c:=by have:=HN.out; omega
  have kk4:k<100000000000000:=by have:=HN.out; omega
  have HR:Hid (n<q+(dL (bW [l[k]]).1).length∧(dL (bW [l[k]]).1).length≤100000∧q≤100000):=⟨p3,jD [l[k]] 0 [] (Jc _) p2,by have:=HNR.out; omega⟩
  generalize dL (bW [l[k]]).1=R at *;have con6:Calls Tryz.prog 10 #[.slice (some ⟨b,off+k*16,none⟩) 1 (c - k)] w6 (nH w6 (.ok R)):=con5;clear p2 p3 hkk con5;clear hkl hkc hqn hcn;dsimp only;go_upto_region 11 with fail
  have hz2:=lt_of_heap HQ6.out;go_wp2_with fail
  refine con6.mono ?_;rintro e w7 ⟨hb7,aP,cP,rfl,LP,hcP⟩;clear con6 kk1 kk2 kk3 kk4 LP hcP;have Q7:=(hb7.block _ hz2).trans HQ6.out;have HB7:Hid (Below w w w7):=chain HB6.out hb7;obtain ⟨c0,c1⟩:=dp Q7;obtain ⟨g0,g1⟩:=kL Q7;go_upto_region 12 with fail
  have QE:=dJ Q7 aB aB;have HBE:Hid (Below w w ((w7.setCell (af w2 0) aB).setCell (af w2 1) aB)):=iW (g:=w2.heap.size) HB7.out hg3 aB aB;clear c0 c1 g0 g1 Q7 hb7 HB7 HB6 HQ6;generalize ((w7.setCell (af w2 0) aB).setCell (af w2 1) aB)=wE at *;obtain ⟨x0,x1⟩:=dp QE;have hRz:(R.length:Int)≤100000:=by have:=HR.out; omega
  have hqz:(q:Int)≤100000:=by have:=HR.out; omega
  have hsum:(n:Int)<(q:Int)+(R.length:Int):=by have:=HR.out; omega
  go_wp2_with fail
  go_ret;exact ⟨rfl,HBE.out⟩
end Go.Proofs.YtoknmnngaackkaaGreatDoor
