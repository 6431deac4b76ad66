import Derived.Test.YtoefpglknaiaeaaGreatMW2
set_option maxHeartbeats 16000000
set_option maxRecDepth 100000
namespace Go.Proofs.YtoefpglknaiaeaaGreat
open Go.RowKit _root_.Go.Proofs.Tryz
theorem AX {l:List Vl} (h:bZ l=true) {k:Nat} (hk:k<l.length):1≤l[k].1∧l[k].1≤4:=by
 unfold bZ at h;rw [NZ] at h;have hw:=h l[k] (MC hk);simp only [beq_iff_eq] at hw;unfold aO at hw;by_cases h1:l[k].1=1
 ·omega
 by_cases h2:l[k].1=2
 ·omega
 by_cases h3:l[k].1=3
 ·omega
 by_cases h4:l[k].1=4
 ·omega
 ·simp [h1,h2,h3,h4] at hw
theorem eW (a a':Option Addr) (cap cap':Nat) (l l':List Vl) (w:World) (h:aZ w a l) (h':aZ w a' l') (hr:bZ l=true) :
  Calls prog 114 #[.slice a l.length cap,.slice a' l'.length cap'] w fun e w'=>e = .returned (.int .i64 (aF l l'))∧Below w w w':=by
 have hl:=h.1;have hl':=h'.1;unfold maxLen at hl hl';have HR:=aB hr;clear hr;go_enter func114,ntmps114;go_wp2
 go_loopw [5] (fun i w1=>∃ k:Nat,k≤l.length∧k≤l'.length∧i = .int .i64 k∧Hid (aF l l'=aF (l.drop k) (l'.drop k))∧Below w w w1) (fun i _=>l.length - (intOf i).toNat)
 case atStart=>exact ⟨0,MD _,MD _,rfl,rfl,Mz _ _⟩
 case round =>
  obtain ⟨k,hk,hk',rfl,HC,hb⟩:=hrel;have hz:=hb.size;by_cases hlt:k<l.length
  ·have b1:((k:Int) == (l.length:Int))=false:=by simp; omega
   by_cases hlt':k<l'.length
   ·have b2:((k:Int) == (l'.length:Int))=false:=by simp; omega
    have i0:(0:Int)≤(k:Int):=by omega
    have i1:(k:Int)<(l.length:Int):=by omega
    have i2:(k:Int)<(l'.length:Int):=by omega
    obtain ⟨b,off,rfl,hbl,c0,c1,c2⟩:=(h.next hb).elem hlt;obtain ⟨b',off',rfl,hbl',d0,d1,d2⟩:=(h'.next hb).elem hlt';have ⟨g0,g1⟩:=AX HR.out hlt;have p0:=ak c0;have p1:=ak c1;have p2:=ak c2;have p3:=ak d0;have p4:=ak d1;have p5:=ak d2;haveI:Nonempty (cF wr):=⟨⟨wr,Mz _ _⟩⟩
    by_cases e:dP l[k] l'[k]=0
    ·have E:Hid (dP l[k] l'[k]=0):=e;have E2:cR l[k].1 l[k].2.1 l[k].2.2 l'[k].1 l'[k].2.1 l'[k].2.2=0:=e;clear e;go_wp2_with fail
     refine aq aG aG ?_
     repeat (go_big_quiet_step (first | (go_at_call 157; exact cG (dz _ _ _ _ _ _ _ g0 g1))))
     refine wpQuiet_nil ?_;rintro _ ⟨⟨w2,hb2⟩,rfl⟩;go_wp2
     go_roundw
     case rel=>exact ⟨k+1,by omega,by omega,by go_num,HC.out.trans (by rw [mS l l' k hlt hlt',if_pos E.out]),chain hb hb2⟩
     case measure=>simp [intOf]; omega
    ·have E:=aB e;have E2:(cR l[k].1 l[k].2.1 l[k].2.2 l'[k].1 l'[k].2.1 l'[k].2.2 != 0)=true:=by simpa [dP] using e
     clear e;go_wp2_with fail
     refine aq aG aG ?_
     repeat (go_big_quiet_step (first | (go_at_call 157; exact cG (dz _ _ _ _ _ _ _ g0 g1))))
     refine wpQuiet_nil ?_;rintro _ ⟨⟨w2,hb2⟩,rfl⟩;go_wp2
     go_ret;exact ⟨aH (by rw [HC.out,mS l l' k hlt hlt',if_neg E.out]; rfl),chain hb hb2⟩
   ·have b2:((k:Int) == (l'.length:Int))=true:=by simp; omega
    go_wp2
    go_ret;exact ⟨aH (by rw [HC.out,vr l l' k hlt ag]),hb⟩
  ·have b1:((k:Int) == (l.length:Int))=true:=by simp; omega
   by_cases hlt':k<l'.length
   ·have b2:((k:Int) == (l'.length:Int))=false:=by simp; omega
    go_wp2
    go_ret;exact ⟨aH (by rw [HC.out,tQ l l' k ag hlt']),hb⟩
   ·have b2:((k:Int) == (l'.length:Int))=true:=by simp; omega
    go_wp2
    go_ret;exact ⟨aH (by rw [HC.out,vQ l l' k ag ag]),hb⟩
def gK:List Vl→Int
 | []=>0
 | v :: r=>if aO v.1 v.2.1 v.2.2=0 then gK r else aO v.1 v.2.1 v.2.2
def aQ (l:List Vl):Int:=if 8<l.length then 5 else gK l
def gV (w:Int):Bool:=decide (-1000000≤w) && decide (w≤1000000)
theorem j5 (l:List Vl) (k:Nat) (h:k<l.length):gK (l.drop k)=if aO l[k].1 l[k].2.1 l[k].2.2=0 then gK (l.drop (k+1)) else aO l[k].1 l[k].2.1 l[k].2.2:=by
 rw [MI h]; rfl
theorem sm (l:List Vl) (k:Nat) (h:l.length≤k):gK (l.drop k)=0:=by rw [M7 h]; rfl
theorem oV:∀ (l:List Vl),gK l=0↔bZ l=true
 | []=>by simp [gK,bZ]
 | v :: r=>by
  have ih:=oV r
  unfold bZ at ih ⊢
  by_cases h:aO v.1 v.2.1 v.2.2=0 <;> simp [gK,h,ih]
theorem bR (l:List Vl):aQ l=0↔l.length≤8∧bZ l=true:=by
 unfold aQ;by_cases h:8<l.length
 ·rw [if_pos h];constructor
  ·intro h'; omega
  ·rintro ⟨h',_⟩; omega
 ·rw [if_neg h,oV];exact ⟨fun h'=>⟨by omega,h'⟩,fun h'=>h'.2⟩
theorem qH (a:Option Addr) (cap:Nat) (l:List Vl) (w:World) (h:aZ w a l) :
  Calls prog 51 #[.slice a l.length cap] w fun e w'=>e = .returned (.int .i64 (aQ l))∧Below w w w':=by
 have hl:=h.1;unfold maxLen at hl;by_cases h8:8<l.length
 ·have e:aQ l=5:=by simp [aQ,h8]
  rw [e];clear e;go_enter func51,ntmps51;go_wp2
  go_ret;exact ⟨rfl,Mz _ _⟩
 ·have e:aQ l=gK l:=by simp [aQ,h8]
  rw [e];clear e;go_enter func51,ntmps51;go_wp2_with fail
  go_loopw [11] (fun i w1=>∃ k:Nat,k≤l.length∧i = .int .i64 k∧Hid (gK l=gK (l.drop k))∧Below w w w1) (fun i _=>l.length - (intOf i).toNat)
  case atStart=>exact ⟨0,MD _,rfl,rfl,Mz _ _⟩
  case round =>
   obtain ⟨k,hk,rfl,HC,hb⟩:=hrel;have hz:=hb.size;by_cases hlt:k<l.length
   ·obtain ⟨b,off,rfl,hbl,c0,c1,c2⟩:=(h.next hb).elem hlt;by_cases hw:aO l[k].1 l[k].2.1 l[k].2.2=0
    ·have Hw:=aB hw;clear hw;go_wp2_with fail
     refine bC (js _ _ _ _) fun w1 hb1=>?_;rw [Hw.out];go_wp2
     go_roundw
     case rel=>exact ⟨k+1,by omega,by go_num,HC.out.trans (by rw [j5 l k hlt,if_pos Hw.out]),hb.trans (((Mz _ _).alloc hz _).trans (hb1.mono (by simp; omega)))⟩
     case measure=>simp [intOf]; omega
    ·have Hw:=aB hw;have hne:(aO l[k].1 l[k].2.1 l[k].2.2 != 0)=true:=by simpa using hw
     clear hw;go_wp2_with fail
     refine bC (js _ _ _ _) fun w1 hb1=>?_;go_wp2
     go_ret;exact ⟨aH (by rw [HC.out,j5 l k hlt,if_neg Hw.out]),hb.trans (((Mz _ _).alloc hz _).trans (hb1.mono (by simp; omega)))⟩
   ·go_wp2
    go_ret;exact ⟨aH (by rw [HC.out,sm l k ag]),hb⟩
theorem uF (a:Option Addr) (cap:Nat) (l:List Vl) (w:World) (h:aZ w a l) :
  Calls prog 112 #[.slice a l.length cap] w fun e w'=>e = .returned (.int .i64 (aQ l))∧Below w w w':=by
 have hl:=h.1;unfold maxLen at hl;by_cases h8:8<l.length
 ·have e:aQ l=5:=by simp [aQ,h8]
  rw [e];clear e;go_enter func112,ntmps112;go_wp2
  go_ret;exact ⟨rfl,Mz _ _⟩
 ·have e:aQ l=gK l:=by simp [aQ,h8]
  rw [e];clear e;go_enter func112,ntmps112;go_wp2_with fail
  go_loopw [11] (fun i w1=>∃ k:Nat,k≤l.length∧i = .int .i64 k∧Hid (gK l=gK (l.drop k))∧Below w w w1) (fun i _=>l.length - (intOf i).toNat)
  case atStart=>exact ⟨0,MD _,rfl,rfl,Mz _ _⟩
  case round =>
   obtain ⟨k,hk,rfl,HC,hb⟩:=hrel;have hz:=hb.size;by_cases hlt:k<l.length
   ·obtain ⟨b,off,rfl,hbl,c0,c1,c2⟩:=(h.next hb).elem hlt;by_cases hw:aO l[k].1 l[k].2.1 l[k].2.2=0
    ·have Hw:=aB hw;clear hw;go_wp2_with fail
     refine bC (gI _ _ _ _) fun w1 hb1=>?_;rw [Hw.out];go_wp2
     go_roundw
     case rel=>exact ⟨k+1,by omega,by go_num,HC.out.trans (by rw [j5 l k hlt,if_pos Hw.out]),hb.trans (((Mz _ _).alloc hz _).trans (hb1.mono (by simp; omega)))⟩
     case measure=>simp [intOf]; omega
    ·have Hw:=aB hw;have hne:(aO l[k].1 l[k].2.1 l[k].2.2 != 0)=true:=by simpa using hw
     clear hw;go_wp2_with fail
     refine bC (gI _ _ _ _) fun w1 hb1=>?_;go_wp2
     go_ret;exact ⟨aH (by rw [HC.out,j5 l k hlt,if_neg Hw.out]),hb.trans (((Mz _ _).alloc hz _).trans (hb1.mono (by simp; omega)))⟩
   ·go_wp2
    go_ret;exact ⟨aH (by rw [HC.out,sm l k ag]),hb⟩
theorem fR (n:Int) (w:World) :
  Calls prog 52 #[n] w fun e w'=>e = .returned (.bool (gV n))∧w'=w:=by
 by_cases h0:-1000000≤n
 ·have e:gV n=decide (n≤1000000):=by simp [gV,h0]
  rw [e];go_enter func52,ntmps52;go_wp2
  go_ret;exact ⟨rfl,rfl⟩
 ·have e:gV n=false:=by simp [gV,h0]
  rw [e];go_enter func52,ntmps52;go_wp2
  go_ret;exact ⟨rfl,rfl⟩
theorem iC (n:Int) (w:World) :
  Calls prog 113 #[n] w fun e w'=>e = .returned (.bool (!gV n))∧w'=w:=by
 by_cases h0:n < -1000000
 ·have e:gV n=false:=by simp [gV]; omega
  rw [e];go_enter func113,ntmps113;go_wp2
  go_ret;exact ⟨rfl,rfl⟩
 ·have e:(!gV n)=decide (1000000<n):=by
   have:-1000000≤n:=by omega
   by_cases h1:1000000<n
   ·have:¬ n≤1000000:=by omega
    simp [gV, *]
   ·have:n≤1000000:=by omega
    simp [gV, *]
  rw [e];go_enter func113,ntmps113;go_wp2
  go_ret;exact ⟨rfl,rfl⟩
abbrev Zp:Type:=List Vl × Int
def AO (W:World) (b off:Nat) (x:Zp):Prop :=
 W.cell? ⟨b,off+1,none⟩=some (.int .i64 x.2)∧∃ a cap,W.cell? (ah b off)=some (.slice a x.1.length cap)∧aZ W a x.1
theorem AO.next {W w1:World} {b off:Nat} {x:Zp} (h:AO W b off x) (hlt:b<W.heap.size) (hb:Below W W w1):AO w1 b off x:=by
 obtain ⟨h1,a,cap,h2,h3⟩:=h;exact ⟨(hb.cell (p:=⟨b,_,none⟩) hlt).trans h1,a,cap,(hb.cell (p:=⟨b,_,none⟩) hlt).trans h2,h3.next hb⟩
def aK (W:World) (a:Option Addr) (l:List Zp):Prop :=
 l.length≤maxLen∧(l = []∨∃ b off,a=some ⟨b,off,none⟩∧b<W.heap.size∧∀ (i:Nat) (h:i<l.length),AO W b (off+i*2) l[i])
theorem aK.next {W w1:World} {a:Option Addr} {l:List Zp} (h:aK W a l) (hb:Below W W w1):aK w1 a l:=by
 obtain ⟨h0,h | ⟨b,off,e,hlt,hr⟩⟩:=h
 ·exact ⟨h0,.inl h⟩
 ·exact ⟨h0,.inr ⟨b,off,e,My hlt hb.size,fun i hi=>(hr i hi).next hlt hb⟩⟩
theorem aK.elem {W:World} {a:Option Addr} {l:List Zp} (h:aK W a l) {k:Nat} (hk:k<l.length) :
  ∃ b off,a=some ⟨b,off,none⟩∧b<W.heap.size∧AO W b (off+k*2) l[k]:=by
 obtain ⟨_,h | ⟨b,off,e,hlt,hr⟩⟩:=h
 ·subst h; simp at hk
 ·exact ⟨b,off,e,hlt,hr k hk⟩
theorem aK.JZ {W:World} {a:Option Addr} {l:List Zp} (h:aK W a l) {j k:Nat} (hj:j<l.length) (hk:k<l.length) :
  ∃ b off,a=some ⟨b,off,none⟩∧b<W.heap.size∧AO W b (off+j*2) l[j]∧AO W b (off+k*2) l[k]:=by
 obtain ⟨_,h | ⟨b,off,e,hlt,hr⟩⟩:=h
 ·subst h; simp at hk
 ·exact ⟨b,off,e,hlt,hr j hj,hr k hk⟩
def uD:Option (List Vl)→List Zp→Int
 | _,[]=>0
 | p,x :: r=>if aQ x.1=0 then (if x.2=0∨gV x.2=false then 3 else if ∃ q,p=some q∧0≤aF q x.1 then 2 else uD (some x.1) r) else aQ x.1
def aM (l:List Zp):Int:=if 400<l.length then 5 else uD none l
def jd (l:List Zp) (k:Nat):Option (List Vl):=if k=0 then none else (l[k - 1]?).map (·.1)
theorem qN (l:List Zp) (k:Nat) (h:k<l.length):jd l (k+1)=some l[k].1:=by simp [jd,h]
theorem ti (l:List Zp) (k:Nat) (h:k<l.length) (h0:0<k):jd l k=some (l[k - 1]'ag).1:=by
 obtain ⟨j,rfl⟩:∃ j,k=j+1:=⟨k - 1,by omega⟩
 exact qN l j ag
theorem Cz (l:List Zp) (k:Nat) (h:l.length≤k):uD (jd l k) (l.drop k)=0:=by rw [M7 h]; rfl
theorem Cr (l:List Zp) (k:Nat) (h:k<l.length) (hw:¬ aQ l[k].1=0):uD (jd l k) (l.drop k)=aQ l[k].1:=by
 rw [MI h,uD,if_neg hw]
theorem oH (l:List Zp) (k:Nat) (h:k<l.length) (hw:aQ l[k].1=0) (h0:l[k].2=0∨gV l[k].2=false):uD (jd l k) (l.drop k)=3:=by
 rw [MI h,uD,if_pos hw,if_pos h0]
theorem yf (l:List Zp) (k:Nat) (h:k<l.length) (hw:aQ l[k].1=0) (h0:¬ l[k].2=0) (h1:gV l[k].2=true) (hp:0<k) (hc:0≤aF (l[k - 1]'ag).1 l[k].1):uD (jd l k) (l.drop k)=2:=by
 rw [MI h,uD,if_pos hw,if_neg (by simp [h0,h1]),if_pos ⟨_,ti l k h hp,hc⟩]
theorem px (l:List Zp) (k:Nat) (h:k<l.length) (hw:aQ l[k].1=0) (h0:¬ l[k].2=0) (h1:gV l[k].2=true) (hc:∀ _:0<k,¬ 0≤aF (l[k - 1]'ag).1 l[k].1):uD (jd l k) (l.drop k)=uD (jd l (k+1)) (l.drop (k+1)):=by
 rw [MI h,uD,if_pos hw,if_neg (by simp [h0,h1]),qN l k h];rw [if_neg];rintro ⟨q,hq,hc'⟩;by_cases hp:0<k
 ·rw [ti l k h hp] at hq;injection hq with hq
  subst hq;exact hc hp hc'
 ·have:k=0:=by omega
  subst this;simp [jd] at hq
theorem l9 {w wr w2:World} {o:Obj} (hb:Below w w wr) (h2:Below (wr.alloc o).heap.size (wr.alloc o) w2):Below w w w2 :=
 hb.trans (((Mz _ _).alloc hb.size _).trans (h2.mono (by have:=hb.size; simp; omega)))
theorem bg {w wr w2:World} (hb:Below w w wr) (h2:Below wr wr w2):Below w w w2 :=
 hb.trans (h2.mono hb.size)
theorem fP (a:Option Addr) (cap:Nat) (l:List Zp) (w:World) (h:aK w a l) :
  Calls prog 23 #[.slice a l.length cap] w fun e w'=>e = .returned (.int .i64 (aM l))∧Below w w w':=by
 have hl:=h.1;unfold maxLen at hl;by_cases h8:400<l.length
 ·have e:aM l=5:=by simp [aM,h8]
  rw [e];clear e;go_enter func23,ntmps23;go_wp2
  go_ret;exact ⟨rfl,Mz _ _⟩
 ·have e:aM l=uD none l:=by simp [aM,h8]
  rw [e];clear e;go_enter func23,ntmps23;go_wp2_with fail
  go_loopw [11] (fun i w1=>∃ k:Nat,k≤l.length∧i = .int .i64 k∧Hid (uD none l=uD (jd l k) (l.drop k))∧Below w w w1) (fun i _=>l.length - (intOf i).toNat)
  case atStart=>exact ⟨0,MD _,rfl,rfl,Mz _ _⟩
  case round =>
   obtain ⟨k,hk,rfl,HC,hb⟩:=hrel;have hz:=hb.size;by_cases hlt:k<l.length
   ·obtain ⟨b,off,rfl,hbl,c1,ar,cr,c0,sr⟩:=(h.next hb).elem hlt;have HZ:=aB h;clear h;by_cases hw:aQ l[k].1=0
    ·have Hw:Hid (aQ l[k].1=0):=hw;clear hw;go_wp2_with fail
     refine (qH _ _ _ _ (sr.next (aN ..))).mono ?_;rintro e w1 ⟨rfl,hb1⟩;rw [Hw.out];have hb1':=l9 hb hb1;have hz1:wr.heap.size<w1.heap.size:=by have:=hb1.size; simp at this; omega
     have e0:w1.cell? (ah wr 0)=some (.slice ar l[k].1.length cr):=(hb1.cell (p:=ah wr 0) (by simp)).trans (by simp);have e1:w1.cell? (ah wr 1)=some (.int .i64 l[k].2):=(hb1.cell (p:=ah wr 1) (by simp)).trans (by simp);by_cases h0:l[k].2=0
     ·have HN:=aB (HC.out.trans (oH l k hlt Hw.out (.inl h0)));go_wp2
      go_ret;exact ⟨aH HN.out.symm,hb1'⟩
     ·have g0:(l[k].2 == 0)=false:=by simpa using h0
      cases h1:gV l[k].2
      ·have HN:=aB (HC.out.trans (oH l k hlt Hw.out (.inr h1)));have H1:=aB h1;clear h1;go_wp2_with fail
       refine (fR _ _).mono ?_;rintro e w2 ⟨rfl,rfl⟩;rw [H1.out];go_wp2
       go_ret;exact ⟨aH HN.out.symm,hb1'⟩
      ·have H1:=aB h1;clear h1;by_cases hp:0<k
       ·obtain ⟨b',off',hh,hbl',⟨d1,ap,cp,d0,sp⟩,-⟩:=(HZ.out.next hb1').JZ (j:=k - 1) (k:=k) ag hlt;simp only [NQ,Addr.mk.injEq] at hh;obtain ⟨rfl,rfl,-⟩:=hh;have sr1:=(sr.next (aN ..)).next hb1;have i0:(0:Int)<(k:Int):=by omega
        have i1:(0:Int)≤(k:Int) - 1:=by omega
        have i2:(k:Int) - 1<(l.length:Int):=by omega
        have i3:((k:Int) - 1).toNat=k - 1:=by omega
        have p0:=ak d0;have p1:=ak e0;have p2:=ak e1;haveI:Nonempty (cF w1):=⟨⟨w1,Mz _ _⟩⟩
        by_cases hc:0≤aF (l[k - 1]'ag).1 l[k].1
        ·have HN:=aB (HC.out.trans (yf l k hlt Hw.out h0 H1.out hp hc));go_wp2_with fail
         refine (fR _ _).mono ?_;rintro e w2 ⟨rfl,rfl⟩;rw [H1.out];go_wp2_with fail
         refine aq aG aG ?_
         repeat (go_big_quiet_step (first | (go_at_call 53; exact cG (oU _ _ _ _ _ _ _ (sp.next (cF.ok _)) (sr1.next (cF.ok _))))))
         refine wpQuiet_nil ?_;rintro _ ⟨⟨w2,hb2⟩,rfl⟩;go_wp2
         go_ret;exact ⟨aH HN.out.symm,bg hb1' hb2⟩
        ·have HN:=aB (HC.out.trans (px l k hlt Hw.out h0 H1.out (fun _=>hc)));have hc':aF (l[k - 1]'ag).1 l[k].1<0:=by omega
         go_wp2_with fail
         refine (fR _ _).mono ?_;rintro e w2 ⟨rfl,rfl⟩;rw [H1.out];go_wp2_with fail
         refine aq aG aG ?_
         repeat (go_big_quiet_step (first | (go_at_call 53; exact cG (oU _ _ _ _ _ _ _ (sp.next (cF.ok _)) (sr1.next (cF.ok _))))))
         refine wpQuiet_nil ?_;rintro _ ⟨⟨w2,hb2⟩,rfl⟩;go_wp2
         go_roundw
         case rel=>exact ⟨k+1,by omega,by go_num,HN.out,bg hb1' hb2⟩
         case measure=>simp [intOf]; omega
       ·have k0:k=0:=by omega
        subst k0;have HN:=aB (HC.out.trans (px l 0 hlt Hw.out h0 H1.out (fun h=>absurd h hp)));haveI:Nonempty (cF w1):=⟨⟨w1,Mz _ _⟩⟩
        go_wp2_with fail
        refine (fR _ _).mono ?_;rintro e w2 ⟨rfl,rfl⟩;rw [H1.out];go_wp2_with fail
        refine aq aG aG ?_
        repeat (go_big_quiet_step (fail))
        refine wpQuiet_nil ?_;rintro _ ⟨⟨w2,hb2⟩,rfl⟩;go_wp2
        go_roundw
        case rel=>exact ⟨0+1,by omega,by go_num,HN.out,bg hb1' hb2⟩
        case measure=>simp [intOf]; omega
    ·have Hw:=aB hw;have hne:(aQ l[k].1 != 0)=true:=by simpa using hw
     have HN:=aB (HC.out.trans (Cr l k hlt hw));clear hw;go_wp2_with fail
     refine (qH _ _ _ _ (sr.next (aN ..))).mono ?_;rintro e w1 ⟨rfl,hb1⟩;go_wp2
     go_ret;exact ⟨aH HN.out.symm,l9 hb hb1⟩
   ·go_wp2
    go_ret;exact ⟨aH (by rw [HC.out,Cz l k ag]),hb⟩
theorem Tryz.fK:(Tryz.prog.info? 47).map (fun i=>(i.zero,i.size,i.bytes))=some (some (.agg #[bX,aD]),2,32):=by kernel_rfl
theorem Tryz.pD:(Tryz.prog.info? 24).map (fun i=>(i.zero,i.size,i.bytes))=some (some (.agg #[aD,aD,()]),3,32):=by kernel_rfl
def cM (v:Vl):Vl:=(v.1,dY v.1 v.2.1,gz v.1 v.2.2)
def aX (l:List Vl):List Vl:=l.map cM
def fi (W:World) (a:Option Addr):Prop:=∀ b off,a=some ⟨b,off,none⟩→∃ c z,W.heap[b]? = some (.cells c 24 z)
theorem fi.next {W w1:World} {a:Option Addr} (h:fi W a) (hb:Below W W w1):fi w1 a:=by
 intro b off e;obtain ⟨c,z,h1⟩:=h b off e;have hlt:b<W.heap.size:=by
  rcases Nl b W with h | h
  ·exact h
  ·rw [Nz h] at h1; cases h1
 exact ⟨c,z,(hb.block b hlt).trans h1⟩
theorem tj {W w1:World} (hb:Below W W w1) (row:Option Nat):W.grownBy w1 row:=⟨hb.os,hb.tape,hb.output,hb.size,fun k hk _=>hb.block k hk⟩
theorem aL {W w1:World} {base e size n:Nat} {v:Value} {xs:List Value} (h:W.ownsRow base e size v n xs) (hb:Below W W w1):w1.ownsRow base e size v n xs:=by
 refine h.kept (tj hb none) ?_;cases v.ownBlock <;> simp
def yX (W:World) (xs:List Value) (l:List Zp):Prop :=
 xs.length=l.length*2∧∀ (i:Nat) (h:i<l.length),∃ a cap,xs[i*2]? = some (.slice a l[i].1.length cap)∧xs[i*2+1]? = some (.int .i64 l[i].2)∧aZ W a l[i].1∧fi W a
theorem yX.next {W w1:World} {xs:List Value} {l:List Zp} (h:yX W xs l) (hb:Below W W w1):yX w1 xs l :=
 ⟨h.1,fun i hi=>by
  obtain ⟨a,cap,h1,h2,h3,h4⟩:=h.2 i hi
  exact ⟨a,cap,h1,h2,h3.next hb,h4.next hb⟩⟩
def eA (base:Nat) (W:World) (v:Value) (l:List Zp):Prop:=∃ xs,W.ownsRow base 47 2 v l.length xs∧yX W xs l
theorem eA.next {base:Nat} {W w1:World} {v:Value} {l:List Zp} (h:eA base W v l) (hb:Below W W w1):eA base w1 v l:=by
 obtain ⟨xs,h1,h2⟩:=h;exact ⟨xs,aL h1 hb,h2.next hb⟩
theorem eA.mono {base base':Nat} {W:World} {v:Value} {l:List Zp} (h:eA base W v l) (hb:base'≤base):eA base' W v l:=by
 obtain ⟨xs,⟨h0,h1⟩,h2⟩:=h;refine ⟨xs,⟨h0,?_⟩,h2⟩;rcases h1 with h1 | ⟨g,cap,cur,e,hg,h3⟩
 ·exact .inl h1
 ·exact .inr ⟨g,cap,cur,e,MO hb hg,h3⟩
theorem eA.zs {base:Nat} {W:World} {v:Value} {l:List Zp} (h:eA base W v l):∃ a cap,v = .slice a l.length cap∧aK W a l:=by
 obtain ⟨xs,h1,h2⟩:=h;have h1':=h1;obtain ⟨hx,h1 | ⟨g,cap,cur,e,hg,hh,hn,hc,hs,ht⟩⟩:=h1
 ·obtain ⟨rfl,h0⟩:=h1;have:l = []:=MH h0;subst this;exact ⟨none,0,rfl,MD _,.inl rfl⟩
 ·subst e;refine ⟨_,cap,rfl,MO hn hc,.inr ⟨g,0,rfl,?_,?_⟩⟩
  ·exact (h1'.lt g rfl).2
  ·intro i hi;obtain ⟨a,cp,e0,e1,e2,e3⟩:=h2.2 i hi;refine ⟨?_,a,cp,?_,e2⟩
   ·rw [h1'.cellAt _ ag,← e1]; congr 1; omega
   ·rw [h1'.cellAt _ ag,← e0]; congr 1; omega
theorem jR {W w1:World} {base n:Nat} {v:Value} {xs:List Value} {a:Option Addr} {r:List Vl} (h:aZ W a r) (ht:fi W a) (ho:W.ownsRow base 47 2 v n xs) (hg:W.grownBy w1 v.ownBlock):aZ w1 a r∧fi w1 a:=by
 have key:∀ b off,a=some ⟨b,off,none⟩→w1.heap[b]? = W.heap[b]?:=by
  intro b off e;obtain ⟨c,z,h1⟩:=ht b off e;have hlt:b<W.heap.size:=by
   rcases Nl b W with h | h
   ·exact h
   ·rw [Nz h] at h1; cases h1
  refine hg.block b hlt ?_;obtain ⟨_,⟨rfl,_⟩ | ⟨g,cap,cur,rfl,_,hh,_⟩⟩:=ho
  ·simp [Value.ownBlock]
  ·simp only [Value.ownBlock];intro e;injection e with e
   subst e;rw [hh] at h1;simp at h1
 refine ⟨⟨h.1,?_⟩,?_⟩
 ·rcases h.2 with h | ⟨b,off,e,hr,hlt⟩
  ·exact .inl h
  ·refine .inr ⟨b,off,e,fun i hi=>?_,My hlt hg.size⟩;have k:=key b off e;obtain ⟨c0,c1,c2⟩:=hr i hi;exact ⟨(MP (a:=⟨b,_,none⟩) k).trans c0,(MP (a:=⟨b,_,none⟩) k).trans c1,(MP (a:=⟨b,_,none⟩) k).trans c2⟩
 ·intro b off e;obtain ⟨c,z,h1⟩:=ht b off e;exact ⟨c,z,(key b off e).trans h1⟩
theorem G3 {W w1:World} {base:Nat} {v v':Value} {xs:List Value} {l:List Zp} {a:Option Addr} {cap:Nat} {r:List Vl} {x:Int}
  (ho:W.ownsRow base 47 2 v l.length xs) (he:yX W xs l) (hs:aZ W a r) (ht:fi W a)
  (ho':w1.ownsRow base 47 2 v' (l.length+1) (xs ++ [.slice a r.length cap,.int .i64 x])) (hg:W.grownBy w1 v.ownBlock):eA base w1 v' (l ++ [(r,x)]):=by
 refine ⟨_,by simpa using ho',by simp [he.1]; omega,?_⟩;intro i hi;by_cases hi':i<l.length
 ·obtain ⟨a',c',h1,h2,h3,h4⟩:=he.2 i hi';have g:=jR h3 h4 ho hg;have lx:=he.1;refine ⟨a',c',?_,?_,?_,g.2⟩
  ·rw [MT ag,h1,MV hi']
  ·rw [MT ag,h2,MV hi']
  ·rw [MV hi']; exact g.1
 ·have:i=l.length:=by simp at hi; omega
  subst this;have lx:=he.1;have g:=jR hs ht ho hg;refine ⟨a,cap,?_,?_,?_,g.2⟩
  ·rw [MU (by omega)]; simp [lx]
  ·rw [MU (by omega)]; simp [lx]
  ·simpa using g.1
def iY (W:World) (B n:Nat) (l:List Vl) (k:Nat):Prop:=∃ xs,W.ownsRow B 24 3 (.slice (some (ah B 0)) n n) n xs∧∀ (j:Nat) (h:j<l.length),j<k→xs[j*3]? = some (.int .i64 (cM l[j]).1)∧xs[j*3+1]? = some (.int .i64 (cM l[j]).2.1)∧xs[j*3+2]? = some (.string (cM l[j]).2.2)
theorem iY.step {W:World} {B n:Nat} {l:List Vl} {k:Nat} (h:iY W B n l k) (hk:k<l.length) (hn:n=l.length) :
  iY (((W.setCell ⟨B,k*3,none⟩ (.int .i64 (cM l[k]).1)).setCell ⟨B,k*3+1,none⟩ (.int .i64 (cM l[k]).2.1)).setCell ⟨B,k*3+2,none⟩ (.string (cM l[k]).2.2)) B n l (k+1):=by
 obtain ⟨xs,h1,h2⟩:=h;have lx:=h1.1;refine ⟨_,((((h1.stored (k*3) _).1.stored (k*3+1) _).1).stored (k*3+2) _).1,?_⟩;intro j hj hjk;by_cases e:j=k
 ·subst e;refine ⟨?_,?_,?_⟩ <;> simp [List.getElem?_set,lx,hn] <;> omega
 ·obtain ⟨g0,g1,g2⟩:=h2 j hj ag;refine ⟨?_,?_,?_⟩
  ·rw [MQ ag,MQ ag,MQ ag]; exact g0
  ·rw [MQ ag,MQ ag,MQ ag]; exact g1
  ·rw [MQ ag,MQ ag,MQ ag]; exact g2
theorem iY.next {W w1:World} {B n:Nat} {l:List Vl} {k:Nat} (h:iY W B n l k) (hb:Below W W w1):iY w1 B n l k:=by
 obtain ⟨xs,h1,h2⟩:=h;exact ⟨xs,aL h1 hb,h2⟩
theorem iY.cells {W:World} {B n:Nat} {l:List Vl} {k:Nat} (h:iY W B n l k) (hk:k<n):(∃ u0 u1 u2,W.cell? ⟨B,k*3,none⟩=some u0∧W.cell? ⟨B,k*3+1,none⟩=some u1∧W.cell? ⟨B,k*3+2,none⟩=some u2)∧W.frozen? ⟨B,k*3,none⟩=false∧W.frozen? ⟨B,k*3+1,none⟩=false∧W.frozen? ⟨B,k*3+2,none⟩=false∧B<W.heap.size:=by
 obtain ⟨xs,h1,h2⟩:=h;have lx:=h1.1;refine ⟨⟨xs[k*3]'ag,xs[k*3+1]'ag,xs[k*3+2]'ag,?_,?_,?_⟩,h1.frozenAt _,h1.frozenAt _,h1.frozenAt _,(h1.lt B rfl).2⟩
 ·rw [h1.cellAt _ ag]; exact M1 ag
 ·rw [h1.cellAt _ ag]; exact M1 ag
 ·rw [h1.cellAt _ ag]; exact M1 ag
theorem iY.done {W:World} {B n:Nat} {l:List Vl} (h:iY W B n l l.length) (hn:n=l.length) (h8:l.length≤8):aZ W (some (ah B 0)) (aX l)∧fi W (some (ah B 0)):=by
 obtain ⟨xs,h1,h2⟩:=h;subst hn;refine ⟨⟨by simp [aX,maxLen]; omega,.inr ⟨B,0,rfl,?_,(h1.lt B rfl).2⟩⟩,?_⟩
 ·intro i hi;have hi':i<l.length:=by simpa [aX] using hi
  obtain ⟨g0,g1,g2⟩:=h2 i hi' hi';simp only [aX,NC];refine ⟨?_,?_,?_⟩
  ·rw [h1.cellAt _ ag,← g0]; congr 1; omega
  ·rw [h1.cellAt _ ag,← g1]; congr 1; omega
  ·rw [h1.cellAt _ ag,← g2]; congr 1; omega
 ·intro b off e;obtain ⟨_,⟨e',_⟩ | ⟨g,cap,cur,e',_,hh,_⟩⟩:=h1
  ·cases e'
  ·simp only [Value.slice.injEq,NQ,Addr.mk.injEq] at e e';obtain ⟨rfl,_⟩:=e;rw [← e'.1.1] at hh;exact ⟨_,_,hh⟩
theorem Bx (a:Option Addr) (cap:Nat) (l:List Vl) (w:World) (h:aZ w a l) (h8:l.length≤8) :
  Calls prog 116 #[.slice a l.length cap] w fun e w'=>e = .returned (.slice (some (ah w 0)) l.length l.length)∧(aZ w' (some (ah w 0)) (aX l)∧fi w' (some (ah w 0)))∧Below w w w':=by
 obtain ⟨i0,hi,hz0,hz1,hz2⟩:=info_parts Tryz.pD;go_enter func116,ntmps116;go_wp2_with (first | (at_make; refine wpList_make_full _ rfl _ _ 45 rfl w 24 i0 _ 3 underlying45 hi hz0 hz1 .i64 .i64 l.length l.length l.length rfl rfl rfl rfl (by rw [hz2]; omega) (by unfold maxLen; omega) (Mx _) ?_))
 intro w1 hown hgrow;have hb0:Below w w w1:=(Mz _ _).grown hgrow (Mx _) (by simp);have hB0:iY w1 w l.length l 0:=⟨_,hown,fun j _ hj=>absurd hj (M9 _)⟩
 clear hown hgrow;go_wp2_with fail
 go_loopw [11] (fun i wr=>∃ k:Nat,k≤l.length∧i = .int .i64 k∧iY wr w l.length l k∧Below w w wr) (fun i _=>l.length - (intOf i).toNat)
 case atStart=>exact ⟨0,MD _,rfl,hB0,hb0⟩
 case round =>
  obtain ⟨k,hk,rfl,HB,hb⟩:=hrel;have hz:=hb.size;by_cases hlt:k<l.length
  ·obtain ⟨b,off,rfl,hbl,c0,c1,c2⟩:=(h.next hb).elem hlt;have i0:(0:Int)≤(k:Int):=by omega
   have i1:(k:Int)<(l.length:Int):=by omega
   go_wp2_with fail
   refine bC (tJ _ _ _ _) fun w2 hb2=>?_;have HB2:=(HB.next (aN ..)).next hb2;obtain ⟨⟨u0,u1,u2,d0,d1,d2⟩,f0,f1,f2,hlb⟩:=HB2.cells hlt;go_wp2
   go_roundw
   case rel =>
    refine ⟨k+1,by omega,by go_num,?_,?_⟩
    ·exact HB2.step hlt rfl
    ·exact (((l9 hb hb2).setCell (p:=⟨w,k*3,none⟩) (Mx _) _).setCell (p:=⟨w,k*3+1,none⟩) (Mx _) _).setCell (p:=⟨w,k*3+2,none⟩) (Mx _) _
   case measure=>simp [intOf]; omega
  ·have e:k=l.length:=by omega
   subst e;go_wp2
   go_ret;exact ⟨rfl,HB.done rfl h8,hb⟩
end Go.Proofs.YtoefpglknaiaeaaGreat
namespace Go.Proofs.YtoefpglknaiaeaaGreat
inductive Ex where
 | mk (k:Int) (v:Vl) (c:Int) (ks:List Ex)
def Ex.k:Ex→Int | .mk k _ _ _=>k
def Ex.v:Ex→Vl | .mk _ v _ _=>v
def Ex.c:Ex→Int | .mk _ _ c _=>c
def Ex.ks:Ex→List Ex | .mk _ _ _ ks=>ks
mutual
theorem Ex.ind {P:Ex→Prop} (h:∀ k v c ks,(∀ x ∈ ks,P x)→P (.mk k v c ks)):∀ x,P x
 | .mk k v c ks=>h k v c ks (Ex.G4 h ks)
theorem Ex.G4 {P:Ex→Prop} (h:∀ k v c ks,(∀ x ∈ ks,P x)→P (.mk k v c ks)):∀ ks:List Ex,∀ x ∈ ks,P x
 | [],_,hx=>by simp at hx
 | y :: r,x,hx=>by
  rcases List.mem_cons.mp hx with e | hx
  ·exact e ▸ Ex.ind h y
  ·exact Ex.G4 h r x hx
end
def dy (k:Int):Nat:=if k=1∨k=2 then 0 else if k=3∨k=16 then 1 else if k=17 then 3 else 2
def fT (k:Int) (len:Nat) (n d:Int):Int:=if 200<n∨20<d then 4 else if k<1∨18<k then 1 else if len≠dy k then 5 else 0
def ir (a b:Int):Option Int:=if a=b∨b=1 then some a else if a=1 then some b else none
def cP:Option Int→Int × Int | some t=>(t,0) | none=>(0,9)
def dv (t:Int) (ts:List Int):Option Int:=if ts.all (fun k=>(ir k t).isSome) then some t else none
def du (k:Int) (ts:List Int):Option Int :=
 if k=3∨k=4∨k=5 then dv 2 ts
 else if 6≤k∧k≤11 then (if (ir (ts.getD 0 0) (ts.getD 1 0)).isSome then some 2 else none)
 else if k=12∨k=13∨k=14 then dv 3 ts
 else if k=15 then dv 4 ts
 else if k=16 then some 2
 else if k=17 then (if (ir (ts.getD 0 0) 2).isSome then ir (ts.getD 1 0) (ts.getD 2 0) else none)
 else ir (ts.getD 0 0) (ts.getD 1 0)
def aJ (v:Vl):Int:=aO v.1 v.2.1 v.2.2
def oJ (v:Vl):Int × Int:=if aJ v=0 then (v.1,0) else (0,aJ v)
def mE (cols:List Int) (c:Int):Int × Int:=if c<0∨cols.length≤c then (0,7) else (cols.getD c.toNat 0,0)
def cV (cols:List Int) (k:Int) (v:Vl) (c:Int) (ts:List Int):Int × Int :=
 if k=1 then oJ v else if k=2 then mE cols c else cP (du k ts)
mutual
def bO (cols:List Int):Ex→Int→Int→Int × Int × Int
 | .mk k v c ks,n,d =>
  if fT k ks.length (n+1) d≠0 then (0,fT k ks.length (n+1) d,n+1)
  else if (cJ cols ks [] (n+1) (d+1)).1≠0 then (0,(cJ cols ks [] (n+1) (d+1)).1,(cJ cols ks [] (n+1) (d+1)).2.2)
  else ((cV cols k v c (cJ cols ks [] (n+1) (d+1)).2.1).1,(cV cols k v c (cJ cols ks [] (n+1) (d+1)).2.1).2,(cJ cols ks [] (n+1) (d+1)).2.2)
def cJ (cols:List Int):List Ex→List Int→Int→Int→Int × List Int × Int
 | [],acc,n,_=>(0,acc,n)
 | x :: r,acc,n,d =>
  if (bO cols x n d).2.1≠0 then ((bO cols x n d).2.1,acc,(bO cols x n d).2.2)
  else cJ cols r (acc ++ [(bO cols x n d).1]) (bO cols x n d).2.2 d
end
mutual
def nC:Ex→Nat | .mk _ _ _ ks=>1+pz ks
def pz:List Ex→Nat | []=>0 | x :: r=>nC x+pz r
end
mutual
def yW:Ex→Nat | .mk _ _ _ ks=>1+sC ks
def sC:List Ex→Nat | []=>0 | x :: r=>max (yW x) (sC r)
end
mutual
def py (cols:List Int):Ex→Option Int
 | .mk k v c ks=>if k<1∨18<k∨ks.length≠dy k then none else
  (mJ cols ks).bind fun ts=>if (cV cols k v c ts).2=0 then some (cV cols k v c ts).1 else none
def mJ (cols:List Int):List Ex→Option (List Int)
 | []=>some []
 | x :: r=>(py cols x).bind fun t=>(mJ cols r).map fun ts=>t :: ts
end
theorem vl:∀ x:Ex,1≤nC x | .mk _ _ _ ks=>by rw [nC]; omega
theorem uM (cols:List Int):∀ (ks:List Ex),(∀ x ∈ ks,∀ n d t n',bO cols x n d=(t,0,n')↔py cols x=some t∧n'=n+nC x∧n'≤200∧d+yW x≤21) →
  ∀ acc n d ts n',n≤200→d≤21→(cJ cols ks acc n d=(0,acc ++ ts,n')↔mJ cols ks=some ts∧n'=n+pz ks∧n'≤200∧d+sC ks≤21)
 | [],_,acc,n,d,ts,n',hn,hd=>by
  simp only [cJ,mJ,pz,sC,Prod.mk.injEq,true_and,NQ]
  constructor
  ·rintro ⟨h,rfl⟩
   have:ts = []:=by simpa using h
   exact ⟨this.symm,by simp,hn,by simpa using hd⟩
  ·rintro ⟨rfl,h,_⟩
   exact ⟨by simp,by simpa using h.symm⟩
 | x :: r,hx,acc,n,d,ts,n',hn,hd=>by
  have ih:=uM cols r (fun y hy=>hx y (List.mem_cons_of_mem _ hy))
  have h0:=hx x (List.mem_cons_self ..) n d
  rcases hq:bO cols x n d with ⟨t,e,m⟩
  rw [cJ,hq,mJ,pz,sC]
  have hs:=vl x
  by_cases he:e=0
  ·subst he
   have h1:=(h0 t m).1 hq
   obtain ⟨p1,p2,p3,p4⟩:=h1
   simp only [ne_eq,not_true,if_false,p1,Option.bind_some]
   constructor
   ·intro h
    match ts,h with
    | [],h =>
     exfalso
     have:=congrArg (fun z=>z.2.1.length) h
     have hl:∀ (l:List Ex) acc n d,(cJ cols l acc n d).1=0→acc.length≤(cJ cols l acc n d).2.1.length:=by
      intro l
      induction l with
      | nil=>intro acc n d _; simp [cJ]
      | cons y l ihl =>
       intro acc n d h
       rw [cJ] at h ⊢
       split at h
       ·rename_i hne
        exact absurd h hne
       ·rename_i hne
        rw [if_neg hne]
        have:=ihl _ _ _ h
        simp at this
        omega
     have h2:=hl r (acc ++ [t]) m d (by rw [h])
     rw [h] at h2
     simp at h2
     omega
    | u :: us,h =>
     have hu:u=t:=by
      have hl:∀ (l:List Ex) acc n d,(cJ cols l acc n d).1=0→acc <+: (cJ cols l acc n d).2.1:=by
       intro l
       induction l with
       | nil=>intro acc n d _; simp [cJ]
       | cons y l ihl =>
        intro acc n d h
        rw [cJ] at h ⊢
        split at h
        ·rename_i hne
         exact absurd h hne
        ·rename_i hne
         rw [if_neg hne]
         exact (List.prefix_append _ _).trans (ihl _ _ _ h)
      have h2:=hl r (acc ++ [t]) m d (by rw [h])
      rw [h] at h2
      simp only [List.prefix_append_right_inj] at h2
      exact (List.cons_prefix_cons.mp h2).1.symm
     subst hu
     have h':cJ cols r (acc ++ [u]) m d=(0,(acc ++ [u]) ++ us,n'):=by simpa using h
     obtain ⟨q1,q2,q3,q4⟩:=(ih (acc ++ [u]) m d us n' p3 hd).1 h'
     refine ⟨by simp [q1],by omega,q3,by omega⟩
   ·rintro ⟨q1,q2,q3,q4⟩
    rw [Option.map_eq_some_iff] at q1
    obtain ⟨us,q1,rfl⟩:=q1
    have:=(ih (acc ++ [t]) m d us n' p3 hd).2 ⟨q1,by omega,q3,by omega⟩
    simpa using this
  ·simp only [ne_eq,he,not_false_eq_true,if_true,Prod.mk.injEq,false_and,false_iff]
   rintro ⟨q1,q2,q3,q4⟩
   rw [NG] at q1
   obtain ⟨u,q1,_⟩:=q1
   have:=(h0 u (n+nC x)).2 ⟨q1,rfl,by omega,by omega⟩
   rw [hq] at this
   simp at this
   exact he this.2.1
theorem kM (cols:List Int):∀ x n d t n',bO cols x n d=(t,0,n')↔py cols x=some t∧n'=n+nC x∧n'≤200∧d+yW x≤21:=by
 refine Ex.ind fun k v c ks ih n d t n'=>?_
 have hk:=uM cols ks (fun x hx=>ih x hx) [] (n+1) (d+1);rw [bO,py,nC,yW];by_cases hw:fT k ks.length (n+1) d=0
 ·have hw':¬ (200<n+1∨20<d)∧¬ (k<1∨18<k)∧ks.length=dy k:=by
   unfold fT at hw;by_cases h1:200<n+1∨20<d
   ·simp [h1] at hw
   by_cases h2:k<1∨18<k
   ·simp [h1,h2] at hw
   by_cases h3:ks.length=dy k
   ·exact ⟨h1,h2,h3⟩
   ·simp [h1,h2,h3] at hw
  obtain ⟨h1,h2,h3⟩:=hw';rw [if_neg (by simp [hw]),if_neg (show ¬ (k<1∨18<k∨ks.length≠dy k) by simp [h3]; omega)];rcases hq:cJ cols ks [] (n+1) (d+1) with ⟨e,ts,m⟩
  by_cases he:e=0
  ·subst he;obtain ⟨p1,p2,p3,p4⟩:=(hk ts m ag ag).1 (by simpa using hq);simp only [ne_eq,not_true,if_false,p1,Option.bind_some];by_cases hn:(cV cols k v c ts).2=0
   ·simp only [hn,if_true,Prod.mk.injEq,true_and,NQ];constructor
    ·rintro ⟨rfl,rfl⟩;exact ⟨rfl,by omega,p3,by omega⟩
    ·rintro ⟨rfl,q2,q3,q4⟩;exact ⟨rfl,by omega⟩
   ·simp [hn]
  ·simp only [ne_eq,he,not_false_eq_true,if_true,Prod.mk.injEq,false_and,and_false,false_iff];rintro ⟨q1,q2,q3,q4⟩;rw [NG] at q1;obtain ⟨us,q1,_⟩:=q1;have:=(hk us (n+1+pz ks) ag ag).2 ⟨q1,rfl,by omega,by omega⟩;rw [hq] at this;simp at this;exact he this.1
 ·rw [if_pos hw];simp only [Prod.mk.injEq,hw,false_and,and_false,false_iff];rintro ⟨q1,q2,q3,q4⟩;apply hw
  split at q1
  ·simp at q1
  ·rename_i hc
   unfold fT;rw [if_neg ag,if_neg ag,if_neg (by simp; omega)]
theorem CE {cols:List Int} {x:Ex} {n d:Int} (h:(bO cols x n d).2.1=0):(bO cols x n d).2.2≤200∧n<(bO cols x n d).2.2:=by
 have:=(kM cols x n d (bO cols x n d).1 (bO cols x n d).2.2).1 (by rw [← h]);have:=vl x;omega
end Go.Proofs.YtoefpglknaiaeaaGreat
namespace Go.Proofs.YtoefpglknaiaeaaGreat
open Go.RowKit _root_.Go.Proofs.Tryz
abbrev hJ (x:Ex) (a:Option Addr) (c:Nat):Array Value:=#[x.k,x.v.1,x.v.2.1,x.v.2.2,x.c,.slice a x.ks.length c]
abbrev fN (k:Int) (v:Vl) (c:Int) (a:Option Addr) (n cap:Nat):Value :=
 .agg #[k,v.1,v.2.1,v.2.2,c,.slice a n cap]
abbrev dV (v:Vl):Value:=.agg #[v.1,v.2.1,v.2.2]
theorem Ds (k:Int) (w:World) :
  Calls prog 270 #[k] w fun e w'=>e = .returned (.int .i64 (dy k:Nat))∧Below w w w':=by
 unfold dy;by_cases h1:k=1
 ·subst h1; go_enter func270,ntmps270; go_wp2_with fail; go_ret; exact ⟨rfl,Mz _ _⟩
 by_cases h2:k=2
 ·subst h2; go_enter func270,ntmps270; go_wp2_with fail; go_ret; exact ⟨rfl,Mz _ _⟩
 by_cases h3:k=3
 ·subst h3; go_enter func270,ntmps270; go_wp2_with fail; go_ret; exact ⟨rfl,Mz _ _⟩
 by_cases h4:k=16
 ·subst h4; go_enter func270,ntmps270; go_wp2_with fail; go_ret; exact ⟨rfl,Mz _ _⟩
 by_cases h5:k=17
 ·subst h5; go_enter func270,ntmps270; go_wp2_with fail; go_ret; exact ⟨rfl,Mz _ _⟩
 rw [if_neg ag,if_neg ag,if_neg ag];have q1:(k == 1)=false:=by simpa using h1
 have q2:(k == 2)=false:=by simpa using h2
 have q3:(k == 3)=false:=by simpa using h3
 have q4:(k == 16)=false:=by simpa using h4
 have q5:(k == 17)=false:=by simpa using h5
 go_enter func270,ntmps270;go_wp2
 go_ret;exact ⟨rfl,Mz _ _⟩
def cN (a b:Int):Int × Int:=cP (ir a b)
theorem KO (a:Int):cN a a=(a,0):=by simp [cN,ir,cP]
theorem Kf (a:Int):cN a 1=(a,0):=by simp [cN,ir,cP]
theorem KP {b:Int} (h:¬ b=1):cN 1 b=(b,0):=by
 have h':¬ 1=b:=fun e=>h e.symm
 simp [cN,ir,cP,h,h']
theorem KJ {a b:Int} (h1:¬ a=b) (h2:¬ b=1) (h3:¬ a=1):cN a b=(0,9):=by simp [cN,ir,cP,h1,h2,h3]
theorem di (a b:Int) (w:World) :
  Calls prog 194 #[a,b] w fun e w'=>e = .returned (.tuple #[.int .i64 (cN a b).1,.int .i64 (cN a b).2])∧Below w w w':=by
 by_cases h1:a=b
 ·subst h1;rw [KO];go_enter func194,ntmps194;go_wp2
  exact bJ rfl rfl ⟨rfl,Mz _ _⟩
 have q1:(a == b)=false:=by simpa using h1
 by_cases h2:b=1
 ·subst h2;rw [Kf];go_enter func194,ntmps194;go_wp2
  exact bJ rfl rfl ⟨rfl,Mz _ _⟩
 have q2:(b == 1)=false:=by simpa using h2
 by_cases h3:a=1
 ·subst h3;rw [KP h2];go_enter func194,ntmps194;go_wp2
  exact bJ rfl rfl ⟨rfl,Mz _ _⟩
 have q3:(a == 1)=false:=by simpa using h3
 rw [KJ h1 h2 h3];go_enter func194,ntmps194;go_wp2
 exact bJ rfl rfl ⟨rfl,Mz _ _⟩
theorem pL (k n:Int) (s:ByteArray) (w:World) :
  Calls prog 235 #[.agg #[k,n,s]] w fun e w'=>e = .returned (.bool (k == 1))∧Below w w w':=by
 go_enter func235,ntmps235;go_wp2
 go_ret;exact ⟨rfl,(aN ..)⟩
structure ki (W:World) (b off:Nat) (k:Int) (v:Vl) (c:Int) (a:Option Addr) (n cap:Nat):Prop where
 c0:W.cell? (ah b off)=some (.int .i64 k)
 c1:W.cell? ⟨b,off+1,none⟩=some (.int .i64 v.1)
 c2:W.cell? ⟨b,off+2,none⟩=some (.int .i64 v.2.1)
 c3:W.cell? ⟨b,off+3,none⟩=some (.string v.2.2)
 c4:W.cell? ⟨b,off+4,none⟩=some (.int .i64 c)
 c5:W.cell? ⟨b,off+5,none⟩=some (.slice a n cap)
theorem ki.next {W w1:World} {B b off:Nat} {k:Int} {v:Vl} {c:Int} {a:Option Addr} {n cap:Nat} (h:ki W b off k v c a n cap) (hb:Below B W w1) (hB:b<B):ki w1 b off k v c a n cap :=
 ⟨(hb.cell (p:=⟨b,_,none⟩) hB).trans h.c0,(hb.cell (p:=⟨b,_,none⟩) hB).trans h.c1,(hb.cell (p:=⟨b,_,none⟩) hB).trans h.c2,(hb.cell (p:=⟨b,_,none⟩) hB).trans h.c3,(hb.cell (p:=⟨b,_,none⟩) hB).trans h.c4,(hb.cell (p:=⟨b,_,none⟩) hB).trans h.c5⟩
theorem ki.new (w:World) (k:Int) (v:Vl) (c:Int) (a:Option Addr) (n cap t:Nat):ki (w.alloc (.cells #[k,v.1,v.2.1,v.2.2,c,.slice a n cap] t)) w 0 k v c a n cap :=
 ⟨by simp,by simp,by simp,by simp,by simp,by simp⟩
theorem nR {k:Int} {n:Nat} {m d:Int} (h:200<m∨20<d):fT k n m d=4:=by simp [fT,h]
theorem oe {k:Int} {n:Nat} {m d:Int} (h:¬ 200<m) (h':¬ 20<d) (h2:k<1∨18<k):fT k n m d=1:=by simp [fT,h,h',h2]
theorem rQ {k:Int} {n:Nat} {m d:Int} (h:¬ 200<m) (h':¬ 20<d) (h2:¬ k<1) (h3:¬ 18<k) (h4:¬ n=dy k):fT k n m d=5:=by simp [fT,h,h',h2,h3,h4]
theorem yJ {k:Int} {n:Nat} {m d:Int} (h:¬ 200<m) (h':¬ 20<d) (h2:¬ k<1) (h3:¬ 18<k) (h4:n=dy k):fT k n m d=0:=by simp [fT,h,h',h2,h3,h4]
theorem vZ (k:Int) (v:Vl) (c:Int) (a:Option Addr) (n cap:Nat) (m d:Int) (w:World) :
  Calls prog 251 #[fN k v c a n cap,m,d] w fun e w'=>e = .returned (.int .i64 (fT k n m d))∧Below w w w':=by
 by_cases h1:200<m;rw [nR (.inl h1)];rotate_left;by_cases h2:20<d;rw [nR (.inr h2)];rotate_left;by_cases h3:k<1;rw [oe h1 h2 (.inl h3)];rotate_left;by_cases h4:18<k;rw [oe h1 h2 (.inr h4)];rotate_left;obtain ⟨q,hq,hn⟩:∃ q:Bool,((n:Int) != ((dy k:Nat):Int))=q∧fT k n m d=if q then 5 else 0:=by
  by_cases h5:n=dy k
  ·exact ⟨false,by simp [h5],by rw [yJ h1 h2 h3 h4 h5]; rfl⟩
  ·exact ⟨true,by simp; omega,by rw [rQ h1 h2 h3 h4 h5]; rfl⟩
 rw [hn];clear hn;go_enter func251,ntmps251;go_wp2_with fail
 have hA:Below w w (w.alloc (.cells #[k,v.1,v.2.1,v.2.2,c,.slice a n cap] 27)):=(aN ..)
 have S:=ki.new w k v c a n cap 27;generalize w.alloc _=wA at *;have p0:=ak S.c0;have p5:=ak S.c5;simp only [MG] at p5;haveI:Nonempty (cF wA):=⟨⟨_,Mz _ _⟩⟩
 refine aq aG aG ?_
 repeat (go_big_quiet_step (first | (go_at_call 270; exact cG (Ds _ _))))
 refine wpQuiet_nil ?_;rintro w3 ⟨⟨v3,hb3⟩,h3'⟩;obtain rfl:w3=v3:=h3';have hb:=chain hA hb3;clear p0 p5 S hA hb3;cases q
 ·go_wp2_with fail
  go_ret;exact ⟨rfl,hb⟩
 ·go_wp2_with fail
  go_ret;exact ⟨rfl,hb⟩
 all_goals
  go_enter func251,ntmps251;go_wp2_with fail
  go_ret;exact ⟨rfl,(aN ..)⟩
def bf (B:Nat) (W:World) (a:Option Addr) (l:List Int):Prop :=
 l.length≤maxLen∧(l = []∨∃ b off,a=some ⟨b,off,none⟩∧b<B∧∀ (i:Nat) (h:i<l.length),W.cell? ⟨b,off+i,none⟩=some (.int .i64 l[i]))
theorem bf.next {B B':Nat} {W w1:World} {a:Option Addr} {l:List Int} (h:bf B W a l) (hb:Below B' W w1) (hB:B≤B'):bf B w1 a l:=by
 obtain ⟨h0,h | ⟨b,off,e,hlt,hr⟩⟩:=h
 ·exact ⟨h0,.inl h⟩
 ·exact ⟨h0,.inr ⟨b,off,e,hlt,fun i hi=>(hb.cell (p:=⟨b,_,none⟩) (My hlt hB)).trans (hr i hi)⟩⟩
theorem bf.up {B B':Nat} {W:World} {a:Option Addr} {l:List Int} (h:bf B W a l) (hB:B≤B'):bf B' W a l:=by
 obtain ⟨h0,h | ⟨b,off,e,hlt,hr⟩⟩:=h
 ·exact ⟨h0,.inl h⟩
 ·exact ⟨h0,.inr ⟨b,off,e,My hlt hB,hr⟩⟩
theorem bf.elem {B:Nat} {W:World} {a:Option Addr} {l:List Int} (h:bf B W a l) {k:Nat} (hk:k<l.length) :
  ∃ b off,a=some ⟨b,off,none⟩∧b<B∧W.cell? ⟨b,off+k,none⟩=some (.int .i64 l[k]):=by
 obtain ⟨_,h | ⟨b,off,e,hlt,hr⟩⟩:=h
 ·subst h; simp at hk
 ·exact ⟨b,off,e,hlt,hr k hk⟩
theorem FA (t:Int) (l:List Int) (k:Nat) (h:l.length≤k):dv t (l.drop k)=some t:=by rw [M7 h]; simp [dv]
theorem JM (t:Int) (l:List Int) (k:Nat) (h:k<l.length) (e:ir l[k] t=none):dv t (l.drop k)=none:=by
 rw [MI h,dv,List.all_cons,e]; rfl
theorem Dq (t:Int) (l:List Int) (k:Nat) (h:k<l.length) {u:Int} (e:ir l[k] t=some u):dv t (l.drop k)=dv t (l.drop (k+1)):=by
 rw [MI h,dv,List.all_cons,e,dv]; rfl
theorem jP (t:Int) (B:Nat) (a:Option Addr) (cap:Nat) (l:List Int) (w:World) (hB:B≤w.heap.size) (h:bf B w a l) :
  Calls prog 271 #[t,.slice a l.length cap] w fun e w'=>e = .returned (.tuple #[.int .i64 (cP (dv t l)).1,.int .i64 (cP (dv t l)).2])∧Below w w w':=by
 have hl:=h.1;unfold maxLen at hl;go_enter func271,ntmps271;go_wp2_with fail
 go_loopw [12] (fun i wr=>∃ k:Nat,k≤l.length∧i = .int .i64 k∧Hid (dv t l=dv t (l.drop k))∧Below w w wr) (fun i _=>l.length - (intOf i).toNat)
 case atStart=>exact ⟨0,MD _,rfl,rfl,Mz _ _⟩
 case round =>
  obtain ⟨k,hk,rfl,HE,hb⟩:=hrel;by_cases hlt:k<l.length
  ·obtain ⟨b,off,rfl,hbl,c⟩:=(h.next hb hB).elem hlt;rcases ht:ir l[k] t with _ | u
   ·have hR:cN l[k] t=(0,9):=by simp [cN,ht,cP]
    have HT:=aB ht;clear ht;go_wp2_with fail
    refine bC (di _ _ _) fun w1 hb1=>?_;simp only [hR];go_wp2
    exact bJ rfl rfl ⟨by rw [HE.out,JM t l k hlt HT.out]; rfl,chain hb hb1⟩
   ·have hR:cN l[k] t=(u,0):=by simp [cN,ht,cP]
    have HT:=aB ht;clear ht;go_wp2_with fail
    refine bC (di _ _ _) fun w1 hb1=>?_;simp only [hR];go_wp2
    go_roundw
    case rel=>exact ⟨k+1,by omega,by go_num,HE.out.trans (Dq t l k hlt HT.out),chain hb hb1⟩
    case measure=>simp [intOf]; omega
  ·go_wp2
   exact bJ rfl rfl ⟨by rw [HE.out,FA t l k ag]; rfl,hb⟩
theorem Bp (B:Nat) (a:Option Addr) (cap:Nat) (l:List Int) (c:Int) (w:World) (h:bf B w a l) :
  Calls prog 253 #[.slice a l.length cap,c] w fun e w'=>e = .returned (.tuple #[.int .i64 (mE l c).1,.int .i64 (mE l c).2])∧Below w w w':=by
 by_cases h1:c<0
 ·have e:mE l c=(0,7):=by simp [mE,h1]
  rw [e];go_enter func253,ntmps253;go_wp2
  exact bJ rfl rfl ⟨rfl,Mz _ _⟩
 by_cases h2:l.length≤c
 ·have e:mE l c=(0,7):=by simp [mE,h2]
  rw [e];go_enter func253,ntmps253;go_wp2
  exact bJ rfl rfl ⟨rfl,Mz _ _⟩
 obtain ⟨j,rfl⟩:∃ j:Nat,c=j:=⟨c.toNat,by omega⟩
 have hj:j<l.length:=by omega
 have e:mE l j=(l[j],0):=by simp [mE,h2,List.getD,hj]
 rw [e];obtain ⟨b,off,rfl,hbl,cc⟩:=h.elem hj;go_enter func253,ntmps253;go_wp2
 exact bJ rfl rfl ⟨rfl,Mz _ _⟩
theorem AR (v:Vl) (w:World) :
  Calls prog 252 #[dV v] w fun e w'=>e = .returned (.tuple #[.int .i64 (oJ v).1,.int .i64 (oJ v).2])∧Below w w w':=by
 obtain ⟨k,n,s⟩:=v;by_cases h:aO k n s=0
 ·have e:oJ (k,n,s)=(k,0):=by simp [oJ,aJ,h]
  rw [e];clear e;go_enter func252,ntmps252;go_wp2_with fail
  have A0:=cS.new w k n s 24;refine bC (js _ _ _ _) fun w1 hb1=>?_;rw [h];have ⟨a0,a1,a2,a3,a4,a5,a6⟩:=A0.next hb1;go_wp2
  exact bJ rfl rfl ⟨rfl,ma hb1⟩
 ·have e:oJ (k,n,s)=(0,aO k n s):=by simp [oJ,aJ,h]
  rw [e];clear e;go_enter func252,ntmps252;go_wp2_with fail
  refine bC (js _ _ _ _) fun w1 hb1=>?_;have q:(aO k n s != 0)=true:=by simpa using h
  go_wp2
  exact bJ rfl rfl ⟨rfl,ma hb1⟩
def kO (n:Int):Bool:=decide (-1000000000000000≤n) && decide (n≤1000000000000000)
theorem Cp {n:Int} (h:kO n=true):-1000000000000000≤n∧n≤1000000000000000:=by simpa [kO] using h
theorem Lj {n:Int} (h:kO n=false):n < -1000000000000000∨1000000000000000<n:=by
 unfold kO at h;by_cases a:-1000000000000000≤n
 ·by_cases b:n≤1000000000000000
  ·simp [a,b] at h
  ·right; omega
 ·left; omega
theorem pW {n:Int} (h0:-1000000000000000≤n) (h1:n≤1000000000000000):kO n=true:=by simp [kO,h0,h1]
theorem sO {n:Int} (h:n < -1000000000000000∨1000000000000000<n):kO n=false:=by
 cases e:kO n
 ·rfl
 ·have:=Cp e; omega
def gT (n:Int):Int:=if kO n then 3 else 1
def gY (n:Int):Int:=if kO n then n else 0
def nu (k n:Int):Bool:=k == 3 && kO n
def rZ (c n n':Int):Option Int:=if c=43 then some (n+n') else if c=45 then some (n - n') else if c=42 then some (n*n') else none
def jK:Option Int→Int | some x=>gT x | none=>1
def kl:Option Int→Int | some x=>gY x | none=>0
def iT (c k n k' n':Int):Option Int:=if nu k n && nu k' n' then rZ c n n' else none
theorem qI (n:Int) (w:World) :
  Calls prog 79 #[n] w fun e w'=>e = .returned (.bool (kO n))∧w'=w:=by
 by_cases h0:-1000000000000000≤n
 ·go_enter func79,ntmps79;go_wp2
  go_ret;exact ⟨fV (by simp [kO,h0]),rfl⟩
 ·have hd:decide (-1000000000000000≤n)=false:=by simpa using h0
  have e:kO n=false:=by simp only [kO,hd,Bool.false_and]
  go_enter func79,ntmps79;go_wp2
  go_ret;exact ⟨rfl,rfl⟩
theorem Bn (n:Int) (w:World) (h:kO n=true) :
  Calls prog 240 #[n] w fun e w'=>e = .returned (.agg #[(3:Int),n,()])∧Below w w w':=by
 go_enter func240,ntmps240;go_wp2_with fail
 refine (qI _ _).mono ?_;rintro e w1 ⟨rfl,rfl⟩;rw [h];go_wp2
 exact MA (v:=.agg #[(3:Int),n,()]) (by simp [results,results240,go_sem]) rfl ⟨rfl,aN ..⟩
theorem Cg (n:Int) (w:World) (h:kO n=false) :
  Calls prog 240 #[n] w fun e w'=>e = .returned (.agg #[(1:Int),aD,()])∧Below w w w':=by
 go_enter func240,ntmps240;go_wp2_with fail
 refine (qI _ _).mono ?_;rintro e w1 ⟨rfl,rfl⟩;rw [h];have R0:=cS.new w aD aD () 24;go_wp2_with fail
 refine bC (eI _) fun w1 hb1=>?_;have R1:=R0.next hb1;have ⟨r0,r1,r2,r3,r4,r5,r6⟩:=R1;go_wp2
 exact MA (v:=.agg #[(1:Int),aD,()]) (by simp [results,results240,go_sem,r1,r2,r3]) rfl ⟨rfl,au (ma hb1) (Mx _)⟩
theorem xt (n:Int) (w:World) :
  Calls prog 240 #[n] w fun e w'=>e = .returned (.agg #[.int .i64 (gT n),.int .i64 (gY n),()])∧Below w w w':=by
 cases h:kO n
 ·have e1:gT n=1:=by simp [gT,h]
  have e2:gY n=0:=by simp [gY,h]
  rw [e1,e2]; exact Cg n w h
 ·have e1:gT n=3:=by simp [gT,h]
  have e2:gY n=n:=by simp [gY,h]
  rw [e1,e2]; exact Bn n w h
theorem pk (n:Int) (w:World) (h0:-1000000000000000≤n) (h1:n≤1000000000000000) :
  Calls prog 280 #[n] w fun e w'=>e = .returned (.int .i64 (n.natAbs:Int))∧w'=w:=by
 by_cases h:n<0
 ·go_enter func280,ntmps280;go_wp2
  go_ret;exact ⟨aH ag,rfl⟩
 ·go_enter func280,ntmps280;go_wp2
  go_ret;exact ⟨aH ag,rfl⟩
theorem wQ (k n:Int) (s:ByteArray) (w:World) :
  Calls prog 278 #[.agg #[k,n,s]] w fun e w'=>e = .returned (.bool (nu k n))∧Below w w w':=by
 by_cases hk:k=3
 ·subst hk;have e0:(aO 3 n s == 0)=nu 3 n:=by
   cases h:kO n
   ·have:=Lj h;have e:aO 3 n s=3:=by
     rcases this with t | t
     ·exact qo n s t
     ·exact qm n s t
    simp [nu,h,e]
   ·have:=Cp h;have e:=sU n s ag ag;simp [nu,h,e]
  have E0:=aB e0;clear e0;go_enter func278,ntmps278;go_wp2_with fail
  refine bC (js _ _ _ _) fun w1 hb1=>?_;go_wp2
  go_ret;exact ⟨fV E0.out,ma hb1⟩
 ·have b3:(k == 3)=false:=by simpa using hk
  go_enter func278,ntmps278;go_wp2
  go_ret;exact ⟨fV (by simp [nu,b3]),aN ..⟩
theorem wU (a b:Int) (h:(1000000000000000 / (a.natAbs:Int))<(b.natAbs:Int)) (ha:a≠0):kO (a*b)=false:=by
 apply sO;have h1:1000000000000000<(a.natAbs:Int)*(b.natAbs:Int):=by
  have p:0<(a.natAbs:Int):=by omega
  have:=Int.lt_mul_of_ediv_lt p h;rw [Int.mul_comm]; exact this
 have h2:((a*b).natAbs:Int)=(a.natAbs:Int)*(b.natAbs:Int):=by rw [Int.natAbs_mul]; exact Int.natCast_mul _ _
 rw [← h2] at h1;omega
theorem GI (a b:Int) (h:(b.natAbs:Int)≤1000000000000000 / (a.natAbs:Int)) (ha:a≠0):-1000000000000000≤a*b∧a*b≤1000000000000000:=by
 have h1:(a.natAbs:Int)*(b.natAbs:Int)≤1000000000000000:=by
  have p:0<(a.natAbs:Int):=by omega
  have:=Int.mul_le_of_le_ediv p h;rw [Int.mul_comm]; exact this
 have h2:((a*b).natAbs:Int)=(a.natAbs:Int)*(b.natAbs:Int):=by rw [Int.natAbs_mul]; exact Int.natCast_mul _ _
 rw [← h2] at h1;omega
theorem Dg (b:Int) (w:World) :
  Calls prog 279 #[aD,b] w fun e w'=>e = .returned (.agg #[.int .i64 (gT (0*b)),.int .i64 (gY (0*b)),()])∧Below w w w':=by
 rw [Int.zero_mul];have R0:=cS.new w aD aD () 24;go_enter func279,ntmps279;go_wp2_with fail
 refine bC (xt _ _) fun w1 hb1=>?_;have R1:=R0.next hb1;have ⟨r0,r1,r2,r3,r4,r5,r6⟩:=R1;go_wp2
 exact MA (v:=.agg #[.int .i64 (gT 0),.int .i64 (gY 0),()]) (by simp [results,results279,go_sem,r1,r2,r3]) rfl ⟨rfl,au (ma hb1) (Mx _)⟩
theorem xZ (a b:Int) (w:World) (a0:-1000000000000000≤a) (a1:a≤1000000000000000) (b0:-1000000000000000≤b) (b1:b≤1000000000000000) (ha:a≠0) (h:(1000000000000000 / (a.natAbs:Int))<(b.natAbs:Int)) :
  Calls prog 279 #[a,b] w fun e w'=>e = .returned (.agg #[(1:Int),aD,()])∧Below w w w':=by
 have R0:=cS.new w aD aD () 24;have bn:(a != 0)=true:=by simpa using ha
 have p0:0<(a.natAbs:Int):=by omega
 have p1:(a.natAbs:Int)≤1000000000000000:=by omega
 have q0:0≤(b.natAbs:Int):=by omega
 have q1:(b.natAbs:Int)≤1000000000000000:=by omega
 go_enter func279,ntmps279;go_wp2_with fail
 refine (pk _ _ b0 b1).mono ?_;rintro e w1 ⟨rfl,rfl⟩;go_wp2_with fail
 refine (pk _ _ a0 a1).mono ?_;rintro e w1 ⟨rfl,rfl⟩;generalize (a.natAbs:Int)=A at *;generalize (b.natAbs:Int)=B at *;go_wp2_with fail
 refine bC (eI _) fun w1 hb1=>?_;have R1:=R0.next hb1;have ⟨r0,r1,r2,r3,r4,r5,r6⟩:=R1;go_wp2
 exact MA (v:=.agg #[(1:Int),aD,()]) (by simp [results,results279,go_sem,r1,r2,r3]) rfl ⟨rfl,au (ma hb1) (Mx _)⟩
theorem AJ (a b:Int) (w:World) (a0:-1000000000000000≤a) (a1:a≤1000000000000000) (b0:-1000000000000000≤b) (b1:b≤1000000000000000) (ha:a≠0) (h:(b.natAbs:Int)≤(1000000000000000 / (a.natAbs:Int))) :
  Calls prog 279 #[a,b] w fun e w'=>e = .returned (.agg #[.int .i64 (gT (a*b)),.int .i64 (gY (a*b)),()])∧Below w w w':=by
 have hm:=GI a b h ha;obtain ⟨m0,m1⟩:=hm;have R0:=cS.new w aD aD () 24;have bn:(a != 0)=true:=by simpa using ha
 have p0:0<(a.natAbs:Int):=by omega
 have p1:(a.natAbs:Int)≤1000000000000000:=by omega
 have q0:0≤(b.natAbs:Int):=by omega
 have q1:(b.natAbs:Int)≤1000000000000000:=by omega
 go_enter func279,ntmps279;go_wp2_with fail
 refine (pk _ _ b0 b1).mono ?_;rintro e w1 ⟨rfl,rfl⟩;go_wp2_with fail
 refine (pk _ _ a0 a1).mono ?_;rintro e w1 ⟨rfl,rfl⟩;have ew:wrap64 (a*b)=a*b:=by unfold wrap64; omega
 generalize (a.natAbs:Int)=A at *;generalize (b.natAbs:Int)=B at *;go_wp2_with fail
 refine bC (xt _ _) fun w1 hb1=>?_;have R1:=R0.next hb1;have ⟨r0,r1,r2,r3,r4,r5,r6⟩:=R1;go_wp2
 exact MA (v:=.agg #[.int .i64 (gT (a*b)),.int .i64 (gY (a*b)),()]) (by simp [results,results279,go_sem,r1,r2,r3]) rfl ⟨rfl,au (ma hb1) (Mx _)⟩
theorem ze (a b:Int) (w:World) (a0:-1000000000000000≤a) (a1:a≤1000000000000000) (b0:-1000000000000000≤b) (b1:b≤1000000000000000) :
  Calls prog 279 #[a,b] w fun e w'=>e = .returned (.agg #[.int .i64 (gT (a*b)),.int .i64 (gY (a*b)),()])∧Below w w w':=by
 by_cases ha:a=0
 ·subst ha; exact Dg b w
 by_cases h:(1000000000000000 / (a.natAbs:Int))<(b.natAbs:Int)
 ·have e:=wU a b h ha;have e1:gT (a*b)=1:=by simp [gT,e]
  have e2:gY (a*b)=0:=by simp [gY,e]
  rw [e1,e2]; exact xZ a b w a0 a1 b0 b1 ha h
 ·exact AJ a b w a0 a1 b0 b1 ha ag
theorem Ax (c k n k' n':Int) (s s':ByteArray) (w:World) :
 Calls prog 276 #[.int .i32 c,.agg #[k,n,s],.agg #[k',.int .i64 n',.string s']] w fun e w'=>e = .returned (.agg #[.int .i64 (jK (iT c k n k' n')),.int .i64 (kl (iT c k n k' n')),()])∧Below w w w':=by
 have T:=rh.new w k n k' n' s s';have g:nu k n=true → -1000000000000000≤n∧n≤1000000000000000:=fun h=>by unfold nu at h; simp at h; exact Cp h.2
 have g':nu k' n'=true → -1000000000000000≤n'∧n'≤1000000000000000:=fun h=>by unfold nu at h; simp at h; exact Cp h.2
 obtain ⟨o,ho⟩:∃ o,o=iT c k n k' n':=⟨_,rfl⟩
 rw [← ho];unfold iT rZ at ho;by_cases c1:c=43;rotate_left;by_cases c2:c=45;rotate_left;by_cases c3:c=42
 all_goals (
  cases h1:nu k n <;> cases h2:nu k' n')
 all_goals (
  simp only [h1,h2,Bool.and_true,Bool.and_false,NN,if_true,if_false] at ho;simp only [h1,NN,false_implies,forall_const] at g;simp only [h2,NN,false_implies,forall_const] at g';try (rcases g with ⟨q0,q1⟩)
  try (rcases g' with ⟨p0,p1⟩)
  try simp only [c1,c2,c3,if_true,if_false] at ho
  try simp only [c1,if_true,if_false] at ho
  try simp only [c2,if_true] at ho
  try (have d1:(c == 43)=false:=by simpa using c1)
  try (have d2:(c == 45)=false:=by simpa using c2)
  try (have d3:(c == 42)=false:=by simpa using c3)
  try subst c1
  try subst c2
  try subst c3
  try simp at ho
  subst ho)
 all_goals (
  go_enter func276,ntmps276;go_wp2_with fail
  generalize ((w.alloc (.cells #[k,n,s] 24)).alloc (.cells #[k',.int .i64 n',.string s'] 24)).alloc (.cells #[aD,aD,()] 24)=W0 at *
  repeat (first | refine (wQ _ _ _ _).mono ?_ | refine (xt _ _).mono ?_ | refine (ze _ _ _ q0 q1 p0 p1).mono ?_ | refine (eI _).mono ?_
          rintro e w1 ⟨rfl,hb⟩;replace T:=T.next hb;clear hb;have ⟨a0,a1,a2,a3,a4,a5,a6⟩:=T.p;have ⟨b0,b1,b2,b3,b4,b5,b6⟩:=T.q;have ⟨r0,r1,r2,r3,r4,r5,r6⟩:=T.r;try simp only [h1,h2]
          go_wp2_with fail)
  have HB:=T.b
  first | exact MA (v:=.agg #[.int .i64 1,.int .i64 0,.string ⟨#[]⟩]) (by simp [results,results276,go_sem,r1,r2,r3]) rfl ⟨rfl,au HB (by omega)⟩ | exact MA (v:=.agg #[.int .i64 (gT (n+n')),.int .i64 (gY (n+n')),.string ⟨#[]⟩]) (by simp [results,results276,go_sem,r1,r2,r3]) rfl ⟨rfl,au HB (by omega)⟩ | exact MA (v:=.agg #[.int .i64 (gT (n - n')),.int .i64 (gY (n - n')),.string ⟨#[]⟩]) (by simp [results,results276,go_sem,r1,r2,r3]) rfl ⟨rfl,au HB (by omega)⟩ | exact MA (v:=.agg #[.int .i64 (gT (n*n')),.int .i64 (gY (n*n')),.string ⟨#[]⟩]) (by simp [results,results276,go_sem,r1,r2,r3]) rfl ⟨rfl,au HB (by omega)⟩)
end Go.Proofs.YtoefpglknaiaeaaGreat
