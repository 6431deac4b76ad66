/- Together: QH, QI, QJ, FX, EX, EY, E9, T1, T2. -/
import Derived.Maps.AppendAt
import Derived.Deep.RegionWith
import Derived.Test.YtohjlfhmnmcndaaGreatM15
import Derived.Test.YtohjlfhmnmcndaaGreatM8
import Derived.Test.YtohjlfhmnmcndaaGreatM12
import Derived.Test.YtohjlfhmnmcndaaGreatM14
import Derived.Test.YtohjlfhmnmcndaaGreatM2
import Derived.Test.YtohjlfhmnmcndaaGreatM5
import Derived.Test.YtohjlfhmnmcndaaGreatM6
namespace Go.Proofs.YtohjlfhmnmcndaaGreat
set_option maxRecDepth 100000
set_option maxHeartbeats 16000000
mutual
def eh (k:Int):Pl→Nat
 | .mk kd n _ _ _ ks=>if kd=1 then fN (n == k) else fT k ks
def fT (k:Int):List Pl→Nat
 | []=>0
 | p :: r=>eh k p+fT k r
end
mutual
def lH (k:Int):Pl→Bool
 | .mk kd n _ _ _ ks=>if eh k (.mk kd n (.mk 0 fH 0 []) [] [] ks)=0∨kd=1 then true else if kd=2∨kd=3∨kd=4∨kd=5 then eH k (kd == 5) 0 ks else false
def eH (k:Int) (s:Bool):Nat→List Pl→Bool
 | _,[]=>true
 | i,p :: r=>if (s && i == 1 && decide (0<eh k p)) || !lH k p then false else eH k s (i+1) r
end
theorem Kv {k:Int} {n:Nat} (h:n=cJ k):(n=0→k=1)∧(n=1→¬ k=1∧¬ (4≤k∧k≤9))∧(n=2→¬ k=1∧4≤k∧k≤9):=by
 unfold cJ at h;by_cases c:k=1
 ·rw [if_pos c] at h;omega
 ·rw [if_neg c] at h;by_cases c2:4≤k∧k≤9
  ·rw [if_pos c2] at h; omega
  ·rw [if_neg c2] at h; omega
theorem yN {b:Bool}:fN b=1↔b=true:=by unfold fN; cases b <;> simp
theorem My {kd n k:Int} (h:¬ kd=1):fN (kd == 1 && n == k)=0:=by
 have:(kd == 1)=false:=by simpa using h
 rw [this];rfl
theorem Cj (k:Int) (r:Pl):jR k [r]=jS k r:=by rw [jR,jR]; cases jS k r <;> rfl
theorem yv {ts:List (List Int)} {k:Int}:∀ (p:Pl) (m d:Int),(aQ ts p m d).1=0→eh k p=nT k p∧(nT k p=0↔jS k p=false)∧(iz k p=true→0<nT k p) :=
 Pl.ind fun kd n x xs gs ks ih m d h=>by
  obtain ⟨hk,hln,hlk⟩:=fS h
  have K:=Kv hln
  rw [eh,nT,jS,iz]
  match ks,hln with
  | [],_ =>
   have c:=K.1 rfl
   subst c
   simp only [fT,ji,if_true]
   refine ⟨by simp,?_,?_⟩
   ·unfold fN
    by_cases e:n=k <;> simp [e]
   ·simp only [show ¬ ((1:Int)=2∨(1:Int)=3∨(1:Int)=5) by decide,show ¬ (1:Int)=4 by decide,if_false]
    intro e
    have:=yN.2 e
    omega
  | [r],_ =>
   obtain ⟨c1,c2⟩:=K.2.1 rfl
   obtain ⟨m',hm⟩:=hlk r (by simp)
   obtain ⟨i1,i2,i3⟩:=ih r (by simp) m' (d+1) hm
   rw [if_neg c1,if_neg c1,My c1,Cj]
   simp only [fT,ji,Oz,Np]
   refine ⟨i1,i2,?_⟩
   by_cases e:kd=2∨kd=3∨kd=5
   ·rw [if_pos e,po]
    exact i3
   ·rw [if_neg e,if_neg (by omega)]
    intro e'
    have:(kd == 1)=false:=by simpa using c1
    rw [this] at e'
    cases e'
  | [l,r],_ =>
   obtain ⟨c1,c2⟩:=K.2.2 rfl
   obtain ⟨m1,hm1⟩:=hlk l (by simp)
   obtain ⟨m2,hm2⟩:=hlk r (by simp)
   obtain ⟨i1,i2,i3⟩:=ih l (by simp) m1 (d+1) hm1
   obtain ⟨j1,j2,j3⟩:=ih r (by simp) m2 (d+1) hm2
   rw [if_neg c1,if_neg c1,My c1]
   simp only [fT,ji,Oz,Np]
   refine ⟨by omega,?_,?_⟩
   ·rw [jR,Cj]
    cases hl:jS k l with
    | true =>
     have:¬ nT k l=0:=fun e=>by rw [i2.1 e] at hl; cases hl
     simp
     omega
    | false =>
     have:=i2.2 hl
     simp only [Ox,if_false]
     rw [← j2]
     omega
   ·by_cases e:kd=2∨kd=3∨kd=5
    ·rw [if_pos e,po]
     intro e'
     have:=i3 e'
     omega
    ·rw [if_neg e]
     by_cases e4:kd=4
     ·rw [if_pos e4,AW,po]
      intro e'
      rw [Bool.or_eq_true] at e'
      rcases e' with e' | e'
      ·have:=i3 e'; omega
      ·have:=j3 e'; omega
     ·rw [if_neg e4]
      intro e'
      have:(kd == 1)=false:=by simpa using c1
      rw [this] at e'
      cases e'
  | _ :: _ :: _ :: _,hln =>
   have:=gh kd
   simp only [N4] at hln
   omega
theorem KC {ts:List (List Int)} {k:Int}:∀ (p:Pl) (m d:Int),(aQ ts p m d).1=0→nT k p=1→iz k p=lE k p∧lH k p=lE k p :=
 Pl.ind fun kd n x xs gs ks ih m d h hc=>by
  obtain ⟨hk,hln,hlk⟩:=fS h
  have K:=Kv hln
  have ct:=(yv (k:=k) _ m d h).1
  have ct':eh k (.mk kd n (.mk 0 fH 0 []) [] [] ks)=1:=by
   rw [← hc,← ct,eh,eh]
  rw [nT] at hc;rw [iz,lE,lH,ct']
  match ks,hln with
  | [],_ =>
   have c:=K.1 rfl;subst c;simp only [ji,Oz] at hc;have e:=yN.1 hc;have e2:n=k:=by simpa using e
   subst e2;simp
  | [r],_ =>
   obtain ⟨c1,c2⟩:=K.2.1 rfl;obtain ⟨m',hm⟩:=hlk r (by simp);rw [My c1] at hc;simp only [ji,Oz,Np] at hc;obtain ⟨i1,i2⟩:=ih r (by simp) m' (d+1) hm hc;have bf:(kd == 1)=false:=by simpa using c1
   rw [if_neg (show ¬ (1=0∨kd=1) by omega),if_neg c1];by_cases e:kd=2∨kd=3
   ·rw [if_pos (by omega),if_pos e,if_pos (by omega),po,Dx,eH,eH,i1,i2];refine ⟨rfl,?_⟩;cases lE k r <;> simp
   ·rw [if_neg (by omega),if_neg (by omega),if_neg e,if_neg (by omega),if_neg (by omega),if_neg (by omega),bf];exact ⟨rfl,rfl⟩
  | [l,r],_ =>
   obtain ⟨c1,c2⟩:=K.2.2 rfl;obtain ⟨m1,hm1⟩:=hlk l (by simp);obtain ⟨m2,hm2⟩:=hlk r (by simp);obtain ⟨tl,sl,ll⟩:=yv (k:=k) l m1 (d+1) hm1;obtain ⟨tr,sr,lr⟩:=yv (k:=k) r m2 (d+1) hm2;rw [My c1] at hc;simp only [ji,Oz,Np] at hc;have bf:(kd == 1)=false:=by simpa using c1
   have pz:∀ (u:Pl),eh k u=0→lH k u=true:=fun u hu=>by
    cases u with
    | mk a b c' d' e' f' =>
     rw [lH,if_pos];left;rw [eh] at hu ⊢;exact hu
   have lz:∀ (b:Bool) (c:Nat),(b=true→0<c)→c=0→b=false:=fun b c h1 h2=>by
    cases b with
    | false=>rfl
    | true=>have:=h1 rfl; omega
   rw [if_neg (show ¬ (1=0∨kd=1) by omega),if_neg c1,if_neg (show ¬ (kd=2∨kd=3) by omega)];have cs:(nT k l=1∧nT k r=0)∨(nT k l=0∧nT k r=1):=by omega
   by_cases e4:kd=4
   ·subst e4;rw [if_neg (by decide),if_pos rfl,if_pos rfl,if_pos (by decide),AW,po,LF,Dx,Cj,eH,eH,eH];rcases cs with ⟨a,b⟩ | ⟨a,b⟩
    ·obtain ⟨i1,i2⟩:=ih l (by simp) m1 (d+1) hm1 a;have sr0:=sr.1 b;have sl1:jS k l=true:=by
      cases hs:jS k l with
      | true=>rfl
      | false=>have:=sl.2 hs; omega
     rw [lz _ _ lr b,i1,i2,sr0,sl1,pz r (by omega)];cases lE k l <;> simp
    ·obtain ⟨i1,i2⟩:=ih r (by simp) m2 (d+1) hm2 b;have sl0:=sl.1 a;have sr1:jS k r=true:=by
      cases hs:jS k r with
      | true=>rfl
      | false=>have:=sr.2 hs; omega
     rw [lz _ _ ll a,i1,i2,sl0,sr1,pz l (by omega)];cases lE k r <;> simp
   ·by_cases e5:kd=5
    ·subst e5;rw [if_pos (by decide),if_neg (by decide),if_pos rfl,if_pos (by decide),po,KL,Cj,eH,eH,eH,tl,tr];rcases cs with ⟨a,b⟩ | ⟨a,b⟩
     ·obtain ⟨i1,i2⟩:=ih l (by simp) m1 (d+1) hm1 a;rw [i1,i2,sr.1 b,b,pz r (by omega)];cases lE k l <;> simp
     ·have sr1:jS k r=true:=by
       cases hs:jS k r with
       | true=>rfl
       | false=>have:=sr.2 hs; omega
      rw [lz _ _ ll a,sr1,a,b,pz l (by omega)];simp
    ·rw [if_neg (by omega),if_neg e4,if_neg e4,if_neg e5,if_neg (by omega),bf];exact ⟨rfl,rfl⟩
  | _ :: _ :: _ :: _,hln =>
   have:=gh kd;simp only [N4] at hln;omega
theorem GO:∀ (p:Pl),gO p=(xu p == 0) :=
 Pl.ind fun kd n x xs gs ks ih=>by
  have key:∀ (l:List Pl),(∀ p ∈ l,gO p=(xu p == 0))→gF l=(ki l == 0):=by
   intro l
   induction l with
   | nil=>intro _; simp [gF,ki]
   | cons p r ihl =>
    intro h;rw [gF,ki,h p (by simp),ihl fun q hq=>h q (by simp [hq])];rw [Bool.eq_iff_iff,NQ,beq_iff_eq,beq_iff_eq,beq_iff_eq];omega
  rw [gO,xu,key ks ih];unfold fN;by_cases a:kd=9 <;> by_cases b:ki ks=0 <;> simp [a,b]
theorem Lo {ts:List (List Int)} {k:Int} {p:Pl} (hl:aX ts p=0) (h:lR k p=true):lE k p=true∧gO p=true:=by
 unfold lR at h;rw [NQ,NQ] at h;have c:nT k p=1:=by simpa using h.1.1
 obtain ⟨e1,_⟩:=KC p 0 1 (cD hl).2 c;refine ⟨by rw [← e1]; exact h.2,?_⟩;rw [GO];exact h.1.2
def FF (k:Int) (p:Pl):Bool:=eh k p == 1 && lH k p && gO p
theorem IW {ts:List (List Int)} {k:Int} {p:Pl} (hl:aX ts p=0):FF k p=lR k p:=by
 have c:=(yv (k:=k) p 0 1 (cD hl).2).1;unfold FF lR;rw [c,GO];by_cases h:nT k p=1
 ·obtain ⟨e1,e2⟩:=KC p 0 1 (cD hl).2 h;rw [e1,e2];cases (nT k p == 1) <;> cases (xu p == 0) <;> cases lE k p <;> rfl
 ·have:(nT k p == 1)=false:=by simpa using h
  rw [this];rfl
end Go.Proofs.YtohjlfhmnmcndaaGreat
namespace Go.Proofs.YtohjlfhmnmcndaaGreat
open Go.RowKit Go.Lib Go.Shelf
set_option maxRecDepth 100000
set_option maxHeartbeats 16000000
theorem ints_at (l r:List Int) (la:Option Addr) (lc:Nat) (ra:Option Addr) (rc:Nat) (w:World) (hl:bc w.heap.size w la l) (hr:bc w.heap.size w ra r) (ER:Hid (r.length=l.length)) (h8:l.length≤1000) :
  Calls Tryz.prog 33 #[.slice la l.length lc,.slice ra r.length rc] w fun e w'=>e = .returned (.bool (decide (l=r)))∧Below w.heap.size w w':=by
 have hne:((l.length:Int) != (r.length:Int))=false:=by simp [ER.out]
 obtain ⟨bb,hbb⟩:∃ bb,decide (l=r)=bb:=⟨_,rfl⟩
 have HB:Hid (decide (l=r)=bb):=hbb;rw [hbb];clear hbb;go_enter Tryz.func33,Tryz.ntmps33;go_wp2_with fail
 clear hne;go_loopw [13] (fun i wr=>∃ j:Nat,j≤l.length∧i = .int .i64 j∧Hid (∀ k,k<j→l[k]? = r[k]?)∧Below w.heap.size w wr) (fun i _=>l.length - (intOf i).toNat)
 case atStart=>exact ⟨0,Nr _,rfl,fun k hk=>by omega,Nk _ _⟩
 case round =>
  obtain ⟨j,hj,rfl,HT,hb⟩:=hrel;by_cases hlt:j<l.length
  ·have hjl:=hlt;have hjr:j<r.length:=by rw [ER.out]; exact hlt
   obtain ⟨b1,o1,rfl,hb1,c1⟩:=(hl.next hb (Nj _)).elem hjl;obtain ⟨b2,o2,rfl,hb2,c2⟩:=(hr.next hb (Nj _)).elem hjr;have hjz:(j:Int)<(l.length:Int):=by omega
   have hjq:(j:Int)<(r.length:Int):=by rw [ER.out]; omega
   have hj0:(0:Int)≤(j:Int):=by omega
   have HBad:Hid (¬ l[j]=r[j]→bb=false):=fun c=>by
    rw [← HB.out];refine decide_eq_false fun e=>c ?_
    subst e;rfl
   have HOk:Hid (l[j]=r[j]→∀ k,k<j+1→l[k]? = r[k]?):=fun c k hk=>by
    rcases NY k j with h | h
    ·exact HT.out k h
    ·obtain rfl:k=j:=by omega
     rw [NF hjl,NF hjr,c]
   clear HT;generalize l[j]=lj at *;generalize r[j]=rj at *;have p1:=ag c1;have p2:=ag c2;haveI:Nonempty (bW wr):=⟨⟨_,Nk _ _⟩⟩
   go_wp2_with fail
   refine aq (by kernel_rfl) (by kernel_rfl) ?_
   repeat (go_big_quiet_step (first | fail))
   refine wpQuiet_nil ?_;rintro w5 ⟨⟨v5,hb5⟩,h5⟩;obtain rfl:w5=v5:=h5;clear p1 p2 this c1 c2;by_cases h0:lj=rj
   ·have HT':Hid (∀ k,k<j+1→l[k]? = r[k]?):=HOk.out h0;subst h0;clear HBad HOk;go_wp2
    go_roundw
    case rel=>exact ⟨j+1,by omega,by go_num,HT',chain hb hb5⟩
    case measure=>simp [intOf]; omega
   ·have e:=HBad.out h0;subst e;have hne:(lj != rj)=true:=by simpa using h0
    clear HBad HOk;go_wp2
    go_ret;exact ⟨rfl,chain hb hb5⟩
  ·have hjn:¬ (j:Int)<(l.length:Int):=by omega
   have e:bb=true:=by
    rw [← HB.out];refine decide_eq_true (List.ext_getElem? fun k=>?_);rcases NY k j with h | h
    ·exact HT.out k h
    ·rw [NW (by omega),NW (by rw [ER.out]; omega)]
   subst e;go_wp2
   go_ret;exact ⟨rfl,hb⟩
theorem oW (k:Int):∀ {l:List Pl} {j:Nat} (h:j<l.length),fT k (l.take (j+1))=fT k (l.take j)+eh k l[j]∧fT k (l.take (j+1))≤fT k l
 | p :: r,0,_=>by simp [fT]
 | p :: r,j+1,h=>by
  have:=oW k (l:=r) (j:=j) (by simpa using h)
  simp only [OX,fT,Ot]
  omega
theorem Gc (k:Int) (p:Pl):eh k p=if p.k=1 then fN (p.n == k) else fT k p.ks:=by cases p; rw [eh]; rfl
def BQ (k:Int) (p:Pl):Prop:=∀ (q:Pw) (w:World),iU p→ja w.heap.size w p q→eh k p≤1000000→Calls Tryz.prog 35 #[bP p q,.int .i64 k] w fun e w'=>e = .returned (.int .i64 (eh k p:Nat))∧Below w.heap.size w w'
theorem HU (k:Int) (p:Pl) (ih:∀ r ∈ p.ks,BQ k r):BQ k p:=by
 rintro ⟨xa,xc,sa,sc,ga,gc,ka,kc⟩ w hlk hp hm;have HLk:Hid (∀ r ∈ p.ks,iU r):=hlk.ks;have hl2:=hlk.len;clear hlk;have hA:=bT w p ⟨xa,xc,sa,sc,ga,gc,ka,kc⟩;have EL:=dI w p ⟨xa,xc,sa,sc,ga,gc,ka,kc⟩;have hks:ft w.heap.size w ka p.ks:=hp.ks;have IH:Hid (∀ r ∈ p.ks,BQ k r):=ih;have HE:Hid (eh k p=if p.k=1 then fN (p.n == k) else fT k p.ks):=Gc k p;generalize hr:eh k p=r at HE hm ⊢;clear hr ih hp;obtain ⟨y0,y1,_,_,_,y10⟩:=EL.el;simp only [Np] at y0 y1 y10;clear EL;unfold bP;(try dsimp only at y10);(try dsimp only);go_enter Tryz.func35,Tryz.ntmps35;go_upto_region 1 with fail
 generalize w.alloc (bK p ⟨xa,xc,sa,sc,ga,gc,ka,kc⟩)=wA at *;by_cases h1:p.k=1
 ·have hk1:(p.k == 1)=true:=by simpa using h1
  have e:r=fN (p.n == k):=by rw [HE.out,if_pos h1]
  clear HE h1 hm IH HLk hks;cases hn:(p.n == k) with
  | true =>
   have e1:r=1:=by rw [e,hn]; rfl
   clear e;subst e1;go_wp2
   go_ret;exact ⟨rfl,hA⟩
  | false =>
   have e1:r=0:=by rw [e,hn]; rfl
   clear e;subst e1;go_wp2
   go_ret;exact ⟨rfl,hA⟩
 have hk1:(p.k == 1)=false:=by simpa using h1
 have HR:Hid (r=fT k p.ks):=by show _=_; rw [HE.out,if_neg h1]
 clear HE h1;go_upto_region 7 with fail
 clear y0 y1 y10 hk1;go_loopw [5,18] (fun s i wr=>∃ j:Nat,j≤p.ks.length∧i = .int .i64 j∧s = .int .i64 (fT k (p.ks.take j):Nat)∧Below w.heap.size w wr) (fun _ i _=>p.ks.length - (intOf i).toNat)
 case atStart=>exact ⟨0,Nr _,rfl,rfl,hA⟩
 case round =>
  obtain ⟨j,hj,rfl,rfl,hb⟩:=hrel;clear hA;by_cases hlt:j<p.ks.length
  ·obtain ⟨t1,t2⟩:=oW k hlt;have hm':fT k p.ks≤1000000:=by rw [← HR.out]; exact hm
   obtain ⟨b,off,q1,rfl,hbl,E1,PB⟩:=(ft.next hb (Nj _) hks).elem hlt;obtain ⟨y0,y1,⟨y2,y3,y4,y5,y6,y7⟩,y8,y9,y10⟩:=E1;have hjz:(j:Int)<(p.ks.length:Int):=by omega
   have hz:=hb.size;have hal:=bT wr p.ks[j] q1;have EK:=dI wr p.ks[j] q1;have con:=IH.out p.ks[j] (Ns hlt) q1 (wr.alloc (bK p.ks[j] q1)) (HLk.out _ (Ns hlt)) ((PB.next (hal.mono (by omega)) (Nj _)).up (by have:=hal.size; omega)) (by omega);have HT1:Hid (fT k (p.ks.take (j+1))=fT k (p.ks.take j)+eh k p.ks[j]):=t1;unfold bP at con;clear PB t1;generalize eh k p.ks[j]=tj at *;generalize fT k (p.ks.take j)=tt at *;go_upto_region 9 with fail
   clear y0 y1 y2 y3 y4 y5 y6 y7 y8 y9 y10;generalize wr.alloc (bK p.ks[j] q1)=wk at *;obtain ⟨y0,y1,⟨y2,y3,y4,y5,y6,y7⟩,y8,y9,y10⟩:=EK.el;simp only [Np] at y1 y2 y3 y4 y5 y6 y7 y8 y9 y10;go_wp2_with fail
   refine con.mono ?_;rintro e w5 ⟨rfl,hb5⟩;clear con y0 y1 y2 y3 y4 y5 y6 y7 y8 y9 y10 EK;have ht2:tt+tj≤1000000:=by have:=HT1.out; omega
   go_wp2
   go_roundw
   case rel=>exact ⟨j+1,by omega,by go_num,by rw [HT1.out]; go_num,chain hb (chain hal hb5)⟩
   case measure=>simp [intOf]; omega
  ·have hjn:¬ (j:Int)<(p.ks.length:Int):=by omega
   have e:fT k (p.ks.take j)=r:=by rw [HR.out,List.take_of_length_le (by omega)]
   rw [e];go_wp2
   go_ret;exact ⟨rfl,hb⟩
theorem oU (k:Int):∀ p,BQ k p:=Pl.ind fun kd n x xs gs ks ih=>HU k (.mk kd n x xs gs ks) ih
theorem Ga {l:List Pl} {j:Nat} (h:j<l.length):gF (l.drop j)=(gO l[j] && gF (l.drop (j+1))):=by rw [Nq h,gF]
theorem Kd {l:List Pl} {j:Nat} (h:l.length≤j):gF (l.drop j)=true:=by rw [NI h,gF]
theorem Ki (p:Pl):gO p=((p.k != 9) && gF p.ks):=by cases p; rw [gO]; rfl
def CH (p:Pl):Prop:=∀ (q:Pw) (w:World),iU p→ja w.heap.size w p q→Calls Tryz.prog 37 #[bP p q] w fun e w'=>e = .returned (.bool (!gO p))∧Below w.heap.size w w'
theorem FA (p:Pl) (ih:∀ r ∈ p.ks,CH r):CH p:=by
 rintro ⟨xa,xc,sa,sc,ga,gc,ka,kc⟩ w hlk hp;have HLk:Hid (∀ r ∈ p.ks,iU r):=hlk.ks;have hl2:=hlk.len;clear hlk;have hA:=bT w p ⟨xa,xc,sa,sc,ga,gc,ka,kc⟩;have EL:=dI w p ⟨xa,xc,sa,sc,ga,gc,ka,kc⟩;have hks:ft w.heap.size w ka p.ks:=hp.ks;have IH:Hid (∀ r ∈ p.ks,CH r):=ih;have HE:Hid (gO p=((p.k != 9) && gF p.ks)):=Ki p;generalize hr:(!gO p)=r;have HR0:Hid ((!gO p)=r):=hr;clear hr ih hp;obtain ⟨y0,y1,_,_,_,y10⟩:=EL.el;simp only [Np] at y0 y1 y10;clear EL;unfold bP;(try dsimp only at y10);(try dsimp only);go_enter Tryz.func37,Tryz.ntmps37;go_upto_region 1 with fail
 generalize w.alloc (bK p ⟨xa,xc,sa,sc,ga,gc,ka,kc⟩)=wA at *;by_cases h1:p.k=9
 ·have hk1:(p.k == 9)=true:=by simpa using h1
  have e:r=true:=by rw [← HR0.out,HE.out,h1]; rfl
  subst e;clear HE h1 HR0;go_wp2
  go_ret;exact ⟨rfl,hA⟩
 have hk1:(p.k == 9)=false:=by simpa using h1
 have HR:Hid (r = !gF (p.ks.drop 0)):=by
  show _=_;rw [← HR0.out,HE.out];have:(p.k != 9)=true:=by simpa using h1
  rw [this];rfl
 clear HE h1 HR0;go_upto_region 4 with fail
 clear y0 y1 y10 hk1;go_loopw [11] (fun i wr=>∃ j:Nat,j≤p.ks.length∧i = .int .i64 j∧Hid (r = !gF (p.ks.drop j))∧Below w.heap.size w wr) (fun i _=>p.ks.length - (intOf i).toNat)
 case atStart=>exact ⟨0,Nr _,rfl,HR,hA⟩
 case round =>
  obtain ⟨j,hj,rfl,HT,hb⟩:=hrel;clear hA HR;by_cases hlt:j<p.ks.length
  ·have HN:Hid (r = !(gO p.ks[j] && gF (p.ks.drop (j+1)))):=by show _=_; rw [HT.out,Ga hlt]
   obtain ⟨b,off,q1,rfl,hbl,E1,PB⟩:=(ft.next hb (Nj _) hks).elem hlt;obtain ⟨y0,y1,⟨y2,y3,y4,y5,y6,y7⟩,y8,y9,y10⟩:=E1;have hjz:(j:Int)<(p.ks.length:Int):=by omega
   have hz:=hb.size;have hal:=bT wr p.ks[j] q1;have EK:=dI wr p.ks[j] q1;have con:=IH.out p.ks[j] (Ns hlt) q1 (wr.alloc (bK p.ks[j] q1)) (HLk.out _ (Ns hlt)) ((PB.next (hal.mono (by omega)) (Nj _)).up (by have:=hal.size; omega));unfold bP at con;clear PB HT;generalize gO p.ks[j]=nj at *;go_upto_region 6 with fail
   clear y0 y1 y2 y3 y4 y5 y6 y7 y8 y9 y10;generalize wr.alloc (bK p.ks[j] q1)=wk at *;obtain ⟨y0,y1,⟨y2,y3,y4,y5,y6,y7⟩,y8,y9,y10⟩:=EK.el;simp only [Np] at y1 y2 y3 y4 y5 y6 y7 y8 y9 y10;cases nj with
   | true =>
    have HT':Hid (r = !gF (p.ks.drop (j+1))):=by show _=_; rw [HN.out]; rfl
    clear HN;go_wp2_with fail
    refine con.mono ?_;rintro e w5 ⟨rfl,hb5⟩;clear con y0 y1 y2 y3 y4 y5 y6 y7 y8 y9 y10 EK;go_wp2
    go_roundw
    case rel=>exact ⟨j+1,by omega,by go_num,HT',chain hb (chain hal hb5)⟩
    case measure=>simp [intOf]; omega
   | false =>
    have e:r=true:=by rw [HN.out]; rfl
    subst e;clear HN;go_wp2_with fail
    refine con.mono ?_;rintro e w5 ⟨rfl,hb5⟩;clear con y0 y1 y2 y3 y4 y5 y6 y7 y8 y9 y10 EK;go_wp2
    go_ret;exact ⟨rfl,chain hb (chain hal hb5)⟩
  ·have hjn:¬ (j:Int)<(p.ks.length:Int):=by omega
   have e:r=false:=by rw [HT.out,Kd (by omega)]; rfl
   subst e;clear HT;go_wp2
   go_ret;exact ⟨rfl,hb⟩
theorem Db:∀ p,CH p:=Pl.ind fun kd n x xs gs ks ih=>FA (.mk kd n x xs gs ks) ih
theorem Lu (k:Int) (p:Pl):lH k p=if eh k p=0∨p.k=1 then true else if p.k=2∨p.k=3∨p.k=4∨p.k=5 then eH k (p.k == 5) 0 p.ks else false:=by
 cases p with
 | mk kd n x xs gs ks =>
  have e:eh k (.mk kd n (.mk 0 fH 0 []) [] [] ks)=eh k (.mk kd n x xs gs ks):=by rw [eh,eh]
  rw [lH,e];rfl
theorem Dj {k:Int} {s:Bool} {l:List Pl} {i j:Nat} (h:j<l.length):eH k s i (l.drop j)=if (s && i == 1 && decide (0<eh k l[j])) || !lH k l[j] then false else eH k s (i+1) (l.drop (j+1)):=by rw [Nq h,eH]
theorem Hn {k:Int} {s:Bool} {l:List Pl} {i j:Nat} (h:l.length≤j):eH k s i (l.drop j)=true:=by rw [NI h,eH]
theorem iU.mk' {p:Pl} (h:∀ r ∈ p.ks,iU r) (hl:p.ks.length≤100000000000000):iU p:=by cases p; exact .mk _ _ _ _ _ _ hl h
def Cx (k:Int) (p:Pl):Prop:=∀ (q:Pw) (w:World),iU p→ja w.heap.size w p q→eh k p≤1000000→Calls Tryz.prog 36 #[bP p q,.int .i64 k] w fun e w'=>e = .returned (.bool (lH k p))∧Below w.heap.size w w'
theorem J0 {k:Int} {p:Pl} (h1:¬ p.k=1) {j:Nat} (h:j<p.ks.length):eh k p.ks[j]≤eh k p:=by
 rw [Gc k p,if_neg h1];have:=oW k h;omega
theorem Ju (k:Int) (p:Pl) (ih:∀ r ∈ p.ks,Cx k r):Cx k p:=by
 rintro ⟨xa,xc,sa,sc,ga,gc,ka,kc⟩ w hlk hp hm;have HLk:Hid (∀ r ∈ p.ks,iU r):=hlk.ks;have hl2:=hlk.len;clear hlk;have hA:=bT w p ⟨xa,xc,sa,sc,ga,gc,ka,kc⟩;have EL:=dI w p ⟨xa,xc,sa,sc,ga,gc,ka,kc⟩;have hks:ft w.heap.size w ka p.ks:=hp.ks;have IH:Hid (∀ r ∈ p.ks,Cx k r):=ih;have HE:Hid (lH k p=if eh k p=0∨p.k=1 then true else if p.k=2∨p.k=3∨p.k=4∨p.k=5 then eH k (p.k == 5) 0 p.ks else false):=Lu k p;have HKs:Hid (¬ p.k=1→∀ (j:Nat) (h:j<p.ks.length),eh k p.ks[j]≤1000000):=fun h1 j h=>Nw (J0 h1 h) hm
 have PB0:=(ja.next hp hA (Nj _)).up hA.size;have con:=oU k p ⟨xa,xc,sa,sc,ga,gc,ka,kc⟩ _ (iU.mk' HLk.out hl2) PB0 hm;generalize hr:lH k p=r at HE ⊢;generalize eh k p=tp at *;clear hr ih hp PB0;obtain ⟨y0,y1,⟨y2,y3,y4,y5,y6,y7⟩,y8,y9,y10⟩:=EL.el;simp only [Np] at y1 y2 y3 y4 y5 y6 y7 y8 y9 y10;unfold bP at con ⊢;(try dsimp only at con);(try dsimp only at y7 y8 y9 y10);(try dsimp only);go_enter Tryz.func36,Tryz.ntmps36;go_upto_region 1 with fail
 generalize w.alloc (bK p ⟨xa,xc,sa,sc,ga,gc,ka,kc⟩)=wA at *;go_wp2_with fail
 refine con.mono ?_;rintro e w1 ⟨rfl,hb1⟩;clear con y0 y1 y2 y3 y4 y5 y6 y7 y8 y9 y10;have EL1:=EL.next hb1;have hA1:=chain hA hb1;clear EL;obtain ⟨y0,y1,_,_,_,y10⟩:=EL1.el;simp only [Np] at y0 y1 y10;by_cases ht:tp=0
 ·have e:r=true:=by rw [HE.out,if_pos (.inl ht)]
  subst e ht;clear HE;go_wp2_with fail
  go_ret;exact ⟨rfl,hA1⟩
 have htz:((tp:Int) == 0)=false:=by simp; omega
 by_cases h1:p.k=1
 ·have hk1:(p.k == 1)=true:=by simpa using h1
  have e:r=true:=by rw [HE.out,if_pos (.inr h1)]
  subst e;clear HE h1 ht;go_wp2_with fail
  go_ret;exact ⟨rfl,hA1⟩
 have hk1:(p.k == 1)=false:=by simpa using h1
 have HKm:=HKs.out h1;have HKM:Hid (∀ (j:Nat) (h:j<p.ks.length),eh k p.ks[j]≤1000000):=HKm;clear HKm HKs;by_cases h2:p.k=2∨p.k=3∨p.k=4∨p.k=5;rotate_left
 ·have e:r=false:=by rw [HE.out,if_neg (by omega),if_neg h2]
  have n2:(p.k != 2)=true:=by simp; omega
  have n3:(p.k != 3)=true:=by simp; omega
  have n4:(p.k != 4)=true:=by simp; omega
  have n5:(p.k != 5)=true:=by simp; omega
  subst e;clear HE h1 h2 ht;go_wp2_with fail
  go_ret;exact ⟨rfl,hA1⟩
 obtain ⟨s,hs⟩:∃ s,(p.k == 5)=s:=⟨_,rfl⟩
 have HR:Hid (r=eH k s 0 (p.ks.drop 0)):=by show _=_; rw [HE.out,if_neg (by omega),if_pos h2,hs]; rfl
 have hc:((p.k != 2)=false)∨((p.k != 2)=true∧(p.k != 3)=false)∨((p.k != 2)=true∧(p.k != 3)=true∧(p.k != 4)=false)∨((p.k != 2)=true∧(p.k != 3)=true∧(p.k != 4)=true∧(p.k != 5)=false):=by
  simp only [bne_iff_ne,bne_eq_false_iff_eq];omega
 clear HE h1 h2 ht;have X0:Below w.heap.size w w1:=hA1;rcases hc with h2 | ⟨h2,h3⟩ | ⟨h2,h3,h4⟩ | ⟨h2,h3,h4,h5⟩
 all_goals
  go_upto_region 6 with fail
  clear y0 y1 y10;go_loopw [37] (fun i wr=>∃ j:Nat,j≤p.ks.length∧i = .int .i64 j∧Hid (r=eH k s j (p.ks.drop j))∧Below w.heap.size w wr∧Below w1.heap.size w1 wr) (fun i _=>p.ks.length - (intOf i).toNat)
  case atStart=>exact ⟨0,Nr _,rfl,HR,X0,Nk _ _⟩
  case round =>
   obtain ⟨j,hj,rfl,HT,hb,hbw⟩:=hrel;clear HR;by_cases hlt:j<p.ks.length;rotate_left
   ·have hjn:¬ (j:Int)<(p.ks.length:Int):=by omega
    have e:r=true:=by rw [HT.out,Hn (by omega)]
    subst e;clear HT;go_wp2_with fail
    go_ret;exact ⟨rfl,hb⟩
   have HN:Hid (r=if (s && j == 1 && decide (0<eh k p.ks[j])) || !lH k p.ks[j] then false else eH k s (j+1) (p.ks.drop (j+1))):=by show _=_; rw [HT.out,Dj hlt]
   obtain ⟨b,off,q1,rfl,hbl,E1,PB⟩:=(ft.next hb (Nj _) hks).elem hlt;obtain ⟨y0,y1,⟨y2,y3,y4,y5,y6,y7⟩,y8,y9,y10⟩:=E1;have hjz:(j:Int)<(p.ks.length:Int):=by omega
   have hz:=hb.size;have hal:=bT wr p.ks[j] q1;have EK:=dI wr p.ks[j] q1;have PBk:=(PB.next (hal.mono (by omega)) (Nj _)).up (by have:=hal.size; omega:w.heap.size≤(wr.alloc (bK p.ks[j] q1)).heap.size);have con1:=oU k p.ks[j] q1 (wr.alloc (bK p.ks[j] q1)) (HLk.out _ (Ns hlt)) PBk (HKM.out j hlt);have HI:=IH.out p.ks[j] (Ns hlt) q1;have HKj:Hid (iU p.ks[j]):=HLk.out _ (Ns hlt);have HMj:Hid (eh k p.ks[j]≤1000000):=HKM.out j hlt
   have HIH:Hid (∀ (w:World),iU p.ks[j]→ja w.heap.size w p.ks[j] q1→eh k p.ks[j]≤1000000→Calls Tryz.prog 36 #[bP p.ks[j] q1,.int .i64 k] w fun e w'=>e = .returned (.bool (lH k p.ks[j]))∧Below w.heap.size w w'):=HI;unfold bP at con1;clear PB HT HI;generalize eh k p.ks[j]=tj at *;generalize lH k p.ks[j]=pj at *;go_upto_region 8 with fail
   clear y0 y1 y2 y3 y4 y5 y6 y7 y8 y9 y10;have hA5:Below w.heap.size w (wr.alloc (bK p.ks[j] q1)):=chain hb hal;have hw5:Below w1.heap.size w1 (wr.alloc (bK p.ks[j] q1)):=chain hbw hal;generalize wr.alloc (bK p.ks[j] q1)=wk at *;obtain ⟨u0,u1,_,_,_,u10⟩:=(EL1.next hw5).el;simp only [Np] at u0 u1 u10;by_cases hsj:s=true∧j=1
   ·obtain ⟨hs1,hj1⟩:=hsj;have hjb:((j:Int) == 1)=true:=by simp; omega
    have hjb2:(j == 1)=true:=by simpa using hj1
    rw [hs1] at hs;obtain ⟨y0,y1,⟨y2,y3,y4,y5,y6,y7⟩,y8,y9,y10⟩:=EK.el;simp only [Np] at y1 y2 y3 y4 y5 y6 y7 y8 y9 y10;have HS1:Hid (s=true):=hs1;clear hj1 hs1;go_wp2_with fail
    refine con1.mono ?_;rintro e w5 ⟨rfl,hb5⟩;clear con1 y0 y1 y2 y3 y4 y5 y6 y7 y8 y9 y10 u0 u1 u10;have hA5b:=chain hA5 hb5;have hw5b:=chain hw5 hb5;have EK5:=EK.next hb5;have PB5:=(PBk.next hb5 (Nj _)).up hb5.size;by_cases htj:0<tj
    ·have e:r=false:=by rw [HN.out,HS1.out,hjb2,decide_eq_true htj]; rfl
     have hgt:((tj:Int) > 0):=by omega
     subst e;clear HN;go_wp2_with fail
     go_ret;exact ⟨rfl,hA5b⟩
    ·have hgt:¬ ((0:Int)<(tj:Int)):=by omega
     have HN1:Hid (pj=true→r=eH k s (j+1) (p.ks.drop (j+1))):=fun h=>by rw [HN.out,decide_eq_false htj,h]; simp
     have con:=HIH.out w5 HKj.out PB5 HMj.out;unfold bP at con;obtain ⟨y0,y1,⟨y2,y3,y4,y5,y6,y7⟩,y8,y9,y10⟩:=(EK5).el;simp only [Np] at y1 y2 y3 y4 y5 y6 y7 y8 y9 y10;clear HIH;go_wp2_with fail
     refine con.mono ?_;rintro e w6 ⟨rfl,hb6⟩;clear con y0 y1 y2 y3 y4 y5 y6 y7 y8 y9 y10;have hA6:=chain hA5b hb6;have hw6:=chain hw5b hb6;cases pj with
     | true =>
      have HT':Hid (r=eH k s (j+1) (p.ks.drop (j+1))):=HN1.out rfl;clear HN HN1;go_wp2_with fail
      go_roundw
      case rel=>exact ⟨j+1,by omega,by go_num,HT',hA6,hw6⟩
      case measure=>simp [intOf]; omega
     | false =>
      have e:r=false:=by rw [HN.out]; simp
      subst e;clear HN HN1;go_wp2_with fail
      go_ret;exact ⟨rfl,hA6⟩
   ·have HN1:Hid (pj=true→r=eH k s (j+1) (p.ks.drop (j+1))):=fun h=>by
     rw [HN.out,h];have:(s && j == 1)=false:=by
      cases hs2:s with
      | false=>rfl
      | true =>
       have:¬ j=1:=fun c=>hsj ⟨hs2,c⟩
       simpa using this
     rw [this];simp
    have HSJ:Hid (¬ (s=true∧j=1)):=hsj;clear hsj con1;cases hs2:s with
    | false =>
     rw [hs2] at hs;have HS2:Hid (s=false):=hs2;clear hs2;have con:=HIH.out wk HKj.out PBk HMj.out;unfold bP at con;obtain ⟨y0,y1,⟨y2,y3,y4,y5,y6,y7⟩,y8,y9,y10⟩:=(EK).el;simp only [Np] at y1 y2 y3 y4 y5 y6 y7 y8 y9 y10;clear HIH;go_wp2_with fail
     refine con.mono ?_;rintro e w6 ⟨rfl,hb6⟩;clear con y0 y1 y2 y3 y4 y5 y6 y7 y8 y9 y10;have hA6:=chain hA5 hb6;have hw6:=chain hw5 hb6;cases pj with
     | true =>
      have HT':Hid (r=eH k s (j+1) (p.ks.drop (j+1))):=HN1.out rfl;clear HN HN1;go_wp2_with fail
      go_roundw
      case rel=>exact ⟨j+1,by omega,by go_num,HT',hA6,hw6⟩
      case measure=>simp [intOf]; omega
     | false =>
      have e:r=false:=by rw [HN.out]; simp
      subst e;clear HN HN1;go_wp2_with fail
      go_ret;exact ⟨rfl,hA6⟩
    | true =>
     have hjn1:¬ j=1:=fun c=>HSJ.out ⟨hs2,c⟩
     have hjb:((j:Int) == 1)=false:=by simp; omega
     rw [hs2] at hs;have HS2:Hid (s=true):=hs2;clear hs2 hjn1;have con:=HIH.out wk HKj.out PBk HMj.out;unfold bP at con;obtain ⟨y0,y1,⟨y2,y3,y4,y5,y6,y7⟩,y8,y9,y10⟩:=(EK).el;simp only [Np] at y1 y2 y3 y4 y5 y6 y7 y8 y9 y10;clear HIH;go_wp2_with fail
     refine con.mono ?_;rintro e w6 ⟨rfl,hb6⟩;clear con y0 y1 y2 y3 y4 y5 y6 y7 y8 y9 y10;have hA6:=chain hA5 hb6;have hw6:=chain hw5 hb6;cases pj with
     | true =>
      have HT':Hid (r=eH k s (j+1) (p.ks.drop (j+1))):=HN1.out rfl;clear HN HN1;go_wp2_with fail
      go_roundw
      case rel=>exact ⟨j+1,by omega,by go_num,HT',hA6,hw6⟩
      case measure=>simp [intOf]; omega
     | false =>
      have e:r=false:=by rw [HN.out]; simp
      subst e;clear HN HN1;go_wp2_with fail
      go_ret;exact ⟨rfl,hA6⟩
theorem Ft (k:Int):∀ p,Cx k p:=Pl.ind fun kd n x xs gs ks ih=>Ju k (.mk kd n x xs gs ks) ih
end Go.Proofs.YtohjlfhmnmcndaaGreat
namespace Go.Proofs.YtohjlfhmnmcndaaGreat
open Go.RowKit
set_option maxRecDepth 100000
set_option maxHeartbeats 16000000
section
variable {P:Program} {ops:Array Oper} {Q:Exit→Act→World→Prop} {md:Region.Mode} {C:World→Prop} {Φ:Nat→World→Value→Prop} {I:Act→World→Prop}
structure Same (ops:Array Oper) (a0 a:Act):Prop where
 size:a.tmps.size=a0.tmps.size
 defers:a.defers=a0.defers
 tmps:∀ t:Tmp,(ops.all fun o=>o.dst != some t)=true→a.tmps.getD t undef=a0.tmps.getD t undef
def Ly (ops:Array Oper) (Φ:Nat→World→Value→Prop) (i:Nat) (a:Act) (w:World):Prop :=
 ∀ o d,ops[i]? = some o→o.dst=some d→Φ i w (a.tmps.getD d undef)
def GG (P:Program) (md:Region.Mode) (ops:Array Oper) (Q:Exit→Act→World→Prop) (C:World→Prop) (Φ:Nat→World→Value→Prop) (I:Act→World→Prop) (a0:Act) (i:Nat) (o:Oper):Prop :=
 ∀ a w,C w→Same ops a0 a→I a w→(∀ e ∈ o.after,Region.binds md e=true→Ly ops Φ e.on a w) →
  wpOp P ops Q i (fun a' w'=>∃ v,a'=a.put o.dst v∧Below w.heap.size w w'∧Φ i w' v∧I (a.put o.dst v) w') a w
def rk (P:Program) (md:Region.Mode) (ops:Array Oper) (Q:Exit→Act→World→Prop) (C:World→Prop) (Φ:Nat→World→Value→Prop) (I:Act→World→Prop) (a0:Act):Nat→List Oper→Prop
 | _,[]=>True
 | i,o :: os=>GG P md ops Q C Φ I a0 i o∧rk P md ops Q C Φ I a0 (i+1) os
theorem rk.get {a0:Act}:∀ {l:List Oper} {k:Nat},rk P md ops Q C Φ I a0 k l→∀ {i:Nat} {o:Oper},l[i]? = some o→GG P md ops Q C Φ I a0 (k+i) o
 | [],_,_,i,o,h=>by simp at h
 | o' :: l,k,H,0,o,h=>by simp at h; subst h; exact H.1
 | o' :: l,k,H,i+1,o,h=>by
  have:=rk.get H.2 (i:=i) (by simpa using h)
  rw [show k+1+i=k+(i+1) by omega] at this
  exact this
def tidy (md:Region.Mode) (ops:Array Oper) (n:Nat):Bool :=
 (List.range ops.size).all fun i=>match ops[i]? with
  | none=>true
  | some o=>(o.after.all fun e=>!Region.binds md e || decide (e.on<i)) && (match o.dst with
   | none=>true
   | some d=>decide (d<n) && (List.range ops.size).all fun j=>match ops[j]? with
    | none=>true
    | some o'=>decide (j=i) || (o'.dst != some d))
theorem oQ {n:Nat} (h:tidy md ops n=true) {i:Nat} {o:Oper} (hi:ops[i]? = some o) :
  (∀ e ∈ o.after,Region.binds md e=true→e.on<i)∧∀ d,o.dst=some d→d<n∧∀ j o',ops[j]? = some o'→j≠i→o'.dst≠some d:=by
 have hlt:i<ops.size:=(Array.getElem?_eq_some_iff.1 hi).1;have h1:=List.all_eq_true.1 h i (List.mem_range.2 hlt);simp only [hi,NQ] at h1;obtain ⟨h1,h2⟩:=h1;refine ⟨fun e he hb=>?_,fun d hd=>?_⟩
 ·have:=Array.all_eq_true_iff_forall_mem.1 h1 e he
  simpa [hb] using this
 ·simp only [hd,NQ,decide_eq_true_eq] at h2;refine ⟨h2.1,fun j o' hj hne=>?_⟩;have hl:j<ops.size:=(Array.getElem?_eq_some_iff.1 hj).1;have:=List.all_eq_true.1 h2.2 j (List.mem_range.2 hl)
  simpa [hj,hne] using this
theorem Gf {a0 a:Act} {i:Nat} {o:Oper} {v:Value} (hi:ops[i]? = some o) (h:Same ops a0 a):Same ops a0 (a.put o.dst v):=by
 unfold Act.put;cases hd:o.dst with
 | none=>exact h
 | some d =>
  refine ⟨by simpa using h.size,h.defers,fun t ht=>?_⟩;have hne:d≠t:=fun e=>by
   have hlt:i<ops.size:=(Array.getElem?_eq_some_iff.1 hi).1;have:=Array.all_eq_true_iff_forall_mem.1 ht o (Array.mem_of_getElem? hi);rw [hd,e] at this;simp at this
  have:=h.tmps t ht;rw [← this];simp [Array.getD_eq_getD_getElem?,Array.getElem?_setIfInBounds_ne hne]
def KQ (md:Region.Mode) (ops:Array Oper) (listed:Array Bool):Prop :=
 ∀ i o,ops[i]? = some o→listed.getD i false=true→∀ e ∈ o.after,Region.binds md e=true→listed.getD e.on false=true
theorem kJ {listed:Array Bool} {i:Nat} (h:i<listed.size) (d:Bool):listed.getD i d=listed[i]:=by simp [Array.getD,h]
end
section
variable {P:Program} {ops:Array Oper} {Q:Exit→Act→World→Prop} {md:Region.Mode} {C:World→Prop} {Φ:(Nat→Bool)→Nat→World→Value→Prop} {G:Nat→Act→World→World→Prop}
def cI (d:Nat→Bool) (i:Nat):Nat→Bool:=fun k=>if k=i then true else d k
def xY (ops:Array Oper) (Φ:(Nat→Bool)→Nat→World→Value→Prop) (d:Nat→Bool) (i:Nat) (a:Act) (w:World):Prop :=
 ∀ o t,ops[i]? = some o→o.dst=some t→Φ d i w (a.tmps.getD t undef)
def rJ (P:Program) (md:Region.Mode) (ops:Array Oper) (Q:Exit→Act→World→Prop) (C:World→Prop) (Φ:(Nat→Bool)→Nat→World→Value→Prop) (G:Nat→Act→World→World→Prop) (a0:Act) (i:Nat) (o:Oper):Prop :=
 ∀ d a w,C w→Same ops a0 a→d i=false→(∀ k o',ops[k]? = some o'→d k=true→∀ e ∈ o'.after,Region.binds md e=true→d e.on=true)→(∀ e ∈ o.after,Region.binds md e=true→d e.on=true∧xY ops Φ d e.on a w) →
  wpOp P ops Q i (fun a' w'=>∃ v,a'=a.put o.dst v∧C w'∧G i a w w'∧Φ (cI d i) i w' v) a w
def pw (P:Program) (md:Region.Mode) (ops:Array Oper) (Q:Exit→Act→World→Prop) (C:World→Prop) (Φ:(Nat→Bool)→Nat→World→Value→Prop) (G:Nat→Act→World→World→Prop) (a0:Act):Nat→List Oper→Prop
 | _,[]=>True
 | i,o :: os=>rJ P md ops Q C Φ G a0 i o∧pw P md ops Q C Φ G a0 (i+1) os
theorem pw.get {a0:Act}:∀ {l:List Oper} {k:Nat},pw P md ops Q C Φ G a0 k l→∀ {i:Nat} {o:Oper},l[i]? = some o→rJ P md ops Q C Φ G a0 (k+i) o
 | [],_,_,i,o,h=>by simp at h
 | o' :: l,k,H,0,o,h=>by simp at h; subst h; exact H.1
 | o' :: l,k,H,i+1,o,h=>by
  have:=pw.get H.2 (i:=i) (by simpa using h)
  rw [show k+1+i=k+(i+1) by omega] at this
  exact this
theorem wpAny_done (hΦ:∀ d a i j w w' v,j≠i→d i=false→(∀ o t,ops[j]? = some o→o.dst=some t→v=a.tmps.getD t undef)→Φ d j w v→G i a w w'→Φ (cI d i) j w' v) {a0:Act}
  (ht:tidy md ops a0.tmps.size=true) (step:pw P md ops Q C Φ G a0 0 ops.toList)
  (fin:∀ d a w,C w→Same ops a0 a→(∀ i<ops.size,d i=true)→(∀ i<ops.size,xY ops Φ d i a w)→Q .normal a w) :
  ∀ (fuel:Nat) (listed:Array Bool) (a:Act) (w:World),listed.size=ops.size→listed.toList.count false=fuel→KQ md ops listed→C w→Same ops a0 a →
   (∀ i,listed.getD i false=true→xY ops Φ (fun k=>listed.getD k false) i a w)→wpAny P md ops Q fuel listed a w:=by
 intro fuel
 induction fuel with
 | zero =>
  intro listed a w hs hn hcl hc hsm hf;have hall:∀ j<ops.size,listed.getD j false=true:=fun j hj=>by
   have hlt:j<listed.size:=by omega
   rw [kJ hlt];cases hb:listed[j] with
   | true=>rfl
   | false =>
    exfalso;rw [List.count_eq_zero] at hn;apply hn;rw [← hb];simp
  refine ⟨?_,fin _ a w hc hsm hall fun i hi=>hf i (hall i hi)⟩;cases h:Region.ready md ops listed with
  | nil=>rfl
  | cons i l =>
   exfalso;have hm:i ∈ Region.ready md ops listed:=by rw [h]; simp
   obtain ⟨h1,o,ho,_⟩:=mem_ready.1 hm;have hlt:=(Array.getElem?_eq_some_iff.1 ho).1;have h2:=hall i hlt;rw [kJ (by omega)] at h1 h2;rw [h1] at h2;cases h2
 | succ fuel ih =>
  intro listed a w hs hn hcl hc hsm hf;refine ⟨fun hr=>?_,fun i hi=>?_⟩
  ·exfalso;have hall:∀ j,j<ops.size→listed.getD j false=true:=by
    intro j
    induction j using Nat.strongRecOn with
    | ind j ihj =>
     intro hj;cases hb:listed.getD j false with
     | true=>rfl
     | false =>
      exfalso;have ho:ops[j]? = some ops[j]:=Oc hj;have:j ∈ Region.ready md ops listed:=mem_ready.2 ⟨by rw [kJ (by omega)] at hb ⊢; exact hb,ops[j],ho,fun e he hb=>by
       have:=(oQ ht ho).1 e he hb;exact ihj _ this (by omega)⟩
      rw [hr] at this;cases this
   have:listed.toList.count false=0:=by
    rw [List.count_eq_zero];intro hm;obtain ⟨j,hj,e⟩:=Ov hm;have hj':j<listed.size:=by simpa using hj
    have h1:=hall j (by omega);rw [kJ hj'] at h1;simp at e;rw [e] at h1;cases h1
   omega
  obtain ⟨h1,o,ho,hdep⟩:=mem_ready.1 hi;have hlt:i<listed.size:=by rw [hs]; exact (Array.getElem?_eq_some_iff.1 ho).1
  have hget:listed[i]=false:=by rw [kJ hlt] at h1; exact h1
  have hgf:listed.getD i false=false:=by rw [kJ hlt]; exact hget
  have st:=step.get (i:=i) (o:=o) (by simpa using ho);rw [Np] at st;refine wpOp_mono ?_ (st (fun k=>listed.getD k false) a w hc hsm hgf (fun k o' hk hd=>hcl k o' hk hd) fun e he hb=>⟨hdep e he hb,hf _ (hdep e he hb)⟩);rintro a' w' ⟨v,rfl,hc',hg,hv⟩;have ed:(fun k=>(listed.setIfInBounds i true).getD k false)=cI (fun k=>listed.getD k false) i:=by
   funext k
   unfold cI;by_cases hk:k=i
   ·subst hk;rw [if_pos rfl,kJ (by simpa using hlt)];simp
   ·rw [if_neg hk,getD_set_ne false (Ne.symm hk)]
  refine ih _ _ _ (by simpa using hs) ?_ ?_ hc' (Gf ho hsm) ?_
  ·rw [Array.toList_setIfInBounds,List.count_set (by simpa using hlt)];have hpos:0<listed.toList.count false:=List.count_pos_iff.2 (by rw [← hget]; simp);have e1:(listed.toList[i]'(by simpa using hlt) == false)=true:=by simp [hget]
   rw [if_pos e1,if_neg (by simp)];omega
  ·have up:∀ j,listed.getD j false=true→(listed.setIfInBounds i true).getD j false=true:=fun j hj=>by
    have h9:(listed.setIfInBounds i true).getD j false=cI (fun k=>listed.getD k false) i j:=congrFun ed j;rw [h9];unfold cI
    split
    ·rfl
    ·exact hj
   intro j oj hoj hj e he hbd;by_cases hji:i=j
   ·subst hji;rw [ho] at hoj;cases hoj;exact up _ (hdep e he hbd)
   ·rw [getD_set_ne false hji] at hj;exact up _ (hcl j oj hoj hj e he hbd)
  ·intro j hj o' t hoj ht';rw [ed];by_cases hji:j=i
   ·subst hji;rw [ho] at hoj;cases hoj;have hd1:=(oQ ht ho).2 t ht';have:t<a.tmps.size:=by rw [hsm.size]; exact hd1.1
    simpa [Act.put,ht',Array.getD,this] using hv
   ·have hj':listed.getD j false=true:=by rwa [getD_set_ne false (Ne.symm hji)] at hj
    have hold:=hΦ _ a i j _ _ _ hji hgf (fun o2 t2 h2 h3=>by
     rw [hoj] at h2;cases h2;rw [ht'] at h3;cases h3;rfl) (hf j hj' o' t hoj ht') hg
    have hne:o.dst≠some t:=((oQ ht hoj).2 t ht').2 i o ho (Ne.symm hji);unfold Act.put;cases hod:o.dst with
    | none=>exact hold
    | some t' =>
     have hdd:t'≠t:=fun e=>hne (by rw [hod,e])
     simpa [Array.getD_eq_getD_getElem?,Array.getElem?_setIfInBounds_ne hdd] using hold
theorem gu {id:Nat} {a:Act} {w:World} (hm:P.follows .mixedOrders=true) (C:World→Prop) (Φ:(Nat→Bool)→Nat→World→Value→Prop) (G:Nat→Act→World→World→Prop)
  (hΦ:∀ d a i j w w' v,j≠i→d i=false→(∀ o t,ops[j]? = some o→o.dst=some t→v=a.tmps.getD t undef)→Φ d j w v→G i a w w'→Φ (cI d i) j w' v)
  (ht:tidy .any ops a.tmps.size=true) (hc:C w.drew) (step:pw P .any ops Q C Φ G a 0 ops.toList)
  (fin:∀ d a' w',C w'→Same ops a a'→(∀ i<ops.size,d i=true)→(∀ i<ops.size,xY ops Φ d i a' w')→Q .normal a' w'):(Code.region id ops true).wp P Q a w :=
 wp_region_any hm (wpAny_done hΦ ht step fin _ _ _ _ (by simp) (by simp) (fun i o _ h=>by simp [Array.getD] at h) hc ⟨rfl,rfl,fun _ _=>rfl⟩ (fun i h=>by simp [Array.getD] at h))
end
end Go.Proofs.YtohjlfhmnmcndaaGreat
namespace Go.Proofs.YtohjlfhmnmcndaaGreat
open Go.RowKit Go.Lib Go.Shelf
set_option maxRecDepth 100000
set_option maxHeartbeats 16000000
theorem AJ {w w':World} (h:w.grownBy w' none):Below w.heap.size w w':=⟨h.os,h.tape,h.output,h.size,fun k hk=>h.block k hk (by intro e; cases e)⟩
theorem II {P:Program} (w:World) (base:Nat) (t ty e:TypeId) (i:TypeInfo) (z:Value) (bytes:Nat) (ht:P.underlying t=some (.slice e)) (hi:P.info? e=some i) (hz:i.zero=some z)
  (hsize:i.size=1) (hby:i.bytes=bytes) (hzs:z.cells.size=1) (v:Value) (n:Nat) (xs:List Value) (hown:w.ownsRow base e 1 v n xs)
  (ao:Option Addr) (m c:Nat) (news:List Value) (hr:Raw w ao m 1 news) (h63:n+m≤maxLen) (hbytes:(n+m)*bytes≤140737488355328) (hbase:base≤w.heap.size) :
  ∃ v' w',(Builtin.append_ #[t,t] ty #[v,.slice ao m c]).run P w = .ok v' w'∧w'.ownsRow base e 1 v' (n+m) (xs ++ news)∧(n+m=0→v'=v) ∧
   (Below w.heap.size w w'∨∃ g cap cs,v = .slice (some ⟨g,0,none⟩) n cap∧n+m≤cap∧w.heap[g]? = some (.cells cs e (0,0))∧cs.size=cap∧base≤g∧w.grownBy w' (some g)):=by
 rcases ao with _ | ad
 ·have hm:=hr.nil rfl
  subst hm
  have hnews:news = []:=Nu (by simpa using hr.len)
  subst hnews
  exact ⟨v,w,gV (P:=P) (w:=w) base t ty e i 1 ht hi v n xs hown c,by simpa using hown,fun _=>rfl,.inl (Nk _ _)⟩
 obtain ⟨v',w',hrun,ho,hgr,hnil,_⟩:=run_append_own_at (P:=P) (w:=w) base t ty e i z 1 bytes ht hi hz hsize hby hzs (by decide) v n xs hown ad m c news hr.len (hr.at_ ad rfl) hr.one h63 hbytes hbase
 rcases hown with ⟨hx,⟨rfl,rfl⟩ | ⟨g,cap,cur,rfl,hg,hh,hn,hc,hs,hk⟩⟩
 ·refine ⟨v',w',hrun,ho,fun h0=>hnil.2 ⟨rfl,by omega⟩,.inl (AJ hgr)⟩
 subst hby
 rw [Nat.mul_one] at hs
 by_cases room:n+m≤cap
 ·have h2:=run_append_room (P:=P) w t ty e i ht hi g n cap cur hh ad m c news (by rw [hsize]; exact hr.len) (hr.at_ ad rfl) hr.one room (by rw [hr.len,hs,hsize]; omega)
  rw [hrun] at h2
  injection h2 with h3 _
  refine ⟨v',w',hrun,ho,fun h0=>?_,.inr ⟨g,cap,cur,rfl,room,hh,hs,hg,hgr⟩⟩
  rw [h3]
  congr 1
  omega
 ·have holds:∀ j v,xs[j]? = some v→w.cell? ((⟨g,0,none⟩:Addr).add j)=some v:=World.ownsRow.cells (w:=w) (base:=base) (e:=e) (size:=1) (v:=.slice (some ⟨g,0,none⟩) n cap) (n:=n) ⟨hx,.inr ⟨g,cap,cur,rfl,hg,hh,hn,hc,by omega,hk⟩⟩ rfl
  have h63':((n+m:Nat):Int)≤9223372036854775807:=by simp only [maxLen] at h63; omega
  have h2:=run_append_grow (P:=P) w t ty e i z ht hi hz ⟨g,0,none⟩ n cap xs (by rw [hsize]; exact hx) holds ad m c news (by rw [hsize]; exact hr.len) (hr.at_ ad rfl) (by omega) h63' (growslice_fits (by omega) hbytes)
  rw [hrun] at h2
  injection h2 with h3 h4
  refine ⟨v',w',hrun,ho,fun h0=>by omega,.inl ?_⟩
  rw [h4]
  exact ((Nk _ _).drew).alloc (Nj _) _
section
variable {ops:Array Oper} {Q:Exit→Act→World→Prop} {C:World→Prop} {Φ:(Nat→Bool)→Nat→World→Value→Prop} {G:Nat→Act→World→World→Prop} {a0:Act} {i:Nat} {o:Oper}
def MB (ops:Array Oper) (d:Nat→Bool):Prop:=∀ k o',ops[k]? = some o'→d k=true→∀ e ∈ o'.after,Region.binds .any e=true→d e.on=true
def Cp (ops:Array Oper) (Φ:(Nat→Bool)→Nat→World→Value→Prop) (d:Nat→Bool) (o:Oper) (a:Act) (w:World):Prop:=∀ e ∈ o.after,Region.binds .any e=true→d e.on=true∧xY ops Φ d e.on a w
def Mc (ops:Array Oper) (o:Oper) (j t:Nat):Bool:=(o.after.any fun e=>Region.binds .any e && e.on == j) && ((ops[j]?).bind (·.dst) == some t)
theorem Iu {d:Nat→Bool} {a:Act} {w:World} {j t:Nat} (hf:Cp ops Φ d o a w) (h:Mc ops o j t=true):d j=true∧Φ d j w (a.tmps.getD t undef):=by
 unfold Mc at h;rw [NQ,Array.any_eq_true] at h;obtain ⟨⟨n,hn,h1⟩,h2⟩:=h;have he:=Array.getElem_mem hn;generalize o.after[n]=e at he h1;rw [NQ,beq_iff_eq] at h1;obtain ⟨h1,rfl⟩:=h1;rw [beq_iff_eq] at h2;obtain ⟨oj,hj,hd⟩:=Option.bind_eq_some_iff.1 h2;exact ⟨(hf e he h1).1,(hf e he h1).2 oj t hj hd⟩
theorem bM {d:Nat→Bool} {a:Act} {w:World} {j t:Nat} (hf:Cp ops Φ d o a w) (h:Mc ops o j t=true):Φ d j w (a.tmps.getD t undef):=(Iu hf h).2
theorem MB.not {d:Nat→Bool} (h:MB ops d) {i k:Nat} (hi:d i=false) {o':Oper} (hk:ops[k]? = some o') (ha:(o'.after.any fun e=>Region.binds .any e && e.on == i)=true):d k=false:=by
 cases hd:d k with
 | false=>rfl
 | true =>
  exfalso;rw [Array.any_eq_true] at ha;obtain ⟨n,hn,h1⟩:=ha;have he:=Array.getElem_mem hn;generalize o'.after[n]=e at he h1;rw [NQ,beq_iff_eq] at h1;obtain ⟨h1,rfl⟩:=h1;have:=h k o' hk hd e he h1;rw [hi] at this;cases this
theorem bu (ho:ops[i]? = some o) (hg:o.guard=none)
  (run:∀ d a w,C w→Same ops a0 a→d i=false→MB ops d→Cp ops Φ d o a w→∃ v w',(execOp a.eval o).run Tryz.prog w = .ok (.value v) w'∧C w'∧G i a w w'∧Φ (cI d i) i w' v) :
  rJ Tryz.prog .any ops Q C Φ G a0 i o:=fun d a w hc hs hd hcl hf=>by
 obtain ⟨v,w',e,hc',hb,hv⟩:=run d a w hc hs hd hcl hf
 unfold wpOp
 rw [ho]
 show if Region.wanted o (yielded ops a.tmps) then _ else _
 rw [if_pos (by unfold Region.wanted; rw [hg])]
 left
 unfold Oper.wp
 rw [e]
 exact ⟨v,rfl,hc',hb,hv⟩
theorem hU (ho:ops[i]? = some o) (hg:o.guard=none)
  (run:∀ d a w,C w→Same ops a0 a→d i=false→MB ops d→Cp ops Φ d o a w→∃ f args,(execOp a.eval o).run Tryz.prog w = .ok (.enter f args) w∧Calls Tryz.prog f args w fun e w'=>∃ v,e = .returned v∧C w'∧G i a w w'∧Φ (cI d i) i w' v) :
  rJ Tryz.prog .any ops Q C Φ G a0 i o:=fun d a w hc hs hd hcl hf=>by
 obtain ⟨f,args,e,hcall⟩:=run d a w hc hs hd hcl hf
 unfold wpOp
 rw [ho]
 show if Region.wanted o (yielded ops a.tmps) then _ else _
 rw [if_pos (by unfold Region.wanted; rw [hg])]
 left
 unfold Oper.wp
 rw [e]
 exact hcall.mono fun e w' ⟨v,he,hc',hb,hv⟩=>by subst he; exact ⟨v,rfl,hc',hb,hv⟩
theorem Cq {t:Tmp} (ho:ops[i]? = some o) (hg:o.guard=none) (hop:o.op = .move (.tmp t)) (ht:(ops.all fun o=>o.dst != some t)=true) (hG:∀ a w,C w→G i a w w) (hi:∀ d w,C w→Φ (cI d i) i w (a0.tmps.getD t undef)):rJ Tryz.prog .any ops Q C Φ G a0 i o :=
 bu ho hg fun d a w hc hs _ _ _=>⟨_,w,by
  unfold execOp
  rw [hop]
  show (pure (.value (a.tmps.getD t undef)):Sem Next).run Tryz.prog w=_
  rw [hs.tmps t ht]
  rfl,hc,hG a w hc,hi d w hc⟩
theorem jc {t:Tmp} {j:Nat} (ho:ops[i]? = some o) (hg:o.guard=none) (hop:o.op = .move (.tmp t)∨o.op = .assign (.tmp t)) (hj:Mc ops o j t=true) (hG:∀ a w,C w→G i a w w) (hi:∀ d w v,Φ d j w v→Φ (cI d i) i w v):rJ Tryz.prog .any ops Q C Φ G a0 i o :=
 bu ho hg fun d a w hc hs _ _ hf=>⟨_,w,by
  unfold execOp
  rcases hop with hop | hop <;>
  ·rw [hop]
   show (pure (.value (a.tmps.getD t undef)):Sem Next).run Tryz.prog w=_
   rfl,hc,hG a w hc,hi d w _ (bM hf hj)⟩
theorem jb {t:Tmp} {j n:Nat} (ho:ops[i]? = some o) (hg:o.guard=none) (hop:o.op = .extract (.tmp t) n) (hj:Mc ops o j t=true) (hG:∀ a w,C w→G i a w w) (hi:∀ d w v,Φ d j w v→∃ l:Array Value,∃ u,v = .tuple l∧l[n]? = some u∧Φ (cI d i) i w u):rJ Tryz.prog .any ops Q C Φ G a0 i o :=
 bu ho hg fun d a w hc hs _ _ hf=>by
  obtain ⟨l,u,e1,e2,h3⟩:=hi d w _ (bM hf hj)
  refine ⟨u,w,?_,hc,hG a w hc,h3⟩
  unfold execOp
  rw [hop]
  simp only [Act.eval]
  rw [e1]
  simp [Instr.extract,e2]
end
def Gv:Code→List (Array Oper)
 | .region _ ops _=>[ops]
 | .seq a b=>Gv a ++ Gv b
 | .cond _ a b=>Gv a ++ Gv b
 | _=>[]
def tT (f:Func) (n:Nat):Array Oper:=(Gv (f.body.getD .skip)).getD n #[]
def jA (a':Act):List Oper→Act→Act
 | [],a=>a
 | o :: l,a=>jA a' l (a.put o.dst (match o.dst with | some t=>a'.tmps.getD t undef | none=>undef))
theorem tB (a':Act):∀ (l:List Oper) (a:Act),(jA a' l a).tmps.size=a.tmps.size∧(jA a' l a).defers=a.defers
 | [],a=>⟨rfl,rfl⟩
 | o :: l,a=>by
  rw [jA]
  obtain ⟨h1,h2⟩:=tB a' l (a.put o.dst (match o.dst with | some t=>a'.tmps.getD t undef | none=>undef))
  rw [h1,h2]
  unfold Act.put
  cases o.dst <;> simp
theorem vy (a':Act) (t:Nat):∀ (l:List Oper) (a:Act),t<a.tmps.size→(jA a' l a).tmps.getD t undef=if (l.all fun o=>o.dst != some t)=true then a.tmps.getD t undef else a'.tmps.getD t undef
 | [],a,_=>by simp [jA]
 | o :: l,a,ht=>by
  rw [jA,vy a' t l _ (by unfold Act.put; cases o.dst <;> simpa using ht),Pc]
  cases hd:o.dst with
  | none=>simp [Act.put]
  | some u =>
   by_cases hu:u=t
   ·subst hu
    simp [Act.put,Array.getD,ht]
   ·simp only [Act.put]
    have h1:(some u != some t)=true:=by simpa using hu
    rw [h1,Bool.true_and]
    simp [Array.getD_eq_getD_getElem?,Array.getElem?_setIfInBounds_ne hu]
def qp (a':Act):List (Option Tmp)→Act→Act
 | [],a=>a
 | t :: l,a=>qp a' l (a.put t (match t with | some t=>a'.tmps.getD t undef | none=>undef))
theorem Hh (a':Act):∀ (l:List Oper) (a:Act),jA a' l a=qp a' (l.map (·.dst)) a
 | [],_=>rfl
 | _ :: l,_=>Hh a' l _
theorem Same.MP {ops:Array Oper} {a a':Act} (h:Same ops a a'):a'=jA a' ops.toList a:=by
 have hs:=tB a' ops.toList a;have ht:a'.tmps=(jA a' ops.toList a).tmps:=by
  refine Array.ext (h.size.trans hs.1.symm) fun i h1 h2=>?_
  have e:=vy a' i ops.toList a (by rw [← h.size]; exact h1);have e1:(jA a' ops.toList a).tmps.getD i undef=(jA a' ops.toList a).tmps[i]:=by simp [Array.getD,h2]
  have e2:a'.tmps.getD i undef=a'.tmps[i]:=by simp [Array.getD,h1]
  refine e2.symm.trans (Eq.trans ?_ e1);rw [e];by_cases c:(ops.toList.all fun o=>o.dst != some i)=true
  ·rw [if_pos c];exact h.tmps i (by rw [← Array.all_toList]; exact c)
  ·rw [if_neg c]
 have hd:a'.defers=(jA a' ops.toList a).defers:=h.defers.trans hs.2.symm;generalize jA a' ops.toList a=b at ht hd;cases a';cases b;simp only at ht hd;subst ht hd;rfl
theorem Same.qp {ops:Array Oper} {a a':Act} {l:List (Option Tmp)} (h:Same ops a a') (hl:ops.toList.map (·.dst)=l):a'=qp a' l a:=by
 have e:=h.MP;rw [Hh,hl] at e;exact e
def AT (d:Nat→Bool):Prop:=d 2=true∧d 5=true∧d 9=true∧d 12=true
def f7 (lo:Nat) (ta:Option Addr) (tc n:Nat) (xs:List Value) (ca:Option Addr) (cl cc:Nat) (V:Value) (da:Option Addr) (dc m:Nat) (ys:List Value) (za:Option Addr) (zl zc:Nat) (ee:Int) (ez:List Zp) (d:Nat→Bool) (k:Nat) (w:World) (v:Value):Prop:=match k with
 | 0=>d 2=true∨∃ g,v = .slice (some ⟨g,0,none⟩) 0 0∧lo≤g∧w.heap[g]? = some (.cells #[] 45 (0,0))
 | 1=>v = .slice ta n tc
 | 2=>d 5=true∨(w.ownsRow lo 45 1 v n xs∧(n=0→∃ g,v = .slice (some ⟨g,0,none⟩) 0 0))
 | 3=>v = .slice ca cl cc
 | 4=>∃ b,v = .slice (some ⟨b,0,none⟩) 1 1∧w.heap[b]? = some (.cells #[.slice ca cl cc] 45 (0,0))
 | 5=>(d 2=true∧d 5=true)∧w.ownsRow lo 45 1 v (n+1) (xs ++ [.slice ca cl cc])
 | 6=>v=V
 | 7=>d 9=true∨∃ g,v = .slice (some ⟨g,0,none⟩) 0 0∧lo≤g∧w.heap[g]? = some (.cells #[] 34 (0,0))
 | 8=>v = .slice da m dc
 | 9=>d 12=true∨(w.ownsRow lo 34 1 v m ys∧(m=0→∃ g,v = .slice (some ⟨g,0,none⟩) 0 0))
 | 10=>v = .slice za zl zc
 | 11=>∃ b,v = .slice (some ⟨b,0,none⟩) 1 1∧w.heap[b]? = some (.cells #[.slice za zl zc] 34 (0,0))
 | 12=>(d 9=true∧d 12=true)∧w.ownsRow lo 34 1 v (m+1) (ys ++ [.slice za zl zc])
 | 13=>AT d∧∃ u,v = .tuple #[u,.int .i64 ee]∧bZ lo w u ez
 | 14=>AT d∧∃ u,v = .tuple #[u,.int .i64 ee]∧bZ lo w u ez
 | 15=>AT d∧bZ lo w v ez
 | 16=>v = .int .i64 ee
 | 17=>AT d∧bZ lo w v ez
 | 18=>v = .int .i64 ee
 | _=>True
def MC (T:TypeId) (lo:Nat) (z:Bool) (w w':World):Prop:=∃ g cs,lo≤g∧w.heap[g]? = some (.cells cs T (0,0))∧cs.size≠1∧(cs.size=0→z=true)∧w.grownBy w' (some g)
def g7 (lo i:Nat) (w w':World):Prop:=Below w.heap.size w w'∨((i=2∨i=5)∧MC 45 lo (i == 2) w w')∨((i=9∨i=12)∧MC 34 lo (i == 9) w w')
theorem uG {w w':World} {base:Nat} {e:TypeId} {v:Value} {n:Nat} {xs:List Value} (h:w.ownsRow base e 1 v n xs) (hb:Below w.heap.size w w'):w'.ownsRow base e 1 v n xs :=
 h.kept (row:=none) ⟨hb.os,hb.tape,hb.output,hb.size,fun k hk _=>hb.block k hk⟩ (by cases v.ownBlock <;> simp)
theorem vV {w w':World} {b g:Nat} {cs cs':Array Value} {T T':TypeId} (h:w.heap[b]? = some (.cells cs' T' (0,0))) (hq:w.heap[g]? = some (.cells cs T (0,0))) (hT:T≠T'∨cs.size≠cs'.size) (hg:w.grownBy w' (some g)):w'.heap[b]? = some (.cells cs' T' (0,0)):=by
 rw [hg.block b (ae h) ?_]
 ·exact h
 ·intro c;have c:=NU c;subst c;rw [h] at hq;have hq:=NU hq;injection hq with h1 h2
  subst h1 h2;rcases hT with h | h <;> exact h rfl
theorem eY {d:Nat→Bool} {i k:Nat} (h:d k=true):cI d i k=true:=by unfold cI; split <;> simp [h]
theorem wN (d:Nat→Bool) (i:Nat):cI d i i=true:=by unfold cI; rw [if_pos rfl]
theorem AT.at_ {d:Nat→Bool} {i:Nat} (h:AT d):AT (cI d i):=⟨eY h.1,eY h.2.1,eY h.2.2.1,eY h.2.2.2⟩
theorem LW {w:World} {lo:Nat} {t ty e:TypeId} {inf:TypeInfo} (z:Bool) (ht:Tryz.prog.underlying t=some (.slice e)) (hi:Tryz.prog.info? e=some inf) (hz:inf.zero=some (.slice none 0 0)) (hsize:inf.size=1) (hby:inf.bytes=24) {v:Value} {n:Nat} {xs:List Value} (hown:w.ownsRow lo e 1 v n xs) {ao:Option Addr} {m:Nat} (c:Nat) {news:List Value} (hr:Raw w ao m 1 news) (hnm:n+m≤1000) (hlo:lo≤w.heap.size) (hv:(∃ g,v = .slice (some ⟨g,0,none⟩) 0 0)∨(1≤n∧m=1)) (hz0:n+m=0→z=true) :
  ∃ v' w',(Builtin.append_ #[t,t] ty #[v,.slice ao m c]).run Tryz.prog w = .ok v' w'∧w'.ownsRow lo e 1 v' (n+m) (xs ++ news)∧(n+m=0→v'=v)∧(Below w.heap.size w w'∨MC e lo z w w'):=by
 obtain ⟨v',w',h1,h2,h3,h4⟩:=II (P:=Tryz.prog) w lo t ty e inf _ 24 ht hi hz hsize hby rfl v n xs hown ao m c news hr (by unfold maxLen; omega) (by omega) hlo;refine ⟨v',w',h1,h2,h3,?_⟩;rcases h4 with h4 | ⟨g,cap,cs,ev,hroom,hq,hs,hg,hgr⟩
 ·exact .inl h4
 refine .inr ⟨g,cs,hg,hq,?_,?_,hgr⟩
 ·rcases hv with ⟨g',e'⟩ | ⟨h5,h6⟩
  ·rw [e'] at ev;injection ev with _ _ e3
   omega
  ·omega
 ·intro h0;exact hz0 (by omega)
theorem BW {w0 w w':World} {i:Nat} (h:Below w0.heap.size w0 w) (hg:g7 w0.heap.size i w w'):Below w0.heap.size w0 w':=by
 rcases hg with hb | ⟨_,g,cs,hlo,hq,_,_,hg⟩ | ⟨_,g,cs,hlo,hq,_,_,hg⟩
 ·exact chain h hb
 ·exact h.grown hg h.size (fun q hq=>by have:=NU hq; omega)
 ·exact h.grown hg h.size (fun q hq=>by have:=NU hq; omega)
end Go.Proofs.YtohjlfhmnmcndaaGreat
namespace Go.Proofs.YtohjlfhmnmcndaaGreat
open Go.RowKit
set_option maxRecDepth 100000
set_option maxHeartbeats 16000000
def cX (t:Int):Int:=if t=1 then 97 else if t=2 then 98 else if t=3 then 105 else 116
theorem mn (t:Int) (w:World) (h:eL t):Calls Tryz.prog 139 #[.int .i64 t] w fun e w'=>e = .returned (.int .u8 (cX t))∧Below w.heap.size w w':=by
 unfold eL at h;obtain rfl | rfl | rfl | rfl:t=1∨t=2∨t=3∨t=4:=by omega
 have e:cX 1=97:=rfl;rotate_left;have e:cX 2=98:=rfl;rotate_left;have e:cX 3=105:=rfl;rotate_left;have e:cX 4=116:=rfl
 all_goals
  rw [e];go_enter Tryz.func139,Tryz.ntmps139;go_wp2_with fail
  go_ret;exact ⟨rfl,Nk _ _⟩
def mg (k:Int):Int:=if k<1∨18<k then -1 else cK k
theorem IM (k:Int) (w:World):Calls Tryz.prog 169 #[.int .i64 k] w fun e w'=>e = .returned (.int .i64 (mg k))∧Below w.heap.size w w':=by
 by_cases h1:k<1
 ·have e:mg k = -1:=by simp [mg,h1]
  rw [e];go_enter Tryz.func169,Tryz.ntmps169;go_wp2_with fail
  go_ret;exact ⟨rfl,Nk _ _⟩
 by_cases h2:18<k
 ·have e:mg k = -1:=by simp [mg,h2]
  rw [e];go_enter Tryz.func169,Tryz.ntmps169;go_wp2_with fail
  go_ret;exact ⟨rfl,Nk _ _⟩
 obtain ⟨j,rfl⟩:∃ j:Nat,k=j:=⟨k.toNat,by omega⟩
 have e:mg j=cK j:=by simp only [mg]; rw [if_neg (by omega)]
 have hl:(#[.int .i64 0,.int .i64 0,.int .i64 0,.int .i64 1,.int .i64 2,.int .i64 2,.int .i64 2,.int .i64 2,.int .i64 2,.int .i64 2,.int .i64 2,.int .i64 2,.int .i64 2,.int .i64 2,.int .i64 2,.int .i64 2,.int .i64 1,.int .i64 3,.int .i64 2]:Array Value)[j]? = some (.int .i64 (cK j:Nat)):=by
  obtain rfl | rfl | rfl | rfl | rfl | rfl | rfl | rfl | rfl | rfl | rfl | rfl | rfl | rfl | rfl | rfl | rfl | rfl:j=1∨j=2∨j=3∨j=4∨j=5∨j=6∨j=7∨j=8∨j=9∨j=10∨j=11∨j=12∨j=13∨j=14∨j=15∨j=16∨j=17∨j=18:=by omega
  all_goals rfl
 have hc:(w.alloc (.cells #[.int .i64 0,.int .i64 0,.int .i64 0,.int .i64 1,.int .i64 2,.int .i64 2,.int .i64 2,.int .i64 2,.int .i64 2,.int .i64 2,.int .i64 2,.int .i64 2,.int .i64 2,.int .i64 2,.int .i64 2,.int .i64 2,.int .i64 1,.int .i64 3,.int .i64 2] 3)).cell? ⟨w.heap.size,j,none⟩=some (.int .i64 (cK j:Nat)):=by
  rw [World.cell?_alloc_new]; exact hl
 rw [e];clear hl e;generalize cK j=r at *;have hj:j<19:=by omega
 go_enter Tryz.func169,Tryz.ntmps169;go_wp2_with fail
 go_ret;exact ⟨rfl,(Nk _ _).alloc (Nj _) _⟩
def nu (a b:Int):Int:=if a=97∨a=b then b else if b=97 then a else 0
theorem aV (a b:Int) (w:World):Calls Tryz.prog 170 #[.int .u8 a,.int .u8 b] w fun e w'=>e = .returned (.int .u8 (nu a b))∧Below w.heap.size w w':=by
 by_cases h1:a=97
 ·have e:nu a b=b:=by simp [nu,h1]
  rw [e];subst h1;go_enter Tryz.func170,Tryz.ntmps170;go_wp2
  go_ret;exact ⟨rfl,Nk _ _⟩
 have q1:(a == 97)=false:=by simpa using h1
 by_cases h2:a=b
 ·have e:nu a b=b:=by simp [nu,h2]
  rw [e];subst h2;go_enter Tryz.func170,Tryz.ntmps170;go_wp2
  go_ret;exact ⟨rfl,Nk _ _⟩
 have q2:(a == b)=false:=by simpa using h2
 by_cases h3:b=97
 ·have e:nu a b=a:=by rw [nu,if_neg (by omega),if_pos h3]
  rw [e];subst h3;go_enter Tryz.func170,Tryz.ntmps170;go_wp2
  go_ret;exact ⟨rfl,Nk _ _⟩
 have q3:(b == 97)=false:=by simpa using h3
 have e:nu a b=0:=by rw [nu,if_neg (by omega),if_neg h3]
 rw [e];go_enter Tryz.func170,Tryz.ntmps170;go_wp2
 go_ret;exact ⟨rfl,Nk _ _⟩
theorem xT {a b:Int} (ha:eL a) (hb:eL b):nu (cX a) (cX b)=(match gE a b with | some t=>cX t | none=>0):=by
 unfold eL at ha hb;obtain rfl | rfl | rfl | rfl:a=1∨a=2∨a=3∨a=4:=by omega
 all_goals (obtain rfl | rfl | rfl | rfl:b=1∨b=2∨b=3∨b=4:=by omega)
 all_goals rfl
theorem Bf {t:Int}:cX t≠0:=by
 unfold cX
 repeat' split
 all_goals omega
theorem Kt {a b:Int} (ha:eL a) (hb:eL b) (h:cX a=cX b):a=b:=by
 unfold eL at ha hb;obtain rfl | rfl | rfl | rfl:a=1∨a=2∨a=3∨a=4:=by omega
 all_goals (obtain rfl | rfl | rfl | rfl:b=1∨b=2∨b=3∨b=4:=by omega)
 all_goals first
  | rfl
  | (exact absurd h (by decide))
def lv (r:Int × Int × Int):Int:=if r.2.1=0 then cX r.1 else 0
def xh (cols:List Int) (x:Ex):Prop :=
 ∀ (B t:Nat) (ca:Option Addr) (ccap:Nat) (a:Option Addr) (cap:Nat) (m d:Int) (w:World),bd B w a x.ks→bc B w ca cols→B≤t→jr w t ca cols.length ccap m→0≤m→m≤200→0≤d→d≤21 →
  Calls Tryz.prog 138 #[.pointer (some ⟨t,0,none⟩),lC x.k x.v x.c a x.ks.length cap,.int .i64 d] w fun e w' =>
   e = .returned (.tuple #[.int .u8 (lv (aU cols x m d)),.int .i64 (aU cols x m d).2.1])∧au t w w'∧jr w' t ca cols.length ccap (aU cols x m d).2.2
theorem Mu:(Tryz.prog.info? 5).map (fun i=>(i.zero,i.size,i.bytes))=some (some (.int .u8 0),1,1):=by kernel_rfl
def bytesOf (ts:List Int):List Value:=ts.map fun t=>.int .u8 (cX t)
theorem iJ {t:Int} (h:eL t):(nu (cX t) 98 == 98)=(gE t 2).isSome:=by
 unfold eL at h;obtain rfl | rfl | rfl | rfl:t=1∨t=2∨t=3∨t=4:=by omega
 all_goals rfl
theorem jZ {t:Int} (h:eL t):(nu (cX t) 105 == 105)=(gE t 3).isSome:=by
 unfold eL at h;obtain rfl | rfl | rfl | rfl:t=1∨t=2∨t=3∨t=4:=by omega
 all_goals rfl
theorem vT {t:Int} (h:eL t):(nu (cX t) 116 == 116)=(gE t 4).isSome:=by
 unfold eL at h;obtain rfl | rfl | rfl | rfl:t=1∨t=2∨t=3∨t=4:=by omega
 all_goals rfl
theorem oT {t u r:Int} (h:eL t) (h':eL u) (e:gE t u=some r):nu (cX t) (cX u)=cX r:=by rw [xT h h',e]
theorem oN {t u:Int} (h:eL t) (h':eL u) (e:gE t u=none):nu (cX t) (cX u)=0:=by rw [xT h h',e]
theorem MH (T t0:Int):cG T [t0]=if (gE t0 T).isSome then some T else none:=by simp [cG]
theorem Eu (T t0 t1:Int):cG T [t0,t1]=if (gE t0 T).isSome && (gE t1 T).isSome then some T else none:=by simp [cG]
def G4 (ts:List Int):Prop:=∀ t ∈ ts,eL t
structure MK (W w:World) (t g cg:Nat) (ca:Option Addr) (cn ccap:Nat) (q:Int) (k:Int) (v:Vl) (c:Int) (a:Option Addr) (n cap:Nat):Prop where
 x:au t w W
 ty:jr W t ca cn ccap q
 ub:mb W w.heap.size 0 k v c a n cap
theorem Dr {t base n:Nat} {W w1:World} {v:Value} {xs:List Value} (h:W.ownsRow base 5 1 v n xs) (hb:au t W w1) (hn:t<base):w1.ownsRow base 5 1 v n xs:=by
 have hlt:=h.lt;obtain ⟨h0,⟨rfl,h1⟩ | ⟨g,c1,cur,rfl,hg,hh,r⟩⟩:=h
 ·exact ⟨h0,.inl ⟨rfl,h1⟩⟩
 ·have:=(hlt g rfl).2;exact ⟨h0,.inr ⟨g,c1,cur,rfl,hg,(hb.2 g this (by omega)).trans hh,r⟩⟩
theorem jr.low {B:Nat} {W w1:World} {t:Nat} {ca:Option Addr} {n cap:Nat} {m:Int} (h:jr W t ca n cap m) (hb:Below B W w1) (hB:t<B):jr w1 t ca n cap m :=
 ⟨Nn h.lt hb.size,(hb.cell (p:=⟨t,0,none⟩) hB).trans h.c0,(hb.cell (p:=⟨t,1,none⟩) hB).trans h.c1,(hb.frozen (p:=⟨t,1,none⟩) hB).trans h.f1⟩
theorem au.low {B t:Nat} {a b c:World} (h:au t a b) (hb:Below B b c) (hB:a.heap.size≤B) (ht:t≤B):au t a c :=
 ⟨h.1.trans (hb.mono ht),fun k hk hn=>(hb.block k (by omega)).trans (h.2 k hk hn)⟩
theorem Be {ts:List Int} {t:Int} (h:G4 ts) (h':eL t):G4 (ts ++ [t]):=by
 intro u hu;simp at hu;rcases hu with hu | rfl
 ·exact h u hu
 ·exact h'
theorem cH {W:World} {base n:Nat} {v:Value} {xs:List Value} (h:W.ownsRow base 5 1 v n xs) (hn:0<n):∃ g c,v = .slice (some ⟨g,0,none⟩) n c∧base≤g∧g<W.heap.size:=by
 have h':=h;obtain ⟨_,⟨rfl,h0⟩ | ⟨g,c1,cur,rfl,hg,_⟩⟩:=h
 ·omega
 ·exact ⟨g,c1,rfl,hg,(h'.lt g rfl).2⟩
theorem Mk {l:List Int} (h:l.length=1):∃ x,l = [x]:=by
 match l,h with
 | [x],_=>exact ⟨x,rfl⟩
theorem LY (w:World) (u:Value) (t:Nat):∀ (j:Nat) (x:Value),[u][j]? = some x→(w.alloc (.cells #[u] t)).cell? ((⟨w.heap.size,0,none⟩:Addr).add j)=some x:=by
 intro j x hj
 match j,hj with
 | 0,hj=>simp at hj; subst hj; simp [Addr.add]
theorem uf (n:Int):∀ u ∈ [Value.int .u8 n],u.oneCell'=true:=by
 intro u hu; simp at hu; subst hu; rfl
theorem Ht (cols:List Int) (hcols:eQ cols=true) (k:Int) (v:Vl) (c:Int) (ks:List Ex) (ih:∀ x ∈ ks,xh cols x):xh cols (.mk k v c ks):=by
 intro B t ca ccap a cap m d w hk hc hBt ht hm0 hm hd0 hd;simp only [Ex.k,Ex.v,Ex.c,Ex.ks] at hk ⊢;have H1:=ht.lt;have H2:=ht.c1;have H3:=ht.f1;generalize hr:aU cols (.mk k v c ks) m d=r;have HR:Hid (aU cols (.mk k v c ks) m d=r):=hr;clear hr;by_cases hmuch:200<m+1∨20<d
 ·have er:r=(0,4,m+1):=by
   have e:=mS (k:=k) (n:=ks.length) hmuch;rw [← HR.out,mi (by rw [e]; decide),e]
  subst er;have T0:=ht.count (m+1);have X0:=(au.refl t w).set 1 (.int .i64 (m+1));have hal:Below (w.setCell ⟨t,1,none⟩ (.int .i64 (m+1))).heap.size (w.setCell ⟨t,1,none⟩ (.int .i64 (m+1))) ((w.setCell ⟨t,1,none⟩ (.int .i64 (m+1))).alloc (.cells #[.int .i64 k,.int .i64 v.1,.int .i64 v.2.1,.string v.2.2,.int .i64 c,.slice a ks.length cap] 27)):=(Nk _ _).alloc (Nj _) _;have TA:=T0.next hal;have XA:=X0.trans (au.of hal (by simp; omega));clear HR hal T0 X0;by_cases h1:200<m+1
  ·go_enter Tryz.func138,Tryz.ntmps138;go_wp2_with fail
   exact Nl (v:=.tuple #[.int .u8 0,.int .i64 4]) (by simp [results,Tryz.results138,go_sem]) rfl ⟨rfl,XA,TA⟩
  ·have h2:20<d:=by omega
   go_enter Tryz.func138,Tryz.ntmps138;go_wp2_with fail
   exact Nl (v:=.tuple #[.int .u8 0,.int .i64 4]) (by simp [results,Tryz.results138,go_sem]) rfl ⟨rfl,XA,TA⟩
 have hm1:¬ 200<m+1:=by omega
 have hd1:¬ 20<d:=by omega
 clear hmuch;have T0:=ht.count (m+1);have X0:=(au.refl t w).set 1 (.int .i64 (m+1));have SA:=mb.new (w.setCell ⟨t,1,none⟩ (.int .i64 (m+1))) k v c a ks.length cap 27;rw [Pa] at SA;have hal:Below (w.setCell ⟨t,1,none⟩ (.int .i64 (m+1))).heap.size (w.setCell ⟨t,1,none⟩ (.int .i64 (m+1))) ((w.setCell ⟨t,1,none⟩ (.int .i64 (m+1))).alloc (.cells #[.int .i64 k,.int .i64 v.1,.int .i64 v.2.1,.string v.2.2,.int .i64 c,.slice a ks.length cap] 27)):=(Nk _ _).alloc (Nj _) _;have TA:=T0.next hal;have XA:=X0.trans (au.of hal (by simp; omega))
 have zA:w.heap.size<((w.setCell ⟨t,1,none⟩ (.int .i64 (m+1))).alloc (.cells #[.int .i64 k,.int .i64 v.1,.int .i64 v.2.1,.string v.2.2,.int .i64 c,.slice a ks.length cap] 27)).heap.size:=by simp
 clear hal T0 X0 ht;go_enter Tryz.func138,Tryz.ntmps138;go_wp2_with fail
 clear H2 H3;generalize (w.setCell ⟨t,1,none⟩ (.int .i64 (m+1))).alloc (.cells #[.int .i64 k,.int .i64 v.1,.int .i64 v.2.1,.string v.2.2,.int .i64 c,.slice a ks.length cap] 27)=wA at *;refine (IM k wA).mono ?_;rintro e w3 ⟨rfl,hb3⟩;have T3:=TA.next hb3;have S3:=SA.next hb3 zA;have X3:=XA.trans (au.of hb3 (by omega));have z3:=hb3.size;clear TA SA XA;by_cases hkind:k<1∨18<k
 ·have e:=mX (n:=ks.length) (m:=m+1) (d:=d) (by omega) (by omega) hkind;have er:r=(0,1,m+1):=by rw [← HR.out,mi (by rw [e]; decide),e]
  subst er;have ek:mg k = -1:=by unfold mg; rw [if_pos hkind]
  rw [ek];clear HR S3;go_wp2_with fail
  exact Nl (v:=.tuple #[.int .u8 0,.int .i64 1]) (by simp [results,Tryz.results138,go_sem]) rfl ⟨rfl,X3,T3⟩
 have ek:mg k=cK k:=by unfold mg; rw [if_neg hkind]
 rw [ek];have hk1:¬ k<1:=by omega
 have hk18:¬ 18<k:=by omega
 clear hkind ek;obtain ⟨s0,s1,s2,s3,s4,s5⟩:=S3;simp only [Np] at s1 s2 s3 s4 s5;by_cases hlen:ks.length=cK k
 case neg =>
  have e:=sD (m:=m+1) (d:=d) (by omega) (by omega) (by omega) (by omega) hlen;have er:r=(0,5,m+1):=by rw [← HR.out,mi (by rw [e]; decide),e]
  subst er;have q0:¬ (cK k:Int)<0:=by omega
  have q1:((ks.length:Int) != (cK k:Nat))=true:=by simp; omega
  generalize cK k=kn at *;clear HR hlen;go_wp2_with fail
  exact Nl (v:=.tuple #[.int .u8 0,.int .i64 5]) (by simp [results,Tryz.results138,go_sem]) rfl ⟨rfl,X3,T3⟩
 have HW:Hid (eX k ks.length (m+1) d=0):=zm (by omega) (by omega) (by omega) (by omega) hlen;have hl3:ks.length≤3:=by rw [hlen]; exact tC k
 have HL:Hid (ks.length=cK k):=hlen;rw [← hlen];clear hlen;have zl:w.heap.size<w3.heap.size:=by omega
 obtain ⟨i0,hi,hj0,hj1,hj2⟩:=info_parts Mu;go_wp2_with fail
 have S3:mb w3 w.heap.size 0 k v c a ks.length cap:=⟨s0,s1,s2,s3,s4,s5⟩
 have O4:(w3.alloc (.cells #[] 5)).ownsRow w3.heap.size 5 1 (.slice (some ⟨w3.heap.size,0,none⟩) 0 0) 0 []:=Oq w3 #[] 0 (Nj _) (Nr _) (by simp);have hal:=aa w3 (.cells #[] 5);have T4:=T3.next hal;have S4:=S3.next hal zl;have X4:=X3.trans (au.of hal (by omega));have z4:w3.heap.size<(w3.alloc (.cells #[] 5)).heap.size:=by simp
 generalize w3.alloc (.cells #[] 5)=w4 at *;clear hal T3 S3 X3 s0 s1 s2 s3 s4 s5 hb3 z3 zA;go_loopw [9,47] (fun u i wr=>∃ (j:Nat) (ts:List Int) (q:Int),j≤ks.length∧i = .int .i64 j∧Hid (ts.length=j)∧Hid (G4 ts)∧0≤q∧q≤200∧Hid (bJ cols ks [] (m+1) (d+1)=bJ cols (ks.drop j) ts q (d+1)) ∧
  au t w wr∧jr wr t ca cols.length ccap q∧mb wr w.heap.size 0 k v c a ks.length cap∧w3.heap.size<wr.heap.size∧wr.ownsRow w3.heap.size 5 1 u j (bytesOf ts)) (fun _ i _=>ks.length - (intOf i).toNat)
 case atStart=>exact ⟨0,[],m+1,Nr _,rfl,rfl,(fun t ht=>by simp at ht),by omega,by omega,rfl,X4,T4,S4,z4,O4⟩
 case round =>
  obtain ⟨j,ts,q,hj,rfl,HT,HI,hq0,hq,HE,hX,hT,hS,hwz,hO⟩:=hrel;have hz:=hX.size;by_cases hlt:j<ks.length
  ·obtain ⟨b,off,ai,ci,rfl,hbl,sx,kx⟩:=(bd.next (hX.below hBt) (Nj _) hk).elem hlt;have hcr:=hc.next (hX.below hBt) (Nj _);obtain ⟨x0,x1,x2,x3,x4,x5⟩:=sx;have hal:=aa wr (.cells #[.int .i64 ks[j].k,.int .i64 ks[j].v.1,.int .i64 ks[j].v.2.1,.string ks[j].v.2.2,.int .i64 ks[j].c,.slice ai ks[j].ks.length ci] 27);have con:=ih ks[j] (Ns _) B t ca ccap ai ci q (d+1) _ (bd.next hal (by omega) kx) (hcr.next hal (by omega)) hBt (hT.next hal) hq0 hq (by omega) (by omega);go_wp2_with fail
   refine con.mono ?_;clear con;rintro e w5 ⟨rfl,hX5,hT5⟩;have X5:=(au.of hal (t:=t) (by omega)).trans hX5;have hX5':=hX.trans X5;have S5:=hS.mN X5 (by omega) (by omega);have O5:=Dr hO X5 (by omega);have z5:=X5.size;generalize hty:aU cols ks[j] q (d+1)=ty at *;have HY:Hid (aU cols ks[j] q (d+1)=ty):=hty;obtain ⟨t1,e1,n1⟩:=ty;clear hty hX5 hal hT hS hO x0 x1 x2 x3 x4 x5 kx hcr;by_cases he:e1=0
   ·subst he;have hn1:=BL (by rw [HY.out]:(aU cols ks[j] q (d+1)).2.1=0);rw [HY.out] at hn1;have HN:Hid (n1≤200∧q<n1):=hn1;have HIn:Hid (eL t1):=by
     have:=(jQ cols ks[j] q (d+1) t1 n1).1 HY.out;exact xp (oa hcols) _ _ this.1
    have el:lv (t1,0,n1)=cX t1:=rfl;rw [el];clear hn1 el;go_wp2_with (at_builtin; refine NZ _ rfl (.tmp 62) (.tmp 64) 202 rfl w3.heap.size 5 i0 _ 1 1 Tryz.underlying202 hi hj0 hj1 hj2 rfl (by decide) _ _ _ rfl (O5.alloc _) ⟨w5.heap.size,0,none⟩ 1 1 [.int .u8 (cX t1)] rfl rfl (LY _ _ _) (uf _) (by unfold maxLen; omega) (by omega) (by simp; omega) ?_)
    intro v' w6 ho6 hg6 _;have hb6:Below w3.heap.size w5 w6:=((Nk _ _).alloc (by omega) _).grown hg6 (by simp; omega) (fun q hq=>((O5.alloc (.cells #[.int .u8 (cX t1)] 5)).lt q hq).1);have T6:=hT5.low hb6 (by omega);have S6:=S5.next hb6 (by omega);have X6:=hX5'.low hb6 (by omega) (by omega);have z6:=hb6.size;have ho7:w6.ownsRow w3.heap.size 5 1 v' (j+1) (bytesOf (ts ++ [t1])):=by
     have e:bytesOf (ts ++ [t1])=bytesOf ts ++ [.int .u8 (cX t1)]:=by simp [bytesOf]
     rw [e]; exact ho6
    clear ho6 hg6 hb6 O5 S5 hT5 hX5' X5;go_wp2_with fail
    go_roundw
    case rel=>exact ⟨j+1,ts ++ [t1],n1,by omega,by go_num,by have:=HT.out; show (ts ++ [t1]).length=j+1; simp [this],Be HI.out HIn.out,by have:=HN.out; omega,HN.out.1,by rw [HE.out,pQ cols ks ts q (d+1) j hlt (by rw [HY.out]),HY.out]; rfl,X6,T6,S6,by omega,ho7⟩
    case measure=>simp [intOf]; omega
   ·have er:r=(0,e1,n1):=by
     rw [← HR.out];refine vS HW.out (ts:=ts) ?_ he;rw [HE.out,sN cols ks ts q (d+1) j hlt (by rw [HY.out]; exact he),HY.out]
    subst er;have q':(e1 != 0)=true:=by simpa using he
    clear HR O5 S5;go_wp2_with fail
    exact Nl (v:=.tuple #[.int .u8 0,.int .i64 e1]) (by simp [results,Tryz.results138,go_sem]) rfl ⟨by simp [lv,he],hX5',hT5⟩
  ·have ej:j=ks.length:=by omega
   subst ej;have hts:=HT.out;have er:r=((cw cols k v c ts).1,(cw cols k v c ts).2,q):=by
    rw [← HR.out];refine uJ HW.out ?_;rw [HE.out,rV cols ks ts q (d+1) _ (Nj _)]
   have HER:Hid _:=er;have hkn:=HL.out;rw [hkn] at hts;have HTS:Hid (ts.length=cK k):=hts;have HKN:Hid (ks.length=cK k):=hkn;clear HR HE hts HT er hkn HL HW;have hcr:=hc.next (hX.below hBt) (Nj _);obtain ⟨s0,s1,s2,s3,s4,s5⟩:=hS;simp only [Np] at s1 s2 s3 s4 s5;obtain rfl | rfl | rfl | rfl | rfl | rfl | rfl | rfl | rfl | rfl | rfl | rfl | rfl | rfl | rfl | rfl | rfl | rfl:k=1∨k=2∨k=3∨k=4∨k=5∨k=6∨k=7∨k=8∨k=9∨k=10∨k=11∨k=12∨k=13∨k=14∨k=15∨k=16∨k=17∨k=18:=by omega
   ·have e1:cw cols 1 v c ts=mJ v:=rfl;by_cases hw:aI v.1 v.2.1 v.2.2=0
    ·have er:r=(v.1,0,q):=by rw [HER.out,e1]; simp [mJ,aY,hw]
     subst er;have hin:eL v.1:=sB (v:=v) hw;clear HER e1;go_wp2_with fail
     refine (fY v.1 v.2.1 v.2.2 wr).mono ?_;rintro e w5 ⟨rfl,hb5⟩;rw [hw];have s1':=(hb5.cell (p:=⟨w.heap.size,1,none⟩) (by show w.heap.size<_; omega)).trans s1;have hX:=hX.trans (au.of hb5 (by omega));have hT:=hT.next hb5;have z5:=hb5.size;clear s0 s1 s2 s3 s4 s5;go_wp2_with fail
     refine (mn v.1 w5 hin).mono ?_;rintro e w6 ⟨rfl,hb6⟩;have hX:=hX.trans (au.of hb6 (by omega));have hT:=hT.next hb6;go_wp2_with fail
     exact Nl (v:=.tuple #[.int .u8 (cX v.1),.int .i64 0]) (by simp [results,Tryz.results138,go_sem]) rfl ⟨rfl,hX,hT⟩
    ·have er:r=(0,aI v.1 v.2.1 v.2.2,q):=by rw [HER.out,e1]; simp [mJ,aY,hw]
     subst er;clear HER e1;go_wp2_with fail
     refine (fY v.1 v.2.1 v.2.2 wr).mono ?_;rintro e w5 ⟨rfl,hb5⟩;have hX:=hX.trans (au.of hb5 (by omega));have hT:=hT.next hb5;have qw:(aI v.1 v.2.1 v.2.2 != 0)=true:=by simpa using hw
     clear s0 s1 s2 s3 s4 s5;go_wp2_with fail
     exact Nl (v:=.tuple #[.int .u8 0,.int .i64 (aI v.1 v.2.1 v.2.2)]) (by simp [results,Tryz.results138,go_sem]) rfl ⟨by simp [lv,hw],hX,hT⟩
   ·have e1:cw cols 2 v c ts=kW cols c:=rfl;have p0:=ag hT.c0;have p4:=ag s4;haveI:Nonempty (bW wr):=⟨⟨_,Nk _ _⟩⟩
    by_cases h1:c<0;have er:r=(0,7,q):=by rw [HER.out,e1]; simp [kW,h1]
    rotate_left;have d1:decide (c<0)=false:=decide_eq_false h1;by_cases h2:(cols.length:Int)≤c;have d2:decide ((cols.length:Int)≤c)=true:=decide_eq_true h2;have er:r=(0,7,q):=by rw [HER.out,e1]; simp [kW,h2]
    rotate_left;obtain ⟨i,rfl⟩:∃ i:Nat,c=i:=⟨c.toNat,by omega⟩
    have hi:i<cols.length:=by omega
    have er:r=(cols[i],0,q):=by
     rw [HER.out,e1,kW,if_neg (by omega)];simp [List.getD,hi]
    have d2:decide ((cols.length:Int)≤(i:Int))=false:=decide_eq_false h2;have hin:eL cols[i]:=by
     have:=oa hcols i hi
     simpa [List.getD,hi] using this
    obtain ⟨cb,co,rfl,hcb,cc⟩:=hcr.elem hi;generalize cols[i]=ct at *;subst er;have p7:=ag cc;clear HER e1;go_wp2_with fail
    refine aq (by kernel_rfl) (by kernel_rfl) ?_
    repeat (go_big_quiet_step (fail))
    refine wpQuiet_nil ?_;rintro w6 ⟨⟨v6,hb6⟩,h6⟩;obtain rfl:w6=v6:=h6;have hX:=hX.trans (au.of hb6 (by omega));have hT:=hT.next hb6;have z6:=hb6.size;have d4:=ag ((hb6.cell (p:=⟨w.heap.size,4,none⟩) (by show w.heap.size<_; omega)).trans s4);have d7:=ag ((hb6.cell (p:=⟨cb,co+i,none⟩) (by show cb<_; omega)).trans cc);have d0:=ag hT.c0;haveI:Nonempty (bW w6):=⟨⟨_,Nk _ _⟩⟩
    clear p0 p4 p7 s0 s1 s2 s3 s4 s5 cc;go_wp2_with fail
    refine aq (by kernel_rfl) (by kernel_rfl) ?_
    repeat (go_big_quiet_step (first | (go_at_call 139; exact bE (mn ct _ hin))))
    refine wpQuiet_nil ?_;rintro w7 ⟨⟨v7,hb7⟩,h7⟩;obtain rfl:w7=v7:=h7;have hX:=hX.trans (au.of hb7 (by omega));have hT:=hT.next hb7;clear d0 d4 d7;go_wp2_with fail
    exact Nl (v:=.tuple #[.int .u8 (cX ct),.int .i64 0]) (by simp [results,Tryz.results138,go_sem]) rfl ⟨rfl,hX,hT⟩
    all_goals
     subst er;clear HER e1;go_wp2_with fail
     refine aq (by kernel_rfl) (by kernel_rfl) ?_
     repeat (go_big_quiet_step (fail))
     refine wpQuiet_nil ?_;rintro w6 ⟨⟨v6,hb6⟩,h6⟩;obtain rfl:w6=v6:=h6;have hX:=hX.trans (au.of hb6 (by omega));have hT:=hT.next hb6;clear p0 p4 s0 s1 s2 s3 s4 s5;go_wp2_with fail
     exact Nl (v:=.tuple #[.int .u8 0,.int .i64 7]) (by simp [results,Tryz.results138,go_sem]) rfl ⟨rfl,hX,hT⟩
   ·obtain ⟨t0,rfl⟩:=Mk HTS.out;have ekn:ks.length=1:=HKN.out;rw [ekn] at hO;obtain ⟨g,cg,rfl,hgb,hgl⟩:=cH hO (by decide);have c0:wr.cell? ⟨g,0,none⟩=some (.int .u8 (cX t0)):=(hO.cellAt 0 (by decide)).trans rfl;have i0:eL t0:=HI.out t0 (by simp);clear hO;have eN:cw cols 3 v c [t0]=bU (cG 2 [t0]):=rfl;rw [MH] at eN;have g0:=iJ i0;generalize (gE t0 2).isSome=b0 at *;generalize cX t0=l0 at *;cases b0
    ·have er:r=(0,9,q):=by rw [HER.out,eN]; rfl
     subst er;clear HER eN;go_wp2_with fail
     refine (aV l0 98 wr).mono ?_;rintro e w5 ⟨rfl,hb5⟩;have hX:=hX.trans (au.of hb5 (by omega));have hT:=hT.next hb5;have z5:=hb5.size;clear s0 s1 s2 s3 s4 s5 c0;go_wp2_with fail
     exact Nl (v:=.tuple #[.int .u8 0,.int .i64 9]) (by simp [results,Tryz.results138,go_sem]) rfl ⟨rfl,hX,hT⟩
    ·have er:r=(2,0,q):=by rw [HER.out,eN]; rfl
     subst er;clear HER eN;go_wp2_with fail
     refine (aV l0 98 wr).mono ?_;rintro e w5 ⟨rfl,hb5⟩;have hX:=hX.trans (au.of hb5 (by omega));have hT:=hT.next hb5;have z5:=hb5.size;clear s0 s1 s2 s3 s4 s5 c0;go_wp2_with fail
     exact Nl (v:=.tuple #[.int .u8 98,.int .i64 0]) (by simp [results,Tryz.results138,go_sem]) rfl ⟨rfl,hX,hT⟩
   ·obtain ⟨t0,t1,rfl⟩:=fR HTS.out;have ekn:ks.length=2:=HKN.out;rw [ekn] at hO;obtain ⟨g,cg,rfl,hgb,hgl⟩:=cH hO (by decide);have c0:wr.cell? ⟨g,0,none⟩=some (.int .u8 (cX t0)):=(hO.cellAt 0 (by decide)).trans rfl;have i0:eL t0:=HI.out t0 (by simp);have c1:wr.cell? ⟨g,1,none⟩=some (.int .u8 (cX t1)):=(hO.cellAt 1 (by decide)).trans rfl;have i1:eL t1:=HI.out t1 (by simp);clear hO;have eN:cw cols 4 v c [t0,t1]=bU (cG 2 [t0,t1]):=rfl;rw [Eu] at eN;have g0:=iJ i0;have g1:=iJ i1;generalize (gE t0 2).isSome=b0 at *;generalize (gE t1 2).isSome=b1 at *
    generalize cX t0=l0 at *;generalize cX t1=l1 at *;cases b0
    ·have er:r=(0,9,q):=by rw [HER.out,eN]; rfl
     subst er;clear HER eN;go_wp2_with fail
     refine (aV l0 98 wr).mono ?_;rintro e w5 ⟨rfl,hb5⟩;have hX:=hX.trans (au.of hb5 (by omega));have hT:=hT.next hb5;have z5:=hb5.size;clear s0 s1 s2 s3 s4 s5 c0 c1;go_wp2_with fail
     exact Nl (v:=.tuple #[.int .u8 0,.int .i64 9]) (by simp [results,Tryz.results138,go_sem]) rfl ⟨rfl,hX,hT⟩
    ·cases b1
     ·have er:r=(0,9,q):=by rw [HER.out,eN]; rfl
      subst er;clear HER eN;go_wp2_with fail
      refine (aV l0 98 wr).mono ?_;rintro e w5 ⟨rfl,hb5⟩;have hX:=hX.trans (au.of hb5 (by omega));have hT:=hT.next hb5;have z5:=hb5.size;have c1':=(hb5.cell (p:=⟨g,1,none⟩) (by show g<_; omega)).trans c1;clear s0 s1 s2 s3 s4 s5 c0 c1;go_wp2_with fail
      refine (aV l1 98 w5).mono ?_;rintro e w6 ⟨rfl,hb6⟩;have hX:=hX.trans (au.of hb6 (by omega));have hT:=hT.next hb6;go_wp2_with fail
      exact Nl (v:=.tuple #[.int .u8 0,.int .i64 9]) (by simp [results,Tryz.results138,go_sem]) rfl ⟨rfl,hX,hT⟩
     ·have er:r=(2,0,q):=by rw [HER.out,eN]; rfl
      subst er;clear HER eN;go_wp2_with fail
      refine (aV l0 98 wr).mono ?_;rintro e w5 ⟨rfl,hb5⟩;have hX:=hX.trans (au.of hb5 (by omega));have hT:=hT.next hb5;have z5:=hb5.size;have c1':=(hb5.cell (p:=⟨g,1,none⟩) (by show g<_; omega)).trans c1;clear s0 s1 s2 s3 s4 s5 c0 c1;go_wp2_with fail
      refine (aV l1 98 w5).mono ?_;rintro e w6 ⟨rfl,hb6⟩;have hX:=hX.trans (au.of hb6 (by omega));have hT:=hT.next hb6;go_wp2_with fail
      exact Nl (v:=.tuple #[.int .u8 98,.int .i64 0]) (by simp [results,Tryz.results138,go_sem]) rfl ⟨rfl,hX,hT⟩
   ·obtain ⟨t0,t1,rfl⟩:=fR HTS.out;have ekn:ks.length=2:=HKN.out;rw [ekn] at hO;obtain ⟨g,cg,rfl,hgb,hgl⟩:=cH hO (by decide);have c0:wr.cell? ⟨g,0,none⟩=some (.int .u8 (cX t0)):=(hO.cellAt 0 (by decide)).trans rfl;have i0:eL t0:=HI.out t0 (by simp);have c1:wr.cell? ⟨g,1,none⟩=some (.int .u8 (cX t1)):=(hO.cellAt 1 (by decide)).trans rfl;have i1:eL t1:=HI.out t1 (by simp);clear hO;have eN:cw cols 5 v c [t0,t1]=bU (cG 2 [t0,t1]):=rfl;rw [Eu] at eN;have g0:=iJ i0;have g1:=iJ i1;generalize (gE t0 2).isSome=b0 at *;generalize (gE t1 2).isSome=b1 at *
    generalize cX t0=l0 at *;generalize cX t1=l1 at *;cases b0
    ·have er:r=(0,9,q):=by rw [HER.out,eN]; rfl
     subst er;clear HER eN;go_wp2_with fail
     refine (aV l0 98 wr).mono ?_;rintro e w5 ⟨rfl,hb5⟩;have hX:=hX.trans (au.of hb5 (by omega));have hT:=hT.next hb5;have z5:=hb5.size;clear s0 s1 s2 s3 s4 s5 c0 c1;go_wp2_with fail
     exact Nl (v:=.tuple #[.int .u8 0,.int .i64 9]) (by simp [results,Tryz.results138,go_sem]) rfl ⟨rfl,hX,hT⟩
    ·cases b1
     ·have er:r=(0,9,q):=by rw [HER.out,eN]; rfl
      subst er;clear HER eN;go_wp2_with fail
      refine (aV l0 98 wr).mono ?_;rintro e w5 ⟨rfl,hb5⟩;have hX:=hX.trans (au.of hb5 (by omega));have hT:=hT.next hb5;have z5:=hb5.size;have c1':=(hb5.cell (p:=⟨g,1,none⟩) (by show g<_; omega)).trans c1;clear s0 s1 s2 s3 s4 s5 c0 c1;go_wp2_with fail
      refine (aV l1 98 w5).mono ?_;rintro e w6 ⟨rfl,hb6⟩;have hX:=hX.trans (au.of hb6 (by omega));have hT:=hT.next hb6;go_wp2_with fail
      exact Nl (v:=.tuple #[.int .u8 0,.int .i64 9]) (by simp [results,Tryz.results138,go_sem]) rfl ⟨rfl,hX,hT⟩
     ·have er:r=(2,0,q):=by rw [HER.out,eN]; rfl
      subst er;clear HER eN;go_wp2_with fail
      refine (aV l0 98 wr).mono ?_;rintro e w5 ⟨rfl,hb5⟩;have hX:=hX.trans (au.of hb5 (by omega));have hT:=hT.next hb5;have z5:=hb5.size;have c1':=(hb5.cell (p:=⟨g,1,none⟩) (by show g<_; omega)).trans c1;clear s0 s1 s2 s3 s4 s5 c0 c1;go_wp2_with fail
      refine (aV l1 98 w5).mono ?_;rintro e w6 ⟨rfl,hb6⟩;have hX:=hX.trans (au.of hb6 (by omega));have hT:=hT.next hb6;go_wp2_with fail
      exact Nl (v:=.tuple #[.int .u8 98,.int .i64 0]) (by simp [results,Tryz.results138,go_sem]) rfl ⟨rfl,hX,hT⟩
   obtain ⟨t0,t1,rfl⟩:=fR HTS.out;have ekn:ks.length=2:=HKN.out;rw [ekn] at hO;obtain ⟨g,cg,rfl,hgb,hgl⟩:=cH hO (by decide);have c0:wr.cell? ⟨g,0,none⟩=some (.int .u8 (cX t0)):=(hO.cellAt 0 (by decide)).trans rfl;have i0:eL t0:=HI.out t0 (by simp);have c1:wr.cell? ⟨g,1,none⟩=some (.int .u8 (cX t1)):=(hO.cellAt 1 (by decide)).trans rfl;have i1:eL t1:=HI.out t1 (by simp);clear hO;have eN:bU (cF 6 [t0,t1])=cw cols 6 v c [t0,t1]:=rfl;rotate_left;obtain ⟨t0,t1,rfl⟩:=fR HTS.out;have ekn:ks.length=2:=HKN.out;rw [ekn] at hO;obtain ⟨g,cg,rfl,hgb,hgl⟩:=cH hO (by decide)
   have c0:wr.cell? ⟨g,0,none⟩=some (.int .u8 (cX t0)):=(hO.cellAt 0 (by decide)).trans rfl;have i0:eL t0:=HI.out t0 (by simp);have c1:wr.cell? ⟨g,1,none⟩=some (.int .u8 (cX t1)):=(hO.cellAt 1 (by decide)).trans rfl;have i1:eL t1:=HI.out t1 (by simp);clear hO;have eN:bU (cF 7 [t0,t1])=cw cols 7 v c [t0,t1]:=rfl;rotate_left;obtain ⟨t0,t1,rfl⟩:=fR HTS.out;have ekn:ks.length=2:=HKN.out;rw [ekn] at hO;obtain ⟨g,cg,rfl,hgb,hgl⟩:=cH hO (by decide);have c0:wr.cell? ⟨g,0,none⟩=some (.int .u8 (cX t0)):=(hO.cellAt 0 (by decide)).trans rfl;have i0:eL t0:=HI.out t0 (by simp)
   have c1:wr.cell? ⟨g,1,none⟩=some (.int .u8 (cX t1)):=(hO.cellAt 1 (by decide)).trans rfl;have i1:eL t1:=HI.out t1 (by simp);clear hO;have eN:bU (cF 8 [t0,t1])=cw cols 8 v c [t0,t1]:=rfl;rotate_left;obtain ⟨t0,t1,rfl⟩:=fR HTS.out;have ekn:ks.length=2:=HKN.out;rw [ekn] at hO;obtain ⟨g,cg,rfl,hgb,hgl⟩:=cH hO (by decide);have c0:wr.cell? ⟨g,0,none⟩=some (.int .u8 (cX t0)):=(hO.cellAt 0 (by decide)).trans rfl;have i0:eL t0:=HI.out t0 (by simp);have c1:wr.cell? ⟨g,1,none⟩=some (.int .u8 (cX t1)):=(hO.cellAt 1 (by decide)).trans rfl;have i1:eL t1:=HI.out t1 (by simp)
   clear hO;have eN:bU (cF 9 [t0,t1])=cw cols 9 v c [t0,t1]:=rfl;rotate_left;obtain ⟨t0,t1,rfl⟩:=fR HTS.out;have ekn:ks.length=2:=HKN.out;rw [ekn] at hO;obtain ⟨g,cg,rfl,hgb,hgl⟩:=cH hO (by decide);have c0:wr.cell? ⟨g,0,none⟩=some (.int .u8 (cX t0)):=(hO.cellAt 0 (by decide)).trans rfl;have i0:eL t0:=HI.out t0 (by simp);have c1:wr.cell? ⟨g,1,none⟩=some (.int .u8 (cX t1)):=(hO.cellAt 1 (by decide)).trans rfl;have i1:eL t1:=HI.out t1 (by simp);clear hO;have eN:bU (cF 10 [t0,t1])=cw cols 10 v c [t0,t1]:=rfl;rotate_left;obtain ⟨t0,t1,rfl⟩:=fR HTS.out
   have ekn:ks.length=2:=HKN.out;rw [ekn] at hO;obtain ⟨g,cg,rfl,hgb,hgl⟩:=cH hO (by decide);have c0:wr.cell? ⟨g,0,none⟩=some (.int .u8 (cX t0)):=(hO.cellAt 0 (by decide)).trans rfl;have i0:eL t0:=HI.out t0 (by simp);have c1:wr.cell? ⟨g,1,none⟩=some (.int .u8 (cX t1)):=(hO.cellAt 1 (by decide)).trans rfl;have i1:eL t1:=HI.out t1 (by simp);clear hO;have eN:bU (cF 11 [t0,t1])=cw cols 11 v c [t0,t1]:=rfl;rotate_left
   ·obtain ⟨t0,t1,rfl⟩:=fR HTS.out;have ekn:ks.length=2:=HKN.out;rw [ekn] at hO;obtain ⟨g,cg,rfl,hgb,hgl⟩:=cH hO (by decide);have c0:wr.cell? ⟨g,0,none⟩=some (.int .u8 (cX t0)):=(hO.cellAt 0 (by decide)).trans rfl;have i0:eL t0:=HI.out t0 (by simp);have c1:wr.cell? ⟨g,1,none⟩=some (.int .u8 (cX t1)):=(hO.cellAt 1 (by decide)).trans rfl;have i1:eL t1:=HI.out t1 (by simp);clear hO;have eN:cw cols 12 v c [t0,t1]=bU (cG 3 [t0,t1]):=rfl;rw [Eu] at eN;have g0:=jZ i0;have g1:=jZ i1;generalize (gE t0 3).isSome=b0 at *;generalize (gE t1 3).isSome=b1 at *
    generalize cX t0=l0 at *;generalize cX t1=l1 at *;cases b0
    ·have er:r=(0,9,q):=by rw [HER.out,eN]; rfl
     subst er;clear HER eN;go_wp2_with fail
     refine (aV l0 105 wr).mono ?_;rintro e w5 ⟨rfl,hb5⟩;have hX:=hX.trans (au.of hb5 (by omega));have hT:=hT.next hb5;have z5:=hb5.size;clear s0 s1 s2 s3 s4 s5 c0 c1;go_wp2_with fail
     exact Nl (v:=.tuple #[.int .u8 0,.int .i64 9]) (by simp [results,Tryz.results138,go_sem]) rfl ⟨rfl,hX,hT⟩
    ·cases b1
     ·have er:r=(0,9,q):=by rw [HER.out,eN]; rfl
      subst er;clear HER eN;go_wp2_with fail
      refine (aV l0 105 wr).mono ?_;rintro e w5 ⟨rfl,hb5⟩;have hX:=hX.trans (au.of hb5 (by omega));have hT:=hT.next hb5;have z5:=hb5.size;have c1':=(hb5.cell (p:=⟨g,1,none⟩) (by show g<_; omega)).trans c1;clear s0 s1 s2 s3 s4 s5 c0 c1;go_wp2_with fail
      refine (aV l1 105 w5).mono ?_;rintro e w6 ⟨rfl,hb6⟩;have hX:=hX.trans (au.of hb6 (by omega));have hT:=hT.next hb6;go_wp2_with fail
      exact Nl (v:=.tuple #[.int .u8 0,.int .i64 9]) (by simp [results,Tryz.results138,go_sem]) rfl ⟨rfl,hX,hT⟩
     ·have er:r=(3,0,q):=by rw [HER.out,eN]; rfl
      subst er;clear HER eN;go_wp2_with fail
      refine (aV l0 105 wr).mono ?_;rintro e w5 ⟨rfl,hb5⟩;have hX:=hX.trans (au.of hb5 (by omega));have hT:=hT.next hb5;have z5:=hb5.size;have c1':=(hb5.cell (p:=⟨g,1,none⟩) (by show g<_; omega)).trans c1;clear s0 s1 s2 s3 s4 s5 c0 c1;go_wp2_with fail
      refine (aV l1 105 w5).mono ?_;rintro e w6 ⟨rfl,hb6⟩;have hX:=hX.trans (au.of hb6 (by omega));have hT:=hT.next hb6;go_wp2_with fail
      exact Nl (v:=.tuple #[.int .u8 105,.int .i64 0]) (by simp [results,Tryz.results138,go_sem]) rfl ⟨rfl,hX,hT⟩
   ·obtain ⟨t0,t1,rfl⟩:=fR HTS.out;have ekn:ks.length=2:=HKN.out;rw [ekn] at hO;obtain ⟨g,cg,rfl,hgb,hgl⟩:=cH hO (by decide);have c0:wr.cell? ⟨g,0,none⟩=some (.int .u8 (cX t0)):=(hO.cellAt 0 (by decide)).trans rfl;have i0:eL t0:=HI.out t0 (by simp);have c1:wr.cell? ⟨g,1,none⟩=some (.int .u8 (cX t1)):=(hO.cellAt 1 (by decide)).trans rfl;have i1:eL t1:=HI.out t1 (by simp);clear hO;have eN:cw cols 13 v c [t0,t1]=bU (cG 3 [t0,t1]):=rfl;rw [Eu] at eN;have g0:=jZ i0;have g1:=jZ i1;generalize (gE t0 3).isSome=b0 at *;generalize (gE t1 3).isSome=b1 at *
    generalize cX t0=l0 at *;generalize cX t1=l1 at *;cases b0
    ·have er:r=(0,9,q):=by rw [HER.out,eN]; rfl
     subst er;clear HER eN;go_wp2_with fail
     refine (aV l0 105 wr).mono ?_;rintro e w5 ⟨rfl,hb5⟩;have hX:=hX.trans (au.of hb5 (by omega));have hT:=hT.next hb5;have z5:=hb5.size;clear s0 s1 s2 s3 s4 s5 c0 c1;go_wp2_with fail
     exact Nl (v:=.tuple #[.int .u8 0,.int .i64 9]) (by simp [results,Tryz.results138,go_sem]) rfl ⟨rfl,hX,hT⟩
    ·cases b1
     ·have er:r=(0,9,q):=by rw [HER.out,eN]; rfl
      subst er;clear HER eN;go_wp2_with fail
      refine (aV l0 105 wr).mono ?_;rintro e w5 ⟨rfl,hb5⟩;have hX:=hX.trans (au.of hb5 (by omega));have hT:=hT.next hb5;have z5:=hb5.size;have c1':=(hb5.cell (p:=⟨g,1,none⟩) (by show g<_; omega)).trans c1;clear s0 s1 s2 s3 s4 s5 c0 c1;go_wp2_with fail
      refine (aV l1 105 w5).mono ?_;rintro e w6 ⟨rfl,hb6⟩;have hX:=hX.trans (au.of hb6 (by omega));have hT:=hT.next hb6;go_wp2_with fail
      exact Nl (v:=.tuple #[.int .u8 0,.int .i64 9]) (by simp [results,Tryz.results138,go_sem]) rfl ⟨rfl,hX,hT⟩
     ·have er:r=(3,0,q):=by rw [HER.out,eN]; rfl
      subst er;clear HER eN;go_wp2_with fail
      refine (aV l0 105 wr).mono ?_;rintro e w5 ⟨rfl,hb5⟩;have hX:=hX.trans (au.of hb5 (by omega));have hT:=hT.next hb5;have z5:=hb5.size;have c1':=(hb5.cell (p:=⟨g,1,none⟩) (by show g<_; omega)).trans c1;clear s0 s1 s2 s3 s4 s5 c0 c1;go_wp2_with fail
      refine (aV l1 105 w5).mono ?_;rintro e w6 ⟨rfl,hb6⟩;have hX:=hX.trans (au.of hb6 (by omega));have hT:=hT.next hb6;go_wp2_with fail
      exact Nl (v:=.tuple #[.int .u8 105,.int .i64 0]) (by simp [results,Tryz.results138,go_sem]) rfl ⟨rfl,hX,hT⟩
   ·obtain ⟨t0,t1,rfl⟩:=fR HTS.out;have ekn:ks.length=2:=HKN.out;rw [ekn] at hO;obtain ⟨g,cg,rfl,hgb,hgl⟩:=cH hO (by decide);have c0:wr.cell? ⟨g,0,none⟩=some (.int .u8 (cX t0)):=(hO.cellAt 0 (by decide)).trans rfl;have i0:eL t0:=HI.out t0 (by simp);have c1:wr.cell? ⟨g,1,none⟩=some (.int .u8 (cX t1)):=(hO.cellAt 1 (by decide)).trans rfl;have i1:eL t1:=HI.out t1 (by simp);clear hO;have eN:cw cols 14 v c [t0,t1]=bU (cG 3 [t0,t1]):=rfl;rw [Eu] at eN;have g0:=jZ i0;have g1:=jZ i1;generalize (gE t0 3).isSome=b0 at *;generalize (gE t1 3).isSome=b1 at *
    generalize cX t0=l0 at *;generalize cX t1=l1 at *;cases b0
    ·have er:r=(0,9,q):=by rw [HER.out,eN]; rfl
     subst er;clear HER eN;go_wp2_with fail
     refine (aV l0 105 wr).mono ?_;rintro e w5 ⟨rfl,hb5⟩;have hX:=hX.trans (au.of hb5 (by omega));have hT:=hT.next hb5;have z5:=hb5.size;clear s0 s1 s2 s3 s4 s5 c0 c1;go_wp2_with fail
     exact Nl (v:=.tuple #[.int .u8 0,.int .i64 9]) (by simp [results,Tryz.results138,go_sem]) rfl ⟨rfl,hX,hT⟩
    ·cases b1
     ·have er:r=(0,9,q):=by rw [HER.out,eN]; rfl
      subst er;clear HER eN;go_wp2_with fail
      refine (aV l0 105 wr).mono ?_;rintro e w5 ⟨rfl,hb5⟩;have hX:=hX.trans (au.of hb5 (by omega));have hT:=hT.next hb5;have z5:=hb5.size;have c1':=(hb5.cell (p:=⟨g,1,none⟩) (by show g<_; omega)).trans c1;clear s0 s1 s2 s3 s4 s5 c0 c1;go_wp2_with fail
      refine (aV l1 105 w5).mono ?_;rintro e w6 ⟨rfl,hb6⟩;have hX:=hX.trans (au.of hb6 (by omega));have hT:=hT.next hb6;go_wp2_with fail
      exact Nl (v:=.tuple #[.int .u8 0,.int .i64 9]) (by simp [results,Tryz.results138,go_sem]) rfl ⟨rfl,hX,hT⟩
     ·have er:r=(3,0,q):=by rw [HER.out,eN]; rfl
      subst er;clear HER eN;go_wp2_with fail
      refine (aV l0 105 wr).mono ?_;rintro e w5 ⟨rfl,hb5⟩;have hX:=hX.trans (au.of hb5 (by omega));have hT:=hT.next hb5;have z5:=hb5.size;have c1':=(hb5.cell (p:=⟨g,1,none⟩) (by show g<_; omega)).trans c1;clear s0 s1 s2 s3 s4 s5 c0 c1;go_wp2_with fail
      refine (aV l1 105 w5).mono ?_;rintro e w6 ⟨rfl,hb6⟩;have hX:=hX.trans (au.of hb6 (by omega));have hT:=hT.next hb6;go_wp2_with fail
      exact Nl (v:=.tuple #[.int .u8 105,.int .i64 0]) (by simp [results,Tryz.results138,go_sem]) rfl ⟨rfl,hX,hT⟩
   ·obtain ⟨t0,t1,rfl⟩:=fR HTS.out;have ekn:ks.length=2:=HKN.out;rw [ekn] at hO;obtain ⟨g,cg,rfl,hgb,hgl⟩:=cH hO (by decide);have c0:wr.cell? ⟨g,0,none⟩=some (.int .u8 (cX t0)):=(hO.cellAt 0 (by decide)).trans rfl;have i0:eL t0:=HI.out t0 (by simp);have c1:wr.cell? ⟨g,1,none⟩=some (.int .u8 (cX t1)):=(hO.cellAt 1 (by decide)).trans rfl;have i1:eL t1:=HI.out t1 (by simp);clear hO;have eN:cw cols 15 v c [t0,t1]=bU (cG 4 [t0,t1]):=rfl;rw [Eu] at eN;have g0:=vT i0;have g1:=vT i1;generalize (gE t0 4).isSome=b0 at *;generalize (gE t1 4).isSome=b1 at *
    generalize cX t0=l0 at *;generalize cX t1=l1 at *;cases b0
    ·have er:r=(0,9,q):=by rw [HER.out,eN]; rfl
     subst er;clear HER eN;go_wp2_with fail
     refine (aV l0 116 wr).mono ?_;rintro e w5 ⟨rfl,hb5⟩;have hX:=hX.trans (au.of hb5 (by omega));have hT:=hT.next hb5;have z5:=hb5.size;clear s0 s1 s2 s3 s4 s5 c0 c1;go_wp2_with fail
     exact Nl (v:=.tuple #[.int .u8 0,.int .i64 9]) (by simp [results,Tryz.results138,go_sem]) rfl ⟨rfl,hX,hT⟩
    ·cases b1
     ·have er:r=(0,9,q):=by rw [HER.out,eN]; rfl
      subst er;clear HER eN;go_wp2_with fail
      refine (aV l0 116 wr).mono ?_;rintro e w5 ⟨rfl,hb5⟩;have hX:=hX.trans (au.of hb5 (by omega));have hT:=hT.next hb5;have z5:=hb5.size;have c1':=(hb5.cell (p:=⟨g,1,none⟩) (by show g<_; omega)).trans c1;clear s0 s1 s2 s3 s4 s5 c0 c1;go_wp2_with fail
      refine (aV l1 116 w5).mono ?_;rintro e w6 ⟨rfl,hb6⟩;have hX:=hX.trans (au.of hb6 (by omega));have hT:=hT.next hb6;go_wp2_with fail
      exact Nl (v:=.tuple #[.int .u8 0,.int .i64 9]) (by simp [results,Tryz.results138,go_sem]) rfl ⟨rfl,hX,hT⟩
     ·have er:r=(4,0,q):=by rw [HER.out,eN]; rfl
      subst er;clear HER eN;go_wp2_with fail
      refine (aV l0 116 wr).mono ?_;rintro e w5 ⟨rfl,hb5⟩;have hX:=hX.trans (au.of hb5 (by omega));have hT:=hT.next hb5;have z5:=hb5.size;have c1':=(hb5.cell (p:=⟨g,1,none⟩) (by show g<_; omega)).trans c1;clear s0 s1 s2 s3 s4 s5 c0 c1;go_wp2_with fail
      refine (aV l1 116 w5).mono ?_;rintro e w6 ⟨rfl,hb6⟩;have hX:=hX.trans (au.of hb6 (by omega));have hT:=hT.next hb6;go_wp2_with fail
      exact Nl (v:=.tuple #[.int .u8 116,.int .i64 0]) (by simp [results,Tryz.results138,go_sem]) rfl ⟨rfl,hX,hT⟩
   ·have er:r=(2,0,q):=HER.out;subst er;clear HER;go_wp2_with fail
    exact Nl (v:=.tuple #[.int .u8 98,.int .i64 0]) (by simp [results,Tryz.results138,go_sem]) rfl ⟨rfl,hX,hT⟩
   ·obtain ⟨t0,t1,t2,rfl⟩:=KG HTS.out;have ekn:ks.length=3:=HKN.out;rw [ekn] at hO;obtain ⟨g,cg,rfl,hgb,hgl⟩:=cH hO (by decide);have c0:wr.cell? ⟨g,0,none⟩=some (.int .u8 (cX t0)):=(hO.cellAt 0 (by decide)).trans rfl;have i0:eL t0:=HI.out t0 (by simp);have c1:wr.cell? ⟨g,1,none⟩=some (.int .u8 (cX t1)):=(hO.cellAt 1 (by decide)).trans rfl;have i1:eL t1:=HI.out t1 (by simp);have c2:wr.cell? ⟨g,2,none⟩=some (.int .u8 (cX t2)):=(hO.cellAt 2 (by decide)).trans rfl;have i2:eL t2:=HI.out t2 (by simp);clear hO;have eN:bU (cF 17 [t0,t1,t2])=cw cols 17 v c [t0,t1,t2]:=rfl
    have p0:=ag c1;have p1:=ag c2;haveI:Nonempty (bW wr):=⟨⟨_,Nk _ _⟩⟩
    have g0:=iJ i0;rcases ht:gE t1 t2 with _ | u
    ·have gn:=oN i1 i2 ht;have er:r=(0,9,q):=by rw [HER.out,← eN]; simp [cF,ht,bU]
     subst er;generalize cX t0=l0 at *;generalize cX t1=l1 at *;generalize cX t2=l2 at *;clear HER eN g0;go_wp2_with fail
     refine aq (by kernel_rfl) (by kernel_rfl) ?_
     repeat (go_big_quiet_step (first | (go_at_call 170; exact bE (aV l1 l2 _))))
     refine wpQuiet_nil ?_;rintro w7 ⟨⟨v7,hb7⟩,h7⟩;obtain rfl:w7=v7:=h7;have hX:=hX.trans (au.of hb7 (by omega));have hT:=hT.next hb7;rw [gn];clear p0 p1 c0 c1 c2 s0 s1 s2 s3 s4 s5;go_wp2_with fail
     exact Nl (v:=.tuple #[.int .u8 0,.int .i64 9]) (by simp [results,Tryz.results138,go_sem]) rfl ⟨rfl,hX,hT⟩
    ·have gn:=oT i1 i2 ht;have nz:(cX u != 0)=true:=by simpa using Bf (t:=u)
     have er:r=(if (gE t0 2).isSome then (u,0,q) else (0,9,q)):=by
      rw [HER.out,← eN];have:cF 17 [t0,t1,t2]=if (gE t0 2).isSome then gE t1 t2 else none:=rfl
      rw [this,ht];cases (gE t0 2).isSome <;> rfl
     generalize (gE t0 2).isSome=b0 at *;generalize cX t0=l0 at *;generalize cX t1=l1 at *;generalize cX t2=l2 at *;generalize hlu:cX u=lu at *;have HLU:Hid (cX u=lu):=hlu;clear hlu HER eN;cases b0
     all_goals
      simp only [if_true,if_false,Ox] at er;subst er;go_wp2_with fail
      refine aq (by kernel_rfl) (by kernel_rfl) ?_
      repeat (go_big_quiet_step (first | (go_at_call 170; exact bE (aV l1 l2 _))))
      refine wpQuiet_nil ?_;rintro w7 ⟨⟨v7,hb7⟩,h7⟩;obtain rfl:w7=v7:=h7;have hX:=hX.trans (au.of hb7 (by omega));have hT:=hT.next hb7;have z7:=hb7.size;rw [gn];have c0':=(hb7.cell (p:=⟨g,0,none⟩) (by show g<_; omega)).trans c0;clear p0 p1 c0 c1 c2 s0 s1 s2 s3 s4 s5;go_wp2_with fail
      refine (aV l0 98 w7).mono ?_;rintro e w8 ⟨rfl,hb8⟩;have hX:=hX.trans (au.of hb8 (by omega));have hT:=hT.next hb8;go_wp2_with fail
     ·exact Nl (v:=.tuple #[.int .u8 0,.int .i64 9]) (by simp [results,Tryz.results138,go_sem]) rfl ⟨rfl,hX,hT⟩
     ·exact Nl (v:=.tuple #[.int .u8 lu,.int .i64 0]) (by simp [results,Tryz.results138,go_sem]) rfl ⟨by rw [← HLU.out]; rfl,hX,hT⟩
   ·obtain ⟨t0,t1,rfl⟩:=fR HTS.out;have ekn:ks.length=2:=HKN.out;rw [ekn] at hO;obtain ⟨g,cg,rfl,hgb,hgl⟩:=cH hO (by decide);have c0:wr.cell? ⟨g,0,none⟩=some (.int .u8 (cX t0)):=(hO.cellAt 0 (by decide)).trans rfl;have i0:eL t0:=HI.out t0 (by simp);have c1:wr.cell? ⟨g,1,none⟩=some (.int .u8 (cX t1)):=(hO.cellAt 1 (by decide)).trans rfl;have i1:eL t1:=HI.out t1 (by simp);clear hO;have eN:bU (cF 18 [t0,t1])=cw cols 18 v c [t0,t1]:=rfl;have p0:=ag c0;have p1:=ag c1;haveI:Nonempty (bW wr):=⟨⟨_,Nk _ _⟩⟩
    rcases ht:gE t0 t1 with _ | u
    ·have gn:=oN i0 i1 ht;have er:r=(0,9,q):=by rw [HER.out,← eN]; simp [cF,ht,bU]
     subst er;generalize cX t0=l0 at *;generalize cX t1=l1 at *;clear HER eN;go_wp2_with fail
     refine aq (by kernel_rfl) (by kernel_rfl) ?_
     repeat (go_big_quiet_step (first | (go_at_call 170; exact bE (aV l0 l1 _))))
     refine wpQuiet_nil ?_;rintro w7 ⟨⟨v7,hb7⟩,h7⟩;obtain rfl:w7=v7:=h7;have hX:=hX.trans (au.of hb7 (by omega));have hT:=hT.next hb7;rw [gn];clear p0 p1 c0 c1 s0 s1 s2 s3 s4 s5;go_wp2_with fail
     exact Nl (v:=.tuple #[.int .u8 0,.int .i64 9]) (by simp [results,Tryz.results138,go_sem]) rfl ⟨rfl,hX,hT⟩
    ·have gn:=oT i0 i1 ht;have nz:(cX u != 0)=true:=by simpa using Bf (t:=u)
     have er:r=(u,0,q):=by rw [HER.out,← eN]; simp [cF,ht,bU]
     subst er;generalize cX t0=l0 at *;generalize cX t1=l1 at *;generalize hlu:cX u=lu at *;have HLU:Hid (cX u=lu):=hlu;clear hlu;clear HER eN;go_wp2_with fail
     refine aq (by kernel_rfl) (by kernel_rfl) ?_
     repeat (go_big_quiet_step (first | (go_at_call 170; exact bE (aV l0 l1 _))))
     refine wpQuiet_nil ?_;rintro w7 ⟨⟨v7,hb7⟩,h7⟩;obtain rfl:w7=v7:=h7;have hX:=hX.trans (au.of hb7 (by omega));have hT:=hT.next hb7;rw [gn];clear p0 p1 c0 c1 s0 s1 s2 s3 s4 s5;go_wp2_with fail
     exact Nl (v:=.tuple #[.int .u8 lu,.int .i64 0]) (by simp [results,Tryz.results138,go_sem]) rfl ⟨by rw [← HLU.out]; rfl,hX,hT⟩
   all_goals
    have p0:=ag c0;have p1:=ag c1;haveI:Nonempty (bW wr):=⟨⟨_,Nk _ _⟩⟩
    rcases ht:gE t0 t1 with _ | u
    ·have gn:=oN i0 i1 ht;have er:r=(0,9,q):=by rw [HER.out,← eN]; simp [cF,ht,bU]
     subst er;generalize cX t0=l0 at *;generalize cX t1=l1 at *;clear HER eN;go_wp2_with fail
     refine aq (by kernel_rfl) (by kernel_rfl) ?_
     repeat (go_big_quiet_step (first | (go_at_call 170; exact bE (aV l0 l1 _))))
     refine wpQuiet_nil ?_;rintro w7 ⟨⟨v7,hb7⟩,h7⟩;obtain rfl:w7=v7:=h7;have hX:=hX.trans (au.of hb7 (by omega));have hT:=hT.next hb7;rw [gn];clear p0 p1 c0 c1 s0 s1 s2 s3 s4 s5;go_wp2_with fail
     exact Nl (v:=.tuple #[.int .u8 0,.int .i64 9]) (by simp [results,Tryz.results138,go_sem]) rfl ⟨rfl,hX,hT⟩
    ·have gn:=oT i0 i1 ht;have nz:(cX u != 0)=true:=by simpa using Bf (t:=u)
     have er:r=(2,0,q):=by rw [HER.out,← eN]; simp [cF,ht,bU]
     subst er;generalize cX t0=l0 at *;generalize cX t1=l1 at *;generalize hlu:cX u=lu at *;have HLU:Hid (cX u=lu):=hlu;clear hlu;clear HER eN;go_wp2_with fail
     refine aq (by kernel_rfl) (by kernel_rfl) ?_
     repeat (go_big_quiet_step (first | (go_at_call 170; exact bE (aV l0 l1 _))))
     refine wpQuiet_nil ?_;rintro w7 ⟨⟨v7,hb7⟩,h7⟩;obtain rfl:w7=v7:=h7;have hX:=hX.trans (au.of hb7 (by omega));have hT:=hT.next hb7;rw [gn];clear p0 p1 c0 c1 s0 s1 s2 s3 s4 s5;go_wp2_with fail
     exact Nl (v:=.tuple #[.int .u8 98,.int .i64 0]) (by simp [results,Tryz.results138,go_sem]) rfl ⟨rfl,hX,hT⟩
theorem Dv {cols:List Int} (hcols:eQ cols=true):∀ x,xh cols x:=Ex.ind fun k v c ks ih=>Ht cols hcols k v c ks ih
end Go.Proofs.YtohjlfhmnmcndaaGreat
