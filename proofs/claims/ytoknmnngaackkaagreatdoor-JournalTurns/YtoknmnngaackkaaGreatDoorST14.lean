/- Together: JO7, JO8, JO9, JOA, JOB, JOC, JOp. -/
import Derived.Deep.AppendSrc
import Derived.Shelf.Lay
import Derived.Lib.LaidTab
import Derived.OpenShut
import Derived.Deep.Strs
import Derived.Stop.LaidErr
import Derived.LaidHandle
import Derived.Deep.Slices
import Derived.ProofKit
import Derived.ChangeOld
import Derived.Lib.SmallJoins
import Derived.SizedLaws
import Derived.Test.YtoknmnngaackkaaGreatDoorST13
import Derived.Test.YtoknmnngaackkaaGreatDoorST7
import Derived.Test.YtoknmnngaackkaaGreatDoorST9
import Derived.Test.YtoknmnngaackkaaGreatDoorST4
namespace Go.Proofs.YtoknmnngaackkaaGreatDoor
open Go.RowKit Go.Lib Go.Shelf
set_option maxRecDepth 100000
set_option maxHeartbeats 16000000
set_option maxRecDepth 100000
set_option maxHeartbeats 8000000
def ga:Nat→List UInt8→List cM→Except Er (List UInt8)
 | _,bs,[]=>.ok bs
 | i,bs,x :: r=>if (bW [x]).2.1≠0 then .error ((bW [x]).2.1,i) else if 100000<(bs ++ dL (bW [x]).1).length then .error (4,i) else ga (i+1) (bs ++ dL (bW [x]).1) r
def nH (w:World) (r:Except Er (List UInt8)) (e:Ending) (w':World):Prop :=
 Below w w w'∧match r with
  | .error c=>e = .returned (.tuple #[aL,.agg #[c.1,c.2]])
  | .ok bs=>∃ a cap,e = .returned (.tuple #[.slice a bs.length cap,.agg #[aB,aB]])∧bf mC 1 (fun b=>w.heap.size≤b) w' a bs∧bs.length≤cap
theorem oX {l:List cM} (h:(bW l).2.1=0):(bW l).1.size≤4000:=by
 unfold bW at h ⊢;by_cases hw:(cL l).1≠0
 ·rw [if_pos hw] at h; exact absurd h hw
 ·rw [if_neg hw] at h ⊢;have:∀ (l:List cM) (bs bs':List UInt8),bs.length≤4000→iZ bs l=some bs'→bs'.length≤4000:=by
   intro l
   induction l with
   | nil=>intro bs bs' hb e; rw [iZ] at e; cases e; exact hb
   | cons x r ih =>
    intro bs bs' hb e;rw [iZ] at e;by_cases hc:4000<(aE bs (dr x)).length
    ·rw [if_pos hc] at e; cases e
    ·rw [if_neg hc] at e; exact ih _ _ ak e
  cases e:iZ [] l with
  | none=>rw [e] at h; exact absurd h (by decide)
  | some bs =>
   have:=this l [] bs (by decide) e;show bs.toArray.size≤4000
   simpa using this
theorem bf.Gw {S:Nat→Prop} {W:World} {a:Option Addr} {l:List cM} (h:bf cy 16 S W a l) {j:Nat} (hj:j<l.length):∃ b off,a=some ⟨b,off,none⟩∧∃ V:Array Value,V.size=16∧W.rangeAt b (off+j*16) V.toList∧cy S W l[j] V.toList:=by
 rcases h with rfl | ⟨b,off,e,_,_,h3⟩
 ·simp at hj
 ·obtain ⟨cs,c1,c2,c3⟩:=h3 j hj;exact ⟨b,off,e,cs.toArray,by simpa using c1,fun i u hu=>c2 i u hu,c3⟩
theorem Cq {W:World} {base:Nat} {v:Value} {bs:List UInt8} (h:W.ownsRow base 5 1 v bs.length (jC bs)):∃ a cap,v = .slice a bs.length cap∧bs.length≤cap∧bf mC 1 (fun b=>base≤b) W a bs:=by
 obtain ⟨a,cap,e,hl⟩:=wO h;refine ⟨a,cap,e,?_,hl⟩;obtain ⟨_,⟨e1,e2⟩ | ⟨k,cap',cur,e1,_,_,hc,_⟩⟩:=h
 ·omega
 ·rw [e] at e1;injection e1 with _ _ e3
  omega
theorem lM (l:List cM) (a:Option Addr) (c:Nat) {w:World} (hG:GP w w) (hn:l.length≤1000000000000000) (hks:bf cy 16 (fun b=>b<w.heap.size) w a l):Calls Tryz.prog 10 #[.slice a l.length c] w (nH w (ga 0 [] l)):=by
 obtain ⟨i0,hi0,hj0,hj1,hj2⟩:=info_parts sM;generalize hM:ga 0 [] l=M;have HM:=ah hM;obtain ⟨hal1,QF⟩:=dZ w #[aB,aB] 27;have HK:=ah (hks.nx bJ hal1);have HG:=ah (hG.up hal1 (I6 _) (I6 _));have hl1:=lt_of_heap QF;clear hM hks hG
 go_enter Tryz.func10,Tryz.ntmps10;go_upto_region 1 with fail
 generalize w.alloc _=w1 at *;go_wp2_with fail
 go_loopw [4,11] (fun ov iv wr=>∃ (j:Nat) (v:Value) (bs:List UInt8),v=ov∧j≤l.length∧iv = .int .i64 j∧bs.length≤100000∧Hid (wr.ownsRow w1 5 1 v bs.length (jC bs))∧Hid (Below w1 w1 wr)∧Hid (ga j bs (l.drop j)=M)) (fun _ iv _=>l.length - (RowKit.intOf iv).toNat)
 case atStart=>exact ⟨0,aL,[],rfl,Jc _,rfl,by decide,by show World.ownsRow _ _ _ _ _ _ _; simpa [jC] using World.ownsRow_nil _ _ _ _,I8 _ _,HM⟩
 case round =>
  obtain ⟨j,v,bs,rfl,hj,rfl,hbs,HO,HB,HK1⟩:=hrel;by_cases hlt:j<l.length
  ·have hjz:(j:Int)<(l.length:Int):=by omega
   have hL:=HK1.out;rw [I9 hlt,ga] at hL;have HKr:=HK.out.aM bJ ⟨HB.out.size,fun b hb hl=>HB.out.block b ak⟩;obtain ⟨b,off,rfl,V,hV,hR,hE⟩:=HKr.Gw hlt;generalize l[j]=x at *;obtain ⟨P,hP⟩:∃ P,bW [x]=P:=⟨_,rfl⟩
   have hsz:=oX (l:=[x]);rw [hP] at hL hsz;have HL:=ah hL;obtain ⟨v0,v1,v2,v3,v4,v5,v6,v7,v8,v9,v10,v11,v12,v13,v14,v15,rfl⟩:=uF hV;obtain ⟨_,h16⟩:=cy.size (V:=#[v0,v1,v2,v3,v4,v5,v6,v7,v8,v9,v10,v11,v12,v13,v14,v15]) hE;have hs1:=HB.out.size;obtain ⟨halV,QV⟩:=dZ wr #[v0,v1,v2,v3,v4,v5,v6,v7,v8,v9,v10,v11,v12,v13,v14,v15] 57;have hsz2:=halV.size
   have con1:=py x #[v0,v1,v2,v3,v4,v5,v6,v7,v8,v9,v10,v11,v12,v13,v14,v15] (w:=wr.alloc (.cells #[v0,v1,v2,v3,v4,v5,v6,v7,v8,v9,v10,v11,v12,v13,v14,v15] 57)) (bJ.mono (fun b hb _=>by have:b<w.heap.size:=hb; show b<_; omega) (bJ.next (ay.of halV) hE)) (HG.out.up (HB.out.trans (halV.mono hs1)) ak ak);rw [hP] at con1;have HO1:=ah (jN HO.out halV)
   have HB1:=ah (HB.out.trans (halV.mono hs1));clear hL HK1 HKr hE hP halV HO HB;obtain ⟨va,vc,hv⟩:=mA HO1.out;subst hv;go_upto_region 5 with (first | (refine wpList_load_mid rfl 57 _ rfl b (off+j*16) rfl [v0,v1,v2,v3,v4,v5,v6,v7,v8,v9,v10,v11,v12,v13,v14,v15] _ hR Tryz.underlying57 rfl dB ?_) | (refine aT rfl 57 _ _ rfl cO #[v0,v1,v2,v3,v4,v5,v6,v7,v8,v9,v10,v11,v12,v13,v14,v15] rfl rfl dB rfl h16 ?_))
   generalize wr.alloc _=w2 at *;go_wp2_with (first | (refine wpList_load_row rfl 57 _ rfl wr rfl 57 #[v0,v1,v2,v3,v4,v5,v6,v7,v8,v9,v10,v11,v12,v13,v14,v15] (0,0) _ QV Tryz.underlying57 rfl dB ?_))
   refine con1.mono ?_;rintro e w3 ⟨hb3,rfl⟩;have HO3:=ah (jN HO1.out hb3);have hB3:=HB1.out.trans (hb3.mono ak);have HB3:=ah hB3;have hs3:=hB3.size;have QF3:=(hB3.block _ hl1).trans QF;clear con1 hR QV HO1 HB1 hb3;by_cases he:P.2.1=0
   case neg =>
    have e:M = .error (P.2.1,(j:Int)):=by rw [← HL.out,if_pos he]
    subst e;have hez:(P.2.1 != 0)=true:=by rw [bne_iff_ne]; exact he
    obtain ⟨f0,f1⟩:=dp QF3;obtain ⟨g0,g1⟩:=kL QF3;clear he HL hsz;go_wp2_with fail
    have QE:=dJ QF3 P.2.1 j;have hbE:=iW (g:=w.heap.size) (hal1.trans (hB3.mono ak)) (I6 _) P.2.1 j;generalize ((w3.setCell (af w 0) P.2.1).setCell (af w 1) j)=wE at *;obtain ⟨x0,x1⟩:=dp QE;exact I7 (v:=.tuple #[aL,.agg #[P.2.1,j]]) (by simp [results,Tryz.results10,go_sem,x0,x1]) rfl ⟨hbE,rfl⟩
   case pos =>
    have hL:=HL.out;rw [if_neg (by simpa using he)] at hL;have hz4:=hsz he;have hez:(P.2.1 != 0)=false:=by rw [bne_eq_false_iff_eq]; exact he
    have con2:=yJ P.1 hz4 (w:=w3) ak;have hrl:=jz P.1;generalize dL P.1=rb at *;have HRL:Hid (rb.length≤4004∧1≤rb.length):=by show _∧_; omega
    have HL2:=ah hL;clear hL HL he hsz hz4 hrl;go_wp2_with fail
    refine con2.mono ?_;rintro e w4 ⟨hb4,u,rfl,o4⟩;have hO4:=jN HO3.out hb4;have HB4:=ah (HB3.out.trans (hb4.mono hs3));have hs4:=hb4.size;obtain ⟨ua,uc,eu⟩:=mA o4;have hcells:=fun g hg i x hu=>World.ownsRow.cells o4 (g:=g) hg i x hu
    have hown:=o4;subst eu;clear con2 HB3 HO3 hb4;by_cases hr0:rb = []
    ·exact absurd HRL.out.2 (by rw [hr0]; decide)
    obtain ⟨g,hg⟩:∃ g,ua=some ⟨g,0,none⟩:=by
     obtain ⟨_,⟨h1,h2⟩ | ⟨k,cap,cur,h1,_⟩⟩:=o4
     ·exact absurd (List.length_eq_zero_iff.1 h2) hr0
     ·injection h1 with h1 _ _; exact ⟨k,h1⟩
    subst hg;have hnews:∀ i u,(jC rb)[i]? = some u→w4.cell? (((af g 0):Addr).add i)=some u:=fun i u hu=>hcells g rfl i u hu
    clear hcells hown o4 hr0;go_wp2_with (first | (at_builtin; refine aS rfl _ _ 24 rfl w1 5 i0 _ 1 1 Tryz.underlying24 hi0 hj0 hj1 hj2 rfl (by decide) _ _ _ rfl hO4 (af g 0) rb.length uc (jC rb) rfl ?Ac0 hnews ?Ac2 ?Ac3 ?Ac4 ?Ac5 ?_))
    case Ac0=>simp [jC]
    case Ac2=>intro u hu; simp only [jC,List.mem_map] at hu; obtain ⟨b,_,rfl⟩:=hu; rfl
    case Ac3=>unfold maxLen; have:=HRL.out.1; omega
    case Ac4=>have:=HRL.out.1; omega
    case Ac5=>omega
    intro v5 w5 o5 g5 d5;have e5:jC bs ++ jC rb=jC (bs ++ rb):=by simp [jC]
    rw [e5,← Jf] at o5;have HO5:=ah o5;have hB5:=HB4.out.grown g5 ak (fun k e=>(hO4.lt k e).1);have HB5:=ah hB5;have QF5:=(hB5.block _ hl1).trans QF;have hll:(bs ++ rb).length=bs.length+rb.length:=Jf;have hRl:=HRL.out.1;have HLL:Hid ((bs ++ rb).length≤104004):=by show _≤_; omega
    generalize bs ++ rb=bs2 at *;obtain ⟨va5,vc5,ev5⟩:=mA o5;subst ev5;clear o5 g5 d5 e5 hO4 hnews HB4 hll hRl;by_cases hbig:100000<bs2.length
    ·have e:M = .error (4,(j:Int)):=by rw [← HL2.out,if_pos hbig]
     subst e;have hbz:(100000:Int)<(bs2.length:Int):=by omega
     obtain ⟨f0,f1⟩:=dp QF5;obtain ⟨q0,q1⟩:=kL QF5;clear hbig HL2;go_wp2_with fail
     have QE:=dJ QF5 (4:Int) j;have hbE:=iW (g:=w.heap.size) (hal1.trans (hB5.mono ak)) (I6 _) (4:Int) j;generalize ((w5.setCell (af w 0) (4:Int)).setCell (af w 1) j)=wE at *;obtain ⟨x0,x1⟩:=dp QE;exact I7 (v:=.tuple #[aL,.agg #[(4:Int),j]]) (by simp [results,Tryz.results10,go_sem,x0,x1]) rfl ⟨hbE,rfl⟩
    ·have hbz:¬ (100000:Int)<(bs2.length:Int):=by omega
     have HL3:Hid (ga (j+1) bs2 (l.drop (j+1))=M):=by show _=_; rw [← HL2.out,if_neg hbig]
     clear HL2 QF5 hB5;go_wp2_with fail
     go_roundw
     case rel=>exact ⟨j+1,_,bs2,rfl,by omega,by go_num,by omega,HO5,HB5,HL3⟩
     case measure=>simp [RowKit.intOf]; omega
  ·have hjz:¬ (j:Int)<(l.length:Int):=by omega
   have e:M = .ok bs:=by rw [← HK1.out,JK ak,ga]
   subst e;have hB:=HB.out;have QFb:=(hB.block _ hl1).trans QF;obtain ⟨f0,f1⟩:=dp QFb;obtain ⟨q0,q1⟩:=kL QFb;obtain ⟨va,vc,hv,hle,LL⟩:=Cq HO.out;subst hv;have HLL:=ah LL;clear HK1 HO LL HK HG;go_wp2_with fail
   have QE:=dJ QFb aB aB;have hbE:=iW (g:=w.heap.size) (hal1.trans (hB.mono ak)) (I6 _) aB aB
   have LE:bf mC 1 (fun b=>w.heap.size≤b) ((wr.setCell (af w 0) aB).setCell (af w 1) aB) va bs:=(HLL.out.aM pK ⟨by simp,fun b hb _=>by have hb:w1.heap.size≤b:=hb; rw [JD _ (af w 1) _ b (by show b≠w.heap.size; omega),JD _ (af w 0) _ b (by show b≠w.heap.size; omega)]⟩).mono pK (fun b hb _=>by have:w1.heap.size≤b:=hb; show _≤b; omega);generalize ((wr.setCell (af w 0) aB).setCell (af w 1) aB)=wE at *;obtain ⟨x0,x1⟩:=dp QE
   exact I7 (v:=.tuple #[.slice va bs.length vc,.agg #[aB,aB]]) (by simp [results,Tryz.results10,go_sem,x0,x1]) rfl ⟨hbE,va,vc,rfl,LE,hle⟩
def km:Nat→List UInt8→Nat→List cM→List cM × Nat
 | 0,_,p,acc=>(acc,p)
 | n+1,bs,p,acc=>match fq (dd (bs.drop p)).1 with
  | none=>(acc,p)
  | some x=>km n bs (p+(dd (bs.drop p)).2) (acc ++ [x])
def eF (bs:List UInt8):List cM × Nat:=km (bs.length+1) bs 0 []
theorem iT:fq eB=none:=by
 unfold fq;have:da eB = .ok []:=rfl;rw [this];rfl
theorem oS {bs:List UInt8} (h:(dd bs).1≠eB):4≤(dd bs).2∧(dd bs).2≤bs.length:=by
 unfold dd at h ⊢;by_cases h1:bs.length<2
 ·rw [if_pos h1] at h; exact absurd rfl h
 ·rw [if_neg h1] at h ⊢;by_cases h2:bs.length<2+eV bs+2
  ·rw [if_pos h2] at h; exact absurd rfl h
  ·rw [if_neg h2] at h ⊢;by_cases h3:eV (bs.drop (2+eV bs))=jt 7439 (bs.take (2+eV bs))
   ·rw [if_pos h3] at h ⊢;exact ⟨by show 4≤2+eV bs+2; omega,by show 2+eV bs+2≤_; omega⟩
   ·rw [if_neg h3] at h; exact absurd rfl h
theorem lG (bs:List UInt8) (b off cap:Nat) {w:World} (hG:GP w w) (hl:bf mC 1 (fun b=>b<w.heap.size) w (some (af b off)) bs) (hc:bs.length≤cap) (hn:bs.length≤100000):Calls Tryz.prog 12 #[.slice (some (af b off)) bs.length cap] w fun e w'=>Below w w w'∧∃ a c,e = .returned (.tuple #[.slice a (eF bs).1.length c,.int .i64 ((eF bs).2:Nat),aB])∧bf cy 16 (fun b=>w.heap.size≤b) w' a (eF bs).1:=by
 obtain ⟨i0,hi,hj0,hj1,hj2⟩:=info_parts AT;generalize hM:eF bs=M;have HM:=ah hM;have HG:=ah hG;have HL:=ah hl;have hz:¬ (100000:Int)<(bs.length:Int):=by omega
 clear hM hG hl;go_enter Tryz.func12,Tryz.ntmps12;go_wp2_with fail
 go_loopw [5,6] (fun ov pv wr=>∃ (n p:Nat) (v:Value) (acc:List cM),v=ov∧pv = .int .i64 p∧p≤bs.length∧acc.length≤p∧Hid (bC cy 57 16 w.heap.size (fun b=>w.heap.size≤b) wr v acc)∧Hid (Below w w wr)∧Hid (km n bs p acc=M∧bs.length<p+n)) (fun _ pv _=>bs.length - (RowKit.intOf pv).toNat)
 case atStart=>exact ⟨bs.length+1,0,aL,[],rfl,rfl,Jc _,I6 _,bC.nil _ _ _ _ _ _,I8 _ _,HM,by omega⟩
 case round =>
  obtain ⟨n,p,v,acc,rfl,rfl,hp,hacc,HO,HB,HK⟩:=hrel;have hpz:(p:Int)≤(bs.length:Int):=by omega
  have hpz2:(0:Int)≤(p:Int):=by omega
  obtain ⟨va,vc,hv⟩:=HO.out.len;subst hv;have hsd:∀ k,Hid (km n bs p acc=M∧bs.length<p+n)→fq (dd (bs.drop p)).1=k→(k=none→M=(acc,p))∧(∀ x,k=some x→∃ m,n=m+1∧km m bs (p+(dd (bs.drop p)).2) (acc ++ [x])=M∧4≤(dd (bs.drop p)).2∧p+(dd (bs.drop p)).2≤bs.length∧bs.length<p+n):=by
   intro k hk e;obtain ⟨h1,h2⟩:=hk.out;obtain ⟨m,rfl⟩:∃ m,n=m+1:=⟨n - 1,by omega⟩
   rw [km,e] at h1;refine ⟨fun q=>?_,fun x q=>?_⟩
   ·subst q; exact h1.symm
   ·subst q;have hne:(dd (bs.drop p)).1≠eB:=fun c=>by rw [c,iT] at e; cases e
    have hsz:=oS hne;rw [Jz] at hsz;exact ⟨m,rfl,h1,hsz.1,by omega,h2⟩
  have hS:=hsd _ HK rfl;have HS:=ah hS;clear hsd hS HK;have hLr:=HL.out.aM pK ⟨HB.out.size,fun k hk _=>HB.out.block k hk⟩;have hGr:=HG.out.up HB.out (I6 _) HB.out.size;have con:∃ q k,(q=off+p∧k=cap - p∧p<cap∨q=off∧k=0∧p=cap)∧Calls Tryz.prog 25 #[.slice (some (af b q)) (bs.length - p) k] wr fun e w'=>e = .returned (.tuple #[.string (dd (bs.drop p)).1,.int .i64 ((dd (bs.drop p)).2:Nat)])∧Below wr wr w':=by
   by_cases hpc:p<cap
   ·refine ⟨off+p,cap - p,.inl ⟨rfl,rfl,hpc⟩,?_⟩;have:=jg (bs.drop p) (some ⟨b,off+p,none⟩) (cap - p) _ (w:=wr) (hLr.zF p) (by rw [Jz]; omega) (by rw [Jz]; omega)
    rwa [Jz] at this
   ·refine ⟨off,0,.inr ⟨rfl,rfl,by omega⟩,?_⟩;have e:bs.drop p = []:=JK ak;have:=jg [] (some (af b off)) 0 (fun _=>True) (w:=wr) (.inl rfl) (I6 _) (by decide);rw [e,show bs.length - p=([]:List UInt8).length by show _=0; omega];exact this
  obtain ⟨q,k,hqk,con⟩:=con;have con2:=fun (w2:World) (hb:Below wr wr w2)=>mK (dd (bs.drop p)).1 (w:=w2) (hGr.up hb (I6 _) hb.size)
  generalize dd (bs.drop p)=T at *;have CON2:=ah con2;clear hLr hGr con2;rcases hqk with ⟨rfl,rfl,hpc⟩ | ⟨rfl,rfl,rfl⟩
  case inl =>
   go_wp2_with fail
   refine cR con fun w2 hb2=>?_;have con2:=CON2.out w2 hb2;have HO2:=ah (HO.out.next bJ hb2);have hs:=HB.out.size;have HB2:=ah (HB.out.trans (hb2.mono hs));have hs2:=hb2.size;have HOZ:∀ g,(Value.slice va acc.length vc).ownBlock=some g→g<w2.heap.size:=fun g e=>by have:=(HO.out.lt g e).2; omega
   generalize fq T.1=r at *;clear con CON2 HO HB;go_wp2_with fail
   refine con2.mono ?_;rintro e w3 ⟨hb3,hr⟩;have hs3:=hb3.size;have HO3:=ah (HO2.out.next bJ hb3);have HB3:=ah (HB2.out.trans (hb3.mono ak));clear con2 HO2 HB2;rcases r with _ | x
   case none =>
    obtain rfl:=hr;have e:=HS.out.1 rfl;subst e;obtain ⟨ea,ec,ee,LE⟩:=HO3.out.ls bJ (fun _ h=>h);injection ee with e1 _ e3
    subst e1 e3;have HLE:=ah LE;have hal4:=bR w3 (.cells cO 57);have HB4:=ah (HB3.out.trans (hal4.mono ak));have HL4:=ah (HLE.out.nx bJ hal4);clear HS HO3 HB3 LE HLE hal4;go_wp2_with (first | (refine aT rfl 57 _ _ rfl cO cO rfl rfl dB rfl (eh rfl) ?_))
    generalize w3.alloc _=wE at *;exact I7 (v:=.tuple #[.slice va acc.length vc,p,aB]) (by simp [results,Tryz.results12,go_sem]) rfl (by first | exact ⟨HB4.out,va,vc,rfl,HL4.out⟩ | exact ⟨HB4.out,va,⟨vc,rfl⟩,HL4.out⟩)
   case some =>
    obtain ⟨V,rfl,hE⟩:=hr;obtain ⟨m,rfl,hm,hsz4,hsz,hfu⟩:=HS.out.2 x rfl;have HM2:Hid (km m bs (p+T.2) (acc ++ [x])=M∧bs.length<p+T.2+m):=⟨hm,by omega⟩
    obtain ⟨hV,h16⟩:=cy.size hE;obtain ⟨v0,v1,v2,v3,v4,v5,v6,v7,v8,v9,v10,v11,v12,v13,v14,v15,rfl⟩:=uF hV;obtain ⟨hal4,q4⟩:=dZ w3 #[v0,v1,v2,v3,v4,v5,v6,v7,v8,v9,v10,v11,v12,v13,v14,v15] 57;have hs4:=hal4.size
    have hal5:Below (w3.alloc (.cells #[v0,v1,v2,v3,v4,v5,v6,v7,v8,v9,v10,v11,v12,v13,v14,v15] 57)).heap.size (w3.alloc (.cells #[v0,v1,v2,v3,v4,v5,v6,v7,v8,v9,v10,v11,v12,v13,v14,v15] 57)) ((w3.alloc (.cells #[v0,v1,v2,v3,v4,v5,v6,v7,v8,v9,v10,v11,v12,v13,v14,v15] 57)).alloc (.cells #[v0,v1,v2,v3,v4,v5,v6,v7,v8,v9,v10,v11,v12,v13,v14,v15] 57)):=bR ..;have e5:(w3.alloc (.cells #[v0,v1,v2,v3,v4,v5,v6,v7,v8,v9,v10,v11,v12,v13,v14,v15] 57)).heap.size=w3.heap.size+1:=by simp
    have q5:=aD (w3.alloc (.cells #[v0,v1,v2,v3,v4,v5,v6,v7,v8,v9,v10,v11,v12,v13,v14,v15] 57)) #[v0,v1,v2,v3,v4,v5,v6,v7,v8,v9,v10,v11,v12,v13,v14,v15] 57;rw [e5] at q5;have hs5:=hal5.size;have HB5:=ah ((HB3.out.trans (hal4.mono ak)).trans (hal5.mono ak))
    have HX5:Hid (cy (fun b=>w2.heap.size≤b∧b<w3.heap.size) ((w3.alloc (.cells #[v0,v1,v2,v3,v4,v5,v6,v7,v8,v9,v10,v11,v12,v13,v14,v15] 57)).alloc (.cells #[v0,v1,v2,v3,v4,v5,v6,v7,v8,v9,v10,v11,v12,v13,v14,v15] 57)) x [v0,v1,v2,v3,v4,v5,v6,v7,v8,v9,v10,v11,v12,v13,v14,v15]):=bJ.next (ay.of (chain hal4 hal5)) (bJ.mono (fun b h1 h2=>⟨h1,h2⟩) hE);have hnb:=HO3.out.lt;obtain ⟨ys,o5,en5⟩:=(HO3.out.next bJ hal4).next bJ hal5;have EN5:=ah en5;have HNB:Hid (∀ g,(Value.slice va acc.length vc).ownBlock=some g→w.heap.size≤g∧g<w3.heap.size):=hnb
    have hoz:=HOZ
    have HOW:=ah hoz;have hz16:Below w3 w3 w3:=I8 _ _;clear HS HO3 HB3 hE en5 hnb hoz hm hV hal4 hal5 hz16;go_upto_region 7 with (first | (refine aT rfl 57 _ _ rfl cO #[v0,v1,v2,v3,v4,v5,v6,v7,v8,v9,v10,v11,v12,v13,v14,v15] rfl rfl dB rfl h16 ?_))
    have q4':=q4;go_upto_region 9 with fail
    go_wp2_with (first | (refine wpList_load_row rfl 57 _ rfl w3 rfl 57 #[v0,v1,v2,v3,v4,v5,v6,v7,v8,v9,v10,v11,v12,v13,v14,v15] (0,0) _ q4 Tryz.underlying57 rfl dB ?_) | (at_builtin; refine aS rfl _ _ 22 rfl w 57 i0 _ 16 256 Tryz.underlying22 hi hj0 hj1 hj2 rfl (by decide) _ _ _ rfl o5 (af (w3+1) 0) 1 1 [v0,v1,v2,v3,v4,v5,v6,v7,v8,v9,v10,v11,v12,v13,v14,v15] rfl rfl ?Ac1 ?Ac2 ?Ac3 ?Ac4 ?Ac5 ?_))
    case Ac1 =>
     intro i u hu;rw [bG,Jm];exact cell_of (i:=i) q5 (by rw [← hu]; simp)
    case Ac2=>exact fun u hu=>by have:=Array.all_eq_true_iff_forall_mem.1 h16 u (by simpa using hu); exact this
    case Ac3=>unfold maxLen; omega
    case Ac4=>omega
    case Ac5=>omega
    intro v' w6 o6 g6 hd6;have z6:=g6.size;have O6:=ah (bC.push bJ o5 EN5.out rfl (bJ.mono (fun b h1 h2=>⟨by have:=h1.1; show w.heap.size≤b; omega,h2,fun e=>by have:=HOW.out b e; have:=h1.1; omega⟩) HX5.out) o6 g6 (by simpa using hd6));have HB6:=ah (HB5.out.grown g6 ak (fun k e=>(HNB.out k e).1));obtain ⟨va6,vc6,ev6⟩:=O6.out.len;subst ev6;have hT:(T.2:Int)+(p:Int)≤100000:=by omega
    clear o5 EN5 HX5 o6 g6 hd6 q4 q5 q4' HB5;go_wp2_with fail
    go_roundw
    case rel=>exact ⟨m,p+T.2,_,acc ++ [x],rfl,by go_num,by omega,by simp; omega,O6,HB6,HM2⟩
    case measure=>simp [RowKit.intOf]; omega
  case inr =>
   obtain rfl:p=bs.length:=by omega
   rw [Nat.sub_self] at con;clear hc;have hr0:True:=trivial;go_wp2_with fail
   refine cR con fun w2 hb2=>?_;have con2:=CON2.out w2 hb2;have HO2:=ah (HO.out.next bJ hb2);have hs:=HB.out.size;have HB2:=ah (HB.out.trans (hb2.mono hs));have hs2:=hb2.size;have HOZ:∀ g,(Value.slice va acc.length vc).ownBlock=some g→g<w2.heap.size:=fun g e=>by have:=(HO.out.lt g e).2; omega
   generalize fq T.1=r at *;clear con CON2 HO HB;go_wp2_with fail
   refine con2.mono ?_;rintro e w3 ⟨hb3,hr⟩;have hs3:=hb3.size;have HO3:=ah (HO2.out.next bJ hb3);have HB3:=ah (HB2.out.trans (hb3.mono ak));clear con2 HO2 HB2;rcases r with _ | x
   case none =>
    obtain rfl:=hr;have e:=HS.out.1 rfl;subst e;obtain ⟨ea,ec,ee,LE⟩:=HO3.out.ls bJ (fun _ h=>h);injection ee with e1 _ e3
    subst e1 e3;have HLE:=ah LE;have hal4:=bR w3 (.cells cO 57);have HB4:=ah (HB3.out.trans (hal4.mono ak));have HL4:=ah (HLE.out.nx bJ hal4);clear HS HO3 HB3 LE HLE hal4;go_wp2_with (first | (refine aT rfl 57 _ _ rfl cO cO rfl rfl dB rfl (eh rfl) ?_))
    generalize w3.alloc _=wE at *;exact I7 (v:=.tuple #[.slice va acc.length vc,bs.length,aB]) (by simp [results,Tryz.results12,go_sem]) rfl (by first | exact ⟨HB4.out,va,vc,rfl,HL4.out⟩ | exact ⟨HB4.out,va,⟨vc,rfl⟩,HL4.out⟩)
   case some =>
    obtain ⟨m,rfl,hm,hsz4,hsz,hfu⟩:=HS.out.2 x rfl;omega
def tS:cM:=⟨1,⟨#[116]⟩,[(⟨#[97]⟩,3)],iz,[],false,dM⟩
def BB:Bool:=match ga 0 [] [tS] with
 | .ok bs=>bs.length == 30 && (eF bs).2 == 30 && (match (eF bs).1 with | [x]=>x.name.data.toList == [116] | _=>false)
 | .error _=>false
theorem uD:BB=true:=by decide +kernel
theorem Dp:∃ bs x,ga 0 [] [tS] = .ok bs∧bs.length=30∧(eF bs).1 = [x]∧(eF bs).2=30∧x.name=⟨#[116]⟩:=by
 have h:=uD;unfold BB at h;cases e:ga 0 [] [tS] with
 | error c=>rw [e] at h; cases h
 | ok bs =>
  rw [e] at h;simp only [Jv,beq_iff_eq] at h;cases e2:(eF bs).1 with
  | nil=>rw [e2] at h; exact absurd h.2 (by decide)
  | cons x r =>
   rw [e2] at h;cases r with
   | nil=>exact ⟨bs,x,rfl,h.1.1,e2,h.1.2,ByteArray.ext (Array.ext' (by simpa using h.2))⟩
   | cons y r=>exact absurd h.2 (by simp)
theorem AY {w:World}:Calls Tryz.prog 22 #[.string ⟨#[116]⟩] w fun e w'=>Below w w w'∧∃ V:Array Value,e = .returned (.agg V)∧cy (fun b=>w.heap.size≤b) w' tS V.toList:=by
 obtain ⟨hal1,Q1⟩:=dZ w cO 57;have e1:(w.alloc (.cells cO 57)).heap.size=w.heap.size+1:=by simp
 have hal2:Below (w.alloc (.cells cO 57)).heap.size (w.alloc (.cells cO 57)) ((w.alloc (.cells cO 57)).alloc (.cells #[.string ⟨#[97]⟩,(3:Int)] 69)):=bR ..;have Q2:=aD (w.alloc (.cells cO 57)) #[.string ⟨#[97]⟩,(3:Int)] 69;have Q1':=bH hal2 Q1;rw [e1] at Q2;have hb2:=hal1.trans (hal2.mono ak);clear hal1 hal2 Q1 e1;go_enter Tryz.func22,Tryz.ntmps22
 go_wp2_with (first | (refine wpList_store_row rfl 57 _ _ rfl w #[(1:Int),.string ⟨#[116]⟩,.slice (some (af (w+1) 0)) 1 1,aL,aL,aL,aB,aL,false,aB,aB,aB,(),(),(),aL] rfl rfl 57 cO Q1' dB rfl (eh rfl) ?_))
 generalize ((w.alloc (.cells cO 57)).alloc (.cells #[.string ⟨#[97]⟩,(3:Int)] 69))=w2 at *;have QE:=setRow_heap w2 w cO #[(1:Int),.string ⟨#[116]⟩,.slice (some (af (w+1) 0)) 1 1,aL,aL,aL,aB,aL,false,aB,aB,aB,(),(),(),aL] _ _ Q1'
 have hbE:=below_setRow hb2 (I6 _) #[(1:Int),.string ⟨#[116]⟩,.slice (some (af (w+1) 0)) 1 1,aL,aL,aL,aB,aL,false,aB,aB,aB,(),(),(),aL]
 have Q2E:=(setRow_other w2 w (w+1) #[(1:Int),.string ⟨#[116]⟩,.slice (some (af (w+1) 0)) 1 1,aL,aL,aL,aB,aL,false,aB,aB,aB,(),(),(),aL] ak).trans Q2
 generalize w2.setRow _ _=wE at *;refine I7 (results_cell_row Tryz.results22 _ _ _ _ _ _ _ rfl QE Tryz.underlying57 rfl dB) rfl ⟨hbE,_,rfl,some (af (w+1) 0),1,none,0,none,0,none,0,none,0,none,0,rfl,?_,.inl rfl,.inl rfl,.inl rfl,.inl rfl,aJ.nil _⟩
 refine .inr ⟨w.heap.size+1,0,rfl,Nat.le_succ _,lt_of_heap Q2E,fun i hi=>?_⟩;obtain rfl:i=0:=by have:i<1:=hi; omega
 refine ⟨[.string ⟨#[97]⟩,(3:Int)],rfl,fun j u hu=>?_,rfl⟩;have:=cell_of (i:=j) (v:=u) Q2E (by simpa using hu)
 simpa using this
theorem bf.FT {w:World} {x:cM} {S:Nat→Prop} {V:Array Value} (hV:V.size=16) (h:cy S w x V.toList) {T:TypeId}:bf cy 16 (fun b=>S b∨w.heap.size≤b) (w.alloc (.cells V T)) (some (af w 0)) [x]:=by
 obtain ⟨hal,Q⟩:=dZ w V T;refine .inr ⟨w.heap.size,0,rfl,.inr (I6 _),lt_of_heap Q,fun i hi=>?_⟩;obtain rfl:i=0:=by have:i<1:=hi; omega
 refine ⟨V.toList,by simpa using hV,fun j u hu=>?_,bJ.mono (fun b hb _=>.inl hb) (bJ.next (ay.of hal) h)⟩;have:=cell_of (i:=j) (v:=u) Q (by simpa using hu)
 simpa using this
theorem pE {w:World} (hG:GP w w):Calls Tryz.prog 9 #[] w fun e w'=>Below w w w'∧e = .returned true:=by
 obtain ⟨bs,x,hb1,hb2,hr1,hr2,hx⟩:=Dp;have con0:=AY (w:=w);have HG:=ah hG;have HB1:=ah hb1;have HB2:=ah hb2;have HR1:=ah hr1;have HR2:=ah hr2;have HX:=ah hx;clear hG hb1 hb2 hr1 hr2 hx;go_enter Tryz.func9,Tryz.ntmps9;go_wp2_with fail
 refine con0.mono ?_;rintro e w1 ⟨hb1,V,rfl,hE⟩;obtain ⟨hV,h16⟩:=cy.size hE;obtain ⟨v0,v1,v2,v3,v4,v5,v6,v7,v8,v9,v10,v11,v12,v13,v14,v15,rfl⟩:=uF hV;have hal2:=bR w1 (.cells #[v0,v1,v2,v3,v4,v5,v6,v7,v8,v9,v10,v11,v12,v13,v14,v15] 57);have L2:=bf.FT (T:=57) hV hE;have hw1:=hb1.size;have hw2:w1.heap.size<(w1.alloc (.cells #[v0,v1,v2,v3,v4,v5,v6,v7,v8,v9,v10,v11,v12,v13,v14,v15] 57)).heap.size:=by simp
 have hB2:=hb1.trans (hal2.mono hw1);have con1:=lM [tS] (some (af w1 0)) 1 (HG.out.up hB2 (I6 _) ak) (by decide) (bf.mono bJ (fun b _ h=>h) L2);rw [HB1.out] at con1;have HB:=ah hB2;clear con0 hb1 hE h16 hal2 L2 hB2;go_wp2_with fail
 generalize w1.alloc _=w2 at *;refine con1.mono ?_;rintro e w3 ⟨hb3,a,c,rfl,LB,hc⟩;have hw2:=HB.out.size;obtain ⟨hal4,QF⟩:=dZ w3 #[aB,aB] 27;have hw3:=hb3.size;have hw4:=lt_of_heap QF;have hB4:=HB.out.trans ((chain hb3 hal4).mono hw2);have HB4:=ah hB4;obtain ⟨b,off,rfl,_⟩:=LB.sT (i:=0) (by rw [HB2.out]; decide)
 have con2:=lG bs b off c (HG.out.up hB4 (I6 _) (by have:=hB4.size; omega)) ((LB.aM pK (ay.of hal4)).mono pK (fun _ _ h=>h)) hc (by rw [HB2.out]; decide);rw [HB2.out] at con2;have hlen:=HB2.out;rw [HR1.out,HR2.out] at con2;clear con1 hb3 LB hc hal4 hB4 HB;go_upto_region 2 with fail
 generalize w3.alloc _=w4 at *;go_wp2_with fail
 refine con2.mono ?_;rintro e w5 ⟨hb5,a5,c5,rfl,L5⟩;have QF5:=(hb5.block _ hw4).trans QF;obtain ⟨f0,f1⟩:=dp QF5;obtain ⟨b5,o5,rfl,V5,hV5,hR5,hE5⟩:=L5.Ix;have hn:w5.cell? ⟨b5,o5+1,none⟩=some (.string ⟨#[116]⟩):=by
  obtain ⟨a1,c1,p1,d1,p2,d2,p3,d3,a2,c2,a3,c3,e,_⟩:=hE5;have:=hR5 1 x.name (by rw [e]; rfl)
  rwa [HX.out] at this
 have hB5:=HB4.out.trans (hb5.mono HB4.out.size);clear con2 QF5 QF L5 hR5 hE5 hb5 hlen;go_wp2_with fail
 go_ret;exact ⟨hB5,rfl⟩
theorem AG (x y:List UInt8) (a b:Option Addr) (c d:Nat) (S:Nat→Prop) {w:World} (hx:bf mC 1 S w a x) (hy:bf mC 1 S w b y) (hn:x.length≤1099511627776) (_hm:y.length≤1099511627776):Calls Tryz.prog 11 #[.slice a x.length c,.slice b y.length d] w fun e w'=>e = .returned (.bool (decide (x=y)))∧Below w w w':=by
 generalize hR:decide (x=y)=R;by_cases hl:x.length=y.length
 case neg =>
  have e:R=false:=by rw [← hR,decide_eq_false_iff_not]; exact fun e=>hl (by rw [e])
  subst e;have hz:((x.length:Int) != (y.length:Int))=true:=by rw [bne_iff_ne]; omega
  clear hl hR;go_enter Tryz.func11,Tryz.ntmps11;go_wp2_with fail
  go_ret;exact ⟨rfl,I8 _ _⟩
 case pos =>
  have hz:((x.length:Int) != (y.length:Int))=false:=by rw [bne_eq_false_iff_eq,hl]
  have HR:=ah hR;have HX:=ah hx;have HY:=ah hy;have HL:=ah hl;clear hl hR hx hy;go_enter Tryz.func11,Tryz.ntmps11;go_wp2_with fail
  go_loopw [13] (fun iv wr=>∃ j:Nat,j≤x.length∧iv = .int .i64 j∧Hid (decide (x.drop j=y.drop j)=R)∧Below w w wr) (fun iv _=>x.length - (RowKit.intOf iv).toNat)
  case atStart=>exact ⟨0,Jc _,rfl,HR,I8 _ _⟩
  case round =>
   obtain ⟨j,hj,rfl,HK,hB⟩:=hrel;by_cases hlt:j<x.length
   ·have hjz:(j:Int)<(x.length:Int):=by omega
    have hlt2:j<y.length:=by rw [← HL.out]; exact hlt
    have hjz2:(j:Int)<(y.length:Int):=by omega
    obtain ⟨b1,o1,rfl,y1⟩:=(HX.out.aM pK (ay.of hB)).sT hlt;obtain ⟨b2,o2,rfl,y2⟩:=(HY.out.aM pK (ay.of hB)).sT hlt2;have hK:=HK.out;rw [I9 hlt,I9 hlt2] at hK;generalize x[j]=p at *;generalize y[j]=q at *;have y1d:=y1;have y2d:=y2;by_cases e:p=q
    ·subst e;have HK2:Hid (decide (x.drop (j+1)=y.drop (j+1))=R):=by
      show _=_;rw [← hK];simp
     have hpz:(((p.toNat:Nat):Int) != ((p.toNat:Nat):Int))=false:=by rw [bne_eq_false_iff_eq]
     clear HK hK hz;go_upto_region 6 with fail
     go_region
     go_wp2_with fail
     go_roundw
     case rel=>exact ⟨j+1,by omega,by go_num,HK2,hB.drew⟩
     case measure=>simp [RowKit.intOf]; omega
    ·have e2:R=false:=by rw [← hK,decide_eq_false_iff_not]; intro c; injection c with c1 _; exact e c1
     subst e2;have hpz:(((p.toNat:Nat):Int) != ((q.toNat:Nat):Int))=true:=by
      rw [bne_iff_ne];intro c;exact e (UInt8.toNat_inj.1 ak)
     clear HK hK hz e;go_upto_region 6 with fail
     go_region
     go_wp2_with fail
     go_ret;exact ⟨rfl,hB.drew⟩
   ·have hjz:¬ (j:Int)<(x.length:Int):=by omega
    have e2:R=true:=by rw [← HK.out,JK ak,JK (by have:=HL.out; omega)]; rfl
    subst e2;clear HK hz;go_wp2_with fail
    go_ret;exact ⟨rfl,hB⟩
theorem oe:∀ (l:List cM) (i:Nat) (acc:List UInt8) {e:Er},ga i acc l = .error e→e.1≠0
 | [],i,acc,e,h=>by rw [ga] at h; cases h
 | x :: l,i,acc,e,h=>by
  rw [ga] at h
  by_cases e1:(bW [x]).2.1≠0
  ·rw [if_pos e1] at h; cases h; exact e1
  ·rw [if_neg e1] at h
   by_cases hb:100000<(acc ++ dL (bW [x]).1).length
   ·rw [if_pos hb] at h; cases h; exact (by decide:¬ (4:Int)=0)
   ·rw [if_neg hb] at h; exact oe l _ _ h
theorem jD:∀ (l:List cM) (i:Nat) (acc:List UInt8) {r:List UInt8},acc.length≤100000→ga i acc l = .ok r→r.length≤100000
 | [],i,acc,r,ha,h=>by rw [ga] at h; cases h; exact ha
 | x :: l,i,acc,r,ha,h=>by
  rw [ga] at h
  by_cases e1:(bW [x]).2.1≠0
  ·rw [if_pos e1] at h; cases h
  ·rw [if_neg e1] at h
   by_cases hb:100000<(acc ++ dL (bW [x]).1).length
   ·rw [if_pos hb] at h; cases h
   ·rw [if_neg hb] at h; exact jD l _ _ ak h
def lf (r:Except Er (List UInt8)):List UInt8:=match r with | .ok b=>b | .error _=>[]
def jr (r:Except Er (List UInt8)):Er:=match r with | .ok _=>(0,0) | .error e=>e
theorem nH.all {w:World} {r:Except Er (List UInt8)} {e:Ending} {w':World} (h:nH w r e w'):Below w w w'∧∃ a cap,e = .returned (.tuple #[.slice a (lf r).length cap,.agg #[.int .i64 (jr r).1,.int .i64 (jr r).2]])∧bf mC 1 (fun b=>w.heap.size≤b) w' a (lf r)∧(lf r).length≤cap:=by
 obtain ⟨h1,h2⟩:=h;rcases r with c | bs
 ·exact ⟨h1,none,0,h2,.inl rfl,I6 _⟩
 ·exact ⟨h1,h2⟩
end Go.Proofs.YtoknmnngaackkaaGreatDoor
namespace Go.Proofs
open Go.Shelf
set_option maxRecDepth 100000
set_option maxHeartbeats 16000000
shelf_lay LaysM.n155 Nm 155 at Tryz as Tryz.repM
end Go.Proofs
namespace Go.Proofs.YtoknmnngaackkaaGreatDoor
open Go.RowKit Go.Lib Go.Shelf
set_option maxRecDepth 100000
set_option maxHeartbeats 4000000
theorem Eu {W:World} {rest:List (String × DataW Unit)} (h:laidMet Tryz.prog (("tidemark/sql.signs",.agg (Aq.map CT)) :: ("tidemark/sql.infixes",.agg (Bs.map zz)) :: rest) W):Gl W:=by
 obtain ⟨ps,⟨g0,t0,cs0,f0,p0,q0,hg0,ht0,hv0,hd0,⟨g1,t1,cs1,f1,p1,q1,hg1,ht1,hv1,hd1,_⟩,_⟩,_⟩:=h;have G0:Tryz.prog.globalNamed "tidemark/sql.signs" = some 0:=by kernel_rfl
 have G1:Tryz.prog.globalNamed "tidemark/sql.infixes" = some 1:=by kernel_rfl
 have T0:(Tryz.prog.globals[0]?).map (·.type)=some 189:=by kernel_rfl
 have T1:(Tryz.prog.globals[1]?).map (·.type)=some 232:=by kernel_rfl
 obtain rfl:=Jt (G0.symm.trans hg0);obtain rfl:=Jt (G1.symm.trans hg1);obtain rfl:=Jt (T0.symm.trans ht0);obtain rfl:=Jt (T1.symm.trans ht1);have s0:=pT Tryz.underlying189 Tryz.underlying9 bm bm hd0;have s1:=p9 (ti:=3) (ts:=9) Tryz.underlying232 Tryz.underlying201 ⟨rfl,rfl⟩ ⟨rfl,rfl⟩ ⟨rfl,rfl⟩ Tryz.underlying3 Tryz.underlying9 bm bm bm hd1;refine ⟨?_,fun j hj=>?_,fun j hj=>?_⟩
 ·unfold World.var? at hv1;rw [G1] at hv1;simp only [Option.bind_some] at hv1;rcases Jw 1 W.heap.size with h | h
  ·exact h
  ·simp [JF h] at hv1
 ·have:=World.var?_cell G1 hv1 j;rw [this];have e:=s1 j ak;have ea:FQ.toList=Bs.flatMap ze:=rfl;rw [← ea] at e
  simpa using e
 ·have:=World.var?_cell G0 hv0 j;rw [this];have e:=s0 j ak;have ea:GG.toList=Aq.map Cs:=rfl;rw [← ea] at e
  simpa using e
theorem Bw {W:World} {n1 n2 n4 n6:String} {d1 d2 d4 d5 d6:DataW Unit} {rest:List (String × DataW Unit)} (h:laidMet Tryz.prog ((n1,d1) :: (n2,d2) :: ("internal/strconv.uint64pow10",Lib.tabData .u64 Lib.pow10Tab) :: (n4,d4) :: ("strconv.ErrRange",d5) :: (n6,d6) :: ("tidemark/sql.signs",.agg (Aq.map CT)) :: ("tidemark/sql.infixes",.agg (Bs.map zz)) :: rest) W) (hsh:W.ShapedOpen Tryz.prog):GP W W.heap.size:=by
 have h9:9<W.heap.size:=by
  obtain ⟨ps,⟨g0,t0,cs0,f0,p0,q0,hg0,ht0,hv0,_⟩,_⟩:=h.tail.tail.tail.tail;have G0:Tryz.prog.globalNamed "strconv.ErrRange" = some 9:=by kernel_rfl
  unfold World.var? at hv0;rw [G0] at hv0;simp only [Option.bind_some] at hv0;rcases Jw 9 W.heap.size with h | h
  ·exact h
  ·simp [JF h] at hv0
 refine ⟨Eu h.tail.tail.tail.tail.tail.tail,?_,Tryz.repM.s1_3 W hsh,h9⟩;exact Lib.tabIs_of_head (g:=2) (t:=234) bm bm Tryz.underlying234 Tryz.underlying206 bm bm h.tail.tail
end Go.Proofs.YtoknmnngaackkaaGreatDoor
namespace Go.Proofs.YtoknmnngaackkaaGreatDoor
open Go.ChangeShapes Go.WideShapes Go.ChangeAt Go.RowKit Go.Joins
set_option maxRecDepth 100000
set_option maxHeartbeats 16000000
set_option maxRecDepth 100000
set_option maxHeartbeats 4000000
theorem Fu:Tryz.prog.cellsOf 3=1:=by kernel_rfl
theorem II:Tryz.prog.cellsOf 2=1:=by kernel_rfl
theorem Ip:Tryz.prog.cellsOf 4=1:=by kernel_rfl
theorem FB:Tryz.prog.cellsOf 9=1:=by kernel_rfl
theorem Il:Tryz.prog.cellsOf 53=3:=by kernel_rfl
theorem Iy:Tryz.prog.cellsOf 69=2:=by kernel_rfl
theorem Ea:Tryz.prog.cellsOf 55=7:=by kernel_rfl
theorem Is:Tryz.prog.cellsOf 75=8:=by kernel_rfl
theorem Iw:Tryz.prog.cellsOf 105=10:=by kernel_rfl
theorem IB:Tryz.prog.cellsOf 79=21:=by kernel_rfl
theorem Iq:Tryz.prog.cellsOf 50=4:=by kernel_rfl
theorem Iv:Tryz.prog.cellsOf 57=16:=by kernel_rfl
theorem Ht:Tryz.prog.cellsOf 45=1:=by kernel_rfl
theorem Ib:Tryz.prog.cellsOf 46=1:=by kernel_rfl
theorem Hu:Tryz.prog.cellsOf 47=1:=by kernel_rfl
theorem Ej:Tryz.prog.cellsOf 48=1:=by kernel_rfl
theorem Ik:Tryz.prog.cellsOf 70=1:=by kernel_rfl
theorem FF:Tryz.prog.cellsOf 51=1:=by kernel_rfl
theorem Hn:Tryz.prog.cellsOf 76=1:=by kernel_rfl
theorem Ha:Tryz.prog.cellsOf 77=1:=by kernel_rfl
instance:Inhabited SX:=⟨dM⟩
instance:Inhabited Src:=⟨⟨0,eB,eB,dM⟩⟩
instance:Inhabited dO:=⟨⟨false,false,[],[],false,false,dM,dM,[]⟩⟩
instance:Inhabited cM:=⟨⟨0,eB,[],iz,[],false,dM⟩⟩
section
variable {H:Type} {enc:TypeId × Value→H} {W:World} {hd:Bool}
def tL {α:Type} (enc:TypeId × Value→H) (W:World) (hd:Bool) (t:TypeId) (En:jP α) (size n:Nat):Prop :=
 ∀ m,m<n→∀ cs x,DataW.trod enc Tryz.prog W 0 (fun _=>true) hd m t cs=some x→∃ y:α,cs.length=size∧En (fun b=>b<W.heap.size) W y cs
theorem tL.mono {α:Type} {t:TypeId} {En:jP α} {size n k:Nat} (h:tL enc W hd t En size n) (hk:k≤n):tL enc W hd t En size k:=fun m hm=>h m ak
theorem gh {α:Type} [Inhabited α] {En:jP α} {ts t:TypeId} {size fuel:Nat} (hu:Tryz.prog.underlying ts=some (.slice t)) (hq:Tryz.prog.cellsOf t=size) (hp:0<size) (ih:tL enc W hd t En size fuel) {cs:List Value} {x:DataW H × List MemPlace} (h:DataW.trod enc Tryz.prog W 0 (fun _=>true) hd fuel ts cs=some x) :
  ∃ (a:Option Addr) (cap:Nat) (l:List α),cs = [.slice a l.length cap]∧bf En size (fun b=>b<W.heap.size) W a l:=by
 rcases DataW.trod_slice hu h with ⟨hcs,_⟩ | ⟨a,len,cap,elems,rest,n,hn,hcs,_,_,_,_,hlen,hel,_,_⟩
 ·exact ⟨none,0,[],hcs,.inl rfl⟩
 ·rw [hq] at hel;obtain ⟨f,hf⟩:=Go.Deep.choose_lt (α:=α × List Value) (n:=len) (p:=fun i (y:α × List Value)=>y.2.length=size∧(∀ j,j<size→W.cell? ((a.add (i*size)).add j)=y.2[j]?)∧En (fun b=>b<W.heap.size) W y.1 y.2) (fun i hi=>by
   have key:=hel i hi;rw [Je ak] at key;obtain ⟨cs',h1,h2⟩:=Option.bind_eq_some_iff.1 key;obtain ⟨_,hl6,hcell⟩:=World.cells?_some h1;obtain ⟨y,hy1,hy2⟩:=ih n ak _ _ h2;exact ⟨(y,cs'),hl6,hcell,hy2⟩)
  refine ⟨some a,cap,(List.range len).map fun i=>(f i).1,by simpa using hcs,?_⟩;by_cases h0:len=0
  ·subst h0; exact .inl rfl
  ·obtain ⟨b,off,spot⟩:=a;obtain ⟨g1,g2,_⟩:=hf 0 ak;have hc:=g2 0 hp;rw [Je ak] at hc;have hspot:spot=none:=by simpa [Addr.add] using World.cell?_spot hc
   subst hspot;have hlt:=World.block_lt_of_cell? W _ hc;rw [bG,bG] at hlt;refine .inr ⟨b,off,rfl,hlt,hlt,fun i hi=>?_⟩;have hi':i<len:=by simpa using hi
   obtain ⟨g1,g2,g3⟩:=hf i hi';refine ⟨(f i).2,g1,fun j u hu=>?_,by simpa using g3⟩;have hj:j<size:=by
    rcases Jw j (f i).2.length with h | h
    ·omega
    ·rw [Jy h] at hu; cases hu
   have:=g2 j hj;rw [bG,bG,hu] at this;exact this
theorem uj (n:Nat):tL enc W hd 53 jQ 3 n:=by
 intro m hm cs x h;obtain ⟨xs,k,hk,_,hl,hlen,hf⟩:=DataW.trod_struct Tryz.underlying53 h;rw [Il] at hl
 match xs,hlen with
 | [y0,y1,y2],_ =>
  have h0:=hf 0 _ rfl;have h1:=hf 1 _ rfl;have h2:=hf 2 _ rfl
  match cs,hl with
  | [c0,c1,c2],_ =>
   simp [Fu,II,FB] at h0 h1 h2;obtain ⟨u0,e0,_,_⟩:=DataW.trod_int Tryz.underlying3 h0;obtain ⟨u1,e1,_,_⟩:=DataW.trod_int Tryz.underlying2 h1;obtain ⟨u2,e2,_,_⟩:=DataW.trod_string Tryz.underlying9 h2;simp at e0 e1 e2;subst e0 e1 e2;exact ⟨(u0,u1,u2),rfl,rfl⟩
theorem zU (n:Nat):tL enc W hd 69 pO 2 n:=by
 intro m hm cs x h;obtain ⟨xs,k,hk,_,hl,hlen,hf⟩:=DataW.trod_struct Tryz.underlying69 h;rw [Iy] at hl
 match xs,hlen with
 | [y0,y1],_ =>
  have h0:=hf 0 _ rfl;have h1:=hf 1 _ rfl
  match cs,hl with
  | [c0,c1],_ =>
   simp [FB,Fu] at h0 h1;obtain ⟨u0,e0,_,_⟩:=DataW.trod_string Tryz.underlying9 h0;obtain ⟨u1,e1,_,_⟩:=DataW.trod_int Tryz.underlying3 h1;simp at e0 e1;subst e0 e1;exact ⟨(u0,u1),rfl,rfl⟩
theorem Ac (n:Nat):tL enc W hd 3 lD 1 n:=by
 intro m hm cs x h;obtain ⟨u,e,_,_⟩:=DataW.trod_int Tryz.underlying3 h;exact ⟨u,by rw [e]; rfl,e⟩
theorem zW (n:Nat):tL enc W hd 70 (iB jQ 3) 1 n:=by
 intro m hm cs x h;obtain ⟨a,c,l,e,L⟩:=gh Tryz.underlying70 Il (by decide) (uj m) h;exact ⟨l,by rw [e]; rfl,a,c,e,L⟩
theorem CJ (n:Nat) (ih:tL enc W hd 55 fu 7 n):tL enc W hd 55 fu 7 (n+1):=by
 intro m hm cs x h;obtain ⟨xs,k,hk,_,hl,hlen,hf⟩:=DataW.trod_struct Tryz.underlying55 h;rw [Ea] at hl
 match xs,hlen with
 | [y0,y1,y2,y3,y4],_ =>
  have h0:=hf 0 _ rfl;have h1:=hf 1 _ rfl;have h2:=hf 2 _ rfl;have h3:=hf 3 _ rfl;have h4:=hf 4 _ rfl
  match cs,hl with
  | [c0,c1,c2,c3,c4,c5,c6],_ =>
   simp [Fu,Il,FB,Ej] at h0 h1 h2 h3 h4;obtain ⟨u0,e0,_,_⟩:=DataW.trod_int Tryz.underlying3 h0;obtain ⟨v,_,e1⟩:=uj (k+1) k ak _ _ h1;obtain ⟨u2,e2,_,_⟩:=DataW.trod_string Tryz.underlying9 h2;obtain ⟨u3,e3,_,_⟩:=DataW.trod_string Tryz.underlying9 h3;obtain ⟨a4,k4,l4,e4,L4⟩:=gh Tryz.underlying48 Ea (by decide) (ih.mono ak) h4;unfold jQ at e1;simp at e0 e1 e2 e3 e4;obtain ⟨r1,r2,r3⟩:=e1;subst e0 r1 r2 r3 e2 e3 e4;exact ⟨.mk u0 v u2 u3 l4,rfl,a4,k4,rfl,L4.Da⟩
theorem jl:∀ n,tL enc W hd 55 fu 7 n
 | 0=>fun m hm=>absurd hm ak
 | n+1=>CJ n (jl n)
theorem zR (n:Nat):tL enc W hd 75 kl 8 n:=by
 intro m hm cs x h;obtain ⟨xs,k,hk,_,hl,hlen,hf⟩:=DataW.trod_struct Tryz.underlying75 h;rw [Is] at hl
 match xs,hlen with
 | [y0,y1],_ =>
  have h0:=hf 0 _ rfl;have h1:=hf 1 _ rfl
  match cs,hl with
  | [c0,c1,c2,c3,c4,c5,c6,c7],_ =>
   simp [Ea,FB] at h0 h1;obtain ⟨u0,_,a0,k0,e0,L0⟩:=jl (k+1) k ak _ _ h0;obtain ⟨u1,e1,_,_⟩:=DataW.trod_string Tryz.underlying9 h1;simp [mf] at e0 e1;obtain ⟨r1,r2,r3,r4,r5,r6,r7⟩:=e0;subst r1 r2 r3 r4 r5 r6 r7 e1;exact ⟨(u0,u1),rfl,a0,k0,rfl,L0⟩
theorem Bo (n:Nat):tL enc W hd 105 gj 10 n:=by
 intro m hm cs x h;obtain ⟨xs,k,hk,_,hl,hlen,hf⟩:=DataW.trod_struct Tryz.underlying105 h;rw [Iw] at hl
 match xs,hlen with
 | [y0,y1,y2,y3],_ =>
  have h0:=hf 0 _ rfl;have h1:=hf 1 _ rfl;have h2:=hf 2 _ rfl;have h3:=hf 3 _ rfl
  match cs,hl with
  | [c0,c1,c2,c3,c4,c5,c6,c7,c8,c9],_ =>
   simp [Fu,FB,Ea] at h0 h1 h2 h3;obtain ⟨u0,e0,_,_⟩:=DataW.trod_int Tryz.underlying3 h0;obtain ⟨u1,e1,_,_⟩:=DataW.trod_string Tryz.underlying9 h1;obtain ⟨u2,e2,_,_⟩:=DataW.trod_string Tryz.underlying9 h2;obtain ⟨u3,_,a3,k3,e3,L3⟩:=jl (k+1) k ak _ _ h3;simp [mf] at e0 e1 e2 e3;obtain ⟨r1,r2,r3,r4,r5,r6,r7⟩:=e3;subst r1 r2 r3 r4 r5 r6 r7 e0 e1 e2;exact ⟨⟨u0,u1,u2,u3⟩,rfl,a3,k3,rfl,L3⟩
theorem Am (n:Nat):tL enc W hd 79 eS 21 n:=by
 intro m hm cs x h;obtain ⟨xs,k,hk,_,hl,hlen,hf⟩:=DataW.trod_struct Tryz.underlying79 h;rw [IB] at hl
 match xs,hlen with
 | [y0,y1,y2,y3,y4,y5,y6,y7,y8],_ =>
  have h0:=hf 0 _ rfl;have h1:=hf 1 _ rfl;have h2:=hf 2 _ rfl;have h3:=hf 3 _ rfl;have h4:=hf 4 _ rfl;have h5:=hf 5 _ rfl;have h6:=hf 6 _ rfl;have h7:=hf 7 _ rfl;have h8:=hf 8 _ rfl
  match cs,hl with
  | [c0,c1,c2,c3,c4,c5,c6,c7,c8,c9,c10,c11,c12,c13,c14,c15,c16,c17,c18,c19,c20],_ =>
   simp [Ip,Hn,Ha,Ea,Ej] at h0 h1 h2 h3 h4 h5 h6 h7 h8;obtain ⟨u0,e0,_⟩:=DataW.trod_bool Tryz.underlying4 h0;obtain ⟨u1,e1,_⟩:=DataW.trod_bool Tryz.underlying4 h1;obtain ⟨a2,k2,u2,e2,L2⟩:=gh Tryz.underlying76 Is (by decide) (zR k) h2;obtain ⟨a3,k3,u3,e3,L3⟩:=gh Tryz.underlying77 Iw (by decide) (Bo k) h3;obtain ⟨u4,e4,_⟩:=DataW.trod_bool Tryz.underlying4 h4;obtain ⟨u5,e5,_⟩:=DataW.trod_bool Tryz.underlying4 h5;obtain ⟨u6,_,a6,k6,e6,L6⟩:=jl (k+1) k ak _ _ h6;obtain ⟨u7,_,a7,k7,e7,L7⟩:=jl (k+1) k ak _ _ h7
   obtain ⟨a8,k8,u8,e8,L8⟩:=gh Tryz.underlying48 Ea (by decide) (jl k) h8;simp [mf] at e0 e1 e2 e3 e4 e5 e6 e7 e8;obtain ⟨r1,r2,r3,r4,r5,r6,r7⟩:=e6;obtain ⟨s1,s2,s3,s4,s5,s6,s7⟩:=e7;subst e0 e1 e2 e3 e4 e5 r1 r2 r3 r4 r5 r6 r7 s1 s2 s3 s4 s5 s6 s7 e8;exact ⟨⟨u0,u1,u2,u3,u4,u5,u6,u7,u8⟩,rfl,a2,k2,a3,k3,a6,k6,a7,k7,a8,k8,rfl,L2,L3,L6,L7,L8⟩
def IV:jP kf:=fun S W x cs=>∃ p1 d1 p2 d2 p3 d3,cs = [.slice p1 x.parts.length d1,.slice p2 x.ops.length d2,.slice p3 x.order.length d3,.int .i64 x.aH]∧bf eS 21 S W p1 x.parts∧bf lD 1 S W p2 x.ops∧bf fu 7 S W p3 x.order
theorem As (n:Nat):tL enc W hd 50 IV 4 n:=by
 intro m hm cs x h;obtain ⟨xs,k,hk,_,hl,hlen,hf⟩:=DataW.trod_struct Tryz.underlying50 h;rw [Iq] at hl
 match xs,hlen with
 | [y0,y1,y2,y3],_ =>
  have h0:=hf 0 _ rfl;have h1:=hf 1 _ rfl;have h2:=hf 2 _ rfl;have h3:=hf 3 _ rfl
  match cs,hl with
  | [c0,c1,c2,c3],_ =>
   simp [Ib,Hu,Ej,Fu] at h0 h1 h2 h3;obtain ⟨a0,k0,u0,e0,L0⟩:=gh Tryz.underlying46 IB (by decide) (Am k) h0;obtain ⟨a1,k1,u1,e1,L1⟩:=gh Tryz.underlying47 Fu (by decide) (Ac k) h1;obtain ⟨a2,k2,u2,e2,L2⟩:=gh Tryz.underlying48 Ea (by decide) (jl k) h2;obtain ⟨u3,e3,_,_⟩:=DataW.trod_int Tryz.underlying3 h3;simp at e0 e1 e2 e3;subst e0 e1 e2 e3;exact ⟨⟨u0,u1,u2,u3⟩,rfl,a0,k0,a1,k1,a2,k2,rfl,L0,L1,L2⟩
theorem Br (n:Nat):tL enc W hd 57 cy 16 n:=by
 intro m hm cs x h;obtain ⟨xs,k,hk,_,hl,hlen,hf⟩:=DataW.trod_struct Tryz.underlying57 h;rw [Iv] at hl
 match xs,hlen with
 | [y0,y1,y2,y3,y4,y5,y6],_ =>
  have h0:=hf 0 _ rfl;have h1:=hf 1 _ rfl;have h2:=hf 2 _ rfl;have h3:=hf 3 _ rfl;have h4:=hf 4 _ rfl;have h5:=hf 5 _ rfl;have h6:=hf 6 _ rfl
  match cs,hl with
  | [c0,c1,c2,c3,c4,c5,c6,c7,c8,c9,c10,c11,c12,c13,c14,c15],_ =>
   simp [Fu,FB,Ht,Iq,FF,Ip,Ea] at h0 h1 h2 h3 h4 h5 h6;obtain ⟨u0,e0,_,_⟩:=DataW.trod_int Tryz.underlying3 h0;obtain ⟨u1,e1,_,_⟩:=DataW.trod_string Tryz.underlying9 h1;obtain ⟨a2,k2,u2,e2,L2⟩:=gh Tryz.underlying45 Iy (by decide) (zU k) h2;obtain ⟨u3,_,p1,d1,p2,d2,p3,d3,e3,M1,M2,M3⟩:=As (k+1) k ak _ _ h3;obtain ⟨a4,k4,u4,e4,L4⟩:=gh Tryz.underlying51 Ik (by decide) (zW k) h4;obtain ⟨u5,e5,_⟩:=DataW.trod_bool Tryz.underlying4 h5;obtain ⟨u6,_,a6,k6,e6,L6⟩:=jl (k+1) k ak _ _ h6;simp [mf] at e0 e1 e2 e3 e4 e5 e6
   obtain ⟨q1,q2,q3,q4⟩:=e3;obtain ⟨r1,r2,r3,r4,r5,r6,r7⟩:=e6;subst e0 e1 e2 q1 q2 q3 q4 e4 e5 r1 r2 r3 r4 r5 r6 r7;exact ⟨⟨u0,u1,u2,u3,u4,u5,u6⟩,rfl,a2,k2,p1,d1,p2,d2,p3,d3,a4,k4,a6,k6,rfl,L2,M1,M2,M3,L4,L6⟩
theorem lr {r:Reach} {b0:Nat} {v:Value} {d:DataW H} {p:List MemPlace} (hv:Value.okWide Tryz.prog W r b0 22 v) (h:DataW.Trod enc Tryz.prog W 0 (fun _=>true) true 22 v d p):∃ (a:Option Addr) (cap:Nat) (l:List cM),v = .slice a l.length cap∧bf cy 16 (fun b=>b<W.heap.size) W a l:=by
 obtain ⟨a0,yS,cap0,rfl⟩:=okWide_slice Tryz.underlying22 hv;obtain ⟨fuel,hf0⟩:=h;obtain ⟨a,cap,l,e,L⟩:=gh Tryz.underlying22 Iv (by decide) (Br fuel) hf0;simp [Value.cells] at e;obtain ⟨rfl,rfl,rfl⟩:=e;exact ⟨_,_,l,rfl,L⟩
theorem ye:8≤Tryz.prog.bytesOf 57:=by decide +kernel
theorem nk {a:Option Addr} {n cap:Nat} {d:DataW H} {p:List MemPlace} (h:DataW.Trod enc Tryz.prog W 0 (fun _=>true) true 22 (.slice a n cap) d p)
  {ts:List TypeId} {ds:List (DataW H)} (hs:(DataW.weightsEach Tryz.prog ts ds).all (· ≤ reachBytes)=true) {j:Nat} (ht:ts[j]? = some 22) (hd:ds[j]? = some d):n≤100000000000000:=by
 obtain ⟨fuel,hf⟩:=h
 rcases DataW.trod_slice Tryz.underlying22 hf with ⟨hcs,_⟩ | ⟨a',len,cap',elems,rest,m,hm,hcs,hx,_,_,_,hlen,_⟩
 ·simp [Value.cells] at hcs
  omega
 ·simp [Value.cells] at hcs
  obtain ⟨rfl,rfl,rfl⟩:=hcs
  simp only [Prod.mk.injEq] at hx
  have e:=hx.1
  subst e
  have h1:=sized_slice hs ht hd Tryz.underlying22
  simp only [JB] at h1
  have h2:=reachBytes_lt
  have h3:=ye
  have h4:n*8≤(elems.length+rest.length)*Tryz.prog.bytesOf 57:=Nat.mul_le_mul ak h3
  omega
end
end Go.Proofs.YtoknmnngaackkaaGreatDoor
