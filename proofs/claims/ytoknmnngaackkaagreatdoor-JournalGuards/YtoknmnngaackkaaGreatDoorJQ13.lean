/- Together: JO7, JO8, JO9, CI, JOA, JOB, JG2, JG3, JOp. -/
import Derived.Deep.AppendSrc
import Derived.Deep.Slices
import Derived.Deep.Strs
import Derived.ProofKit
import Derived.OpenShut
import Derived.ChangeOld
import Derived.Lib.SmallJoins
import Derived.SizedLaws
import Derived.Test.YtoknmnngaackkaaGreatDoorJQ12
import Derived.Test.YtoknmnngaackkaaGreatDoorJQ8
import Derived.Test.YtoknmnngaackkaaGreatDoorJQ7
import Derived.Test.YtoknmnngaackkaaGreatDoorJQ4
namespace Go.Proofs.YtoknmnngaackkaaGreatDoor
open Go.RowKit Go.Lib Go.Shelf
set_option maxRecDepth 100000
set_option maxHeartbeats 16000000
set_option maxRecDepth 100000
set_option maxHeartbeats 8000000
def eZ:Nat→List UInt8→List cW→Except Er (List UInt8)
 | _,bs,[]=>.ok bs
 | i,bs,x :: r=>if (cb [x]).2.1≠0 then .error ((cb [x]).2.1,i) else if 100000<(bs ++ df (cb [x]).1).length then .error (4,i) else eZ (i+1) (bs ++ df (cb [x]).1) r
def oN (w:World) (r:Except Er (List UInt8)) (e:Ending) (w':World):Prop :=
 Below w.heap.size w w'∧match r with
  | .error c=>e = .returned (.tuple #[.slice none 0 0,.agg #[.int .i64 c.1,.int .i64 c.2]])
  | .ok bs=>∃ a cap,e = .returned (.tuple #[.slice a bs.length cap,.agg #[.int .i64 0,.int .i64 0]])∧aI jQ 1 (fun b=>w.heap.size≤b) w' a bs∧bs.length≤cap
theorem mG {l:List cW} (h:(cb l).2.1=0):(cb l).1.size≤4000:=by
 unfold cb at h ⊢;by_cases hw:(cC l).1≠0
 ·rw [if_pos hw] at h; exact absurd h hw
 ·rw [if_neg hw] at h ⊢;have:∀ (l:List cW) (bs bs':List UInt8),bs.length≤4000→gJ bs l=some bs'→bs'.length≤4000:=by
   intro l
   induction l with
   | nil=>intro bs bs' hb e; rw [gJ] at e; cases e; exact hb
   | cons x r ih =>
    intro bs bs' hb e;rw [gJ] at e;by_cases hc:4000<(an bs (ct x)).length
    ·rw [if_pos hc] at e; cases e
    ·rw [if_neg hc] at e; exact ih _ _ (by omega) e
  cases e:gJ [] l with
  | none=>rw [e] at h; exact absurd h (by decide)
  | some bs =>
   have:=this l [] bs (by decide) e;show bs.toArray.size≤4000
   simpa using this
theorem aI.AZ {S:Nat→Prop} {W:World} {a:Option Addr} {l:List cW} (h:aI bG 16 S W a l) {j:Nat} (hj:j<l.length):∃ b off,a=some ⟨b,off,none⟩∧∃ V:Array Value,V.size=16∧W.rangeAt b (off+j*16) V.toList∧bG S W l[j] V.toList:=by
 rcases h with rfl | ⟨b,off,e,_,_,h3⟩
 ·simp at hj
 ·obtain ⟨cs,c1,c2,c3⟩:=h3 j hj;exact ⟨b,off,e,cs.toArray,by simpa using c1,fun i u hu=>c2 i u hu,c3⟩
theorem yD {W:World} {base:Nat} {v:Value} {bs:List UInt8} (h:W.ownsRow base 5 1 v bs.length (gW bs)):∃ a cap,v = .slice a bs.length cap∧bs.length≤cap∧aI jQ 1 (fun b=>base≤b) W a bs:=by
 obtain ⟨a,cap,e,hl⟩:=sY h;refine ⟨a,cap,e,?_,hl⟩;obtain ⟨_,⟨e1,e2⟩ | ⟨k,cap',cur,e1,_,_,hc,_⟩⟩:=h
 ·omega
 ·rw [e] at e1;injection e1 with _ _ e3
  omega
theorem j9 (l:List cW) (a:Option Addr) (c:Nat) {w:World} (hG:GP w w.heap.size) (hn:l.length≤1000000000000000) (hks:aI bG 16 (fun b=>b<w.heap.size) w a l):Calls Tryz.prog 10 #[.slice a l.length c] w (oN w (eZ 0 [] l)):=by
 obtain ⟨i0,hi0,hj0,hj1,hj2⟩:=info_parts nY;generalize hM:eZ 0 [] l=M;have HM:Hid (eZ 0 [] (l.drop 0)=M):=hM;have hal1:=ab w (.cells #[.int .i64 0,.int .i64 0] 27);have QF:=ar w #[.int .i64 0,.int .i64 0] 27;have HK:Hid (aI bG 16 (fun b=>b<w.heap.size) (w.alloc (.cells #[.int .i64 0,.int .i64 0] 27)) a l):=hks.nx bZ hal1;have HG:Hid (GP (w.alloc (.cells #[.int .i64 0,.int .i64 0] 27)) w.heap.size):=hG.up hal1 (CX _) (CX _);have hl1:=lt_of_heap QF;clear hM hks hG
 go_enter Tryz.func10,Tryz.ntmps10;go_upto_region 1 with fail
 generalize (w.alloc (.cells #[.int .i64 0,.int .i64 0] 27))=w1 at *;go_wp2_with fail
 go_loopw [4,11] (fun ov iv wr=>∃ (j:Nat) (v:Value) (bs:List UInt8),v=ov∧j≤l.length∧iv = .int .i64 j∧bs.length≤100000∧Hid (wr.ownsRow w1.heap.size 5 1 v bs.length (gW bs))∧Hid (Below w1.heap.size w1 wr)∧Hid (eZ j bs (l.drop j)=M)) (fun _ iv _=>l.length - (RowKit.intOf iv).toNat)
 case atStart=>exact ⟨0,.slice none 0 0,[],rfl,Dm _,rfl,by decide,by show World.ownsRow _ _ _ _ _ _ _; simpa [gW] using World.ownsRow_nil _ _ _ _,CY _ _,HM⟩
 case round =>
  obtain ⟨j,v,bs,rfl,hj,rfl,hbs,HO,HB,HK1⟩:=hrel;by_cases hlt:j<l.length
  ·have hjz:(j:Int)<(l.length:Int):=by omega
   have hL:=HK1.out;rw [Da hlt,eZ] at hL;have HKr:aI bG 16 (fun b=>b<w.heap.size) wr a l:=HK.out.bz bZ ⟨HB.out.size,fun b hb hl=>HB.out.block b (by omega)⟩;obtain ⟨b,off,rfl,V,hV,hR,hE⟩:=HKr.AZ hlt;generalize l[j]=x at *;obtain ⟨P,hP⟩:∃ P,cb [x]=P:=⟨_,rfl⟩
   have hsz:=mG (l:=[x]);rw [hP] at hL hsz;have HL:Hid _:=hL;obtain ⟨v0,v1,v2,v3,v4,v5,v6,v7,v8,v9,v10,v11,v12,v13,v14,v15,rfl⟩:=pW hV;obtain ⟨_,h16⟩:=bG.size (V:=#[v0,v1,v2,v3,v4,v5,v6,v7,v8,v9,v10,v11,v12,v13,v14,v15]) hE;have hs1:=HB.out.size;have halV:=ab wr (.cells #[v0,v1,v2,v3,v4,v5,v6,v7,v8,v9,v10,v11,v12,v13,v14,v15] 57);have QV:=ar wr #[v0,v1,v2,v3,v4,v5,v6,v7,v8,v9,v10,v11,v12,v13,v14,v15] 57;have hsz2:=halV.size
   have con1:=mg x #[v0,v1,v2,v3,v4,v5,v6,v7,v8,v9,v10,v11,v12,v13,v14,v15] (w:=wr.alloc (.cells #[v0,v1,v2,v3,v4,v5,v6,v7,v8,v9,v10,v11,v12,v13,v14,v15] 57)) (bZ.mono (fun b hb _=>by have:b<w.heap.size:=hb; show b<_; omega) (bZ.next (ay.of halV) hE)) (HG.out.up (HB.out.trans (halV.mono hs1)) (by omega) (by omega));rw [hP] at con1;have HO1:Hid ((wr.alloc (.cells #[v0,v1,v2,v3,v4,v5,v6,v7,v8,v9,v10,v11,v12,v13,v14,v15] 57)).ownsRow w1.heap.size 5 1 v bs.length (gW bs)):=iH HO.out halV
   have HB1:Hid (Below w1.heap.size w1 (wr.alloc (.cells #[v0,v1,v2,v3,v4,v5,v6,v7,v8,v9,v10,v11,v12,v13,v14,v15] 57))):=HB.out.trans (halV.mono hs1);clear hL HK1 HKr hE hP halV HO HB;obtain ⟨va,vc,hv⟩:=kM HO1.out;subst hv;go_upto_region 5 with (first | (refine wpList_load_mid rfl 57 _ rfl b (off+j*16) rfl [v0,v1,v2,v3,v4,v5,v6,v7,v8,v9,v10,v11,v12,v13,v14,v15] _ hR Tryz.underlying57 rfl dh ?_) | (refine bB rfl 57 _ _ rfl bL #[v0,v1,v2,v3,v4,v5,v6,v7,v8,v9,v10,v11,v12,v13,v14,v15] rfl rfl dh rfl h16 ?_))
   generalize (wr.alloc (.cells #[v0,v1,v2,v3,v4,v5,v6,v7,v8,v9,v10,v11,v12,v13,v14,v15] 57))=w2 at *;go_wp2_with (first | (refine wpList_load_row rfl 57 _ rfl wr.heap.size rfl 57 #[v0,v1,v2,v3,v4,v5,v6,v7,v8,v9,v10,v11,v12,v13,v14,v15] (0,0) _ QV Tryz.underlying57 rfl dh ?_))
   refine con1.mono ?_;rintro e w3 ⟨hb3,rfl⟩;have HO3:Hid (w3.ownsRow w1.heap.size 5 1 (.slice va bs.length vc) bs.length (gW bs)):=iH HO1.out hb3;have hB3:=HB1.out.trans (hb3.mono (by omega));have HB3:Hid (Below w1.heap.size w1 w3):=hB3;have hs3:=hB3.size;have QF3:=(hB3.block _ hl1).trans QF;clear con1 hR QV HO1 HB1 hb3;by_cases he:P.2.1=0
   case neg =>
    have e:M = .error (P.2.1,(j:Int)):=by rw [← HL.out,if_pos he]
    subst e;have hez:(P.2.1 != 0)=true:=by rw [bne_iff_ne]; exact he
    obtain ⟨f0,f1⟩:=cX QF3;obtain ⟨g0,g1⟩:=jO QF3;clear he HL hsz;go_wp2_with fail
    have QE:=dH QF3 (.int .i64 P.2.1) (.int .i64 j);have hbE:=iI (g:=w.heap.size) (hal1.trans (hB3.mono (by omega))) (CX _) (.int .i64 P.2.1) (.int .i64 j);generalize ((w3.setCell ⟨w.heap.size,0,none⟩ (.int .i64 P.2.1)).setCell ⟨w.heap.size,1,none⟩ (.int .i64 j))=wE at *;obtain ⟨x0,x1⟩:=cX QE;exact C0 (v:=.tuple #[.slice none 0 0,.agg #[.int .i64 P.2.1,.int .i64 j]]) (by simp [results,Tryz.results10,go_sem,x0,x1]) rfl ⟨hbE,rfl⟩
   case pos =>
    have hL:=HL.out;rw [if_neg (by simpa using he)] at hL;have hz4:=hsz he;have hez:(P.2.1 != 0)=false:=by rw [bne_eq_false_iff_eq]; exact he
    have con2:=uN P.1 hz4 (w:=w3) (by omega);have hrl:=iG P.1;generalize df P.1=rb at *;have HRL:Hid (rb.length≤4004∧1≤rb.length):=by show _∧_; omega
    have HL2:Hid ((if 100000<(bs ++ rb).length then .error (4,(j:Int)) else eZ (j+1) (bs ++ rb) (l.drop (j+1)))=M):=hL;clear hL HL he hsz hz4 hrl;go_wp2_with fail
    refine con2.mono ?_;rintro e w4 ⟨hb4,u,rfl,o4⟩;have hO4:w4.ownsRow w1.heap.size 5 1 (.slice va bs.length vc) bs.length (gW bs):=iH HO3.out hb4;have HB4:Hid (Below w1.heap.size w1 w4):=HB3.out.trans (hb4.mono hs3);have hs4:=hb4.size;obtain ⟨ua,uc,eu⟩:=kM o4;have hcells:=fun g hg i x hu=>World.ownsRow.cells o4 (g:=g) hg i x hu
    have hown:=o4;subst eu;clear con2 HB3 HO3 hb4;by_cases hr0:rb = []
    ·exact absurd HRL.out.2 (by rw [hr0]; decide)
    obtain ⟨g,hg⟩:∃ g,ua=some ⟨g,0,none⟩:=by
     obtain ⟨_,⟨h1,h2⟩ | ⟨k,cap,cur,h1,_⟩⟩:=o4
     ·exact absurd (List.length_eq_zero_iff.1 h2) hr0
     ·injection h1 with h1 _ _; exact ⟨k,h1⟩
    subst hg;have hnews:∀ i u,(gW rb)[i]? = some u→w4.cell? ((⟨g,0,none⟩:Addr).add i)=some u:=fun i u hu=>hcells g rfl i u hu
    clear hcells hown o4 hr0;go_wp2_with (first | (at_builtin; refine aX rfl _ _ 24 rfl w1.heap.size 5 i0 _ 1 1 Tryz.underlying24 hi0 hj0 hj1 hj2 rfl (by decide) _ _ _ rfl hO4 ⟨g,0,none⟩ rb.length uc (gW rb) rfl ?Ac0 hnews ?Ac2 ?Ac3 ?Ac4 ?Ac5 ?_))
    case Ac0=>simp [gW]
    case Ac2=>intro u hu; simp only [gW,List.mem_map] at hu; obtain ⟨b,_,rfl⟩:=hu; rfl
    case Ac3=>unfold maxLen; have:=HRL.out.1; omega
    case Ac4=>have:=HRL.out.1; omega
    case Ac5=>omega
    intro v5 w5 o5 g5 d5;have e5:gW bs ++ gW rb=gW (bs ++ rb):=by simp [gW]
    rw [e5,← Dk] at o5;have HO5:Hid (w5.ownsRow w1.heap.size 5 1 v5 (bs ++ rb).length (gW (bs ++ rb))):=o5;have hB5:Below w1.heap.size w1 w5:=HB4.out.grown g5 (by omega) (fun k e=>(hO4.lt k e).1);have HB5:Hid (Below w1.heap.size w1 w5):=hB5;have QF5:=(hB5.block _ hl1).trans QF;have hll:(bs ++ rb).length=bs.length+rb.length:=Dk;have hRl:=HRL.out.1;have HLL:Hid ((bs ++ rb).length≤104004):=by show _≤_; omega
    generalize bs ++ rb=bs2 at *;obtain ⟨va5,vc5,ev5⟩:=kM o5;subst ev5;clear o5 g5 d5 e5 hO4 hnews HB4 hll hRl;by_cases hbig:100000<bs2.length
    ·have e:M = .error (4,(j:Int)):=by rw [← HL2.out,if_pos hbig]
     subst e;have hbz:(100000:Int)<(bs2.length:Int):=by omega
     obtain ⟨f0,f1⟩:=cX QF5;obtain ⟨q0,q1⟩:=jO QF5;clear hbig HL2;go_wp2_with fail
     have QE:=dH QF5 (.int .i64 4) (.int .i64 j);have hbE:=iI (g:=w.heap.size) (hal1.trans (hB5.mono (by omega))) (CX _) (.int .i64 4) (.int .i64 j);generalize ((w5.setCell ⟨w.heap.size,0,none⟩ (.int .i64 4)).setCell ⟨w.heap.size,1,none⟩ (.int .i64 j))=wE at *;obtain ⟨x0,x1⟩:=cX QE;exact C0 (v:=.tuple #[.slice none 0 0,.agg #[.int .i64 4,.int .i64 j]]) (by simp [results,Tryz.results10,go_sem,x0,x1]) rfl ⟨hbE,rfl⟩
    ·have hbz:¬ (100000:Int)<(bs2.length:Int):=by omega
     have HL3:Hid (eZ (j+1) bs2 (l.drop (j+1))=M):=by show _=_; rw [← HL2.out,if_neg hbig]
     clear HL2 QF5 hB5;go_wp2_with fail
     go_roundw
     case rel=>exact ⟨j+1,_,bs2,rfl,by omega,by go_num,by omega,HO5,HB5,HL3⟩
     case measure=>simp [RowKit.intOf]; omega
  ·have hjz:¬ (j:Int)<(l.length:Int):=by omega
   have e:M = .ok bs:=by rw [← HK1.out,List.drop_of_length_le (by omega),eZ]
   subst e;have hB:=HB.out;have QFb:=(hB.block _ hl1).trans QF;obtain ⟨f0,f1⟩:=cX QFb;obtain ⟨q0,q1⟩:=jO QFb;obtain ⟨va,vc,hv,hle,LL⟩:=yD HO.out;subst hv;have HLL:Hid (aI jQ 1 (fun b=>w1.heap.size≤b) wr va bs):=LL;clear HK1 HO LL HK HG;go_wp2_with fail
   have QE:=dH QFb (.int .i64 0) (.int .i64 0);have hbE:=iI (g:=w.heap.size) (hal1.trans (hB.mono (by omega))) (CX _) (.int .i64 0) (.int .i64 0)
   have LE:aI jQ 1 (fun b=>w.heap.size≤b) ((wr.setCell ⟨w.heap.size,0,none⟩ (.int .i64 0)).setCell ⟨w.heap.size,1,none⟩ (.int .i64 0)) va bs:=(HLL.out.bz pq ⟨by simp,fun b hb _=>by have hb:w1.heap.size≤b:=hb; rw [DN _ ⟨w.heap.size,1,none⟩ _ b (by show b≠w.heap.size; omega),DN _ ⟨w.heap.size,0,none⟩ _ b (by show b≠w.heap.size; omega)]⟩).mono pq (fun b hb _=>by have:w1.heap.size≤b:=hb; show _≤b; omega);generalize ((wr.setCell ⟨w.heap.size,0,none⟩ (.int .i64 0)).setCell ⟨w.heap.size,1,none⟩ (.int .i64 0))=wE at *;obtain ⟨x0,x1⟩:=cX QE
   exact C0 (v:=.tuple #[.slice va bs.length vc,.agg #[.int .i64 0,.int .i64 0]]) (by simp [results,Tryz.results10,go_sem,x0,x1]) rfl ⟨hbE,va,vc,rfl,LE,hle⟩
def lj:Nat→List UInt8→Nat→List cW→List cW × Nat
 | 0,_,p,acc=>(acc,p)
 | n+1,bs,p,acc=>match fS (dr (bs.drop p)).1 with
  | none=>(acc,p)
  | some x=>lj n bs (p+(dr (bs.drop p)).2) (acc ++ [x])
def gT (bs:List UInt8):List cW × Nat:=lj (bs.length+1) bs 0 []
theorem mU:fS eB=none:=by
 unfold fS;have:eY eB = .ok []:=rfl;rw [this];rfl
theorem ry {bs:List UInt8} (h:(dr bs).1≠eB):4≤(dr bs).2∧(dr bs).2≤bs.length:=by
 unfold dr at h ⊢;by_cases h1:bs.length<2
 ·rw [if_pos h1] at h; exact absurd rfl h
 ·rw [if_neg h1] at h ⊢;by_cases h2:bs.length<2+fY bs+2
  ·rw [if_pos h2] at h; exact absurd rfl h
  ·rw [if_neg h2] at h ⊢;by_cases h3:fY (bs.drop (2+fY bs))=dL 7439 (bs.take (2+fY bs))
   ·rw [if_pos h3] at h ⊢;exact ⟨by show 4≤2+fY bs+2; omega,by show 2+fY bs+2≤_; omega⟩
   ·rw [if_neg h3] at h; exact absurd rfl h
theorem me (bs:List UInt8) (b off cap:Nat) {w:World} (hG:GP w w.heap.size) (hl:aI jQ 1 (fun b=>b<w.heap.size) w (some ⟨b,off,none⟩) bs) (hc:bs.length≤cap) (hn:bs.length≤100000):Calls Tryz.prog 12 #[.slice (some ⟨b,off,none⟩) bs.length cap] w fun e w'=>Below w.heap.size w w'∧∃ a c,e = .returned (.tuple #[.slice a (gT bs).1.length c,.int .i64 ((gT bs).2:Nat),.int .i64 0])∧aI bG 16 (fun b=>w.heap.size≤b) w' a (gT bs).1:=by
 obtain ⟨i0,hi,hj0,hj1,hj2⟩:=info_parts zl;generalize hM:gT bs=M;have HM:Hid (lj (bs.length+1) bs 0 []=M):=hM;have HG:Hid (GP w w.heap.size):=hG;have HL:Hid (aI jQ 1 (fun b=>b<w.heap.size) w (some ⟨b,off,none⟩) bs):=hl;have hz:¬ (100000:Int)<(bs.length:Int):=by omega
 clear hM hG hl;go_enter Tryz.func12,Tryz.ntmps12;go_wp2_with fail
 go_loopw [5,6] (fun ov pv wr=>∃ (n p:Nat) (v:Value) (acc:List cW),v=ov∧pv = .int .i64 p∧p≤bs.length∧acc.length≤p∧Hid (aQ bG 57 16 w.heap.size (fun b=>w.heap.size≤b) wr v acc)∧Hid (Below w.heap.size w wr)∧Hid (lj n bs p acc=M∧bs.length<p+n)) (fun _ pv _=>bs.length - (RowKit.intOf pv).toNat)
 case atStart=>exact ⟨bs.length+1,0,.slice none 0 0,[],rfl,rfl,Dm _,CX _,aQ.nil _ _ _ _ _ _,CY _ _,HM,by omega⟩
 case round =>
  obtain ⟨n,p,v,acc,rfl,rfl,hp,hacc,HO,HB,HK⟩:=hrel;have hpz:(p:Int)≤(bs.length:Int):=by omega
  have hpz2:(0:Int)≤(p:Int):=by omega
  obtain ⟨va,vc,hv⟩:=HO.out.len;subst hv;have hsd:∀ k,Hid (lj n bs p acc=M∧bs.length<p+n)→fS (dr (bs.drop p)).1=k→(k=none→M=(acc,p))∧(∀ x,k=some x→∃ m,n=m+1∧lj m bs (p+(dr (bs.drop p)).2) (acc ++ [x])=M∧4≤(dr (bs.drop p)).2∧p+(dr (bs.drop p)).2≤bs.length∧bs.length<p+n):=by
   intro k hk e;obtain ⟨h1,h2⟩:=hk.out;obtain ⟨m,rfl⟩:∃ m,n=m+1:=⟨n - 1,by omega⟩
   rw [lj,e] at h1;refine ⟨fun q=>?_,fun x q=>?_⟩
   ·subst q; exact h1.symm
   ·subst q;have hne:(dr (bs.drop p)).1≠eB:=fun c=>by rw [c,mU] at e; cases e
    have hsz:=ry hne;rw [DA] at hsz;exact ⟨m,rfl,h1,hsz.1,by omega,h2⟩
  have hS:=hsd _ HK rfl;have HS:Hid _:=hS;clear hsd hS HK;have hLr:aI jQ 1 (fun b=>b<w.heap.size) wr (some ⟨b,off,none⟩) bs:=HL.out.bz pq ⟨HB.out.size,fun k hk _=>HB.out.block k hk⟩;have hGr:GP wr wr.heap.size:=HG.out.up HB.out (CX _) HB.out.size;have con:∃ q k,(q=off+p∧k=cap - p∧p<cap∨q=off∧k=0∧p=cap)∧Calls Tryz.prog 25 #[.slice (some ⟨b,q,none⟩) (bs.length - p) k] wr fun e w'=>e = .returned (.tuple #[.string (dr (bs.drop p)).1,.int .i64 ((dr (bs.drop p)).2:Nat)])∧Below wr.heap.size wr w':=by
   by_cases hpc:p<cap
   ·refine ⟨off+p,cap - p,.inl ⟨rfl,rfl,hpc⟩,?_⟩;have:=lD (bs.drop p) (some ⟨b,off+p,none⟩) (cap - p) _ (w:=wr) (hLr.vF p) (by rw [DA]; omega) (by rw [DA]; omega)
    rwa [DA] at this
   ·refine ⟨off,0,.inr ⟨rfl,rfl,by omega⟩,?_⟩;have e:bs.drop p = []:=List.drop_of_length_le (by omega);have:=lD [] (some ⟨b,off,none⟩) 0 (fun _=>True) (w:=wr) (.inl rfl) (CX _) (by decide);rw [e,show bs.length - p=([]:List UInt8).length by show _=0; omega];exact this
  obtain ⟨q,k,hqk,con⟩:=con;have con2:=fun (w2:World) (hb:Below wr.heap.size wr w2)=>uu (dr (bs.drop p)).1 (w:=w2) (hGr.up hb (CX _) hb.size)
  generalize dr (bs.drop p)=T at *;have CON2:Hid _:=con2;clear hLr hGr con2;rcases hqk with ⟨rfl,rfl,hpc⟩ | ⟨rfl,rfl,rfl⟩
  case inl =>
   go_wp2_with fail
   refine con.mono ?_;rintro e w2 ⟨rfl,hb2⟩;have con2:=CON2.out w2 hb2;have HO2:Hid (aQ bG 57 16 w.heap.size (fun b=>w.heap.size≤b) w2 (.slice va acc.length vc) acc):=HO.out.next bZ hb2;have hs:=HB.out.size;have HB2:Hid (Below w.heap.size w w2):=HB.out.trans (hb2.mono hs);have hs2:=hb2.size;have HOZ:∀ g,(Value.slice va acc.length vc).ownBlock=some g→g<w2.heap.size:=fun g e=>by have:=(HO.out.lt g e).2; omega
   generalize fS T.1=r at *;clear con CON2 HO HB;go_wp2_with fail
   refine con2.mono ?_;rintro e w3 ⟨hb3,hr⟩;have hs3:=hb3.size;have HO3:Hid (aQ bG 57 16 w.heap.size (fun b=>w.heap.size≤b) w3 (.slice va acc.length vc) acc):=HO2.out.next bZ hb3;have HB3:Hid (Below w.heap.size w w3):=HB2.out.trans (hb3.mono (by omega));clear con2 HO2 HB2;rcases r with _ | x
   case none =>
    obtain rfl:=hr;have e:M=(acc,p):=HS.out.1 rfl;subst e;obtain ⟨ea,ec,ee,LE⟩:=HO3.out.ls bZ (fun _ h=>h);injection ee with e1 _ e3
    subst e1 e3;have HLE:Hid (aI bG 16 (fun b=>w.heap.size≤b) w3 va acc):=LE;have hal4:=ab w3 (.cells bL 57);have HB4:Hid (Below w.heap.size w (w3.alloc (.cells bL 57))):=HB3.out.trans (hal4.mono (by omega));have HL4:Hid (aI bG 16 (fun b=>w.heap.size≤b) (w3.alloc (.cells bL 57)) va acc):=HLE.out.nx bZ hal4;clear HS HO3 HB3 LE HLE hal4;go_wp2_with (first | (refine bB rfl 57 _ _ rfl bL bL rfl rfl dh rfl (fX rfl) ?_))
    generalize (w3.alloc (.cells bL 57))=wE at *;exact C0 (v:=.tuple #[.slice va acc.length vc,.int .i64 p,.int .i64 0]) (by simp [results,Tryz.results12,go_sem]) rfl (by first | exact ⟨HB4.out,va,vc,rfl,HL4.out⟩ | exact ⟨HB4.out,va,⟨vc,rfl⟩,HL4.out⟩)
   case some =>
    obtain ⟨V,rfl,hE⟩:=hr;obtain ⟨m,rfl,hm,hsz4,hsz,hfu⟩:=HS.out.2 x rfl;have HM2:Hid (lj m bs (p+T.2) (acc ++ [x])=M∧bs.length<p+T.2+m):=⟨hm,by omega⟩
    obtain ⟨hV,h16⟩:=bG.size hE;obtain ⟨v0,v1,v2,v3,v4,v5,v6,v7,v8,v9,v10,v11,v12,v13,v14,v15,rfl⟩:=pW hV;have hal4:=ab w3 (.cells #[v0,v1,v2,v3,v4,v5,v6,v7,v8,v9,v10,v11,v12,v13,v14,v15] 57);have q4:=ar w3 #[v0,v1,v2,v3,v4,v5,v6,v7,v8,v9,v10,v11,v12,v13,v14,v15] 57;have hs4:=hal4.size
    have hal5:Below (w3.alloc (.cells #[v0,v1,v2,v3,v4,v5,v6,v7,v8,v9,v10,v11,v12,v13,v14,v15] 57)).heap.size (w3.alloc (.cells #[v0,v1,v2,v3,v4,v5,v6,v7,v8,v9,v10,v11,v12,v13,v14,v15] 57)) ((w3.alloc (.cells #[v0,v1,v2,v3,v4,v5,v6,v7,v8,v9,v10,v11,v12,v13,v14,v15] 57)).alloc (.cells #[v0,v1,v2,v3,v4,v5,v6,v7,v8,v9,v10,v11,v12,v13,v14,v15] 57)):=(CY _ _).alloc (CX _) _;have e5:(w3.alloc (.cells #[v0,v1,v2,v3,v4,v5,v6,v7,v8,v9,v10,v11,v12,v13,v14,v15] 57)).heap.size=w3.heap.size+1:=by simp
    have q5:=ar (w3.alloc (.cells #[v0,v1,v2,v3,v4,v5,v6,v7,v8,v9,v10,v11,v12,v13,v14,v15] 57)) #[v0,v1,v2,v3,v4,v5,v6,v7,v8,v9,v10,v11,v12,v13,v14,v15] 57;rw [e5] at q5;have hs5:=hal5.size;have HB5:Hid (Below w.heap.size w ((w3.alloc (.cells #[v0,v1,v2,v3,v4,v5,v6,v7,v8,v9,v10,v11,v12,v13,v14,v15] 57)).alloc (.cells #[v0,v1,v2,v3,v4,v5,v6,v7,v8,v9,v10,v11,v12,v13,v14,v15] 57))):=(HB3.out.trans (hal4.mono (by omega))).trans (hal5.mono (by omega))
    have HX5:Hid (bG (fun b=>w2.heap.size≤b∧b<w3.heap.size) ((w3.alloc (.cells #[v0,v1,v2,v3,v4,v5,v6,v7,v8,v9,v10,v11,v12,v13,v14,v15] 57)).alloc (.cells #[v0,v1,v2,v3,v4,v5,v6,v7,v8,v9,v10,v11,v12,v13,v14,v15] 57)) x [v0,v1,v2,v3,v4,v5,v6,v7,v8,v9,v10,v11,v12,v13,v14,v15]):=bZ.next (ay.of (chain hal4 hal5)) (bZ.mono (fun b h1 h2=>⟨h1,h2⟩) hE);have hnb:=HO3.out.lt;obtain ⟨ys,o5,en5⟩:=(HO3.out.next bZ hal4).next bZ hal5;have EN5:Hid _:=en5;have HNB:Hid (∀ g,(Value.slice va acc.length vc).ownBlock=some g→w.heap.size≤g∧g<w3.heap.size):=hnb
    have hoz:∀ g,(Value.slice va acc.length vc).ownBlock=some g→g<w2.heap.size:=HOZ
    have HOW:Hid (∀ g,(Value.slice va acc.length vc).ownBlock=some g→g<w2.heap.size):=hoz;have hz16:Below w3.heap.size w3 w3:=CY _ _;clear HS HO3 HB3 hE en5 hnb hoz hm hV hal4 hal5 hz16;go_upto_region 7 with (first | (refine bB rfl 57 _ _ rfl bL #[v0,v1,v2,v3,v4,v5,v6,v7,v8,v9,v10,v11,v12,v13,v14,v15] rfl rfl dh rfl h16 ?_))
    have q4':((w3.alloc (.cells #[v0,v1,v2,v3,v4,v5,v6,v7,v8,v9,v10,v11,v12,v13,v14,v15] 57))).heap[w3.heap.size]? = _:=q4;go_upto_region 9 with fail
    go_wp2_with (first | (refine wpList_load_row rfl 57 _ rfl w3.heap.size rfl 57 #[v0,v1,v2,v3,v4,v5,v6,v7,v8,v9,v10,v11,v12,v13,v14,v15] (0,0) _ q4 Tryz.underlying57 rfl dh ?_) | (at_builtin; refine aX rfl _ _ 22 rfl w.heap.size 57 i0 _ 16 256 Tryz.underlying22 hi hj0 hj1 hj2 rfl (by decide) _ _ _ rfl o5 ⟨w3.heap.size+1,0,none⟩ 1 1 [v0,v1,v2,v3,v4,v5,v6,v7,v8,v9,v10,v11,v12,v13,v14,v15] rfl rfl ?Ac1 ?Ac2 ?Ac3 ?Ac4 ?Ac5 ?_))
    case Ac1 =>
     intro i u hu;rw [bF,Dr];exact cell_of (i:=i) q5 (by rw [← hu]; simp)
    case Ac2=>exact fun u hu=>by have:=Array.all_eq_true_iff_forall_mem.1 h16 u (by simpa using hu); exact this
    case Ac3=>unfold maxLen; omega
    case Ac4=>omega
    case Ac5=>omega
    intro v' w6 o6 g6 hd6;have z6:=g6.size;have O6:Hid (aQ bG 57 16 w.heap.size (fun b=>w.heap.size≤b) w6 v' (acc ++ [x])):=aQ.push bZ o5 EN5.out rfl (bZ.mono (fun b h1 h2=>⟨by have:=h1.1; show w.heap.size≤b; omega,h2,fun e=>by have:=HOW.out b e; have:=h1.1; omega⟩) HX5.out) o6 g6 (by simpa using hd6);have HB6:Hid (Below w.heap.size w w6):=HB5.out.grown g6 (by omega) (fun k e=>(HNB.out k e).1);obtain ⟨va6,vc6,ev6⟩:=O6.out.len;subst ev6;have hT:(T.2:Int)+(p:Int)≤100000:=by omega
    clear o5 EN5 HX5 o6 g6 hd6 q4 q5 q4' HB5;go_wp2_with fail
    go_roundw
    case rel=>exact ⟨m,p+T.2,_,acc ++ [x],rfl,by go_num,by omega,by simp; omega,O6,HB6,HM2⟩
    case measure=>simp [RowKit.intOf]; omega
  case inr =>
   obtain rfl:p=bs.length:=by omega
   rw [Nat.sub_self] at con;clear hc;have hr0:True:=trivial;go_wp2_with fail
   refine con.mono ?_;rintro e w2 ⟨rfl,hb2⟩;have con2:=CON2.out w2 hb2;have HO2:Hid (aQ bG 57 16 w.heap.size (fun b=>w.heap.size≤b) w2 (.slice va acc.length vc) acc):=HO.out.next bZ hb2;have hs:=HB.out.size;have HB2:Hid (Below w.heap.size w w2):=HB.out.trans (hb2.mono hs);have hs2:=hb2.size;have HOZ:∀ g,(Value.slice va acc.length vc).ownBlock=some g→g<w2.heap.size:=fun g e=>by have:=(HO.out.lt g e).2; omega
   generalize fS T.1=r at *;clear con CON2 HO HB;go_wp2_with fail
   refine con2.mono ?_;rintro e w3 ⟨hb3,hr⟩;have hs3:=hb3.size;have HO3:Hid (aQ bG 57 16 w.heap.size (fun b=>w.heap.size≤b) w3 (.slice va acc.length vc) acc):=HO2.out.next bZ hb3;have HB3:Hid (Below w.heap.size w w3):=HB2.out.trans (hb3.mono (by omega));clear con2 HO2 HB2;rcases r with _ | x
   case none =>
    obtain rfl:=hr;have e:M=(acc,bs.length):=HS.out.1 rfl;subst e;obtain ⟨ea,ec,ee,LE⟩:=HO3.out.ls bZ (fun _ h=>h);injection ee with e1 _ e3
    subst e1 e3;have HLE:Hid (aI bG 16 (fun b=>w.heap.size≤b) w3 va acc):=LE;have hal4:=ab w3 (.cells bL 57);have HB4:Hid (Below w.heap.size w (w3.alloc (.cells bL 57))):=HB3.out.trans (hal4.mono (by omega));have HL4:Hid (aI bG 16 (fun b=>w.heap.size≤b) (w3.alloc (.cells bL 57)) va acc):=HLE.out.nx bZ hal4;clear HS HO3 HB3 LE HLE hal4;go_wp2_with (first | (refine bB rfl 57 _ _ rfl bL bL rfl rfl dh rfl (fX rfl) ?_))
    generalize (w3.alloc (.cells bL 57))=wE at *;exact C0 (v:=.tuple #[.slice va acc.length vc,(.int .i64 bs.length),.int .i64 0]) (by simp [results,Tryz.results12,go_sem]) rfl (by first | exact ⟨HB4.out,va,vc,rfl,HL4.out⟩ | exact ⟨HB4.out,va,⟨vc,rfl⟩,HL4.out⟩)
   case some =>
    obtain ⟨m,rfl,hm,hsz4,hsz,hfu⟩:=HS.out.2 x rfl;omega
def tS:cW:=⟨1,⟨#[116]⟩,[(⟨#[97]⟩,3)],mF,[],false,jN⟩
def xo:Bool:=match eZ 0 [] [tS] with
 | .ok bs=>bs.length == 30 && (gT bs).2 == 30 && (match (gT bs).1 with | [x]=>x.name.data.toList == [116] | _=>false)
 | .error _=>false
theorem qL:xo=true:=by decide +kernel
theorem yp:∃ bs x,eZ 0 [] [tS] = .ok bs∧bs.length=30∧(gT bs).1 = [x]∧(gT bs).2=30∧x.name=⟨#[116]⟩:=by
 have h:=qL;unfold xo at h;cases e:eZ 0 [] [tS] with
 | error c=>rw [e] at h; cases h
 | ok bs =>
  rw [e] at h;simp only [Dx,beq_iff_eq] at h;cases e2:(gT bs).1 with
  | nil=>rw [e2] at h; exact absurd h.2 (by decide)
  | cons x r =>
   rw [e2] at h;cases r with
   | nil=>exact ⟨bs,x,rfl,h.1.1,e2,h.1.2,ByteArray.ext (Array.ext' (by simpa using h.2))⟩
   | cons y r=>exact absurd h.2 (by simp)
theorem xI {w:World}:Calls Tryz.prog 22 #[.string ⟨#[116]⟩] w fun e w'=>Below w.heap.size w w'∧∃ V:Array Value,e = .returned (.agg V)∧bG (fun b=>w.heap.size≤b) w' tS V.toList:=by
 have hal1:=ab w (.cells bL 57);have Q1:=ar w bL 57;have e1:(w.alloc (.cells bL 57)).heap.size=w.heap.size+1:=by simp
 have hal2:Below (w.alloc (.cells bL 57)).heap.size (w.alloc (.cells bL 57)) ((w.alloc (.cells bL 57)).alloc (.cells #[.string ⟨#[97]⟩,.int .i64 3] 69)):=(CY _ _).alloc (CX _) _;have Q2:=ar (w.alloc (.cells bL 57)) #[.string ⟨#[97]⟩,.int .i64 3] 69;have Q1':=(hal2.block _ (lt_of_heap Q1)).trans Q1;rw [e1] at Q2;have hb2:=hal1.trans (hal2.mono (by omega));clear hal1 hal2 Q1 e1;go_enter Tryz.func22,Tryz.ntmps22
 go_wp2_with (first | (refine wpList_store_row rfl 57 _ _ rfl w.heap.size #[.int .i64 1,.string ⟨#[116]⟩,.slice (some ⟨w.heap.size+1,0,none⟩) 1 1,.slice none 0 0,.slice none 0 0,.slice none 0 0,.int .i64 0,.slice none 0 0,.bool false,.int .i64 0,.int .i64 0,.int .i64 0,.string ⟨#[]⟩,.string ⟨#[]⟩,.string ⟨#[]⟩,.slice none 0 0] rfl rfl 57 bL Q1' dh rfl (fX rfl) ?_))
 generalize ((w.alloc (.cells bL 57)).alloc (.cells #[.string ⟨#[97]⟩,.int .i64 3] 69))=w2 at *;have QE:=setRow_heap w2 w.heap.size bL #[.int .i64 1,.string ⟨#[116]⟩,.slice (some ⟨w.heap.size+1,0,none⟩) 1 1,.slice none 0 0,.slice none 0 0,.slice none 0 0,.int .i64 0,.slice none 0 0,.bool false,.int .i64 0,.int .i64 0,.int .i64 0,.string ⟨#[]⟩,.string ⟨#[]⟩,.string ⟨#[]⟩,.slice none 0 0] _ _ Q1'
 have hbE:=below_setRow hb2 (CX _) #[.int .i64 1,.string ⟨#[116]⟩,.slice (some ⟨w.heap.size+1,0,none⟩) 1 1,.slice none 0 0,.slice none 0 0,.slice none 0 0,.int .i64 0,.slice none 0 0,.bool false,.int .i64 0,.int .i64 0,.int .i64 0,.string ⟨#[]⟩,.string ⟨#[]⟩,.string ⟨#[]⟩,.slice none 0 0]
 have Q2E:=(setRow_other w2 w.heap.size (w.heap.size+1) #[.int .i64 1,.string ⟨#[116]⟩,.slice (some ⟨w.heap.size+1,0,none⟩) 1 1,.slice none 0 0,.slice none 0 0,.slice none 0 0,.int .i64 0,.slice none 0 0,.bool false,.int .i64 0,.int .i64 0,.int .i64 0,.string ⟨#[]⟩,.string ⟨#[]⟩,.string ⟨#[]⟩,.slice none 0 0] (by omega)).trans Q2
 generalize w2.setRow w.heap.size #[.int .i64 1,.string ⟨#[116]⟩,.slice (some ⟨w.heap.size+1,0,none⟩) 1 1,.slice none 0 0,.slice none 0 0,.slice none 0 0,.int .i64 0,.slice none 0 0,.bool false,.int .i64 0,.int .i64 0,.int .i64 0,.string ⟨#[]⟩,.string ⟨#[]⟩,.string ⟨#[]⟩,.slice none 0 0]=wE at *;refine C0 (results_cell_row Tryz.results22 _ _ _ _ _ _ _ rfl QE Tryz.underlying57 rfl dh) rfl ⟨hbE,_,rfl,some ⟨w.heap.size+1,0,none⟩,1,none,0,none,0,none,0,none,0,none,0,rfl,?_,.inl rfl,.inl rfl,.inl rfl,.inl rfl,aD.nil _⟩
 refine .inr ⟨w.heap.size+1,0,rfl,Nat.le_succ _,lt_of_heap Q2E,fun i hi=>?_⟩;obtain rfl:i=0:=by have:i<1:=hi; omega
 refine ⟨[.string ⟨#[97]⟩,.int .i64 3],rfl,fun j u hu=>?_,rfl⟩;have:=cell_of (i:=j) (v:=u) Q2E (by simpa using hu)
 simpa using this
theorem aI.A6 {w:World} {x:cW} {S:Nat→Prop} {V:Array Value} (hV:V.size=16) (h:bG S w x V.toList) {T:TypeId}:aI bG 16 (fun b=>S b∨w.heap.size≤b) (w.alloc (.cells V T)) (some ⟨w.heap.size,0,none⟩) [x]:=by
 have hal:=ab w (.cells V T);have Q:=ar w V T;refine .inr ⟨w.heap.size,0,rfl,.inr (CX _),lt_of_heap Q,fun i hi=>?_⟩;obtain rfl:i=0:=by have:i<1:=hi; omega
 refine ⟨V.toList,by simpa using hV,fun j u hu=>?_,bZ.mono (fun b hb _=>.inl hb) (bZ.next (ay.of hal) h)⟩;have:=cell_of (i:=j) (v:=u) Q (by simpa using hu)
 simpa using this
theorem qT {w:World} (hG:GP w w.heap.size):Calls Tryz.prog 9 #[] w fun e w'=>Below w.heap.size w w'∧e = .returned (.bool true):=by
 obtain ⟨bs,x,hb1,hb2,hr1,hr2,hx⟩:=yp;have con0:=xI (w:=w);have HG:Hid (GP w w.heap.size):=hG;have HB1:Hid (eZ 0 [] [tS] = .ok bs):=hb1;have HB2:Hid (bs.length=30):=hb2;have HR1:Hid ((gT bs).1 = [x]):=hr1;have HR2:Hid ((gT bs).2=30):=hr2;have HX:Hid (x.name=⟨#[116]⟩):=hx;clear hG hb1 hb2 hr1 hr2 hx;go_enter Tryz.func9,Tryz.ntmps9;go_wp2_with fail
 refine con0.mono ?_;rintro e w1 ⟨hb1,V,rfl,hE⟩;obtain ⟨hV,h16⟩:=bG.size hE;obtain ⟨v0,v1,v2,v3,v4,v5,v6,v7,v8,v9,v10,v11,v12,v13,v14,v15,rfl⟩:=pW hV;have hal2:=ab w1 (.cells #[v0,v1,v2,v3,v4,v5,v6,v7,v8,v9,v10,v11,v12,v13,v14,v15] 57);have L2:=aI.A6 (T:=57) hV hE;have hw1:=hb1.size;have hw2:w1.heap.size<(w1.alloc (.cells #[v0,v1,v2,v3,v4,v5,v6,v7,v8,v9,v10,v11,v12,v13,v14,v15] 57)).heap.size:=by simp
 have hB2:=hb1.trans (hal2.mono hw1);have con1:=j9 [tS] (some ⟨w1.heap.size,0,none⟩) 1 (HG.out.up hB2 (CX _) (by omega)) (by decide) (aI.mono bZ (fun b _ h=>h) L2);rw [HB1.out] at con1;have HB:Hid (Below w.heap.size w (w1.alloc (.cells #[v0,v1,v2,v3,v4,v5,v6,v7,v8,v9,v10,v11,v12,v13,v14,v15] 57))):=hB2;clear con0 hb1 hE h16 hal2 L2 hB2;go_wp2_with fail
 generalize (w1.alloc (.cells #[v0,v1,v2,v3,v4,v5,v6,v7,v8,v9,v10,v11,v12,v13,v14,v15] 57))=w2 at *;refine con1.mono ?_;rintro e w3 ⟨hb3,a,c,rfl,LB,hc⟩;have hw2:=HB.out.size;have hal4:=ab w3 (.cells #[.int .i64 0,.int .i64 0] 27);have QF:=ar w3 #[.int .i64 0,.int .i64 0] 27;have hw3:=hb3.size;have hw4:=lt_of_heap QF;have hB4:=HB.out.trans ((chain hb3 hal4).mono hw2);have HB4:Hid (Below w.heap.size w (w3.alloc (.cells #[.int .i64 0,.int .i64 0] 27))):=hB4;obtain ⟨b,off,rfl,_⟩:=LB.oD (i:=0) (by rw [HB2.out]; decide)
 have con2:=me bs b off c (HG.out.up hB4 (CX _) (by have:=hB4.size; omega)) ((LB.bz pq (ay.of hal4)).mono pq (fun _ _ h=>h)) hc (by rw [HB2.out]; decide);rw [HB2.out] at con2;have hlen:=HB2.out;rw [HR1.out,HR2.out] at con2;clear con1 hb3 LB hc hal4 hB4 HB;go_upto_region 2 with fail
 generalize (w3.alloc (.cells #[.int .i64 0,.int .i64 0] 27))=w4 at *;go_wp2_with fail
 refine con2.mono ?_;rintro e w5 ⟨hb5,a5,c5,rfl,L5⟩;have QF5:=(hb5.block _ hw4).trans QF;obtain ⟨f0,f1⟩:=cX QF5;obtain ⟨b5,o5,rfl,V5,hV5,hR5,hE5⟩:=L5.Cu;have hn:w5.cell? ⟨b5,o5+1,none⟩=some (.string ⟨#[116]⟩):=by
  obtain ⟨a1,c1,p1,d1,p2,d2,p3,d3,a2,c2,a3,c3,e,_⟩:=hE5;have:=hR5 1 (.string x.name) (by rw [e]; rfl)
  rwa [HX.out] at this
 have hB5:=HB4.out.trans (hb5.mono HB4.out.size);clear con2 QF5 QF L5 hR5 hE5 hb5 hlen;go_wp2_with fail
 go_ret;exact ⟨hB5,rfl⟩
set_option maxHeartbeats 4000000
theorem aI.flat {α:Type} {En:ir α} {size:Nat} {S:Nat→Prop} {W:World} {b off:Nat} {l:List α} (h:∀ (i:Nat) (h:i<l.length),∃ cs,cs.length=size∧(∀ j u,cs[j]? = some u→W.cell? ⟨b,off+i*size+j,none⟩=some u)∧En S W l[i] cs) :
  ∀ k,k≤l.length→∃ news:List Value,news.length=k*size∧(∀ j u,news[j]? = some u→W.cell? ⟨b,off+j,none⟩=some u)∧∀ (i:Nat) (_:i<k) (h:i<l.length),∃ cs,cs.length=size∧(∀ j,j<size→news[i*size+j]? = cs[j]?)∧En S W l[i] cs
 | 0,_=>⟨[],by simp,by simp,fun i hi=>by omega⟩
 | k+1,hk=>by
  obtain ⟨news,h1,h2,h3⟩:=aI.flat h k (by omega)
  obtain ⟨cs,c1,c2,c3⟩:=h k (by omega)
  refine ⟨news ++ cs,by rw [Dk,h1,c1,Nat.add_mul,DT],fun j u hj=>?_,fun i hi hl=>?_⟩
  ·by_cases hlt:j<news.length
   ·rw [DH hlt] at hj; exact h2 j u hj
   ·rw [DR (by omega)] at hj
    have:=c2 _ u hj
    rwa [show off+k*size+(j - news.length)=off+j by omega] at this
  ·by_cases hlt:i<k
   ·obtain ⟨c,d1,d2,d3⟩:=h3 i hlt hl
    refine ⟨c,d1,fun j hj=>?_,d3⟩
    rw [DH (by rw [h1]; have:(i+1)*size≤k*size:=Dy _ hlt; rw [Nat.add_mul,DT] at this; omega)]
    exact d2 j hj
   ·obtain rfl:i=k:=by omega
    refine ⟨cs,c1,fun j hj=>?_,c3⟩
    rw [DR (by omega),h1]
    congr 1
    omega
theorem aQ.ym {α:Type} {En:ir α} (ok:fi En) {e size base:Nat} {S:Nat→Prop} {W W1:World} {v v':Value} {l l2:List α} {xs news:List Value}
  (h1:W.ownsRow base e size v l.length xs) (h2:∀ (i:Nat) (h:i<l.length),∃ cs,cs.length=size∧(∀ j,j<size→xs[i*size+j]? = cs[j]?)∧En (oT S v W) W l[i] cs)
  (hn:∀ (i:Nat) (h:i<l2.length),∃ cs,cs.length=size∧(∀ j,j<size→news[i*size+j]? = cs[j]?)∧En (oT S v W) W l2[i] cs) (ho:W1.ownsRow base e size v' (l.length+l2.length) (xs ++ news)) (hg:W.grownBy W1 v.ownBlock) (hd:v'.ownBlock=v.ownBlock∨v'.ownBlock=some W.heap.size):aQ En e size base S W1 v' (l ++ l2):=by
 have hk:ay (oT S v W) W W1:=⟨hg.size,fun b hb hl=>hg.block b hl (fun e=>hb.2.2 e.symm)⟩
 have mv:∀ {x:α} {cs:List Value},En (oT S v W) W x cs→En (oT S v' W1) W1 x cs:=fun h =>
  ok.mono (fun b hb _=>⟨hb.1,Dg hb.2.1 hg.size,fun e=>by
   rcases hd with hd | hd
   ·exact hb.2.2 (hd ▸ e)
   ·rw [hd] at e;have e:=Du e;have:=hb.2.1;omega⟩) (ok.next hk h)
 have hx:xs.length=l.length*size:=h1.1;refine ⟨xs ++ news,by rw [Dk]; exact ho,fun i hi=>?_⟩;by_cases hi':i<l.length
 ·obtain ⟨c,c1,c2,c3⟩:=h2 i hi';refine ⟨c,c1,fun j hj=>?_,by rw [List.getElem_append_left hi']; exact mv c3⟩;rw [DH (by rw [hx]; have:(i+1)*size≤l.length*size:=Dy _ hi'; rw [Nat.add_mul,DT] at this; omega)];exact c2 j hj
 ·obtain ⟨c,c1,c2,c3⟩:=hn (i - l.length) (by rw [Dk] at hi; omega);refine ⟨c,c1,fun j hj=>?_,by rw [List.getElem_append_right (by omega)]; exact mv c3⟩;rw [DR (by rw [hx]; have:l.length*size≤i*size:=Dy _ (by omega); omega),hx,← c2 j hj]
  congr 1
  rw [Nat.sub_mul];have:l.length*size≤i*size:=Dy _ (by omega);omega
theorem ve {size:Nat} {news:List Value} {k:Nat} (hl:news.length=k*size) {P:Value→Prop} (h:∀ i,i<k→∃ cs:List Value,cs.length=size∧(∀ j,j<size→news[i*size+j]? = cs[j]?)∧∀ u ∈ cs,P u):∀ u ∈ news,P u:=by
 intro u hu;obtain ⟨n,hn,rfl⟩:=List.getElem_of_mem hu;have hs:0<size:=by
  rcases Nat.eq_zero_or_pos size with e | e
  ·subst e; omega
  ·exact e
 have hi:n / size<k:=Nat.div_lt_of_lt_mul (by rw [Nat.mul_comm]; omega);obtain ⟨cs,h1,h2,h3⟩:=h (n / size) hi;have hm:=Nat.mod_lt n hs;have e:n / size*size+n % size=n:=by rw [Nat.mul_comm]; exact Nat.div_add_mod n size
 have:=h2 (n % size) hm;rw [e,Dj hn,Dj (by omega)] at this;rw [Du this];exact h3 _ (DC _)
theorem xT {S:Nat→Prop} {W:World} {x:UInt8} {cs:List Value} (h:jQ S W x cs):∀ u ∈ cs,u.oneCell'=true:=by
 cases (show cs=_ from h);intro u hu;rw [DD] at hu;subst hu; rfl
theorem ki {α:Type} {En:ir α} (ok:fi En) (one:∀ {S:Nat→Prop} {W:World} {x:α} {cs:List Value},En S W x cs→∀ u ∈ cs,u.oneCell'=true) {ops:Array Oper} {rest:List Oper} {w:World} {o:Oper} {a:Act} {Q:Exit→Act→World→Prop} (hw:Region.wanted o (yielded ops a.tmps)=true)
  (st e:TypeId) (i0:TypeInfo) (z:Value) (size bytes:Nat) (hu:Tryz.prog.underlying st=some (.slice e)) (hi:Tryz.prog.info? e=some i0) (hj0:i0.zero=some z) (hj1:i0.size=size) (hj2:i0.bytes=bytes) (hzs:z.cells.size=size) (hsz:0<size) (s x:Operand)
  (ho:o.op = .call { callee:=.builtin .append,args:=#[s,x],argTypes:=#[st,st] })
  {base B:Nat} {v:Value} {l1 l2:List α} (hs:a.eval s=v) (h1:aQ En e size base (fun _=>True) w v l1) {k:Nat} (hv:v.ownBlock=some k) (hB:B≤k) {ad:Option Addr} {c:Nat} (hx:a.eval x = .slice ad l2.length c) (h2:aI En size (fun b=>b<B) w ad l2) (hn:l1.length+l2.length≤4000000) (hby:bytes≤1000) (hbase:base≤w.heap.size)
  (h:∀ v' w',aQ En e size base (fun _=>True) w' v' (l1 ++ l2)→w.grownBy w' v.ownBlock→(v'.ownBlock=v.ownBlock∨v'.ownBlock=some w.heap.size)→wpList Tryz.prog ops Q rest (a.put o.dst v') w'):wpList Tryz.prog ops Q (o :: rest) a w:=by
 have hmul:(l1.length+l2.length)*bytes≤4000000*1000:=Nat.mul_le_mul hn hby;rcases h2 with rfl | ⟨b,off,rfl,h3,h4,h5⟩
 ·refine wpList_step fun K hK=>?_
  rw [if_pos hw];obtain ⟨g,cap,cur,rfl,hcap⟩:∃ g cap cur,v = .slice (some ⟨g,0,none⟩) l1.length cap∧w.heap[g]? = some (.cells cur e (0,0))∧l1.length≤cap:=by
   obtain ⟨xs,⟨_,⟨e,_⟩ | ⟨g,cap,cur,e,_,q,hc,_⟩⟩,_⟩:=h1
   ·subst e; simp [Value.ownBlock] at hv
   ·exact ⟨g,cap,cur,e,q,hc⟩
  have src:_root_.Go.Src Tryz.prog i0.size st (.slice ad 0 c) 0 [] w:=by
   rcases ad with _ | ad
   ·exact _root_.Go.Src.ofNil w hu c
   ·exact _root_.Go.Src.ofSlice w hu ad 0 c [] (by simp) (by simp) (by simp)
  rw [DQ] at hx;have hr:=run_append_room_src (P:=Tryz.prog) (w:=w) st st o.type e i0 hu hi g 0 l1.length cap _ 0 [] src (by omega) (by simp) (by simp);have hset:w.setCells g (0+l1.length*i0.size) []=w:=by simp [World.setCells]
  rw [hset,DJ] at hr;unfold Oper.wp;simp [execOp,ho,resolve,invoke,builtin,hs,hx,hr,Result.andThen];exact hK _ _ (h _ _ (by rw [List.append_nil]; exact h1) ⟨rfl,rfl,rfl,CX _,fun _ _ _=>rfl⟩ (.inl rfl))
 ·obtain ⟨xs,o1,o2⟩:=h1;obtain ⟨news,n1,n2,n3⟩:=aI.flat h5 l2.length (CX _);refine wpList_step fun K hK=>?_
  rw [if_pos hw];refine kl s x st ho base e i0 _ size bytes hu hi hj0 hj1 hj2 hzs hsz v l1.length xs hs o1 ⟨b,off,none⟩ l2.length c news hx n1 (fun j u hj=>by rw [bF]; exact n2 j u hj) (ve n1 fun i hi=>?_) (by unfold maxLen; omega) (by omega) hbase ?_
  ·obtain ⟨cs,c1,c2,c3⟩:=n3 i hi hi;exact ⟨cs,c1,c2,one c3⟩
  ·intro v' w' ho' hg hd;refine hK _ _ (h v' w' (aQ.ym ok o1 o2 (fun i hi=>?_) ho' hg hd) hg hd);obtain ⟨cs,c1,c2,c3⟩:=n3 i hi hi;exact ⟨cs,c1,c2,ok.mono (fun b hb hl=>⟨trivial,hl,by rw [hv]; intro e; have:=Du e; have:b<B:=hb; omega⟩) c3⟩
theorem aI.zW {α:Type} {En:ir α} (ok:fi En) {size:Nat} {S:Nat→Prop} {W:World} {a:Option Addr} {l:List α} (h:aI En size S W a l):aI En size (fun b=>b<W.heap.size) W a l:=aI.mono ok (fun _ _ h=>h) h
theorem qi:∀ (l:List cW) (i:Nat) (acc:List UInt8) {e:Er},eZ i acc l = .error e→e.1≠0
 | [],i,acc,e,h=>by rw [eZ] at h; cases h
 | x :: l,i,acc,e,h=>by
  rw [eZ] at h
  by_cases e1:(cb [x]).2.1≠0
  ·rw [if_pos e1] at h; cases h; exact e1
  ·rw [if_neg e1] at h
   by_cases hb:100000<(acc ++ df (cb [x]).1).length
   ·rw [if_pos hb] at h; cases h; exact (by decide:¬ (4:Int)=0)
   ·rw [if_neg hb] at h; exact qi l _ _ h
theorem iL:∀ (l:List cW) (i:Nat) (acc:List UInt8) {r:List UInt8},acc.length≤100000→eZ i acc l = .ok r→r.length≤100000
 | [],i,acc,r,ha,h=>by rw [eZ] at h; cases h; exact ha
 | x :: l,i,acc,r,ha,h=>by
  rw [eZ] at h
  by_cases e1:(cb [x]).2.1≠0
  ·rw [if_pos e1] at h; cases h
  ·rw [if_neg e1] at h
   by_cases hb:100000<(acc ++ df (cb [x]).1).length
   ·rw [if_pos hb] at h; cases h
   ·rw [if_neg hb] at h; exact iL l _ _ (by omega) h
def uK (r:Except Er (List UInt8)):List UInt8:=match r with | .ok b=>b | .error _=>[]
def ka (r:Except Er (List UInt8)):Er:=match r with | .ok _=>(0,0) | .error e=>e
theorem oN.all {w:World} {r:Except Er (List UInt8)} {e:Ending} {w':World} (h:oN w r e w'):Below w.heap.size w w'∧∃ a cap,e = .returned (.tuple #[.slice a (uK r).length cap,.agg #[.int .i64 (ka r).1,.int .i64 (ka r).2]])∧aI jQ 1 (fun b=>w.heap.size≤b) w' a (uK r)∧(uK r).length≤cap:=by
 obtain ⟨h1,h2⟩:=h;rcases r with c | bs
 ·exact ⟨h1,none,0,h2,.inl rfl,CX _⟩
 ·exact ⟨h1,h2⟩
def cd (l:List cW):List UInt8:=l.flatMap fun x=>df (cb [x]).1
theorem pN (a b:List cW):cd (a ++ b)=cd a ++ cd b:=List.flatMap_append
theorem lq:∀ (l:List cW) (i:Nat) (acc r:List UInt8),eZ i acc l = .ok r→r=acc ++ cd l∧∀ x ∈ l,(cb [x]).2.1=0
 | [],i,acc,r,h=>by rw [eZ] at h; cases h; exact ⟨by simp [cd],by simp⟩
 | x :: l,i,acc,r,h=>by
  rw [eZ] at h
  by_cases e:(cb [x]).2.1≠0
  ·rw [if_pos e] at h; cases h
  ·rw [if_neg e] at h
   by_cases hb:100000<(acc ++ df (cb [x]).1).length
   ·rw [if_pos hb] at h; cases h
   ·rw [if_neg hb] at h
    obtain ⟨h1,h2⟩:=lq l _ _ _ h
    refine ⟨by rw [h1,Dc]; rfl,fun y hy=>?_⟩
    rcases List.mem_cons.1 hy with rfl | hy
    ·simpa using e
    ·exact h2 y hy
theorem kr:∀ (l:List cW) (i:Nat) (acc:List UInt8),(∀ x ∈ l,(cb [x]).2.1=0)→(acc ++ cd l).length≤100000→eZ i acc l = .ok (acc ++ cd l)
 | [],i,acc,_,_=>by rw [eZ]; simp [cd]
 | x :: l,i,acc,h,hl=>by
  have e:acc ++ cd (x :: l)=(acc ++ df (cb [x]).1) ++ cd l:=by simp [cd]
  rw [e] at hl ⊢
  rw [eZ,if_neg (by simpa using h x (by simp)),if_neg (by rw [Dk] at hl; omega),kr l _ _ (fun y hy=>h y (by simp [hy])) hl]
theorem qw (t:ByteArray) (rest:List UInt8) (h:t.size≤4000):fY (ft t ++ rest)=t.size:=by
 unfold ft;rw [Dc];exact mj (by omega) _
theorem tT {t:ByteArray} (h:t.size≤4000) (rest:List UInt8):dr (df t ++ rest)=(t,t.size+4):=by
 have hl:=iG t;have hh:=iO t;have e:df t ++ rest=ft t ++ (kW (dL 7439 (ft t)) ++ rest):=by unfold df; rw [Dc]
 have hp:fY (df t ++ rest)=t.size:=by rw [e]; exact qw t _ h
 unfold dr;rw [hp,if_neg (by rw [Dk]; omega),if_neg (by rw [Dk]; omega)];have hd:(df t ++ rest).drop (2+t.size)=kW (dL 7439 (ft t)) ++ rest:=by
  rw [e,List.drop_left' (by omega)]
 have ht:(df t ++ rest).take (2+t.size)=ft t:=by
  rw [e,List.take_left' (by omega)]
 rw [hd,ht,if_pos (mj (j7 _ _ (by decide)) _)];have hb:((df t ++ rest).drop 2).take t.size=t.data.toList:=by
  rw [e];unfold ft;rw [Dc];show ((t.data.toList ++ _)).take t.size=_;rw [List.take_left' (dC t)]
 rw [hb];exact Prod.ext rfl (by show 2+t.size+2=t.size+4; omega)
theorem rS {x:cW} (h:(cb [x]).2.1=0):fS (cb [x]).1=some (eC x):=by
 obtain ⟨h1,h2⟩:=oP h;unfold fS;rw [h1,h2,if_pos rfl];show (if (cb [eC x]).2.1=0∧(cb [eC x]).1=(cb [x]).1 then some (eC x) else none)=_;rw [xt h,if_pos ⟨h,rfl⟩]
theorem pH:∀ (l:List cW) (n:Nat) (bs:List UInt8) (p:Nat) (acc:List cW) (rest:List UInt8),bs.drop p=cd l ++ rest→(∀ x ∈ l,(cb [x]).2.1=0)→lj (n+l.length) bs p acc=lj n bs (p+(cd l).length) (acc ++ l.map eC)
 | [],n,bs,p,acc,rest,_,_=>by simp [cd]
 | x :: l,n,bs,p,acc,rest,hd,h=>by
  have hx:=h x (by simp)
  have e:cd (x :: l) ++ rest=df (cb [x]).1 ++ (cd l ++ rest):=by simp [cd]
  rw [e] at hd
  have ha:=tT (mG hx) (cd l ++ rest)
  rw [← hd] at ha
  rw [Dn,← Nat.add_assoc,lj,ha]
  simp only [rS hx]
  have hd2:bs.drop (p+((cb [x]).1.size+4))=cd l ++ rest:=by
   rw [← List.drop_drop,hd,← iG,List.drop_left]
  rw [pH l n bs _ _ rest hd2 fun y hy=>h y (by simp [hy])]
  congr 1
  ·show p+((cb [x]).1.size+4)+(cd l).length=p+(cd (x :: l)).length;have:(cd (x :: l)).length=(df (cb [x]).1).length+(cd l).length:=by simp [cd]
   rw [this,iG];omega
  ·simp
theorem uj {n:Nat} {bs:List UInt8} {p:Nat} {acc:List cW} (h:(dr (bs.drop p)).1=eB):lj n bs p acc=(acc,p):=by
 cases n with
 | zero=>rfl
 | succ n=>rw [lj,h,mU]
theorem sX:∀ l:List cW,l.length≤(cd l).length
 | []=>CX _
 | x :: l=>by
  have:(cd (x :: l)).length=(df (cb [x]).1).length+(cd l).length:=by simp [cd]
  rw [this,iG,Dn]
  have:=sX l
  omega
theorem tu {l:List cW} {rest:List UInt8} (h:∀ x ∈ l,(cb [x]).2.1=0) (hr:(dr rest).1=eB):gT (cd l ++ rest)=(l.map eC,(cd l).length):=by
 unfold gT;have hle:=sX l;have e:(cd l ++ rest).length+1=((cd l ++ rest).length+1 - l.length)+l.length:=by rw [Dk]; omega
 rw [e,pH l _ _ 0 [] rest (by simp) h,uj]
 ·simp
 ·rw [Dr,List.drop_left]; exact hr
def pat (i j:Nat) (a b:UInt8):List UInt8:=List.replicate i 0 ++ ([a,b] ++ List.replicate j 0)
theorem pS:∀ (a b:List UInt8),a.length=b.length→(gz a b).length=a.length
 | [],_,_=>rfl
 | x :: a,[],h=>by simp at h
 | x :: a,y :: b,h=>by rw [gz,Dn,Dn,pS a b (by simpa using h)]
theorem qn:∀ (a b:List UInt8) (k:Nat),k<a.length→k<b.length→(gz a b).getD k 0=a.getD k 0 ^^^ b.getD k 0
 | [],_,k,h,_=>by simp at h
 | x :: a,[],k,_,h=>by simp at h
 | x :: a,y :: b,0,_,_=>rfl
 | x :: a,y :: b,k+1,h,h2=>by
  rw [gz]
  show (gz a b).getD k 0=a.getD k 0 ^^^ b.getD k 0
  exact qn a b k (by simpa using h) (by simpa using h2)
theorem uA {t:ByteArray} (h:t.size≤4000) {i j:Nat} {a b:UInt8} (hi:2≤i) (hl:(df t).length=i+2+j) (hab:a≠0∨b≠0) (rest:List UInt8):(dr (gz (df t) (pat i j a b) ++ rest)).1=eB:=by
 have hlen:=iG t;have hh:=iO t;have hpl:(df t).length=(pat i j a b).length:=by rw [hl]; unfold pat; simp; omega
 have hx:=pS (df t) (pat i j a b) hpl;have g:∀ k,k<2→(gz (df t) (pat i j a b) ++ rest).getD k 0=(df t).getD k 0:=by
  intro k hk;have h1:(gz (df t) (pat i j a b) ++ rest).getD k 0=(gz (df t) (pat i j a b)).getD k 0:=by
   simp only [DK];rw [DH (by omega)]
  have h2:(pat i j a b).getD k 0=0:=by
   unfold pat;simp only [DK];rw [DH (by simp; omega),List.getElem?_replicate,if_pos (by omega)];rfl
  rw [h1,qn _ _ k (by omega) (by omega),h2,UInt8.xor_zero]
 have hp:fY (gz (df t) (pat i j a b) ++ rest)=t.size:=by
  have e:fY (df t)=t.size:=by
   have:=qw t (kW (dL 7439 (ft t))) h;exact this
  rw [← e];unfold fY;rw [g 0 (by decide),g 1 (by decide)]
 unfold dr;rw [hp,if_neg (by rw [Dk]; omega),if_neg (by rw [Dk]; omega)];generalize hM:gz (df t) (pat i j a b)=M at *;have hd:(M ++ rest).drop (2+t.size)=M.drop (2+t.size) ++ rest:=List.drop_append_of_le_length (by omega);have ht:(M ++ rest).take (2+t.size)=M.take (2+t.size):=List.take_append_of_le_length (by omega);rw [hd,ht];have hs2:(M.drop (2+t.size)).length=2:=by rw [DA]; omega
 obtain ⟨c,d,hcd⟩:∃ c d,M.drop (2+t.size) = [c,d]:=by
  match hm:M.drop (2+t.size),hs2 with
  | [c,d],_=>exact ⟨c,d,rfl⟩
 rw [hcd];by_cases e:fY ([c,d] ++ rest)=dL 7439 (M.take (2+t.size))
 ·exfalso;have hself:dL 7439 (df t)=0:=by
   unfold df;rw [jf];exact ke (j7 _ _ (by decide))
  have hb:=tZ (s:=7439) (by decide) hself hab hl;have hM2:gz (df t) (List.replicate i 0 ++ ([a,b] ++ List.replicate j 0))=M:=hM;rw [hM2] at hb;have hsplit:M=M.take (2+t.size) ++ [c,d]:=by rw [← hcd,List.take_append_drop]
  rw [hsplit,jf,← e,vA c d] at hb;have e3:fY (kW (c.toNat*256+d.toNat) ++ rest)=c.toNat*256+d.toNat:=mj (by have:=UInt8.toNat_lt c; have:=UInt8.toNat_lt d; omega) _;rw [e3] at hb;exact hb (ke (by have:=UInt8.toNat_lt c; have:=UInt8.toNat_lt d; omega))
 ·rw [if_neg e]
theorem sr:∀ (i j:Nat) (own:List UInt8) (a b:UInt8),own.length=i+2+j→(own.set i (own.getD i 0 ^^^ a)).set (i+1) (own.getD (i+1) 0 ^^^ b)=gz own (pat i j a b)
 | 0,j,own,a,b,h=>by
  obtain ⟨x,y,r,rfl⟩:∃ x y r,own=x :: y :: r:=by
   match own,h with
   | [],h=>simp at h; omega
   | [_],h=>simp at h; omega
   | x :: y :: r,_=>exact ⟨x,y,r,rfl⟩
  ·have hr:r.length=j:=by simp at h; omega
   show (x ^^^ a) :: (y ^^^ b) :: r=gz (x :: y :: r) (a :: b :: List.replicate j 0);rw [gz,gz,← hr,kS]
 | i+1,j,own,a,b,h=>by
  obtain ⟨x,r,rfl⟩:∃ x r,own=x :: r:=by
   match own,h with
   | [],h=>simp at h; omega
   | x :: r,_=>exact ⟨x,r,rfl⟩
  ·have hr:r.length=i+2+j:=by simp at h; omega
   have ih:=sr i j r a b hr;show x :: ((r.set i (r.getD i 0 ^^^ a)).set (i+1) (r.getD (i+1) 0 ^^^ b))=gz (x :: r) (0 :: pat i j a b);rw [ih,gz,UInt8.xor_zero]
theorem sx (pre own rest:List UInt8) (k:Nat) (v:UInt8) (h:k<own.length):(pre ++ (own ++ rest)).set (pre.length+k) v=pre ++ (own.set k v ++ rest):=by
 rw [List.set_append,if_neg (by omega),Nat.add_sub_cancel_left,List.set_append,if_pos h]
theorem sA (pre own rest:List UInt8) (k:Nat) (h:k<own.length):(pre ++ (own ++ rest)).getD (pre.length+k) 0=own.getD k 0:=by
 simp only [DK];rw [DR (by omega),Nat.add_sub_cancel_left,DH h]
theorem uw {l:List cW} {r:List UInt8} (hl:eZ 0 [] l = .ok r) {k:Nat} (hk:k<l.length) {i:Nat} (hi:2≤i) (hi2:i+1<(df (cb [l[k]]).1).length) {a b:UInt8} (hab:a≠0∨b≠0) :
  eZ 0 [] (l.take k) = .ok (cd (l.take k))∧eZ 0 [] [l[k]] = .ok (df (cb [l[k]]).1)∧(cd (l.take k)).length+i+1<r.length ∧
  gT ((r.set ((cd (l.take k)).length+i) (r.getD ((cd (l.take k)).length+i) 0 ^^^ a)).set ((cd (l.take k)).length+i+1) (r.getD ((cd (l.take k)).length+i+1) 0 ^^^ b))=((l.take k).map eC,(cd (l.take k)).length):=by
 obtain ⟨h1,h2⟩:=lq l 0 [] r hl;have hlen:=iL l 0 [] (Dm _) hl;have hs:l=l.take k ++ l[k] :: l.drop (k+1):=by rw [← Da hk,List.take_append_drop]
 have hx:=h2 l[k] (DC hk);have hpre:∀ x ∈ l.take k,(cb [x]).2.1=0:=fun x hx=>h2 x (List.mem_of_mem_take hx)
 have hr:r=cd (l.take k) ++ (df (cb [l[k]]).1 ++ cd (l.drop (k+1))):=by
  have e0:cd l=cd (l.take k ++ l[k] :: l.drop (k+1)):=congrArg cd hs;rw [h1,Ds,e0,pN]
  congr 1
 have hrl:r.length=(cd (l.take k)).length+((df (cb [l[k]]).1).length+(cd (l.drop (k+1))).length):=by rw [hr]; simp
 refine ⟨?_,?_,by omega,?_⟩
 ·have:=kr (l.take k) 0 [] hpre (by rw [Ds]; omega)
  rwa [Ds] at this
 ·have:=kr [l[k]] 0 [] (fun y hy=>by rw [DD] at hy; rw [hy]; exact hx) (by simp [cd]; omega)
  simpa [cd] using this
 ·have hb:=fun S=>uA (mG hx) (i:=i) (j:=(df (cb [l[k]]).1).length - (i+2)) (a:=a) (b:=b) hi (by omega) hab S
  have hpp:=fun rest=>tu (rest:=rest) hpre
  generalize cd (l.take k)=P at *;generalize hR:df (cb [l[k]]).1=R at *;generalize cd (l.drop (k+1))=S at *;subst hr;rw [sA P R S i (by omega),Nat.add_assoc,sA P R S (i+1) (by omega),sx P R S i _ (by omega),sx P _ S (i+1) _ (by rw [List.length_set]; omega),sr i (R.length - (i+2)) R a b (by omega)];exact hpp _ (hb S)
theorem aI.Bt {α:Type} {En:ir α} {size:Nat} {S:Nat→Prop} {W:World} {a:Option Addr} {l:List α} (h:aI En size S W a l) (k:Nat):aI En size S W a (l.take k):=by
 rcases h with rfl | ⟨b,off,e,h1,h2,h3⟩
 ·exact .inl (by simp)
 ·refine .inr ⟨b,off,e,h1,h2,fun i hi=>?_⟩;rw [Dz] at hi;obtain ⟨cs,c1,c2,c3⟩:=h3 i (by omega);exact ⟨cs,c1,c2,by rw [List.getElem_take]; exact c3⟩
theorem aI.Cc {α:Type} {En:ir α} {size:Nat} {S:Nat→Prop} {W:World} {b off:Nat} {l:List α} (h:aI En size S W (some ⟨b,off,none⟩) l) {k:Nat} (hk:k<l.length):aI En size S W (some ⟨b,off+k*size,none⟩) [l[k]]:=by
 rcases h with rfl | ⟨b',off',e,h1,h2,h3⟩
 ·simp at hk
 ·cases e;refine .inr ⟨b,_,rfl,h1,h2,fun i hi=>?_⟩;have:i=0:=by simpa using hi
  subst this;obtain ⟨cs,c1,c2,c3⟩:=h3 k hk;refine ⟨cs,c1,fun j u hu=>?_,c3⟩;have:=c2 j u hu
  rwa [show off+k*size+0*size+j=off+k*size+j by omega]
theorem tQ (x:cW) (l:List cW):cd (x :: l)=df (cb [x]).1 ++ cd l:=DV
theorem rX {l:List cW} {r:List UInt8} (hl:eZ 0 [] l = .ok r) {k:Nat} (hk:k<l.length):eZ 0 [] (l.take k) = .ok (cd (l.take k))∧eZ 0 [] [l[k]] = .ok (df (cb [l[k]]).1):=by
 obtain ⟨h1,h2⟩:=lq l 0 [] r hl;have hlen:=iL l 0 [] (Dm _) hl;have hs:l=l.take k ++ l[k] :: l.drop (k+1):=by rw [← Da hk,List.take_append_drop]
 have hr:r.length=(cd (l.take k)).length+((df (cb [l[k]]).1).length+(cd (l.drop (k+1))).length):=by
  have e0:cd l=cd (l.take k ++ l[k] :: l.drop (k+1)):=congrArg cd hs;rw [h1,Ds,e0,pN,tQ];simp
 constructor
 ·have:=kr (l.take k) 0 [] (fun x hx=>h2 x (List.mem_of_mem_take hx)) (by rw [Ds]; omega)
  rwa [Ds] at this
 ·have:=kr [l[k]] 0 [] (fun y hy=>by rw [DD] at hy; rw [hy]; exact h2 _ (DC hk)) (by simp [cd]; omega)
  simpa [cd] using this
theorem aI.BG {S:Nat→Prop} {W:World} {b off:Nat} {bs:List UInt8} (h:aI jQ 1 S W (some ⟨b,off,none⟩) bs) {k:Nat} (hk:k<bs.length) (x:UInt8):aI jQ 1 S (W.setCell ⟨b,off+k,none⟩ (.int .u8 ((x.toNat:Nat):Int))) (some ⟨b,off,none⟩) (bs.set k x):=by
 obtain ⟨_,_,e,y⟩:=h.oD hk;cases e;rcases h with rfl | ⟨b',off',e,h1,h2,h3⟩
 ·simp at hk
 ·cases e;refine .inr ⟨b,off,rfl,h1,by simpa using h2,fun i hi=>?_⟩;rw [List.length_set] at hi;obtain ⟨cs,c1,c2,c3⟩:=h3 i hi;by_cases e:i=k
  ·subst e;refine ⟨[.int .u8 ((x.toNat:Nat):Int)],rfl,fun j u hu=>?_,by rw [List.getElem_set_self]; rfl⟩;obtain rfl:j=0:=by
    have:=List.getElem?_eq_some_iff.1 hu;obtain ⟨h,_⟩:=this
    simpa using h
   cases hu;have:=World.cell?_setCell_same W ⟨b,off+i,none⟩ (.int .u8 ((x.toNat:Nat):Int)) y
   rwa [show off+i*1+0=off+i by omega]
  ·refine ⟨cs,c1,fun j u hu=>?_,by rw [List.getElem_set_ne (Ne.symm e)]; exact c3⟩;have hj:j<cs.length:=(List.getElem?_eq_some_iff.1 hu).1;rw [World.cell?_setCell_other _ _ _ _ (fun e2=>by injection e2 with _ e3; omega)];exact c2 j u hu
theorem wJ (x:UInt8) {n:Nat} (h:n≤255):bits BinOp.xor IntKind.u8 ((x.toNat:Nat):Int) (n:Int)=(((x ^^^ UInt8.ofNat n).toNat:Nat):Int):=by
 have hx:=x.toNat_lt;have e:(x ^^^ UInt8.ofNat n).toNat=x.toNat ^^^ n:=by rw [UInt8.toNat_xor,UInt8.toNat_ofNat_of_lt' (by show n<256; omega)]
 rw [e];exact u8_xor_nat x.toNat n hx (by omega)
theorem kZ (l:List cW) (a:Option Addr) (c:Nat) (wh at' one two:Int) {w:World} (hG:GP w w.heap.size) (hn:l.length≤100000000000000) (hc:l.length≤c) (hl:aI bG 16 (fun b=>b<w.heap.size) w a l):Calls Tryz.prog 6 #[.slice a l.length c,.int .i64 wh,.int .i64 at',.int .i64 one,.int .i64 two] w fun e w'=>e = .returned (.bool true)∧Below w.heap.size w w':=by
 obtain ⟨k0,hk,hk0,hk1,hk2⟩:=info_parts nY;have con0:=qT hG;have HG:Hid (GP w w.heap.size):=hG;have L0:Hid (aI bG 16 (fun b=>b<w.heap.size) w a l):=hl;have HN:Hid (l.length≤100000000000000∧l.length≤c):=⟨hn,hc⟩
 clear hl hG hn hc;go_enter Tryz.func6,Tryz.ntmps6;go_wp2_with fail
 refine con0.mono ?_;rintro e w1 ⟨hb1,rfl⟩;have low:∀ {W:World} {a:Option Addr} {l:List cW},Below w.heap.size w W→aI bG 16 (fun b=>b<w.heap.size) w a l→aI bG 16 (fun b=>b<W.heap.size) W a l:=fun hb h=>aI.mono bZ (fun b h _=>Dg h hb.size) (h.nx bZ hb)
 have gup:∀ {W:World},Below w.heap.size w W→GP W W.heap.size:=fun hb=>HG.out.up hb (CX _) hb.size
 have con1:=j9 l a c (gup hb1) (by have:=HN.out; omega) (low hb1 L0.out);have HB1:Hid (Below w.heap.size w w1):=hb1;have HA:Hid (∃ A,A=eZ 0 [] l):=⟨_,rfl⟩
 obtain ⟨A,hA⟩:=HA.out;have HA':Hid (eZ 0 [] l=A):=hA.symm;rw [← hA] at con1;clear con0 hb1 HA hA;go_wp2_with fail
 refine con1.mono ?_;rintro e w2 hE;obtain ⟨hb2,aA,cA,rfl,LA,hcA⟩:=hE.all;clear hE con1;have hal3:=ab w2 (.cells #[.int .i64 (ka A).1,.int .i64 (ka A).2] 27);have QA:=ar w2 #[.int .i64 (ka A).1,.int .i64 (ka A).2] 27;have hb3:=chain hb2 hal3;have hB3:=HB1.out.trans (hb3.mono HB1.out.size);have HB3:Hid (Below w.heap.size w (w2.alloc (.cells #[.int .i64 (ka A).1,.int .i64 (ka A).2] 27))):=hB3;have LA2:Hid (aI jQ 1 (fun b=>w1.heap.size≤b) w2 aA (uK A)):=LA
 have HA3:Hid (Below w2.heap.size w2 (w2.alloc (.cells #[.int .i64 (ka A).1,.int .i64 (ka A).2] 27))):=hal3;have HC:Hid ((uK A).length≤cA):=hcA;have hg3:w.heap.size≤w2.heap.size:=by have:=HB1.out.size; have:=hb2.size; omega
 clear LA hal3 hb2 hb3 hB3 HB1 hcA;go_upto_region 4 with fail
 generalize (w2.alloc (.cells #[.int .i64 (ka A).1,.int .i64 (ka A).2] 27))=w3 at *;obtain ⟨a0,a1⟩:=cX QA;by_cases h1:(ka A).1=0
 case neg =>
  have z1:((ka A).1 != 0)=true:=by rw [bne_iff_ne]; exact h1
  clear h1;go_wp2_with fail
  go_ret;exact ⟨rfl,HB3.out⟩
 rw [h1] at a0;by_cases h2:wh<0
 case pos =>
  clear h1;go_wp2_with fail
  go_ret;exact ⟨rfl,HB3.out⟩
 obtain ⟨k,rfl⟩:∃ k:Nat,wh=k:=⟨wh.toNat,by omega⟩
 by_cases h3:(l.length:Int)≤(k:Int)
 case pos =>
  clear h1;go_wp2_with fail
  go_ret;exact ⟨rfl,HB3.out⟩
 by_cases h4:one<0
 case pos =>
  clear h1;go_wp2_with fail
  go_ret;exact ⟨rfl,HB3.out⟩
 by_cases h5:255<one
 case pos =>
  clear h1;go_wp2_with fail
  go_ret;exact ⟨rfl,HB3.out⟩
 by_cases h6:two<0
 case pos =>
  clear h1;go_wp2_with fail
  go_ret;exact ⟨rfl,HB3.out⟩
 by_cases h7:255<two
 case pos =>
  clear h1;go_wp2_with fail
  go_ret;exact ⟨rfl,HB3.out⟩
 obtain ⟨n1,rfl⟩:∃ n:Nat,one=n:=⟨one.toNat,by omega⟩
 obtain ⟨n2,rfl⟩:∃ n:Nat,two=n:=⟨two.toNat,by omega⟩
 by_cases h8:((n1:Int)+(n2:Int) == 0)=true
 case pos =>
  clear h1;go_wp2_with fail
  go_ret;exact ⟨rfl,HB3.out⟩
 have h8:((n1:Int)+(n2:Int) == 0)=false:=by cases h:((n1:Int)+(n2:Int) == 0) with | true=>exact absurd h h8 | false=>rfl
 have hlt:k<l.length:=by omega
 obtain ⟨r,rfl⟩:∃ r,A = .ok r:=by
  cases A with
  | ok r=>exact ⟨r,rfl⟩
  | error e=>exact absurd h1 (qi l _ _ HA'.out)
 obtain ⟨pre1,pre2⟩:=rX HA'.out hlt;have P1:Hid (eZ 0 [] (l.take k) = .ok (cd (l.take k))):=pre1;have P2:Hid (eZ 0 [] [l[k]] = .ok (df (cb [l[k]]).1)):=pre2;obtain ⟨b,off,rfl,_⟩:=L0.out.AZ hlt;have con2:=j9 (l.take k) (some ⟨b,off,none⟩) c (gup HB3.out) (by have:=HN.out; rw [Dz]; omega) (low HB3.out (L0.out.Bt k));rw [P1.out,Dz,Nat.min_eq_left (Dd hlt)] at con2;have hkl:k≤l.length:=Dd hlt;have hkc:k≤c:=by have:=HN.out; omega
 have h0:0≤k:=Dm _;clear pre1 pre2;go_upto_region 6 with fail
 clear h3 h4 h6 h8 h1;go_wp2_with fail
 refine con2.mono ?_;rintro e w4 ⟨hb4,aP,cP,rfl,LP,hcP⟩;clear con2;have hB4:=HB3.out.trans (hb4.mono (by have:=HB3.out.size; omega));have QA4:=(hb4.block _ (lt_of_heap QA)).trans QA;obtain ⟨g0,g1⟩:=jO QA4;obtain ⟨c0,c1⟩:=cX QA4;have hz3:=lt_of_heap QA;have QE:=dH QA4 (.int .i64 0) (.int .i64 0);have hbE:=iI (g:=w2.heap.size) hB4 hg3 (.int .i64 0) (.int .i64 0);have hb2E:=iI (g:=w2.heap.size) (HA3.out.trans (hb4.mono (by omega))) (CX _) (.int .i64 0) (.int .i64 0)
 have LPE:aI jQ 1 (fun b=>w3.heap.size≤b) ((w4.setCell ⟨w2.heap.size,0,none⟩ (.int .i64 0)).setCell ⟨w2.heap.size,1,none⟩ (.int .i64 0)) aP (cd (l.take k)):=LP.bz pq ⟨by simp,fun b hb _=>by have hb:w3.heap.size≤b:=hb; rw [DN _ ⟨w2.heap.size,1,none⟩ _ b (by show b≠w2.heap.size; omega),DN _ ⟨w2.heap.size,0,none⟩ _ b (by show b≠w2.heap.size; omega)]⟩;have LAE:=LA2.out.bz pq (ay.of hb2E);have hzE:w3.heap.size≤((w4.setCell ⟨w2.heap.size,0,none⟩ (.int .i64 0)).setCell ⟨w2.heap.size,1,none⟩ (.int .i64 0)).heap.size:=by have:=hb4.size; simp; omega
 go_upto_region 7 with fail
 clear LP LA2 HA3 QA4 hB4 g0 g1 c0 c1 a0 a1 QA hb2E;generalize ((w4.setCell ⟨w2.heap.size,0,none⟩ (.int .i64 0)).setCell ⟨w2.heap.size,1,none⟩ (.int .i64 0))=wE at *;have con3:=j9 [l[k]] (some ⟨b,off+k*16,none⟩) (c - k) (gup hbE) (by simp) (low hbE (L0.out.Cc hlt));rw [P2.out] at con3;have kk1:k≤k+1:=Nat.le_succ _;have kk2:k+1≤l.length:=hlt;have kk3:k+1≤c:=by have:=HN.out; omega
 have kk4:k<100000000000000:=by have:=HN.out; omega
 have HQ:Hid (wE.heap[w2.heap.size]? = some (.cells #[.int .i64 0,.int .i64 0] 27 (0,0))):=QE;have HF:Hid (∀ (i:Nat) (x y:UInt8),2≤i→i+1<(df (cb [l[k]]).1).length→(x≠0∨y≠0)→(cd (l.take k)).length+i+1<r.length∧gT ((r.set ((cd (l.take k)).length+i) (r.getD ((cd (l.take k)).length+i) 0 ^^^ x)).set ((cd (l.take k)).length+i+1) (r.getD ((cd (l.take k)).length+i+1) 0 ^^^ y))=((l.take k).map eC,(cd (l.take k)).length)):=fun i x y hi hi2 hxy=>(uw HA'.out hlt hi hi2 hxy).2.2
 have HR:Hid (r.length≤100000∧(df (cb [l[k]]).1).length≤100000∧(cd (l.take k)).length≤100000∧((l.take k).map eC).length=k):=⟨iL l 0 [] (Dm _) HA'.out,iL [l[k]] 0 [] (Dm _) P2.out,iL (l.take k) 0 [] (Dm _) P1.out,by rw [DG,Dz,Nat.min_eq_left hkl]⟩
 have HX:Hid (UInt8.ofNat n1≠0∨UInt8.ofNat n2≠0):=by
  have e8:(n1:Int)+(n2:Int)≠0:=fun e=>h8 (by rw [beq_iff_eq]; exact e)
  by_cases e:n1=0
  ·refine .inr fun h=>?_
   have:=congrArg UInt8.toNat h;rw [UInt8.toNat_ofNat_of_lt' (by show n2<256; omega)] at this;have:n2=0:=this;omega
  ·refine .inl fun h=>?_
   have:=congrArg UInt8.toNat h;rw [UInt8.toNat_ofNat_of_lt' (by show n1<256; omega)] at this;exact e this
 clear QE hz3 hcP h8;go_wp2_with fail
 refine con3.mono ?_;rintro e w6 ⟨hb6,aR,cR,rfl,LR,hcR⟩;have HLR:Hid (aI jQ 1 (fun b=>wE.heap.size≤b) w6 aR (df (cb [l[k]]).1)):=LR;generalize df (cb [l[k]]).1=R at *;generalize cd (l.take k)=P at *;generalize (l.take k).map eC=B at *;have hal7:=ab w6 (.cells #[.int .i64 0,.int .i64 0] 27);have hb7:=chain hb6 hal7;have QG:=ar w6 #[.int .i64 0,.int .i64 0] 27;have QE7:=(hb7.block _ (lt_of_heap HQ.out)).trans HQ.out
 have hB7:Hid (Below w.heap.size w (w6.alloc (.cells #[.int .i64 0,.int .i64 0] 27))):=hbE.trans (hb7.mono hbE.size);have LA7:Hid (aI jQ 1 (fun b=>w1.heap.size≤b) (w6.alloc (.cells #[.int .i64 0,.int .i64 0] 27)) aA (uK (.ok r))):=LAE.bz pq (ay.of hb7);clear con3 P1 P2 HA' LR LPE LAE hb6 hbE HQ hzE L0 hal7 hb7 hcR kk1 kk2 kk3 hb4 HB3;go_upto_region 8 with fail
 generalize (w6.alloc (.cells #[.int .i64 0,.int .i64 0] 27))=w7 at *;obtain ⟨f0,_⟩:=cX QE7;obtain ⟨f1,_⟩:=cX QG;clear QE7 QG;go_upto_region 10 with fail
 clear f0 f1;by_cases h9:at'<2
 case pos =>
  go_wp2_with fail
  go_ret;exact ⟨rfl,hB7.out⟩
 obtain ⟨i,rfl⟩:∃ n:Nat,at'=n:=⟨at'.toNat,by omega⟩
 have hRz:(R.length:Int)≤100000:=by have:=HR.out; omega
 by_cases h10:(R.length:Int) - 1≤(i:Int)
 case pos =>
  go_wp2_with fail
  go_ret;exact ⟨rfl,hB7.out⟩
 obtain ⟨hlen,hrec⟩:=HF.out i _ _ (by omega) (by omega) HX.out;have hal8:=ab w7 (.cells #[] 5);have O8:aQ jQ 5 1 w7.heap.size (fun _=>True) (w7.alloc (.cells #[] 5)) (.slice (some ⟨w7.heap.size,0,none⟩) 0 0) ([]:List UInt8):=⟨[],World.ownsRow_made w7 #[] 0 (CX _) (Dm _) rfl,fun i hi=>by simp at hi⟩
 have la:aI jQ 1 (fun b=>b<w7.heap.size) (w7.alloc (.cells #[] 5)) aA r:=(LA7.out.zW pq).nx pq hal8;have z8:=hal8.size;have A8:Hid (Below w7.heap.size w7 (w7.alloc (.cells #[] 5))):=hal8;have hN1:([]:List UInt8).length+r.length≤4000000:=by have:=HR.out; simp; omega
 have HREC:Hid _:=hrec;have hPz:P.length≤100000:=by have:=HR.out; omega
 have hrz:r.length≤100000:=by have:=HR.out; omega
 clear hal8 LA7 HLR HF HC hrec;go_upto_region 12 with fail
 go_wp2_with (first | (at_builtin; refine ki pq xT rfl 24 5 k0 _ 1 1 Tryz.underlying24 hk hk0 hk1 hk2 rfl (by decide) _ _ rfl rfl O8 rfl (CX _) rfl la hN1 (by decide) z8 ?_))
 intro v9 w9 O9 g9 d9;have O9:aQ jQ 5 1 w7.heap.size (fun _=>True) w9 v9 r:=O9;have r8:∀ k,Value.ownBlock (.slice (some ⟨w7.heap.size,0,none⟩) 0 0)=some k→w7.heap.size≤k:=fun k e=>Nat.le_of_eq (Du e)
 have hA9:Below w7.heap.size w7 w9:=A8.out.grown g9 A8.out.size r8;obtain ⟨a9,c9,rfl,l9⟩:=O9.ls pq (fun _ _=>trivial);have lo9:=l9.zW pq;obtain ⟨g,cur,rfl,hg7,q9,hc9⟩:∃ g cur,a9=some ⟨g,0,none⟩∧w7.heap.size≤g∧w9.heap[g]? = some (.cells cur 5 (0,0))∧r.length≤c9:=by
  obtain ⟨xs,⟨_,⟨e,e2⟩ | ⟨g,cap,cur,e,hb,q,hc,_⟩⟩,_⟩:=O9
  ·omega
  ·injection e with e1 e2 e3
   exact ⟨g,cur,e1,hb,q,by omega⟩
 clear O8 O9 g9 d9 r8 l9 la A8 z8 hN1;obtain ⟨K,hK⟩:∃ K,P.length+i=K:=⟨_,rfl⟩
 have hKz:(P.length:Int)+(i:Int)=(K:Int):=by omega
 rw [hK] at hlen HREC;have hK1:K<r.length:=by omega
 obtain ⟨_,_,e,y1⟩:=lo9.oD hK1;cases e;obtain ⟨_,_,e,y2⟩:=lo9.oD hlen;cases e;rw [Dr] at y1 y2;have y1d:w9.drew.cell? ⟨g,K,none⟩=_:=y1;have y2d:w9.drew.cell? ⟨g,K+1,none⟩=_:=y2;have p1:w9.drew.frozen? ⟨g,K,none⟩=false:=C3 w9 g K _ _ q9;have p2:w9.drew.frozen? ⟨g,K+1,none⟩=false:=C3 w9 g (K+1) _ _ q9;have hKb:K<100000:=by omega
 have q3:=C1 w9 g K cur 5 (.int .u8 (bits BinOp.xor IntKind.u8 ((r[K].toNat:Nat):Int) (n1:Int))) q9;have y3:(w9.setCell ⟨g,K,none⟩ (.int .u8 (bits BinOp.xor IntKind.u8 ((r[K].toNat:Nat):Int) (n1:Int)))).cell? ⟨g,K+1,none⟩=some (.int .u8 ((r[K+1].toNat:Nat):Int)):=by
  rw [World.cell?_setCell_other _ _ _ _ (fun e=>by injection e with _ e; omega)]; exact y2
 have p3:(w9.setCell ⟨g,K,none⟩ (.int .u8 (bits BinOp.xor IntKind.u8 ((r[K].toNat:Nat):Int) (n1:Int)))).frozen? ⟨g,K+1,none⟩=false:=C3 _ g (K+1) _ _ q3;have y3d:(w9.setCell ⟨g,K,none⟩ (.int .u8 (bits BinOp.xor IntKind.u8 ((r[K].toNat:Nat):Int) (n1:Int)))).drew.cell? ⟨g,K+1,none⟩=some (.int .u8 ((r[K+1].toNat:Nat):Int)):=y3;have p3d:(w9.setCell ⟨g,K,none⟩ (.int .u8 (bits BinOp.xor IntKind.u8 ((r[K].toNat:Nat):Int) (n1:Int)))).drew.frozen? ⟨g,K+1,none⟩=false:=p3;have p1w:w9.frozen? ⟨g,K,none⟩=false:=p1;clear q3;go_upto_region 14 with fail
 go_region
 rw [wJ _ (by omega),wJ _ (by omega)];have LS:=(lo9.BG hK1 (r[K] ^^^ UInt8.ofNat n1)).BG (by rw [List.length_set]; exact hlen) (r[K+1] ^^^ UInt8.ofNat n2);have eK:r.getD K 0=r[K]:=by rw [DK,Dj hK1]; rfl
 have eL:r.getD (K+1) 0=r[K+1]:=by rw [DK,Dj hlen]; rfl
 have hrec:=HREC.out;rw [eK,eL] at hrec;rw [Dr,Dr] at LS;have hbS:=((hA9.setCell (p:=⟨g,K,none⟩) hg7 (.int .u8 (((r[K] ^^^ UInt8.ofNat n1).toNat:Nat):Int))).setCell (p:=⟨g,K+1,none⟩) hg7 (.int .u8 (((r[K+1] ^^^ UInt8.ofNat n2).toNat:Nat):Int)))
 have hlS:((r.set K (r[K] ^^^ UInt8.ofNat n1)).set (K+1) (r[K+1] ^^^ UInt8.ofNat n2)).length=r.length:=by rw [List.length_set,List.length_set]
 clear y1 y2 y1d y2d p1 p2 y3 p3 y3d p3d p1w q9 lo9 HREC eK eL;generalize (r.set K (r[K] ^^^ UInt8.ofNat n1)).set (K+1) (r[K+1] ^^^ UInt8.ofNat n2)=C at *;generalize ((w9.setCell ⟨g,K,none⟩ (.int .u8 (((r[K] ^^^ UInt8.ofNat n1).toNat:Nat):Int))).setCell ⟨g,K+1,none⟩ (.int .u8 (((r[K+1] ^^^ UInt8.ofNat n2).toNat:Nat):Int)))=wS at *;have hBS:=(hB7.out.trans (hbS.mono hB7.out.size)).drew;have con5:=me C g 0 c9 (gup hBS) (aI.zW pq (LS.bz pq (ay.of ((CY _ _).drew)))) (by omega) (by omega);rw [hrec,hlS] at con5;have hBl:B.length=k:=HR.out.2.2.2;rw [hBl] at con5
 have HBS:Hid (Below w.heap.size w wS.drew):=hBS;clear LS hrec hbS hlS hA9 hg7 hKz hK hKb hBS hBl hB7 HR;go_wp2_with fail
 refine con5.mono ?_;rintro e w16 ⟨hb16,a16,c16,rfl,_⟩;clear con5;go_wp2_with fail
 go_ret;exact ⟨rfl,HBS.out.trans (hb16.mono HBS.out.size)⟩
end Go.Proofs.YtoknmnngaackkaaGreatDoor
namespace Go.Proofs.YtoknmnngaackkaaGreatDoor
open Go.ChangeShapes Go.WideShapes Go.ChangeAt Go.RowKit Go.Joins
set_option maxRecDepth 100000
set_option maxHeartbeats 16000000
set_option maxRecDepth 100000
set_option maxHeartbeats 4000000
theorem Ay:Tryz.prog.cellsOf 3=1:=by kernel_rfl
theorem CO:Tryz.prog.cellsOf 2=1:=by kernel_rfl
theorem CF:Tryz.prog.cellsOf 4=1:=by kernel_rfl
theorem AL:Tryz.prog.cellsOf 9=1:=by kernel_rfl
theorem Cg:Tryz.prog.cellsOf 53=3:=by kernel_rfl
theorem CB:Tryz.prog.cellsOf 69=2:=by kernel_rfl
theorem zj:Tryz.prog.cellsOf 55=7:=by kernel_rfl
theorem CA:Tryz.prog.cellsOf 75=8:=by kernel_rfl
theorem Cw:Tryz.prog.cellsOf 105=10:=by kernel_rfl
theorem Cy:Tryz.prog.cellsOf 79=21:=by kernel_rfl
theorem Cz:Tryz.prog.cellsOf 50=4:=by kernel_rfl
theorem CD:Tryz.prog.cellsOf 57=16:=by kernel_rfl
theorem Cl:Tryz.prog.cellsOf 45=1:=by kernel_rfl
theorem Cm:Tryz.prog.cellsOf 46=1:=by kernel_rfl
theorem Ck:Tryz.prog.cellsOf 47=1:=by kernel_rfl
theorem Ac:Tryz.prog.cellsOf 48=1:=by kernel_rfl
theorem BX:Tryz.prog.cellsOf 70=1:=by kernel_rfl
theorem A5:Tryz.prog.cellsOf 51=1:=by kernel_rfl
theorem Ce:Tryz.prog.cellsOf 76=1:=by kernel_rfl
theorem Cp:Tryz.prog.cellsOf 77=1:=by kernel_rfl
instance:Inhabited SX:=⟨jN⟩
instance:Inhabited Src:=⟨⟨0,eB,eB,jN⟩⟩
instance:Inhabited fD:=⟨⟨false,false,[],[],false,false,jN,jN,[]⟩⟩
instance:Inhabited cW:=⟨⟨0,eB,[],mF,[],false,jN⟩⟩
section
variable {H:Type} {enc:TypeId × Value→H} {W:World} {hd:Bool}
def qQ {α:Type} (enc:TypeId × Value→H) (W:World) (hd:Bool) (t:TypeId) (En:ir α) (size n:Nat):Prop :=
 ∀ m,m<n→∀ cs x,DataW.trod enc Tryz.prog W 0 (fun _=>true) hd m t cs=some x→∃ y:α,cs.length=size∧En (fun b=>b<W.heap.size) W y cs
theorem qQ.mono {α:Type} {t:TypeId} {En:ir α} {size n k:Nat} (h:qQ enc W hd t En size n) (hk:k≤n):qQ enc W hd t En size k:=fun m hm=>h m (by omega)
theorem fQ {α:Type} [Inhabited α] {En:ir α} {ts t:TypeId} {size fuel:Nat} (hu:Tryz.prog.underlying ts=some (.slice t)) (hq:Tryz.prog.cellsOf t=size) (hp:0<size) (ih:qQ enc W hd t En size fuel) {cs:List Value} {x:DataW H × List MemPlace} (h:DataW.trod enc Tryz.prog W 0 (fun _=>true) hd fuel ts cs=some x) :
  ∃ (a:Option Addr) (cap:Nat) (l:List α),cs = [.slice a l.length cap]∧aI En size (fun b=>b<W.heap.size) W a l:=by
 rcases DataW.trod_slice hu h with ⟨hcs,_⟩ | ⟨a,len,cap,elems,rest,n,hn,hcs,_,_,_,_,hlen,hel,_,_⟩
 ·exact ⟨none,0,[],hcs,.inl rfl⟩
 ·rw [hq] at hel;obtain ⟨f,hf⟩:=Go.Deep.choose_lt (α:=α × List Value) (n:=len) (p:=fun i (y:α × List Value)=>y.2.length=size∧(∀ j,j<size→W.cell? ((a.add (i*size)).add j)=y.2[j]?)∧En (fun b=>b<W.heap.size) W y.1 y.2) (fun i hi=>by
   have key:=hel i hi;rw [Dj (by omega)] at key;obtain ⟨cs',h1,h2⟩:=Option.bind_eq_some_iff.1 key;obtain ⟨_,hl6,hcell⟩:=World.cells?_some h1;obtain ⟨y,hy1,hy2⟩:=ih n (by omega) _ _ h2;exact ⟨(y,cs'),hl6,hcell,hy2⟩)
  refine ⟨some a,cap,(List.range len).map fun i=>(f i).1,by simpa using hcs,?_⟩;by_cases h0:len=0
  ·subst h0; exact .inl rfl
  ·obtain ⟨b,off,spot⟩:=a;obtain ⟨g1,g2,_⟩:=hf 0 (by omega);have hc:=g2 0 hp;rw [Dj (by omega)] at hc;have hspot:spot=none:=by simpa [Addr.add] using World.cell?_spot hc
   subst hspot;have hlt:=World.block_lt_of_cell? W _ hc;rw [bF,bF] at hlt;refine .inr ⟨b,off,rfl,hlt,hlt,fun i hi=>?_⟩;have hi':i<len:=by simpa using hi
   obtain ⟨g1,g2,g3⟩:=hf i hi';refine ⟨(f i).2,g1,fun j u hu=>?_,by simpa using g3⟩;have hj:j<size:=by
    rcases DF j (f i).2.length with h | h
    ·omega
    ·rw [DS h] at hu; cases hu
   have:=g2 j hj;rw [bF,bF,hu] at this;exact this
theorem qE (n:Nat):qQ enc W hd 53 eU 3 n:=by
 intro m hm cs x h;obtain ⟨xs,k,hk,_,hl,hlen,hf⟩:=DataW.trod_struct Tryz.underlying53 h;rw [Cg] at hl
 match xs,hlen with
 | [y0,y1,y2],_ =>
  have h0:=hf 0 _ rfl;have h1:=hf 1 _ rfl;have h2:=hf 2 _ rfl
  match cs,hl with
  | [c0,c1,c2],_ =>
   simp [Ay,CO,AL] at h0 h1 h2;obtain ⟨u0,e0,_,_⟩:=DataW.trod_int Tryz.underlying3 h0;obtain ⟨u1,e1,_,_⟩:=DataW.trod_int Tryz.underlying2 h1;obtain ⟨u2,e2,_,_⟩:=DataW.trod_string Tryz.underlying9 h2;simp at e0 e1 e2;subst e0 e1 e2;exact ⟨(u0,u1,u2),rfl,rfl⟩
theorem xq (n:Nat):qQ enc W hd 69 iq 2 n:=by
 intro m hm cs x h;obtain ⟨xs,k,hk,_,hl,hlen,hf⟩:=DataW.trod_struct Tryz.underlying69 h;rw [CB] at hl
 match xs,hlen with
 | [y0,y1],_ =>
  have h0:=hf 0 _ rfl;have h1:=hf 1 _ rfl
  match cs,hl with
  | [c0,c1],_ =>
   simp [AL,Ay] at h0 h1;obtain ⟨u0,e0,_,_⟩:=DataW.trod_string Tryz.underlying9 h0;obtain ⟨u1,e1,_,_⟩:=DataW.trod_int Tryz.underlying3 h1;simp at e0 e1;subst e0 e1;exact ⟨(u0,u1),rfl,rfl⟩
theorem vm (n:Nat):qQ enc W hd 3 fJ 1 n:=by
 intro m hm cs x h;obtain ⟨u,e,_,_⟩:=DataW.trod_int Tryz.underlying3 h;exact ⟨u,by rw [e]; rfl,e⟩
theorem wP (n:Nat):qQ enc W hd 70 (bo eU 3) 1 n:=by
 intro m hm cs x h;obtain ⟨a,c,l,e,L⟩:=fQ Tryz.underlying70 Cg (by decide) (qE m) h;exact ⟨l,by rw [e]; rfl,a,c,e,L⟩
theorem yW (n:Nat) (ih:qQ enc W hd 55 bO 7 n):qQ enc W hd 55 bO 7 (n+1):=by
 intro m hm cs x h;obtain ⟨xs,k,hk,_,hl,hlen,hf⟩:=DataW.trod_struct Tryz.underlying55 h;rw [zj] at hl
 match xs,hlen with
 | [y0,y1,y2,y3,y4],_ =>
  have h0:=hf 0 _ rfl;have h1:=hf 1 _ rfl;have h2:=hf 2 _ rfl;have h3:=hf 3 _ rfl;have h4:=hf 4 _ rfl
  match cs,hl with
  | [c0,c1,c2,c3,c4,c5,c6],_ =>
   simp [Ay,Cg,AL,Ac] at h0 h1 h2 h3 h4;obtain ⟨u0,e0,_,_⟩:=DataW.trod_int Tryz.underlying3 h0;obtain ⟨v,_,e1⟩:=qE (k+1) k (by omega) _ _ h1;obtain ⟨u2,e2,_,_⟩:=DataW.trod_string Tryz.underlying9 h2;obtain ⟨u3,e3,_,_⟩:=DataW.trod_string Tryz.underlying9 h3;obtain ⟨a4,k4,l4,e4,L4⟩:=fQ Tryz.underlying48 zj (by decide) (ih.mono (by omega)) h4;unfold eU at e1;simp at e0 e1 e2 e3 e4;obtain ⟨r1,r2,r3⟩:=e1;subst e0 r1 r2 r3 e2 e3 e4;exact ⟨.mk u0 v u2 u3 l4,rfl,a4,k4,rfl,L4.zE⟩
theorem hY:∀ n,qQ enc W hd 55 bO 7 n
 | 0=>fun m hm=>absurd hm (by omega)
 | n+1=>yW n (hY n)
theorem wO (n:Nat):qQ enc W hd 75 fy 8 n:=by
 intro m hm cs x h;obtain ⟨xs,k,hk,_,hl,hlen,hf⟩:=DataW.trod_struct Tryz.underlying75 h;rw [CA] at hl
 match xs,hlen with
 | [y0,y1],_ =>
  have h0:=hf 0 _ rfl;have h1:=hf 1 _ rfl
  match cs,hl with
  | [c0,c1,c2,c3,c4,c5,c6,c7],_ =>
   simp [zj,AL] at h0 h1;obtain ⟨u0,_,a0,k0,e0,L0⟩:=hY (k+1) k (by omega) _ _ h0;obtain ⟨u1,e1,_,_⟩:=DataW.trod_string Tryz.underlying9 h1;simp [og] at e0 e1;obtain ⟨r1,r2,r3,r4,r5,r6,r7⟩:=e0;subst r1 r2 r3 r4 r5 r6 r7 e1;exact ⟨(u0,u1),rfl,a0,k0,rfl,L0⟩
theorem wK (n:Nat):qQ enc W hd 105 cQ 10 n:=by
 intro m hm cs x h;obtain ⟨xs,k,hk,_,hl,hlen,hf⟩:=DataW.trod_struct Tryz.underlying105 h;rw [Cw] at hl
 match xs,hlen with
 | [y0,y1,y2,y3],_ =>
  have h0:=hf 0 _ rfl;have h1:=hf 1 _ rfl;have h2:=hf 2 _ rfl;have h3:=hf 3 _ rfl
  match cs,hl with
  | [c0,c1,c2,c3,c4,c5,c6,c7,c8,c9],_ =>
   simp [Ay,AL,zj] at h0 h1 h2 h3;obtain ⟨u0,e0,_,_⟩:=DataW.trod_int Tryz.underlying3 h0;obtain ⟨u1,e1,_,_⟩:=DataW.trod_string Tryz.underlying9 h1;obtain ⟨u2,e2,_,_⟩:=DataW.trod_string Tryz.underlying9 h2;obtain ⟨u3,_,a3,k3,e3,L3⟩:=hY (k+1) k (by omega) _ _ h3;simp [og] at e0 e1 e2 e3;obtain ⟨r1,r2,r3,r4,r5,r6,r7⟩:=e3;subst r1 r2 r3 r4 r5 r6 r7 e0 e1 e2;exact ⟨⟨u0,u1,u2,u3⟩,rfl,a3,k3,rfl,L3⟩
theorem xF (n:Nat):qQ enc W hd 79 b7 21 n:=by
 intro m hm cs x h;obtain ⟨xs,k,hk,_,hl,hlen,hf⟩:=DataW.trod_struct Tryz.underlying79 h;rw [Cy] at hl
 match xs,hlen with
 | [y0,y1,y2,y3,y4,y5,y6,y7,y8],_ =>
  have h0:=hf 0 _ rfl;have h1:=hf 1 _ rfl;have h2:=hf 2 _ rfl;have h3:=hf 3 _ rfl;have h4:=hf 4 _ rfl;have h5:=hf 5 _ rfl;have h6:=hf 6 _ rfl;have h7:=hf 7 _ rfl;have h8:=hf 8 _ rfl
  match cs,hl with
  | [c0,c1,c2,c3,c4,c5,c6,c7,c8,c9,c10,c11,c12,c13,c14,c15,c16,c17,c18,c19,c20],_ =>
   simp [CF,Ce,Cp,zj,Ac] at h0 h1 h2 h3 h4 h5 h6 h7 h8;obtain ⟨u0,e0,_⟩:=DataW.trod_bool Tryz.underlying4 h0;obtain ⟨u1,e1,_⟩:=DataW.trod_bool Tryz.underlying4 h1;obtain ⟨a2,k2,u2,e2,L2⟩:=fQ Tryz.underlying76 CA (by decide) (wO k) h2;obtain ⟨a3,k3,u3,e3,L3⟩:=fQ Tryz.underlying77 Cw (by decide) (wK k) h3;obtain ⟨u4,e4,_⟩:=DataW.trod_bool Tryz.underlying4 h4;obtain ⟨u5,e5,_⟩:=DataW.trod_bool Tryz.underlying4 h5;obtain ⟨u6,_,a6,k6,e6,L6⟩:=hY (k+1) k (by omega) _ _ h6;obtain ⟨u7,_,a7,k7,e7,L7⟩:=hY (k+1) k (by omega) _ _ h7
   obtain ⟨a8,k8,u8,e8,L8⟩:=fQ Tryz.underlying48 zj (by decide) (hY k) h8;simp [og] at e0 e1 e2 e3 e4 e5 e6 e7 e8;obtain ⟨r1,r2,r3,r4,r5,r6,r7⟩:=e6;obtain ⟨s1,s2,s3,s4,s5,s6,s7⟩:=e7;subst e0 e1 e2 e3 e4 e5 r1 r2 r3 r4 r5 r6 r7 s1 s2 s3 s4 s5 s6 s7 e8;exact ⟨⟨u0,u1,u2,u3,u4,u5,u6,u7,u8⟩,rfl,a2,k2,a3,k3,a6,k6,a7,k7,a8,k8,rfl,L2,L3,L6,L7,L8⟩
def CG:ir j3:=fun S W x cs=>∃ p1 d1 p2 d2 p3 d3,cs = [.slice p1 x.parts.length d1,.slice p2 x.ops.length d2,.slice p3 x.order.length d3,.int .i64 x.aE]∧aI b7 21 S W p1 x.parts∧aI fJ 1 S W p2 x.ops∧aI bO 7 S W p3 x.order
theorem wV (n:Nat):qQ enc W hd 50 CG 4 n:=by
 intro m hm cs x h;obtain ⟨xs,k,hk,_,hl,hlen,hf⟩:=DataW.trod_struct Tryz.underlying50 h;rw [Cz] at hl
 match xs,hlen with
 | [y0,y1,y2,y3],_ =>
  have h0:=hf 0 _ rfl;have h1:=hf 1 _ rfl;have h2:=hf 2 _ rfl;have h3:=hf 3 _ rfl
  match cs,hl with
  | [c0,c1,c2,c3],_ =>
   simp [Cm,Ck,Ac,Ay] at h0 h1 h2 h3;obtain ⟨a0,k0,u0,e0,L0⟩:=fQ Tryz.underlying46 Cy (by decide) (xF k) h0;obtain ⟨a1,k1,u1,e1,L1⟩:=fQ Tryz.underlying47 Ay (by decide) (vm k) h1;obtain ⟨a2,k2,u2,e2,L2⟩:=fQ Tryz.underlying48 zj (by decide) (hY k) h2;obtain ⟨u3,e3,_,_⟩:=DataW.trod_int Tryz.underlying3 h3;simp at e0 e1 e2 e3;subst e0 e1 e2 e3;exact ⟨⟨u0,u1,u2,u3⟩,rfl,a0,k0,a1,k1,a2,k2,rfl,L0,L1,L2⟩
theorem vY (n:Nat):qQ enc W hd 57 bG 16 n:=by
 intro m hm cs x h;obtain ⟨xs,k,hk,_,hl,hlen,hf⟩:=DataW.trod_struct Tryz.underlying57 h;rw [CD] at hl
 match xs,hlen with
 | [y0,y1,y2,y3,y4,y5,y6],_ =>
  have h0:=hf 0 _ rfl;have h1:=hf 1 _ rfl;have h2:=hf 2 _ rfl;have h3:=hf 3 _ rfl;have h4:=hf 4 _ rfl;have h5:=hf 5 _ rfl;have h6:=hf 6 _ rfl
  match cs,hl with
  | [c0,c1,c2,c3,c4,c5,c6,c7,c8,c9,c10,c11,c12,c13,c14,c15],_ =>
   simp [Ay,AL,Cl,Cz,A5,CF,zj] at h0 h1 h2 h3 h4 h5 h6;obtain ⟨u0,e0,_,_⟩:=DataW.trod_int Tryz.underlying3 h0;obtain ⟨u1,e1,_,_⟩:=DataW.trod_string Tryz.underlying9 h1;obtain ⟨a2,k2,u2,e2,L2⟩:=fQ Tryz.underlying45 CB (by decide) (xq k) h2;obtain ⟨u3,_,p1,d1,p2,d2,p3,d3,e3,M1,M2,M3⟩:=wV (k+1) k (by omega) _ _ h3;obtain ⟨a4,k4,u4,e4,L4⟩:=fQ Tryz.underlying51 BX (by decide) (wP k) h4;obtain ⟨u5,e5,_⟩:=DataW.trod_bool Tryz.underlying4 h5;obtain ⟨u6,_,a6,k6,e6,L6⟩:=hY (k+1) k (by omega) _ _ h6;simp [og] at e0 e1 e2 e3 e4 e5 e6
   obtain ⟨q1,q2,q3,q4⟩:=e3;obtain ⟨r1,r2,r3,r4,r5,r6,r7⟩:=e6;subst e0 e1 e2 q1 q2 q3 q4 e4 e5 r1 r2 r3 r4 r5 r6 r7;exact ⟨⟨u0,u1,u2,u3,u4,u5,u6⟩,rfl,a2,k2,p1,d1,p2,d2,p3,d3,a4,k4,a6,k6,rfl,L2,M1,M2,M3,L4,L6⟩
theorem rj {r:Reach} {b0:Nat} {v:Value} {d:DataW H} {p:List MemPlace} (hv:Value.okWide Tryz.prog W r b0 22 v) (h:DataW.Trod enc Tryz.prog W 0 (fun _=>true) true 22 v d p):∃ (a:Option Addr) (cap:Nat) (l:List cW),v = .slice a l.length cap∧aI bG 16 (fun b=>b<W.heap.size) W a l:=by
 obtain ⟨a0,xV,cap0,rfl⟩:=okWide_slice Tryz.underlying22 hv;obtain ⟨fuel,hf0⟩:=h;obtain ⟨a,cap,l,e,L⟩:=fQ Tryz.underlying22 CD (by decide) (vY fuel) hf0;simp [Value.cells] at e;obtain ⟨rfl,rfl,rfl⟩:=e;exact ⟨_,_,l,rfl,L⟩
theorem ux:8≤Tryz.prog.bytesOf 57:=by decide +kernel
theorem qp {a:Option Addr} {n cap:Nat} {d:DataW H} {p:List MemPlace} (h:DataW.Trod enc Tryz.prog W 0 (fun _=>true) true 22 (.slice a n cap) d p)
  {ts:List TypeId} {ds:List (DataW H)} (hs:(DataW.weightsEach Tryz.prog ts ds).all (· ≤ reachBytes)=true) {j:Nat} (ht:ts[j]? = some 22) (hd:ds[j]? = some d):n≤100000000000000:=by
 obtain ⟨fuel,hf⟩:=h
 rcases DataW.trod_slice Tryz.underlying22 hf with ⟨hcs,_⟩ | ⟨a',len,cap',elems,rest,m,hm,hcs,hx,_,_,_,hlen,_⟩
 ·simp [Value.cells] at hcs
  omega
 ·simp [Value.cells] at hcs
  obtain ⟨rfl,rfl,rfl⟩:=hcs
  simp only [Prod.mk.injEq] at hx
  have e:=hx.1
  subst e
  have h1:=sized_slice hs ht hd Tryz.underlying22
  simp only [DG] at h1
  have h2:=reachBytes_lt
  have h3:=ux
  have h4:n*8≤(elems.length+rest.length)*Tryz.prog.bytesOf 57:=Nat.mul_le_mul (by omega) h3
  omega
end
end Go.Proofs.YtoknmnngaackkaaGreatDoor
