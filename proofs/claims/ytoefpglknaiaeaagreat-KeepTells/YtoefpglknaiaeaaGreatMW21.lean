import Derived.Test.YtoefpglknaiaeaaGreatMW15
import Derived.Test.YtoefpglknaiaeaaGreatMW20
set_option maxHeartbeats 16000000
set_option maxRecDepth 100000
namespace Go.Proofs.YtoefpglknaiaeaaGreat
open Go.RowKit Go.Lib Go.Shelf _root_.Go.Proofs.Tryz
theorem lF {B:Nat} {W0:World} (g:Nat) (hg:B≤g):∀ (vs:List Value) (W:World) (o:Nat),Below B W0 W→Below B W0 (dI W g o vs)
 | [],_,_,h=>h
 | v :: r,_,o,h=>lF g hg r _ _ (h.setCell (p:=ah g o) hg v)
def dp (ts:List (List Int)) (p:Pl):Int:=if fg ts≠0 then fg ts else (bD ts p 0 1).1
theorem vk (ts:List (List Int)) (p:Pl) (q:Pw) (ta:Option Addr) (tc:Nat) (w:World) (hT:jG w w ta ts) (hp:kH w w p q) (hk:gu p) :
  Calls prog 44 #[.slice ta ts.length tc,fw p q] w fun e w'=>(∃ v,e = .returned (.tuple #[v,.int .i64 (dp ts p)])∧(dp ts p=0→∃ ca cc na nc,v=vJ p q ca (aA ts p).length cc na nc∧EM ts w w.heap.size w' p q ca na)∧(¬ dp ts p=0→v=zV))∧Below w w w':=by
 have E0:=ft.new w p q 31;have l0:=an (bq w (fE p q) 31);have z0:(w.alloc (.cells (fE p q) 31)).heap.size=w.heap.size+1:=by simp
 have h0:=aN w (.cells (fE p q) 31);have h1:Below (w.alloc (.cells (fE p q) 31)).heap.size (w.alloc (.cells (fE p q) 31)) ((w.alloc (.cells (fE p q) 31)).alloc (.cells #[aD,aD,aD,aD,aD,(),aD,bX,bX,bX,bX,bX,bX] 79)):=aN ..
 have QR:=bq (w.alloc (.cells (fE p q) 31)) #[aD,aD,aD,aD,aD,(),aD,bX,bX,bX,bX,bX,bX] 79;rw [z0] at QR;have h01:=chain h0 h1;have EA:=E0.next h1 l0;have zA:w.heap.size+1<((w.alloc (.cells (fE p q) 31)).alloc (.cells #[aD,aD,aD,aD,aD,(),aD,bX,bX,bX,bX,bX,bX] 79)).heap.size:=an QR
 have con:=tM ts ta tc ((w.alloc (.cells (fE p q) 31)).alloc (.cells #[aD,aD,aD,aD,aD,(),aD,bX,bX,bX,bX,bX,bX] 79)) ((hT.next h01 (Mx _)).up h01.size);have HK:Hid (gu p):=hk;generalize hle:dp ts p=le;have HLe:Hid (dp ts p=le):=hle;generalize hte:fg ts=te at con;have HTe:Hid (fg ts=te):=hte;clear hle hte hk E0;unfold fw;go_enter func44,ntmps44;go_wp2_with fail
 clear h0 h1 l0 z0;generalize (w.alloc (.cells (fE p q) 31)).alloc (.cells #[aD,aD,aD,aD,aD,(),aD,bX,bX,bX,bX,bX,bX] 79)=wA at *;refine bC con fun w3 hb3=>?_;clear con;have hA3:=chain h01 hb3;have E3:=EA.next hb3 ag;have QR:=(hb3.block _ ag).trans QR;have z3:=hb3.size;clear EA;dsimp only;by_cases ht:te=0;rotate_left
 ·have el:le=te:=by rw [← HLe.out]; unfold dp; rw [HTe.out,if_pos ht]
  subst el;have HEr:¬ le=0:=ht;have htb:(le != 0)=true:=by simpa using ht
  clear ht HLe HTe;have d0:w3.cell? (ah (w+1) 0)=some (.int .i64 0):=cell_of (i:=0) QR rfl;have f0:w3.frozen? (ah (w+1) 0)=false:=MB w3 (w+1) 0 _ _ QR;have d1:w3.cell? (ah (w+1) 1)=some (.int .i64 0):=cell_of (i:=1) QR rfl;have f1:w3.frozen? (ah (w+1) 1)=false:=MB w3 (w+1) 1 _ _ QR;have d2:w3.cell? (ah (w+1) 2)=some (.int .i64 0):=cell_of (i:=2) QR rfl;have f2:w3.frozen? (ah (w+1) 2)=false:=MB w3 (w+1) 2 _ _ QR
  have d3:w3.cell? (ah (w+1) 3)=some (.int .i64 0):=cell_of (i:=3) QR rfl;have f3:w3.frozen? (ah (w+1) 3)=false:=MB w3 (w+1) 3 _ _ QR;have d4:w3.cell? (ah (w+1) 4)=some (.int .i64 0):=cell_of (i:=4) QR rfl;have f4:w3.frozen? (ah (w+1) 4)=false:=MB w3 (w+1) 4 _ _ QR;have d5:w3.cell? (ah (w+1) 5)=some (.string ⟨#[]⟩):=cell_of (i:=5) QR rfl;have f5:w3.frozen? (ah (w+1) 5)=false:=MB w3 (w+1) 5 _ _ QR
  have d6:w3.cell? (ah (w+1) 6)=some (.int .i64 0):=cell_of (i:=6) QR rfl;have f6:w3.frozen? (ah (w+1) 6)=false:=MB w3 (w+1) 6 _ _ QR;have d7:w3.cell? (ah (w+1) 7)=some (.slice none 0 0):=cell_of (i:=7) QR rfl;have f7:w3.frozen? (ah (w+1) 7)=false:=MB w3 (w+1) 7 _ _ QR;have d8:w3.cell? (ah (w+1) 8)=some (.slice none 0 0):=cell_of (i:=8) QR rfl;have f8:w3.frozen? (ah (w+1) 8)=false:=MB w3 (w+1) 8 _ _ QR
  have d9:w3.cell? (ah (w+1) 9)=some (.slice none 0 0):=cell_of (i:=9) QR rfl;have f9:w3.frozen? (ah (w+1) 9)=false:=MB w3 (w+1) 9 _ _ QR;have d10:w3.cell? (ah (w+1) 10)=some (.slice none 0 0):=cell_of (i:=10) QR rfl;have f10:w3.frozen? (ah (w+1) 10)=false:=MB w3 (w+1) 10 _ _ QR;have d11:w3.cell? (ah (w+1) 11)=some (.slice none 0 0):=cell_of (i:=11) QR rfl;have f11:w3.frozen? (ah (w+1) 11)=false:=MB w3 (w+1) 11 _ _ QR
  have d12:w3.cell? (ah (w+1) 12)=some (.slice none 0 0):=cell_of (i:=12) QR rfl;have f12:w3.frozen? (ah (w+1) 12)=false:=MB w3 (w+1) 12 _ _ QR;have XE:=lF (w+1) (NL _) qX w3 0 hA3;clear QR;go_wp2_with fail
  exact MA (v:=.tuple #[zV,le]) (by simp [results,results44,go_sem,zV,d0,d1,d2,d3,d4,d5,d6,d7,d8,d9,d10,d11,d12]) rfl ⟨⟨_,rfl,fun c=>absurd c HEr,fun _=>rfl⟩,XE⟩
 subst ht;have HL2:Hid (le=(bD ts p 0 1).1):=by show _=_; rw [← HLe.out]; unfold dp; rw [HTe.out,if_neg (by simp)]
 have hal4:=aN w3 (.cells #[.slice ta ts.length tc,aD] 104);have Q4:=bq w3 #[.slice ta ts.length tc,aD] 104;have TY:j9 (w3.alloc (.cells #[.slice ta ts.length tc,aD] 104)) w3 ta ts.length tc 0:=⟨an Q4,cell_of (i:=0) Q4 rfl,cell_of (i:=1) Q4 rfl,MB _ w3 1 _ _ Q4⟩
 have hA4:=chain hA3 hal4;have con:=Hd ts HTe.out p w w3.heap.size ta tc q 0 1 _ (hp.next hA4 (Mx _)) (hT.next hA4 (Mx _)) ag TY ag ag ag ag HK.out;rw [← HL2.out] at con;have E4:=E3.next hal4 ag;have QR:=(hal4.block _ ag).trans QR;have z4:(w3.alloc (.cells #[.slice ta ts.length tc,aD] 104)).heap.size=w3.heap.size+1:=by simp
 obtain ⟨y0,y1,⟨y2,y3,y4,y5,y6,y7⟩,y8,y9,y10⟩:=E4;simp only [MG] at y1 y2 y3 y4 y5 y6 y7 y8 y9 y10;unfold fw at con;clear HL2 HLe HTe E3;go_upto_region 5 with fail
 generalize w3.alloc (.cells #[.slice ta ts.length tc,aD] 104)=w4 at *;go_wp2_with fail
 refine con.mono ?_;rintro e w5 ⟨⟨v5,rfl,hok,hbad⟩,hX5,_⟩;clear con y0 y1 y2 y3 y4 y5 y6 y7 y8 y9 y10;have QR:=(hX5.2 _ ag ag).trans QR;have hA5:Below w w w5:=hA4.trans (hX5.below ag);dsimp only;by_cases he:le=0;rotate_left
 ·obtain rfl:=hbad he;have HEr:¬ le=0:=he;clear hok hbad he;unfold zV;have d0:w5.cell? (ah (w+1) 0)=some (.int .i64 0):=cell_of (i:=0) QR rfl;have f0:w5.frozen? (ah (w+1) 0)=false:=MB w5 (w+1) 0 _ _ QR;have d1:w5.cell? (ah (w+1) 1)=some (.int .i64 0):=cell_of (i:=1) QR rfl;have f1:w5.frozen? (ah (w+1) 1)=false:=MB w5 (w+1) 1 _ _ QR;have d2:w5.cell? (ah (w+1) 2)=some (.int .i64 0):=cell_of (i:=2) QR rfl;have f2:w5.frozen? (ah (w+1) 2)=false:=MB w5 (w+1) 2 _ _ QR
  have d3:w5.cell? (ah (w+1) 3)=some (.int .i64 0):=cell_of (i:=3) QR rfl;have f3:w5.frozen? (ah (w+1) 3)=false:=MB w5 (w+1) 3 _ _ QR;have d4:w5.cell? (ah (w+1) 4)=some (.int .i64 0):=cell_of (i:=4) QR rfl;have f4:w5.frozen? (ah (w+1) 4)=false:=MB w5 (w+1) 4 _ _ QR;have d5:w5.cell? (ah (w+1) 5)=some (.string ⟨#[]⟩):=cell_of (i:=5) QR rfl;have f5:w5.frozen? (ah (w+1) 5)=false:=MB w5 (w+1) 5 _ _ QR
  have d6:w5.cell? (ah (w+1) 6)=some (.int .i64 0):=cell_of (i:=6) QR rfl;have f6:w5.frozen? (ah (w+1) 6)=false:=MB w5 (w+1) 6 _ _ QR;have d7:w5.cell? (ah (w+1) 7)=some (.slice none 0 0):=cell_of (i:=7) QR rfl;have f7:w5.frozen? (ah (w+1) 7)=false:=MB w5 (w+1) 7 _ _ QR;have d8:w5.cell? (ah (w+1) 8)=some (.slice none 0 0):=cell_of (i:=8) QR rfl;have f8:w5.frozen? (ah (w+1) 8)=false:=MB w5 (w+1) 8 _ _ QR
  have d9:w5.cell? (ah (w+1) 9)=some (.slice none 0 0):=cell_of (i:=9) QR rfl;have f9:w5.frozen? (ah (w+1) 9)=false:=MB w5 (w+1) 9 _ _ QR;have d10:w5.cell? (ah (w+1) 10)=some (.slice none 0 0):=cell_of (i:=10) QR rfl;have f10:w5.frozen? (ah (w+1) 10)=false:=MB w5 (w+1) 10 _ _ QR;have d11:w5.cell? (ah (w+1) 11)=some (.slice none 0 0):=cell_of (i:=11) QR rfl;have f11:w5.frozen? (ah (w+1) 11)=false:=MB w5 (w+1) 11 _ _ QR
  have d12:w5.cell? (ah (w+1) 12)=some (.slice none 0 0):=cell_of (i:=12) QR rfl;have f12:w5.frozen? (ah (w+1) 12)=false:=MB w5 (w+1) 12 _ _ QR;have XE:=lF (w+1) (NL _) qX w5 0 hA5;clear QR;go_wp2_with fail
  exact MA (v:=.tuple #[zV,le]) (by simp [results,results44,go_sem,zV,d0,d1,d2,d3,d4,d5,d6,d7,d8,d9,d10,d11,d12]) rfl ⟨⟨_,rfl,fun c=>absurd c HEr,fun _=>rfl⟩,XE⟩
 subst he;obtain ⟨ca,cc,na,nc,rfl,ND⟩:=hok rfl;clear hok hbad;have NDE:=(ND.next (kh (w+1) ag ag (yz p q ca (aA ts p).length cc na nc) w5 0 (Kept.refl _ _ _))).wide (lo':=w.heap.size) ag;have XE:=lF (w+1) (NL _) (yz p q ca (aA ts p).length cc na nc) w5 0 hA5;have d0:w5.cell? (ah (w+1) 0)=some (.int .i64 0):=cell_of (i:=0) QR rfl;have f0:w5.frozen? (ah (w+1) 0)=false:=MB w5 (w+1) 0 _ _ QR;have d1:w5.cell? (ah (w+1) 1)=some (.int .i64 0):=cell_of (i:=1) QR rfl
 have f1:w5.frozen? (ah (w+1) 1)=false:=MB w5 (w+1) 1 _ _ QR;have d2:w5.cell? (ah (w+1) 2)=some (.int .i64 0):=cell_of (i:=2) QR rfl;have f2:w5.frozen? (ah (w+1) 2)=false:=MB w5 (w+1) 2 _ _ QR;have d3:w5.cell? (ah (w+1) 3)=some (.int .i64 0):=cell_of (i:=3) QR rfl;have f3:w5.frozen? (ah (w+1) 3)=false:=MB w5 (w+1) 3 _ _ QR;have d4:w5.cell? (ah (w+1) 4)=some (.int .i64 0):=cell_of (i:=4) QR rfl
 have f4:w5.frozen? (ah (w+1) 4)=false:=MB w5 (w+1) 4 _ _ QR;have d5:w5.cell? (ah (w+1) 5)=some (.string ⟨#[]⟩):=cell_of (i:=5) QR rfl;have f5:w5.frozen? (ah (w+1) 5)=false:=MB w5 (w+1) 5 _ _ QR;have d6:w5.cell? (ah (w+1) 6)=some (.int .i64 0):=cell_of (i:=6) QR rfl;have f6:w5.frozen? (ah (w+1) 6)=false:=MB w5 (w+1) 6 _ _ QR;have d7:w5.cell? (ah (w+1) 7)=some (.slice none 0 0):=cell_of (i:=7) QR rfl
 have f7:w5.frozen? (ah (w+1) 7)=false:=MB w5 (w+1) 7 _ _ QR;have d8:w5.cell? (ah (w+1) 8)=some (.slice none 0 0):=cell_of (i:=8) QR rfl;have f8:w5.frozen? (ah (w+1) 8)=false:=MB w5 (w+1) 8 _ _ QR;have d9:w5.cell? (ah (w+1) 9)=some (.slice none 0 0):=cell_of (i:=9) QR rfl;have f9:w5.frozen? (ah (w+1) 9)=false:=MB w5 (w+1) 9 _ _ QR;have d10:w5.cell? (ah (w+1) 10)=some (.slice none 0 0):=cell_of (i:=10) QR rfl
 have f10:w5.frozen? (ah (w+1) 10)=false:=MB w5 (w+1) 10 _ _ QR;have d11:w5.cell? (ah (w+1) 11)=some (.slice none 0 0):=cell_of (i:=11) QR rfl;have f11:w5.frozen? (ah (w+1) 11)=false:=MB w5 (w+1) 11 _ _ QR;have d12:w5.cell? (ah (w+1) 12)=some (.slice none 0 0):=cell_of (i:=12) QR rfl;have f12:w5.frozen? (ah (w+1) 12)=false:=MB w5 (w+1) 12 _ _ QR;clear QR ND;unfold vJ;go_wp2_with fail
 exact MA (v:=.tuple #[vJ p q ca (aA ts p).length cc na nc,aD]) (by simp [results,results44,go_sem,vJ,d0,d1,d2,d3,d4,d5,d6,d7,d8,d9,d10,d11,d12]) rfl ⟨⟨_,rfl,ca,cc,na,⟨nc,rfl⟩,NDE⟩,XE⟩
def fu:List (List Int)→List (List Zp)→Int
 | c :: l,z :: r=>if bV c z≠0 then bV c z else fu l r
 | _,_=>0
def fI (ts:List (List Int)) (data:List (List Zp)):Int:=if data.length≠ts.length then 8 else fu ts data
theorem tw {l:List (List Int)} {r:List (List Zp)} {j:Nat} (h:j<l.length) (h':j<r.length) (he:¬ bV l[j] r[j]=0):fu (l.drop j) (r.drop j)=bV l[j] r[j]:=by
 rw [MI h,MI h',fu,if_pos he]
theorem qQ {l:List (List Int)} {r:List (List Zp)} {j:Nat} (h:j<l.length) (h':j<r.length) (he:bV l[j] r[j]=0):fu (l.drop j) (r.drop j)=fu (l.drop (j+1)) (r.drop (j+1)):=by
 rw [MI h,MI h',fu,if_neg (by simp [he])]
theorem tW {l:List (List Int)} {r:List (List Zp)} {j:Nat} (h:l.length≤j):fu (l.drop j) (r.drop j)=0:=by
 rw [M7 h,fu];intro a l b r h; cases h
theorem Fe (ts:List (List Int)) (data:List (List Zp)) (ta:Option Addr) (tc:Nat) (a:Option Addr) (cap:Nat) (w:World) (hT:jG w w ta ts) (hD:nN w a data) (h8:ts.length≤8) :
  Calls prog 47 #[.slice ta ts.length tc,.slice a data.length cap] w fun e w'=>e = .returned (.int .i64 (fI ts data))∧Below w w w':=by
 generalize hr:fI ts data=r;have HR:=aB hr;clear hr;go_enter func47,ntmps47;by_cases hl:data.length=ts.length;rotate_left
 ·have hne:((data.length:Int) != (ts.length:Int))=true:=by simp; omega
  have e:r=8:=by rw [← HR.out]; unfold fI; rw [if_pos hl]
  subst e;go_wp2_with fail
  go_ret;exact ⟨rfl,Mz _ _⟩
 have hne:((data.length:Int) != (ts.length:Int))=false:=by simp; omega
 have HR':Hid (r=fu (ts.drop 0) (data.drop 0)):=by show _=_; rw [← HR.out]; unfold fI; rw [if_neg (by simpa using hl)]; rfl
 have hl1:data.length≤ts.length:=by omega
 have hl2:ts.length≤data.length:=by omega
 clear HR hl;go_wp2_with fail
 clear hne;go_loopw [15] (fun i wr=>∃ j:Nat,j≤data.length∧i = .int .i64 j∧Hid (r=fu (ts.drop j) (data.drop j))∧Below w w wr) (fun i _=>data.length - (intOf i).toNat)
 case atStart=>exact ⟨0,MD _,rfl,HR',Mz _ _⟩
 case round =>
  obtain ⟨j,hj,rfl,HT,hb⟩:=hrel;by_cases hlt:j<data.length
  ·have hlt':j<ts.length:=by omega
   obtain ⟨b1,o1,ai,ci,rfl,hb1,c1,hi⟩:=(hT.next hb (Mx _)).elem hlt';obtain ⟨b2,o2,zi,zc,rfl,hb2,c2,hz,_⟩:=(hD.next hb).elem hlt;have hjz:(j:Int)<(data.length:Int):=by omega
   have hjt:(j:Int)<(ts.length:Int):=by omega
   have hj0:(0:Int)≤(j:Int):=by omega
   have HBad:Hid (¬ bV ts[j] data[j]=0→r=bV ts[j] data[j]):=fun c=>HT.out.trans (tw hlt' hlt c)
   have HOk:Hid (bV ts[j] data[j]=0→r=fu (ts.drop (j+1)) (data.drop (j+1))):=fun c=>HT.out.trans (qQ hlt' hlt c)
   have con:=hU ts[j] ai ci zi zc data[j] wr (hi.up hb.size) hz;clear HT;generalize bV ts[j] data[j]=er at *;go_wp2_with fail
   refine bC con fun w5 hb5=>?_;clear con c1 c2;dsimp only;by_cases h0:er=0
   ·have HT':=aB (HOk.out h0);subst h0;clear HBad HOk;go_wp2_with fail
    go_roundw
    case rel=>exact ⟨j+1,by omega,by go_num,HT',chain hb hb5⟩
    case measure=>simp [intOf]; omega
   ·have e:r=er:=HBad.out h0;have h0b:(er != 0)=true:=by simpa using h0
    subst e;clear HBad HOk;go_wp2_with fail
    go_ret;exact ⟨rfl,chain hb hb5⟩
  ·have e:r=0:=by rw [HT.out,tW ag]
   have hjn:¬ (j:Int)<(data.length:Int):=by omega
   subst e;clear HT;go_wp2_with fail
   go_ret;exact ⟨rfl,hb⟩
end Go.Proofs.YtoefpglknaiaeaaGreat
namespace Go.Proofs.YtoefpglknaiaeaaGreat
open Go.RowKit
structure LN (ts:List (List Int)) (data:List (List Zp)):Prop where
 len:data.length=ts.length
 ok:∀ z ∈ data,aM z=0
theorem IW {r:List Vl} (h:aQ r=0):r.length≤8:=by
 unfold aQ at h;by_cases h8:8<r.length
 ·rw [if_pos h8] at h; cases h
 ·omega
theorem tI {ts:List (List Int)} {data:List (List Zp)}:∀ {l:List Pl} {j:Nat} (h:j<l.length),(∀ i (hi:i<l.length),i<j→(aW ts data l[i]).1=0)→¬ (aW ts data l[j]).1=0→(eH ts data l).1=(aW ts data l[j]).1
 | p :: r,0,_,_,he=>by
  simp only [Nw] at he ⊢
  rw [eH,if_pos he]
 | p :: r,j+1,h,hb,he=>by
  have h0:(aW ts data p).1=0:=hb 0 (by simp) ag
  rw [eH,if_neg (by simp [h0])]
  exact tI (l:=r) (by simpa using h) (fun i hi hj=>hb (i+1) (by simpa using hi) ag) he
theorem rP {ts:List (List Int)} {data:List (List Zp)}:∀ {l:List Pl},(∀ r ∈ l,(aW ts data r).1=0)→eH ts data l=(0,l.map fun r=>(aW ts data r).2)
 | [],_=>by rw [eH]; rfl
 | p :: r,h=>by
  rw [eH,if_neg (by simp [h p (by simp)]),rP fun q hq=>h q (by simp [hq])]
  rfl
theorem ng {ts:List (List Int)} {data:List (List Zp)} {p:Pl} {e:Int} (h:(eH ts data p.ks).1=e) (he:¬ e=0):aW ts data p=(e,[]):=by
 cases p; simp only [Pl.ks] at h; rw [aW,h,if_pos he]
theorem nm {ts:List (List Int)} {data:List (List Zp)} {p:Pl} (h:∀ r ∈ p.ks,(aW ts data r).1=0):aW ts data p=bL data p.k p.n p.x p.xs p.gs (p.ks.map (aA ts)) (p.ks.map fun r=>(aW ts data r).2):=by
 cases p; simp only [Pl.ks] at h; rw [aW,rP h,if_neg (by simp),gr]; rfl
def Fx (ts:List (List Int)) (data:List (List Zp)) (p:Pl):Int:=if dp ts p≠0 then dp ts p else if fI ts data≠0 then fI ts data else (aW ts data p).1
def Fq (ts:List (List Int)) (data:List (List Zp)) (p:Pl):List Zp:=if dp ts p≠0∨fI ts data≠0 then [] else (aW ts data p).2
theorem sH:∀ {l:List (List Int)} {r:List (List Zp)},l.length=r.length→fu l r=0→∀ (i:Nat) (h:i<l.length) (h':i<r.length),bV l[i] r[i]=0
 | c :: l,z :: r,hl,h,0,_,_=>by
  rw [fu] at h
  by_cases c0:bV c z=0
  ·exact c0
  ·rw [if_pos c0] at h; exact absurd h c0
 | c :: l,z :: r,hl,h,i+1,h1,h2=>by
  rw [fu] at h
  by_cases c0:bV c z=0
  ·rw [if_neg (by simp [c0])] at h
   exact sH (l:=l) (r:=r) (by simpa using hl) h i (by simpa using h1) (by simpa using h2)
  ·rw [if_pos c0] at h; exact absurd h c0
 | [],_,_,_,i,h1,_=>by simp at h1
 | _ :: _,[],hl,_,_,_,_=>by simp at hl
theorem Ha {ts:List (List Int)} {data:List (List Zp)} (h:fI ts data=0):data.length=ts.length∧∀ (i:Nat) (h:i<ts.length) (h':i<data.length),bV ts[i] data[i]=0:=by
 unfold fI at h;by_cases c:data.length=ts.length
 ·rw [if_neg (by simp [c])] at h;exact ⟨c,sH c.symm h⟩
 ·rw [if_pos c] at h; cases h
theorem vA {ts:List (List Int)} {data:List (List Zp)} (h:fI ts data=0):LN ts data:=by
 obtain ⟨h1,h2⟩:=Ha h;refine ⟨h1,fun z hz=>?_⟩;obtain ⟨i,hi,rfl⟩:=No hz;exact ((gj _ _).1 (h2 i ag hi)).set
theorem Lz {ts:List (List Int)} (h:fg ts=0):ts.length≤8:=by
 unfold fg at h;by_cases c:8<ts.length
 ·rw [if_pos c] at h; cases h
 ·omega
theorem fX {ts:List (List Int)} {p:Pl} (h:dp ts p=0):fg ts=0∧(bD ts p 0 1).1=0:=by
 unfold dp at h;by_cases c:fg ts=0
 ·rw [if_neg (by simp [c])] at h;exact ⟨c,h⟩
 ·rw [if_pos c] at h; exact absurd h c
theorem zt {ts:List (List Int)} {data:List (List Zp)} {p:Pl} (h:¬ dp ts p=0):Fx ts data p=dp ts p∧Fq ts data p = []:=by
 unfold Fx Fq; rw [if_pos h,if_pos (.inl h)]; exact ⟨rfl,rfl⟩
theorem yY {ts:List (List Int)} {data:List (List Zp)} {p:Pl} (h:dp ts p=0) (h':¬ fI ts data=0):Fx ts data p=fI ts data∧Fq ts data p = []:=by
 unfold Fx Fq; rw [if_neg (by simp [h]),if_pos h',if_pos (.inr h')]; exact ⟨rfl,rfl⟩
theorem Cd {ts:List (List Int)} {data:List (List Zp)} {p:Pl} (h:dp ts p=0) (h':fI ts data=0):Fx ts data p=(aW ts data p).1∧Fq ts data p=(aW ts data p).2:=by
 unfold Fx Fq; rw [if_neg (by simp [h]),if_neg (by simp [h']),if_neg (by simp [h,h'])]; exact ⟨rfl,rfl⟩
open Go.Lib Go.Shelf _root_.Go.Proofs.Tryz
theorem Ia (ts:List (List Int)) (B lo:Nat) (p k0:Pl) (q:Pw) (ca:Option Addr) (n cc:Nat) (na:Option Addr) (nc:Nat) (z:List Zp) (za:Option Addr) (zc:Nat) (w:World) (hB:B≤w.heap.size) (hN:rS ts B lo w na p.ks) (hp:kH B w p q) (hk:gu p) (hks:p.ks = [k0]) (hz:aK w za z) :
  Calls prog 73 #[vJ p q ca n cc na nc,.slice za z.length zc] w fun e w'=>∃ v,e = .returned (.tuple #[v,.int .i64 (bL [] p.k p.n p.x p.xs p.gs [aA ts k0] [z]).1])∧eA w w' v (bL [] p.k p.n p.x p.xs p.gs [aA ts k0] [z]).2∧Below w w w':=by
 have hl0:p.ks.length=1:=by rw [hks]; rfl
 rw [hks] at hN;obtain ⟨b,off,q0,c1,cc1,n1,nc1,rfl,hbl,hbt,_,d11,_,ND⟩:=hN.elem (i:=0) (by simp);simp only [Oa,NW,Nw] at d11 ND;have I1:=ND.cols;have lz:0<p.ks.length:=by omega
 obtain ⟨hA,Q⟩:=iV w (xB p q ca n cc (some (ah b off)) p.ks.length nc) 79;have d11A:=(hA.cell (p:=⟨b,off+11,none⟩) hbl).trans d11;generalize hR:bL [] p.k p.n p.x p.xs p.gs [aA ts k0] [z]=R;have HR:=aB hR;have HK:=aB hk;clear hR hk hN ND hks hl0;obtain ⟨re,rz⟩:=R;dsimp only;unfold vJ;go_enter func73,ntmps73;go_wp2_with fail
 generalize w.alloc _=wA at *;have x0:=cell_of (i:=0) Q rfl;have x1:=cell_of (i:=1) Q rfl;have x2:=cell_of (i:=2) Q rfl;have x3:=cell_of (i:=3) Q rfl;have x4:=cell_of (i:=4) Q rfl;have x5:=cell_of (i:=5) Q rfl;have x6:=cell_of (i:=6) Q rfl;have x7:=cell_of (i:=7) Q rfl;have x8:=cell_of (i:=8) Q rfl;have x9:=cell_of (i:=9) Q rfl;have x10:=cell_of (i:=10) Q rfl;have x11:=cell_of (i:=11) Q rfl;have x12:=cell_of (i:=12) Q rfl;have lA:=an Q;have lb:=My hbl hA.size;go_region
 have hd:Below (wA.alloc (.cells (fE p q) 31)).heap.size (wA.alloc (.cells (fE p q) 31)) (wA.alloc (.cells (fE p q) 31)).drew:=(Mz _ _).drew;have hal:=aN wA (.cells (fE p q) 31);have E0:=ft.new wA p q 31;have zA:wA.heap.size<(wA.alloc (.cells (fE p q) 31)).heap.size:=by simp
 have hAd:=chain hA (chain hal hd);have E1:=E0.next hd zA;clear x0 x1 x2 x3 x4 x5 x6 x7 x8 x9 x10 x11 x12 Q d11A E0;generalize (wA.alloc (.cells (fE p q) 31)).drew=wB at *;have hpB:=(hp.next hAd hB).up (MO hB hAd.size);have hcB:=(I1.low hAd hB).at;have hzB:=hz.next hAd;obtain ⟨y0,y1,⟨y2,y3,y4,y5,y6,y7⟩,y8,y9,y10⟩:=E1;simp only [MG] at y1 y2 y3 y4 y5 y6 y7 y8 y9 y10;clear hd hal zA lA lb;by_cases k2:p.k=2;have kb:(p.k == 2)=true:=by simpa using k2
 have e1:re=fU (aA ts k0) p.x z:=by have h:=congrArg Prod.fst HR.out; simp [bL,k2] at h; exact h.symm
 have e2:rz=iQ (aA ts k0) p.x z:=by have h:=congrArg Prod.snd HR.out; simp [bL,k2] at h; exact h.symm
 have con:=vo (aA ts k0) p.x c1 cc1 q.xa q.xc za zc z wB hcB hpB.x hzB;rw [← e1,← e2] at con;unfold fN at con;clear e1 e2 HR k2;rotate_left;have b2:(p.k == 2)=false:=by rw [beq_eq_false_iff_ne]; exact k2
 by_cases k3:p.k=3;have kb:(p.k == 3)=true:=by simpa using k3
 have e1:re=jS (aA ts k0) p.xs z:=by have h:=congrArg Prod.fst HR.out; simp [bL,k3] at h; exact h.symm
 have e2:rz=nr (aA ts k0) p.xs z:=by have h:=congrArg Prod.snd HR.out; simp [bL,k3] at h; exact h.symm
 have con:=Hm (aA ts k0) p.xs c1 cc1 q.sa q.sc za zc z wB hcB hpB.xs hzB;rw [← e1,← e2] at con;clear e1 e2 HR k2 k3;rotate_left;have b3:(p.k == 3)=false:=by rw [beq_eq_false_iff_ne]; exact k3
 by_cases k10:p.k=10;have kb:(p.k == 10)=true:=by simpa using k10
 have e1:re=aM z:=by have h:=congrArg Prod.fst HR.out; simp [bL,k10] at h; exact h.symm
 have e2:rz=jV kZ z:=by have h:=congrArg Prod.snd HR.out; simp [bL,k10] at h; exact h.symm
 have con:=xL za zc z wB hzB;rw [← e1,← e2] at con;clear e1 e2 HR k2 k3 k10;rotate_left;have b10:(p.k == 10)=false:=by rw [beq_eq_false_iff_ne]; exact k10
 by_cases k11:p.k=11;have kb:(p.k == 11)=true:=by simpa using k11
 have e1:re=aM z:=by have h:=congrArg Prod.fst HR.out; simp [bL,k11] at h; exact h.symm
 have e2:rz=jV ln z:=by have h:=congrArg Prod.snd HR.out; simp [bL,k11] at h; exact h.symm
 have con:=zd za zc z wB hzB;rw [← e1,← e2] at con;clear e1 e2 HR k2 k3 k10 k11;rotate_left;have b11:(p.k == 11)=false:=by rw [beq_eq_false_iff_ne]; exact k11
 by_cases k12:p.k=12;have kb:(p.k == 12)=true:=by simpa using k12
 have e1:re=dx (aA ts k0) p.xs p.gs z:=by have h:=congrArg Prod.fst HR.out; simp [bL,k12] at h; exact h.symm
 have e2:rz=ei (aA ts k0) p.xs p.gs z:=by have h:=congrArg Prod.snd HR.out; simp [bL,k12] at h; exact h.symm
 have con:=yt (aA ts k0) p.xs p.gs (fun g _ _=>vP g.1) HK.out.sum c1 cc1 q.sa q.sc q.ga q.gc za zc z wB hcB hpB.xs hpB.gs hzB;rw [← e1,← e2] at con;clear e1 e2 HR k2 k3 k10 k11 k12;rotate_left;have b12:(p.k == 12)=false:=by rw [beq_eq_false_iff_ne]; exact k12
 have e1:re=jU (aA ts k0) p.xs p.n z:=by have h:=congrArg Prod.fst HR.out; simp [bL,k2,k3,k10,k11,k12] at h; exact h.symm
 have e2:rz=lY (aA ts k0) p.xs p.n z:=by have h:=congrArg Prod.snd HR.out; simp [bL,k2,k3,k10,k11,k12] at h; exact h.symm
 have con:=F8 (aA ts k0) p.xs p.n HK.out.n c1 cc1 q.sa q.sc za zc z wB hcB hpB.xs hzB;rw [← e1,← e2] at con;clear e1 e2 HR k2 k3 k10 k11 k12;go_wp2_with fail
 refine con.mono ?_;rintro e w5 ⟨v5,rfl,O5,hb5⟩;clear con y0 y1 y2 y3 y4 y5 y6 y7 y8 y9 y10;have O5':=O5.mono hAd.size;dsimp only;go_wp2_with fail
 exact bJ rfl rfl ⟨_,rfl,O5',chain hAd hb5⟩
 all_goals
  go_wp2_with fail
  refine con.mono ?_;rintro e w5 ⟨v5,rfl,O5,hb5⟩;clear con y0 y1 y2 y3 y4 y5 y6 y7 y8 y9 y10;have O5':=O5.mono hAd.size;dsimp only;go_wp2_with fail
  exact bJ rfl rfl ⟨_,rfl,O5',chain hAd hb5⟩
theorem Ec (ts:List (List Int)) (B lo:Nat) (p k0 k1:Pl) (q:Pw) (ca:Option Addr) (n cc:Nat) (na:Option Addr) (nc:Nat) (z:List Zp) (za:Option Addr) (zc:Nat) (y:List Zp) (ya:Option Addr) (yc:Nat) (w:World) (hB:B≤w.heap.size) (hN:rS ts B lo w na p.ks) (hp:kH B w p q) (hks:p.ks = [k0,k1]) (g0:(aA ts k0).length≤8) (g1:(aA ts k1).length≤8) (hz:aK w za z) (hy:aK w ya y) (hn:za=none→zc=0) :
  Calls prog 74 #[vJ p q ca n cc na nc,.slice za z.length zc,.slice ya y.length yc] w fun e w'=>∃ v,e = .returned (.tuple #[v,.int .i64 (bL [] p.k p.n p.x p.xs p.gs [aA ts k0,aA ts k1] [z,y]).1])∧eA w w' v (bL [] p.k p.n p.x p.xs p.gs [aA ts k0,aA ts k1] [z,y]).2∧Below w w w':=by
 have hl0:p.ks.length=2:=by rw [hks]; rfl
 rw [hks] at hN;obtain ⟨b,off,q0,c1,cc1,n1,nc1,rfl,hbl,hbt,_,d11,_,ND⟩:=hN.elem (i:=0) (by simp);obtain ⟨b',off',q1,c2,cc2,n2,nc2,eb,_,_,_,d24,_,ND1⟩:=hN.elem (i:=1) (by simp);have eb:=Nk eb;injection eb with eb1 eb2
 subst eb1 eb2;simp only [Oa,Nat.one_mul,NW,Nw,NJ] at d11 ND d24 ND1;have I1:=ND.cols;have I2:=ND1.cols;have lz1:(1:Int)<(p.ks.length:Int):=by omega
 have lz:0<p.ks.length:=by omega
 obtain ⟨hA,Q⟩:=iV w (xB p q ca n cc (some (ah b off)) p.ks.length nc) 79;have d11A:=(hA.cell (p:=⟨b,off+11,none⟩) hbl).trans d11;generalize hR:bL [] p.k p.n p.x p.xs p.gs [aA ts k0,aA ts k1] [z,y]=R;have HR:=aB hR;have d24A:=(hA.cell (p:=⟨b,off+13+11,none⟩) hbl).trans d24;clear hR hN ND ND1 hks hl0;obtain ⟨re,rz⟩:=R;dsimp only;unfold vJ;go_enter func74,ntmps74
 go_wp2_with fail
 generalize w.alloc _=wA at *;have x0:=cell_of (i:=0) Q rfl;have x1:=cell_of (i:=1) Q rfl;have x2:=cell_of (i:=2) Q rfl;have x3:=cell_of (i:=3) Q rfl;have x4:=cell_of (i:=4) Q rfl;have x5:=cell_of (i:=5) Q rfl;have x6:=cell_of (i:=6) Q rfl;have x7:=cell_of (i:=7) Q rfl;have x8:=cell_of (i:=8) Q rfl;have x9:=cell_of (i:=9) Q rfl;have x10:=cell_of (i:=10) Q rfl;have x11:=cell_of (i:=11) Q rfl;have x12:=cell_of (i:=12) Q rfl;have lA:=an Q;have lb:=My hbl hA.size;go_region
 have hd:Below (wA.alloc (.cells (fE p q) 31)).heap.size (wA.alloc (.cells (fE p q) 31)) (wA.alloc (.cells (fE p q) 31)).drew:=(Mz _ _).drew;have hal:=aN wA (.cells (fE p q) 31);have E0:=ft.new wA p q 31;have zA:wA.heap.size<(wA.alloc (.cells (fE p q) 31)).heap.size:=by simp
 have hAd:=chain hA (chain hal hd);have E1:=E0.next hd zA;clear x0 x1 x2 x3 x4 x5 x6 x7 x8 x9 x10 x11 x12 Q d11A d24A E0;generalize (wA.alloc (.cells (fE p q) 31)).drew=wB at *;have hpB:=(hp.next hAd hB).up (MO hB hAd.size);have hcB:=(I1.low hAd hB).at;have hdB:=(I2.low hAd hB).at;have hyB:=hy.next hAd;have hzB:=hz.next hAd;obtain ⟨y0,y1,⟨y2,y3,y4,y5,y6,y7⟩,y8,y9,y10⟩:=E1;simp only [MG] at y1 y2 y3 y4 y5 y6 y7 y8 y9 y10;clear hd hal zA lA lb;by_cases k4:p.k=4;have kb:(p.k == 4)=true:=by simpa using k4
 have e1:re=cw 0 (aA ts k0) (aA ts k1) p.x z y:=by have h:=congrArg Prod.fst HR.out; simp [bL,k4] at h; exact h.symm
 have e2:rz=cB 0 (aA ts k0) (aA ts k1) p.x z y:=by have h:=congrArg Prod.snd HR.out; simp [bL,k4] at h; exact h.symm
 have con:=Cy (aA ts k0) (aA ts k1) p.x c1 cc1 c2 cc2 q.xa q.xc za zc z ya yc y wB hcB hdB hpB.x hzB hyB ag ag;rw [← e1,← e2] at con;unfold fN at con;clear e1 e2 HR k4;rotate_left;have b4:(p.k == 4)=false:=by rw [beq_eq_false_iff_ne]; exact k4
 by_cases k5:p.k=5;have kb:(p.k == 5)=true:=by simpa using k5
 have e1:re=cw 1 (aA ts k0) (aA ts k1) p.x z y:=by have h:=congrArg Prod.fst HR.out; simp [bL,k5] at h; exact h.symm
 have e2:rz=cB 1 (aA ts k0) (aA ts k1) p.x z y:=by have h:=congrArg Prod.snd HR.out; simp [bL,k5] at h; exact h.symm
 have con:=IX (aA ts k0) (aA ts k1) p.x c1 cc1 c2 cc2 q.xa q.xc za zc z ya yc y wB hcB hdB hpB.x hzB hyB ag ag;rw [← e1,← e2] at con;unfold fN at con;clear e1 e2 HR k4 k5;rotate_left;have b5:(p.k == 5)=false:=by rw [beq_eq_false_iff_ne]; exact k5
 by_cases k6:p.k=6;have kb:(p.k == 6)=true:=by simpa using k6
 have e1:re=cw 2 (aA ts k0) (aA ts k1) p.x z y:=by have h:=congrArg Prod.fst HR.out; simp [bL,k6] at h; exact h.symm
 have e2:rz=cB 2 (aA ts k0) (aA ts k1) p.x z y:=by have h:=congrArg Prod.snd HR.out; simp [bL,k6] at h; exact h.symm
 have con:=IP (aA ts k0) (aA ts k1) p.x c1 cc1 c2 cc2 q.xa q.xc za zc z ya yc y wB hcB hdB hpB.x hzB hyB ag ag;rw [← e1,← e2] at con;unfold fN at con;clear e1 e2 HR k4 k5 k6;rotate_left;have b6:(p.k == 6)=false:=by rw [beq_eq_false_iff_ne]; exact k6
 by_cases k7:p.k=7;have kb:(p.k == 7)=true:=by simpa using k7
 have e1:re=cw 3 (aA ts k0) (aA ts k1) p.x z y:=by have h:=congrArg Prod.fst HR.out; simp [bL,k7] at h; exact h.symm
 have e2:rz=cB 3 (aA ts k0) (aA ts k1) p.x z y:=by have h:=congrArg Prod.snd HR.out; simp [bL,k7] at h; exact h.symm
 have con:=left_at (aA ts k0) (aA ts k1) p.x c1 cc1 c2 cc2 q.xa q.xc za zc z ya yc y wB hcB hdB hpB.x hzB hyB ag ag;rw [← e1,← e2] at con;unfold fN at con;clear e1 e2 HR k4 k5 k6 k7;rotate_left;have b7:(p.k == 7)=false:=by rw [beq_eq_false_iff_ne]; exact k7
 by_cases k8:p.k=8;have kb:(p.k == 8)=true:=by simpa using k8
 have e1:re=eJ 1 z y:=by have h:=congrArg Prod.fst HR.out; simp [bL,k8] at h; exact h.symm
 have e2:rz=dM 1 z y:=by have h:=congrArg Prod.snd HR.out; simp [bL,k8] at h; exact h.symm
 have con:=Kh za ya zc yc z y wB hzB hyB hn;rw [← e1,← e2] at con;clear e1 e2 HR k4 k5 k6 k7 k8;rotate_left;have b8:(p.k == 8)=false:=by rw [beq_eq_false_iff_ne]; exact k8
 have e1:re=eJ (-1) z y:=by have h:=congrArg Prod.fst HR.out; simp [bL,k4,k5,k6,k7,k8] at h; exact h.symm
 have e2:rz=dM (-1) z y:=by have h:=congrArg Prod.snd HR.out; simp [bL,k4,k5,k6,k7,k8] at h; exact h.symm
 have con:=J9 za ya zc yc z y wB hzB hyB hn;rw [← e1,← e2] at con;clear e1 e2 HR k4 k5 k6 k7 k8;go_wp2_with fail
 refine con.mono ?_;rintro e w5 ⟨v5,rfl,O5,hb5⟩;clear con y0 y1 y2 y3 y4 y5 y6 y7 y8 y9 y10;have O5':=O5.mono hAd.size;dsimp only;go_wp2_with fail
 exact bJ rfl rfl ⟨_,rfl,O5',chain hAd hb5⟩
 all_goals
  go_wp2_with fail
  refine con.mono ?_;rintro e w5 ⟨v5,rfl,O5,hb5⟩;clear con y0 y1 y2 y3 y4 y5 y6 y7 y8 y9 y10;have O5':=O5.mono hAd.size;dsimp only;go_wp2_with fail
  exact bJ rfl rfl ⟨_,rfl,O5',chain hAd hb5⟩
theorem EG {n:Nat} (h:n≤2) (w:World):(Instr.makeSlice 32 n n).run prog w = .ok (.slice (some (ah w 0)) n n) (w.alloc (.cells (Array.replicate n bX) 38)):=by
 obtain rfl | rfl | rfl:n=0∨n=1∨n=2:=by omega
 all_goals kernel_rfl
theorem Jd {W w1:World} {base e size n g:Nat} {v:Value} {xs:List Value} (h:W.ownsRow base e size v n xs) (hb:aw g W w1) (hg:g<base):w1.ownsRow base e size v n xs:=by
 obtain ⟨h0,⟨h1,h2⟩ | ⟨k,cap,cur,h1,h2,h3,h4⟩⟩:=h
 ·exact ⟨h0,.inl ⟨h1,h2⟩⟩
 ·exact ⟨h0,.inr ⟨k,cap,cur,h1,h2,(hb.2 k (an h3) ag).trans h3,h4⟩⟩
theorem KV {W w1:World} {g:Nat} {c:Array Value} {T:TypeId} {y:Nat × Nat} (hq:W.heap[g]? = some (.cells c T y)) (hT:T≠24) (hb:aw g W w1) {a:Option Addr} {r:List Vl} (h:aZ W a r) (ht:fi W a):aZ w1 a r∧fi w1 a:=by
 have key:∀ b off,a=some ⟨b,off,none⟩→w1.heap[b]? = W.heap[b]?:=by
  intro b off e;obtain ⟨c',z,h1⟩:=ht b off e;refine hb.2 b (an h1) ?_;intro e';subst e';rw [hq] at h1;have:=Nk h1;injection this with _ e2
  exact hT e2
 refine ⟨⟨h.1,?_⟩,?_⟩
 ·rcases h.2 with h | ⟨b,off,e,hr,hlt⟩
  ·exact .inl h
  ·refine .inr ⟨b,off,e,fun i hi=>?_,My hlt hb.size⟩;have k:=key b off e;obtain ⟨c0,c1,c2⟩:=hr i hi;exact ⟨(MP (a:=⟨b,_,none⟩) k).trans c0,(MP (a:=⟨b,_,none⟩) k).trans c1,(MP (a:=⟨b,_,none⟩) k).trans c2⟩
 ·intro b off e;obtain ⟨c',z,h1⟩:=ht b off e;exact ⟨c',z,(key b off e).trans h1⟩
theorem eA.Fu {W w1:World} {base g:Nat} {v:Value} {l:List Zp} {c:Array Value} {T:TypeId} {y:Nat × Nat} (h:eA base W v l) (hq:W.heap[g]? = some (.cells c T y)) (hT:T≠24) (hb:aw g W w1) (hg:g<base):eA base w1 v l:=by
 obtain ⟨xs,h1,h2,h3⟩:=h;refine ⟨xs,Jd h1 hb hg,h2,fun i hi=>?_⟩;obtain ⟨a,cap,e0,e1,e2,e3⟩:=h3 i hi;have:=KV hq hT hb e2 e3;exact ⟨a,cap,e0,e1,this.1,this.2⟩
structure zX (W:World) (g n:Nat) (zs:List (List Zp)):Prop where
 ty:∃ c y,W.heap[g]? = some (.cells c 38 y)
 room:∀ o,o<n→∃ u,W.cell? (ah g o)=some u
 fz:∀ o,W.frozen? (ah g o)=false
 laid:∀ (i:Nat) (h:i<zs.length),∃ v base,g<base∧W.cell? (ah g i)=some v∧eA base W v zs[i]
theorem zX.lt {W:World} {g n:Nat} {zs:List (List Zp)} (h:zX W g n zs):g<W.heap.size:=by obtain ⟨_,_,h⟩:=h.ty; exact an h
theorem zX.new (w:World) (n:Nat):zX (w.alloc (.cells (Array.replicate n bX) 38)) w n []:=by
 have q:=bq w (Array.replicate n bX) 38;exact ⟨⟨_,_,q⟩,fun o ho=>⟨.slice none 0 0,cell_of (i:=o) q (by simp [ho])⟩,fun o=>MB _ w o _ _ q,fun i hi=>by cases hi⟩
theorem zX.next {W w1:World} {g n:Nat} {zs:List (List Zp)} (h:zX W g n zs) (hb:Below W W w1):zX w1 g n zs:=by
 have hl:=h.lt;refine ⟨?_,fun o ho=>?_,fun o=>(hb.frozen (p:=ah g o) hl).trans (h.fz o),fun i hi=>?_⟩
 ·obtain ⟨c,y,q⟩:=h.ty;exact ⟨c,y,(hb.block _ hl).trans q⟩
 ·obtain ⟨u,hu⟩:=h.room o ho;exact ⟨u,(hb.cell (p:=ah g o) hl).trans hu⟩
 ·obtain ⟨v,base,h1,h2,h3⟩:=h.laid i hi;exact ⟨v,base,h1,(hb.cell (p:=ah g i) hl).trans h2,h3.next hb⟩
theorem zX.store {W:World} {g n base:Nat} {zs:List (List Zp)} (h:zX W g n zs) (hn:zs.length<n) {v:Value} {z:List Zp} (hv:eA base W v z) (hg:g<base):zX (W.setCell (ah g zs.length) v) g n (zs ++ [z]):=by
 obtain ⟨c,y,q⟩:=h.ty;have X:=(aw.refl g W).set zs.length v;have hT:38≠24:=by decide
 refine ⟨?_,fun o ho=>?_,fun o=>by rw [Na]; exact h.fz o,fun i hi=>?_⟩
 ·have hlt:=an q;have q':W.heap[g] = .cells c 38 y:=by simpa [Ny hlt] using q
  refine ⟨c.setIfInBounds zs.length v,y,?_⟩;show (W.heap.modify g _)[g]? = _;rw [Ny (by simpa using hlt),Array.getElem_modify_self,q'];rfl
 ·by_cases e:o=zs.length
  ·subst e;obtain ⟨u,hu⟩:=h.room zs.length hn;exact ⟨v,NB _ _ _ hu⟩
  ·obtain ⟨u,hu⟩:=h.room o ho;exact ⟨u,by rw [MN _ _ _ _ (by intro e'; injection e' with _ e'; exact e e'.symm)]; exact hu⟩
 ·by_cases e:i<zs.length
  ·obtain ⟨v',base',h1,h2,h3⟩:=h.laid i e;rw [MV e];exact ⟨v',base',h1,by rw [MN _ _ _ _ (by intro e'; injection e' with _ e'; omega)]; exact h2,h3.Fu q hT X h1⟩
  ·have e:i=zs.length:=by simp at hi; omega
   subst e;obtain ⟨u,hu⟩:=h.room zs.length hn;exact ⟨v,base,hg,NB _ _ _ hu,by simpa using hv.Fu q hT X hg⟩
structure Mc (cols:List Int) (z:List Zp):Prop where
 set:gJ z
 Mj:gN cols z
theorem Dt {t:Int} {a b:List Zp} (h:eJ t a b=0):aM a=0∧aM b=0∧aR (a ++ bF (bU t) b)=0∧dM t a b=canon (a ++ bF (bU t) b):=by
 have e:dM t a b=canon (a ++ bF (bU t) b):=by unfold dM; rw [if_pos h]
 unfold eJ at h;by_cases h1:aM a=0
 ·rw [if_pos h1] at h;by_cases h2:aM b=0
  ·rw [if_pos h2] at h;exact ⟨h1,h2,h,e⟩
  ·rw [if_neg h2] at h; exact absurd h h2
 ·rw [if_neg h1] at h; exact absurd h h1
theorem He {t:Int} {q:List Zp} (h:aM q=0) (k:List Vl):wt (bF (bU t) q) k=t*wt q k:=by
 rw [jy (bU t) (by simp [bU]) k q ((cq q).1 h).2.2];rfl
theorem zP {t:Int} {p q:List Zp} (h:eJ t p q=0):aM p=0∧aM q=0∧gJ (dM t p q)∧aM (dM t p q)=0∧∀ k,wt (dM t p q) k=wt p k+t*wt q k:=by
 obtain ⟨h1,h2,h3,e⟩:=Dt h;rw [e];refine ⟨h1,h2,eM _,xX (fun y hy=>?_) h3,fun k=>?_⟩
 ·rcases List.mem_append.1 hy with hy | hy
  ·exact (((cq p).1 h1).2.1 y hy).1
  ·obtain ⟨x,hx,rfl,_⟩:=jQ _ _ y hy;exact (nF _).2 (((cq q).1 h2).2.1 x hx).1
 ·rw [gS,cL,He h2]
theorem Mc.right {c:List Int} {z:List Zp} (h:Mc c z):aM z=0:=h.Mj.set
structure Cl (data more now:List (List Zp)):Prop where
 len:more.length=data.length
 Kl:now.length=data.length
 err:∀ (i:Nat) (h:i<data.length) (h':i<more.length),eJ 1 data[i] more[i]=0
 get:∀ (i:Nat) (h:i<data.length) (h':i<more.length) (h'':i<now.length),now[i]=dM 1 data[i] more[i]
theorem Cl.wt {data more now:List (List Zp)} (h:Cl data more now) (i:Nat) (k:List Vl):wt (now.getD i []) k=wt (data.getD i []) k+wt (more.getD i []) k:=by
 by_cases hi:i<data.length
 ·have h1:i<more.length:=by rw [h.len]; exact hi
  have h2:i<now.length:=by rw [h.Kl]; exact hi
  rw [NI,NI,NI,M1 hi,M1 h1,M1 h2,Option.getD_some,Option.getD_some,Option.getD_some,h.get i hi h1 h2,(zP (h.err i hi h1)).2.2.2.2 k,Int.one_mul]
 ·have h1:¬ i<more.length:=by rw [h.len]; exact hi
  have h2:¬ i<now.length:=by rw [h.Kl]; exact hi
  rw [NI,NI,NI,Nr ag,Nr ag,Nr ag];rfl
theorem Cl.set {data more now:List (List Zp)} (h:Cl data more now) (i:Nat) (hi:i<now.length):gJ now[i]:=by
 have h0:i<data.length:=by rw [← h.Kl]; exact hi
 have h1:i<more.length:=by rw [h.len]; exact h0
 rw [h.get i h0 h1 hi];exact (zP (h.err i h0 h1)).2.2.1
theorem xY {z:List Zp} (h:¬ aR z=0):bh z = []:=by unfold bh; rw [if_neg h]
theorem CO {data:List (List Zp)} {k n:Int} {x:Ex} {xs:List Ex} {gs:List Ag} {cs:List (List Int)} {zs:List (List Zp)} (h:¬ (bL data k n x xs gs cs zs).1=0):(bL data k n x xs gs cs zs).2 = []:=by
 have hg:¬ aR (data.getD n.toNat [])=0→bh (data.getD n.toNat []) = []:=xY
 match cs,zs,h with
 | [c],[z],h =>
  simp only [bL] at h ⊢;by_cases k2:k=2
  ·rw [if_pos k2] at h ⊢; unfold iQ; rw [if_neg h]
  rw [if_neg k2] at h ⊢;by_cases k3:k=3
  ·rw [if_pos k3] at h ⊢; unfold nr; rw [if_neg h]
  rw [if_neg k3] at h ⊢;by_cases k10:k=10
  ·rw [if_pos k10] at h ⊢; unfold jV; rw [if_neg h]
  rw [if_neg k10] at h ⊢;by_cases k11:k=11
  ·rw [if_pos k11] at h ⊢; unfold jV; rw [if_neg h]
  rw [if_neg k11] at h ⊢;by_cases k12:k=12
  ·rw [if_pos k12] at h ⊢; unfold ei; rw [if_neg h]
  rw [if_neg k12] at h ⊢;unfold lY; rw [if_neg h]
 | l :: r :: cr,a :: b :: zr,h =>
  simp only [bL] at h ⊢;by_cases k4:k=4
  ·rw [if_pos k4] at h ⊢; unfold cB; rw [if_neg h]
  rw [if_neg k4] at h ⊢;by_cases k5:k=5
  ·rw [if_pos k5] at h ⊢; unfold cB; rw [if_neg h]
  rw [if_neg k5] at h ⊢;by_cases k6:k=6
  ·rw [if_pos k6] at h ⊢; unfold cB; rw [if_neg h]
  rw [if_neg k6] at h ⊢;by_cases k7:k=7
  ·rw [if_pos k7] at h ⊢; unfold cB; rw [if_neg h]
  rw [if_neg k7] at h ⊢;by_cases k8:k=8
  ·rw [if_pos k8] at h ⊢; unfold dM; rw [if_neg h]
  rw [if_neg k8] at h ⊢;unfold dM; rw [if_neg h]
 | [],_,h=>exact hg h
 | [_],[],h=>exact hg h
 | [_],_ :: _ :: _,h=>exact hg h
 | _ :: _ :: _,[],h=>exact hg h
 | _ :: _ :: _,[_],h=>exact hg h
theorem AE {ts:List (List Int)} {data:List (List Zp)} {p:Pl} (h:¬ (aW ts data p).1=0):(aW ts data p).2 = []:=by
 cases p with
 | mk k n x xs gs ks =>
  rw [aW] at h ⊢;by_cases c:(eH ts data ks).1=0
  ·rw [if_neg (by simpa using c)] at h ⊢;exact CO h
  ·rw [if_pos c]
end Go.Proofs.YtoefpglknaiaeaaGreat
namespace Go.Proofs.YtoefpglknaiaeaaGreat
open Go.RowKit Go.Lib Go.Shelf _root_.Go.Proofs.Tryz
theorem lP (cols:List Int) (gs:List Ag) (ca:Option Addr) (ccap:Nat) (xa:Option Addr) (xcap:Nat) (w:World) (hk:iO w w xa gs) (hc:bf w w ca cols) (h8:gs.length≤8) :
  Calls prog 70 #[.slice ca cols.length ccap,.slice xa gs.length xcap] w fun e w'=>∃ v,e = .returned (.tuple #[v,.int .i64 (dF cols gs)])∧(dF cols gs=0→w'.ownsRow w 3 1 v gs.length (ints (dO cols gs)))∧(¬ dF cols gs=0→v = .slice none 0 0)∧Below w w w':=by
 obtain ⟨ii,hii,hv0,hv1,hv2⟩:=info_parts qU;generalize hle:dF cols gs=le;have HE:=aB hle;clear hle;go_enter func70,ntmps70;go_wp2_with fail
 go_loopw [6,13] (fun v i wr=>∃ j:Nat,j≤gs.length∧i = .int .i64 j∧wr.ownsRow w 3 1 v j (ints (dO cols (gs.take j)))∧Hid (le=dF cols (gs.drop j))∧Below w w wr) (fun _ i _=>gs.length - (intOf i).toNat)
 case atStart=>exact ⟨0,MD _,rfl,M4 _ _ _ _,HE.out.symm,Mz _ _⟩
 case round =>
  obtain ⟨j,hj,rfl,Oj,HT,hb⟩:=hrel;have hzb:=hb.size;by_cases hlt:j<gs.length
  ·obtain ⟨b,off,ai,ci,rfl,hbl,x0,sx,kx⟩:=(iO.next hb (Mx _) hk).elem hlt;obtain ⟨x1,x2,x3,x4,x5,x6⟩:=sx;have hjz:(j:Int)<gs.length:=by omega
   obtain ⟨hal,q0⟩:=iV wr #[.int .i64 gs[j].1,.int .i64 gs[j].2.k,.int .i64 gs[j].2.v.1,.int .i64 gs[j].2.v.2.1,.string gs[j].2.v.2.2,.int .i64 gs[j].2.c,.slice ai gs[j].2.ks.length ci] 123
   have HY:Hid (ints (dO cols (gs.take (j+1)))=ints (dO cols (gs.take j)) ++ [.int .i64 (wP cols gs[j])]):=by show _=_; rw [sS cols hlt,vN]
   have HA:Hid (wP cols gs[j]=if gs[j].1=4∨gs[j].1=5 then (ax cols gs[j].2).1 else 3):=rfl;generalize ints (dO cols (gs.take j))=ys at *;generalize wP cols gs[j]=at1 at *;have O1:=aL Oj hal;have hA1:=chain hb hal;have kk:=(aU.next hal hzb kx).up (MO hzb hal.size);have cc:=((hc.next hb (Mx _)).next hal hzb).up (MO hzb hal.size);have con:=nQ cols gs[j].2 ca ccap ai ci _ kk cc
   have HMe:Hid (dh cols gs[j]=if gs[j].1=1 then 0 else if gs[j].1<2∨5<gs[j].1 then 1 else if (ax cols gs[j].2).2≠0 then (ax cols gs[j].2).2 else if gs[j].1=3∧(ax cols gs[j].2).1≠3∧(ax cols gs[j].2).1≠1 then 9 else 0):=rfl;unfold fN at con;go_upto_region 5 with fail
   clear x0 x1 x2 x3 x4 x5 x6 kx kk cc;generalize wr.alloc _=wk at *;have HOk:Hid (dh cols gs[j]=0→le=dF cols (gs.drop (j+1))):=fun h=>HT.out.trans (tu cols gs j hlt h)
   have HBad:Hid (¬ dh cols gs[j]=0→le=dh cols gs[j]):=fun h=>HT.out.trans (vI cols gs j hlt h)
   clear HT Oj;generalize hkd:gs[j].1=kd at *;clear hkd;have hz1:=hA1.size;have p0:=cell_of (i:=0) q0 rfl;have p1:=cell_of (i:=1) q0 rfl;have p2:=cell_of (i:=2) q0 rfl;have p3:=cell_of (i:=3) q0 rfl;have p4:=cell_of (i:=4) q0 rfl
   have p5:=cell_of (i:=5) q0 rfl;have p6:=cell_of (i:=6) q0 rfl;by_cases hr:kd<1∨5<kd
   ·have em:dh cols gs[j]=1:=by rw [HMe.out,if_neg ag,if_pos ag]
    have el:le=1:=by rw [HBad.out (by rw [em]; decide),em]
    subst el;clear con HMe HOk HBad em HY HA;by_cases hr1:kd<1;rotate_left;have hr2:5<kd:=by omega
    all_goals
     go_wp2_with fail
     first
      | exact bJ rfl rfl ⟨_,rfl,fun c=>absurd c (by decide),fun _=>rfl,hA1⟩
      | exact bJ rfl rfl ⟨_,rfl,rfl,hA1⟩
      | exact bJ rfl rfl ⟨rfl,hA1⟩
   ·have hr1:¬ kd<1:=fun h=>hr (.inl h)
    have hr2:¬ 5<kd:=fun h=>hr (.inr h)
    clear hr;by_cases h1:kd=1
    ·subst h1;have HN:=aB (HOk.out (by rw [HMe.out,if_pos rfl]));have HZ:Hid (ints (dO cols (gs.take (j+1)))=ys ++ [.int .i64 3]):=by show _=_; rw [HY.out,HA.out,if_neg (by decide)]
     clear con HMe HOk HBad HY HA;have pJ:∀ u ∈ [Value.int .i64 3],u.oneCell'=true:=by intro u hu; simp at hu; subst hu; rfl
     have at1:∀ i u,[Value.int .i64 3][i]? = some u→(wk.alloc (.cells #[(3:Int)] 3)).cell? (((ah wk 0):Addr).add i)=some u:=by
      intro i u hu
      match i,hu with
      | 0,hu=>simp at hu; subst hu; simp [Addr.add]
     have len1:j+1≤maxLen:=by unfold maxLen; omega
     have byt1:(j+1)*8≤140737488355328:=by omega
     have bas1:w.heap.size≤(wk.alloc (.cells #[(3:Int)] 3)).heap.size:=by simp; omega
     have OA:=O1.alloc (.cells #[(3:Int)] 3);go_wp2_with (first | (at_builtin; refine MX _ rfl _ _ 33 rfl w 3 ii _ 1 8 underlying33 hii hv0 hv1 hv2 rfl (by decide) _ _ _ rfl OA (ah wk 0) 1 1 [.int .i64 3] rfl rfl at1 pJ len1 byt1 bas1 ?_))
     intro v' w5 o5 g5 _;have hb5:Below w w w5:=hA1.trans (((Mz _ _).alloc ag _).grown g5 (by simp; omega) (fun q hq=>(OA.lt q hq).1));rw [← HZ.out] at o5;clear g5 pJ at1 OA HZ;go_wp2_with fail
     go_roundw
     case rel=>exact ⟨j+1,by omega,by go_num,o5,HN,hb5⟩
     case measure=>simp [intOf]; omega
    ·have h1b:(kd == 1)=false:=by simpa using h1
     by_cases h0:(ax cols gs[j].2).2=0
     ·rw [h0] at con;have hm:dh cols gs[j]=if kd=3∧(ax cols gs[j].2).1≠3∧(ax cols gs[j].2).1≠1 then 9 else 0:=by rw [HMe.out,if_neg h1,if_neg ag,if_neg (by simpa using h0)]
      have HMm:=aB hm;clear hm HMe h0;generalize (ax cols gs[j].2).1=t at *;have hk4:kd=2∨kd=3∨kd=4∨kd=5:=by omega
      clear h1 hr1 hr2 h1b;by_cases hbad:kd=3∧t≠3∧t≠1
      ·obtain ⟨rfl,ht3,ht1⟩:=hbad;have em:dh cols gs[j]=9:=by rw [HMm.out,if_pos ⟨rfl,ht3,ht1⟩]
       have el:le=9:=by rw [HBad.out (by rw [em]; decide),em]
       subst el;have t3:(t != 3)=true:=by simpa using ht3
       have t1:(t != 1)=true:=by simpa using ht1
       clear HMm HOk HBad em ht3 ht1 hk4 HY HA;go_wp2_with fail
       refine bC con fun w4 hb4=>?_;have c0:=(hb4.cell (p:=ah wr 0) (an q0)).trans p0;have O4:=aL O1 hb4;have hA4:=chain hA1 hb4;have hz4:=hA4.size;clear con p0 p1 p2 p3 p4 p5 p6;dsimp only;go_wp2_with fail
       first
        | exact bJ rfl rfl ⟨_,rfl,fun c=>absurd c (by decide),fun _=>rfl,hA4⟩
        | exact bJ rfl rfl ⟨_,rfl,rfl,hA4⟩
        | exact bJ rfl rfl ⟨rfl,hA4⟩
      ·have HN:=aB (HOk.out (by rw [HMm.out,if_neg hbad]));have hcase:((kd=2)∨(kd=3∧t=1)∨(kd=3∧t=3))∨kd=4∨kd=5:=by
        rcases hk4 with e | e | e | e
        ·exact .inl (.inl e)
        ·by_cases e3:t=3
         ·exact .inl (.inr (.inr ⟨e,e3⟩))
         ·by_cases e1:t=1
          ·exact .inl (.inr (.inl ⟨e,e1⟩))
          ·exact absurd ⟨e,e3,e1⟩ hbad
        ·exact .inr (.inl e)
        ·exact .inr (.inr e)
       clear HMm HOk HBad hbad hk4;rcases hcase with hcase | hcase
       ·have HZ:Hid (ints (dO cols (gs.take (j+1)))=ys ++ [.int .i64 3]):=by show _=_; rw [HY.out,HA.out,if_neg ag]
        clear HY HA;rcases hcase with rfl | ⟨rfl,rfl⟩ | ⟨rfl,rfl⟩
        all_goals (
         go_wp2_with fail
         refine bC con fun w4 hb4=>?_;have c0:=(hb4.cell (p:=ah wr 0) (an q0)).trans p0;have O4:=aL O1 hb4;have hA4:=chain hA1 hb4;have hz4:=hA4.size;clear con p0 p1 p2 p3 p4 p5 p6;dsimp only;have pJ:∀ u ∈ [Value.int .i64 3],u.oneCell'=true:=by intro u hu; simp at hu; subst hu; rfl
         have at1:∀ i u,[Value.int .i64 3][i]? = some u→(w4.alloc (.cells #[(3:Int)] 3)).cell? (((ah w4 0):Addr).add i)=some u:=by
          intro i u hu
          match i,hu with
          | 0,hu=>simp at hu; subst hu; simp [Addr.add]
         have len1:j+1≤maxLen:=by unfold maxLen; omega
         have byt1:(j+1)*8≤140737488355328:=by omega
         have bas1:w.heap.size≤(w4.alloc (.cells #[(3:Int)] 3)).heap.size:=by simp; omega
         have OA:=O4.alloc (.cells #[(3:Int)] 3);go_wp2_with (first | (at_builtin; refine MX _ rfl _ _ 33 rfl w 3 ii _ 1 8 underlying33 hii hv0 hv1 hv2 rfl (by decide) _ _ _ rfl OA (ah w4 0) 1 1 [.int .i64 3] rfl rfl at1 pJ len1 byt1 bas1 ?_))
         intro v' w5 o5 g5 _;have hb5:Below w w w5:=hA4.trans (((Mz _ _).alloc ag _).grown g5 (by simp; omega) (fun q hq=>(OA.lt q hq).1));rw [← HZ.out] at o5;clear g5 pJ at1 OA HZ;go_wp2_with fail
         go_roundw
         case rel=>exact ⟨j+1,by omega,by go_num,o5,HN,hb5⟩
         case measure=>simp [intOf]; omega)
       ·have HZ:Hid (ints (dO cols (gs.take (j+1)))=ys ++ [.int .i64 t]):=by show _=_; rw [HY.out,HA.out,if_pos ag]
        clear HY HA;rcases hcase with rfl | rfl
        all_goals (
         go_wp2_with fail
         refine bC con fun w4 hb4=>?_;have c0:=(hb4.cell (p:=ah wr 0) (an q0)).trans p0;have O4:=aL O1 hb4;have hA4:=chain hA1 hb4;have hz4:=hA4.size;clear con p0 p1 p2 p3 p4 p5 p6;dsimp only;have pJ:∀ u ∈ [Value.int .i64 t],u.oneCell'=true:=by intro u hu; simp at hu; subst hu; rfl
         have at1:∀ i u,[Value.int .i64 t][i]? = some u→(w4.alloc (.cells #[t] 3)).cell? (((ah w4 0):Addr).add i)=some u:=by
          intro i u hu
          match i,hu with
          | 0,hu=>simp at hu; subst hu; simp [Addr.add]
         have len1:j+1≤maxLen:=by unfold maxLen; omega
         have byt1:(j+1)*8≤140737488355328:=by omega
         have bas1:w.heap.size≤(w4.alloc (.cells #[t] 3)).heap.size:=by simp; omega
         have OA:=O4.alloc (.cells #[t] 3);go_wp2_with (first | (at_builtin; refine MX _ rfl _ _ 33 rfl w 3 ii _ 1 8 underlying33 hii hv0 hv1 hv2 rfl (by decide) _ _ _ rfl OA (ah w4 0) 1 1 [.int .i64 t] rfl rfl at1 pJ len1 byt1 bas1 ?_))
         intro v' w5 o5 g5 _;have hb5:Below w w w5:=hA4.trans (((Mz _ _).alloc ag _).grown g5 (by simp; omega) (fun q hq=>(OA.lt q hq).1));rw [← HZ.out] at o5;clear g5 pJ at1 OA HZ;go_wp2_with fail
         go_roundw
         case rel=>exact ⟨j+1,by omega,by go_num,o5,HN,hb5⟩
         case measure=>simp [intOf]; omega)
     ·have em:dh cols gs[j]=(ax cols gs[j].2).2:=by rw [HMe.out,if_neg h1,if_neg ag,if_pos h0]
      have el:le=(ax cols gs[j].2).2:=by rw [HBad.out (by rw [em]; exact h0),em]
      have H0:Hid (¬ le=0):=by show ¬ _; rw [el]; exact h0
      have hne:(le != 0)=true:=by rw [el]; simpa using h0
      rw [← el] at con;clear HMe HOk HBad em h0 el HY HA;generalize (ax cols gs[j].2).1=t at *;go_wp2_with fail
      refine bC con fun w4 hb4=>?_;have c0:=(hb4.cell (p:=ah wr 0) (an q0)).trans p0;have O4:=aL O1 hb4;have hA4:=chain hA1 hb4;have hz4:=hA4.size;clear con p0 p1 p2 p3 p4 p5 p6;dsimp only;go_wp2_with fail
      first
       | exact bJ rfl rfl ⟨_,rfl,fun c=>absurd c H0.out,fun _=>rfl,hA4⟩
       | exact bJ rfl rfl ⟨_,rfl,rfl,hA4⟩
       | exact bJ rfl rfl ⟨rfl,hA4⟩
  ·have e:j=gs.length:=by omega
   subst e;have el:le=0:=by rw [HT.out,NY]; rfl
   subst el;rw [MM] at Oj;have OH:=aB Oj;obtain ⟨aj,cj,rfl⟩:=eX Oj;clear Oj;go_wp2_with fail
   first
    | exact bJ rfl rfl ⟨_,rfl,fun _=>OH.out,fun c=>absurd rfl c,hb⟩
    | exact bJ rfl rfl ⟨_,rfl,OH.out,hb⟩
theorem sB (cols:List Int) (gs:List Ag) (ca:Option Addr) (ccap:Nat) (xa:Option Addr) (xcap:Nat) (w:World) (hk:iO w w xa gs) (hc:bf w w ca cols) (h8:gs.length≤8) :
  Calls prog 70 #[.slice ca cols.length ccap,.slice xa gs.length xcap] w fun e w'=>∃ v,e = .returned (.tuple #[v,.int .i64 (dF cols gs)])∧Below w w w' :=
 (lP cols gs ca ccap xa xcap w hk hc h8).mono fun _ _ ⟨v,h1,_,_,h4⟩=>⟨v,h1,h4⟩
def oh (n:Int):Vl:=if kO n=true then (3,n,⟨#[]⟩) else (1,0,⟨#[]⟩)
theorem ph (n:Int) (w:World):Calls prog 190 #[n] w fun e w'=>e = .returned (dV (oh n))∧Below w w w':=by
 obtain ⟨hal,q0⟩:=iV w #[aD,aD,()] 24;by_cases hi:kO n=true
 ·have e:oh n=(3,n,⟨#[]⟩):=by unfold oh; rw [if_pos hi]
  rw [e];unfold dV;have hb:-1000000000000000≤n∧n≤1000000000000000:=by simpa [kO] using hi
  have n1:¬ 1000000000000000<n:=by omega
  have n2:¬ n < -1000000000000000:=by omega
  clear e hi;go_enter func190,ntmps190;go_upto_region 3 with fail
  generalize w.alloc _=w2 at *;have d0:=cell_of (i:=0) q0 rfl;have d1:=cell_of (i:=1) q0 rfl;have d2:=cell_of (i:=2) q0 rfl;have f0:=MB w2 w 0 _ _ q0;have f1:=MB w2 w 1 _ _ q0;have f2:=MB w2 w 2 _ _ q0;go_wp2_with fail
  exact MA (v:=.agg #[(3:Int),n,()]) (by simp [results,results190,go_sem,d0,d1,d2]) rfl ⟨rfl,((hal.setCell (p:=ah w 0) (Mx _) _).setCell (p:=ah w 1) (Mx _) _).setCell (p:=ah w 2) (Mx _) _⟩
 ·have e:oh n=(1,0,⟨#[]⟩):=by unfold oh; rw [if_neg hi]
  rw [e];unfold dV;have ho:1000000000000000<n∨n < -1000000000000000:=by
   have:¬ (-1000000000000000≤n∧n≤1000000000000000):=fun h=>hi (by simpa [kO] using h)
   omega
  clear e hi;go_enter func190,ntmps190;have main:(1000000000000000<n)∨(¬ 1000000000000000<n∧n < -1000000000000000):=by omega
  clear ho;rcases main with h1 | ⟨h1,h2⟩
  all_goals (
   go_wp2_with fail
   generalize w.alloc _=w0 at *;refine bC (bP w0) fun w2 hb2=>?_;have q2:=iX hb2 q0;have d0:=cell_of (i:=0) q2 rfl;have d1:=cell_of (i:=1) q2 rfl;have d2:=cell_of (i:=2) q2 rfl;have f0:=MB w2 w 0 _ _ q2;have f1:=MB w2 w 1 _ _ q2
   have f2:=MB w2 w 2 _ _ q2;have hA2:=chain hal hb2;dsimp only;go_wp2_with fail
   exact MA (v:=.agg #[(1:Int),aD,()]) (by simp [results,results190,go_sem,d0,d1,d2]) rfl ⟨rfl,((hA2.setCell (p:=ah w 0) (Mx _) _).setCell (p:=ah w 1) (Mx _) _).setCell (p:=ah w 2) (Mx _) _⟩)
end Go.Proofs.YtoefpglknaiaeaaGreat
namespace Go.Proofs.YtoefpglknaiaeaaGreat
open Go.RowKit
def gq:List Int→Int
 | []=>0
 | x :: r=>x+1000*gq r
theorem oS:∀ (L:List Int) (k:Nat) (h:k<L.length) (x:Int),gq (L.set k x)=gq L+1000 ^ k*(x - L[k])
 | y :: r,0,_,x=>by simp [gq]; omega
 | y :: r,k+1,h,x=>by
  have:=oS r k (by simpa using h) x
  simp only [Nj,gq,this,NJ,Int.pow_succ]
  grind
theorem Me (m:Int):m=1000*m.tdiv 1000+m.tmod 1000:=(Int.mul_tdiv_add_tmod m 1000).symm
theorem rA (m:Int):-1000<m.tmod 1000∧m.tmod 1000<1000:=by
 by_cases h0:0≤m
 ·rw [NR h0]; omega
 ·have e:=Int.neg_tmod (-m) 1000;rw [Int.neg_neg] at e;rw [e,NR ag];omega
theorem xf {m C:Int} (h0:0≤C) (h:-(1000*C+999)≤m∧m≤1000*C+999):-C≤m.tdiv 1000∧m.tdiv 1000≤C:=by
 by_cases hm:0≤m
 ·rw [N1 hm]; omega
 ·have e:=Int.neg_tdiv (-m) 1000;rw [Int.neg_neg] at e;rw [e,N1 ag];omega
def DY:Nat→Int
 | 0=>1000000000000000
 | 1=>1000000000000
 | 2=>1000000000
 | 3=>1000000
 | 4=>1000
 | 5=>1
 | _+6=>0
theorem Gy:∀ k,0≤DY k
 | 0 | 1 | 2 | 3 | 4 | 5=>by decide
 | _+6=>Int.le_refl _
theorem vU:∀ k,DY k≤1000*DY (k+1)+999
 | 0 | 1 | 2 | 3 | 4 | 5=>by decide
 | _+6=>by show (0:Int)≤1000*0+999; decide
theorem zp:∀ k,DY k≤1000000000000000
 | 0 | 1 | 2 | 3 | 4 | 5=>by decide
 | _+6=>by show (0:Int)≤_; decide
structure oB (B:Int) (s:List Int) (n t:Int) (k:Nat) (L:List Int) (m:Int):Prop where
 len:L.length=9
 val:gq L+1000 ^ k*(t*m)=gq s+t*n
 mb:-DY k≤m∧m≤DY k
 LG:∀ (j:Nat) (h:j<L.length),k≤j → -B≤L[j]∧L[j]≤B
 bd:∀ (j:Nat) (h:j<L.length),-(B+1000000000)≤L[j]∧L[j]≤B+1000000000
theorem oB.start {B:Int} {s:List Int} {n t:Int} (h9:s.length=9) (hn:-1000000000000000≤n∧n≤1000000000000000) (hs:∀ (j:Nat) (h:j<s.length),-B≤s[j]∧s[j]≤B):oB B s n t 0 s n :=
 ⟨h9,by simp,hn,fun j h _=>hs j h,fun j h=>by have:=hs j h; omega⟩
theorem Ch {t r:Int} (ht:0≤t∧t≤1000000) (hr:-1000<r∧r<1000):-1000000000≤t*r∧t*r≤1000000000:=by
 have h1:t*r≤t*1000:=N8 ag ht.1;have h2:t*(-1000)≤t*r:=N8 ag ht.1;omega
theorem oB.step {B:Int} {s:List Int} {n t:Int} {k:Nat} {L:List Int} {m:Int} (h:oB B s n t k L m) (ht:0≤t∧t≤1000000) (hk:k<L.length) :
  oB B s n t (k+1) (L.set k (L[k]+t*m.tmod 1000)) (m.tdiv 1000):=by
 refine ⟨by simpa using h.len,?_,?_,?_,?_⟩
 ·rw [oS L k hk,← h.val,Int.pow_succ];have e:=Me m;generalize m.tdiv 1000=q at *;generalize m.tmod 1000=r at *;subst e
  grind
 ·exact xf (Gy _) ⟨by have:=h.mb; have:=vU k; omega,by have:=h.mb; have:=vU k; omega⟩
 ·intro j hj hkj;rw [NF ag];exact h.LG j (by simpa using hj) ag
 ·intro j hj;rw [List.getElem_set]
  split
  ·have h1:=h.LG k hk (Mx _);have h2:=Ch ht (rA m);omega
  ·exact h.bd j (by simpa using hj)
theorem oB.done {B:Int} {s:List Int} {n t:Int} {L:List Int} {m:Int} (h:oB B s n t 9 L m):gq L=gq s+t*n:=by
 have h0:m=0:=by have h1:-0≤m∧m≤0:=h.mb; omega
 have:=h.val;rw [h0] at this
 simpa using this
structure nw (T B:Int) (k:Nat) (L:List Int):Prop where
 len:L.length=9
 val:gq L=T
 low:∀ (j:Nat) (h:j<L.length),j<k → -1000<L[j]∧L[j]<1000
 here:∀ (h:k<L.length),-(2*B)≤L[k]∧L[k]≤2*B
 high:∀ (j:Nat) (h:j<L.length),k<j → -B≤L[j]∧L[j]≤B
theorem nw.start {B:Int} {s:List Int} (h9:s.length=9) (hs:∀ (j:Nat) (h:j<s.length),-B≤s[j]∧s[j]≤B):nw (gq s) B 0 s :=
 ⟨h9,rfl,fun _ _ h=>absurd h (M9 _),fun h=>by have:=hs 0 h; omega,fun j h _=>hs j h⟩
theorem nw.step {T B:Int} {k:Nat} {L:List Int} (h:nw T B k L) (hB:0≤B) (hk:k<L.length) (hk1:k+1<L.length) :
  nw T B (k+1) ((L.set (k+1) (L[k+1]+L[k].tdiv 1000)).set k (L[k].tmod 1000)):=by
 have hd:-B≤L[k].tdiv 1000∧L[k].tdiv 1000≤B:=xf hB (by have:=h.here hk; omega);have hm:=rA L[k];have e:=Me L[k];refine ⟨by simpa using h.len,?_,?_,?_,?_⟩
 ·rw [oS _ k (by simpa using hk),oS L (k+1) hk1,NF ag,h.val,Int.pow_succ];have e2:L[k].tmod 1000 - L[k] = -(1000*L[k].tdiv 1000):=by omega
  rw [e2];generalize L[k].tdiv 1000=q at *
  grind
 ·intro j hj hjk;rw [List.getElem_set]
  split
  ·exact hm
  ·rw [NF ag];exact h.low j (by simpa using hj) ag
 ·intro hj;rw [NF ag,List.getElem_set_self];have:=h.high (k+1) hk1 ag;omega
 ·intro j hj hjk;rw [NF ag,NF ag];exact h.high j (by simpa using hj) ag
theorem BW:∀ (L:List Int),(∀ x ∈ L,-1000<x∧x<1000) → -(1000 ^ L.length)<gq L∧gq L<1000 ^ L.length
 | [],_=>by simp [gq]
 | x :: r,h=>by
  have ih:=BW r fun y hy=>h y (by simp [hy])
  have hx:=h x (by simp)
  simp only [gq,Ng,Int.pow_succ]
  omega
theorem vM:∀ (L:List Int) (k:Nat) (h:k<L.length),gq (L.take (k+1))=gq (L.take k)+1000 ^ k*L[k]
 | x :: r,0,_=>by simp [gq]
 | x :: r,k+1,h=>by
  have:=vM r k (by simpa using h)
  simp only [List.take_succ_cons,gq,NJ,Int.pow_succ] at this ⊢
  rw [this]
  grind
structure lQ (T:Int) (L:List Int) (k:Nat) (v:Int):Prop where
 val:v*1000 ^ k+gq (L.take k)=T
theorem lQ.start {T B:Int} {L:List Int} (h:nw T B 8 L):lQ T L 9 0:=⟨by rw [← h.len,MM,h.val]; simp⟩
theorem lQ.step {T:Int} {L:List Int} {k:Nat} {v:Int} (h:lQ T L (k+1) v) (hk:k<L.length):lQ T L k (1000*v+L[k]):=by
 constructor;rw [← h.val,vM L k hk,Int.pow_succ]
 grind
theorem lQ.Fu {T B:Int} {L:List Int} {k:Nat} {v:Int} (h:lQ T L (k+1) v) (hn:nw T B 8 L) (hk:k<8) (hv:2000000000000<v∨v < -2000000000000):kO T=false:=by
 have hb:=BW (L.take (k+1)) (fun x hx=>by
  obtain ⟨j,hj,rfl⟩:=List.mem_iff_getElem.1 hx;rw [List.getElem_take];have:j<k+1:=by have:=hj; rw [MR] at this; omega
  exact hn.low j (by rw [hn.len]; omega) ag)
 have el:(L.take (k+1)).length=k+1:=by rw [MR,hn.len]; omega
 rw [el] at hb;have e:=h.val;have hp:(1000:Int)≤1000 ^ (k+1):=by
  have h0:(0:Int)<1000 ^ k:=Int.pow_pos (by decide);rw [Int.pow_succ];omega
 generalize (1000:Int) ^ (k+1)=P at *;generalize gq (L.take (k+1))=R at *;have hT:1000000000000000<T∨T < -1000000000000000:=by
  rcases hv with hv | hv
  ·left;have h1:2000000000001*P≤v*P:=N7 ag ag;omega
  ·right;have h1:v*P ≤ -2000000000001*P:=N7 ag ag;omega
 simp [kO];omega
theorem lQ.done {T:Int} {L:List Int} {v:Int} (h:lQ T L 0 v):v=T:=by
 have:=h.val
 simpa [gq] using this
open Go.Lib Go.Shelf _root_.Go.Proofs.Tryz
theorem aw.drew {t:Nat} {a b:World} (h:aw t a b):aw t a b.drew:=⟨h.1.drew,fun k hk hn=>h.2 k hk hn⟩
structure KG (B:Int) (s:List Int) (n t:Int) (L:List Int):Prop where
 len:L.length=9
 val:gq L=gq s+t*n
 bd:∀ (j:Nat) (h:j<L.length),-(B+1000000000)≤L[j]∧L[j]≤B+1000000000
theorem oB.end {B:Int} {s:List Int} {n t:Int} {L:List Int} {m:Int} (h:oB B s n t 9 L m):KG B s n t L:=⟨h.len,h.done,h.bd⟩
theorem dC.drew {W:World} {g:Nat} {l:List Int} (h:dC W g l):dC W.drew g l:=⟨h.lt,h.c,h.f⟩
theorem DI (B:Int) (hB:0≤B∧B≤1000000000000) (g:Nat) (s:List Int) (n t:Int) (w:World) (hs:dC w g s) (h9:s.length=9) (hn:-1000000000000000≤n∧n≤1000000000000000) (ht:0≤t∧t≤1000000) (hb:∀ (j:Nat) (h:j<s.length),-B≤s[j]∧s[j]≤B) :
  Calls prog 189 #[ah g 0,n,t] w fun e w'=>e = .returned (.tuple #[])∧∃ L,KG B s n t L∧dC w' g L∧aw g w w':=by
 have HP0:Hid (oB B s n t 0 s n):=oB.start h9 hn hb;have HB:Hid (∀ L m,oB B s n t 9 L m→∀ w',dC w' g L→aw g w w'→∃ L,KG B s n t L∧dC w' g L∧aw g w w'):=fun L m h w' h1 h2=>⟨L,h.end,h1,h2⟩
 clear h9 hb;go_enter func189,ntmps189;go_wp2_with fail
 go_loopw [1,7] (fun vn vi wr=>∃ (k:Nat) (L:List Int) (m:Int),k≤9∧vi = .int .i64 k∧vn = .int .i64 m∧Hid (oB B s n t k L m)∧dC wr g L∧aw g w wr) (fun _ i _=>9 - (intOf i).toNat)
 case atStart=>exact ⟨0,s,n,MD _,rfl,rfl,HP0,hs,aw.refl _ _⟩
 case round =>
  obtain ⟨k,L,m,hk,rfl,rfl,HP,HO,hX⟩:=hrel;by_cases hlt:k<9
  ·have hl:k<L.length:=by rw [HP.out.len]; exact hlt
   have hkz:(k:Int)<9:=by omega
   have c0:=HO.c k hl;have f0:=HO.f k;have o1:=HP.out.LG k hl (Mx _);have o2:=rA m;have o3:=Ch ht o2;have o4:=HP.out.mb;have o5:=zp k;have HP':Hid (oB B s n t (k+1) (L.set k (L[k]+t*m.tmod 1000)) (m.tdiv 1000)):=HP.out.step ht hl;have o6:=HP'.out.mb;have o7:=zp (k+1);have hW1:IntKind.i64.wrap (m.tmod 1000)=m.tmod 1000:=IntWalk.i64_in _ ⟨by omega,by omega⟩;have hW2:IntKind.i64.wrap (t*m.tmod 1000)=t*m.tmod 1000:=IntWalk.i64_in _ ⟨by omega,by omega⟩;have hW3:IntKind.i64.wrap (L[k]+t*m.tmod 1000)=L[k]+t*m.tmod 1000:=IntWalk.i64_in _ ⟨by omega,by omega⟩
   have hW4:IntKind.i64.wrap (m.tdiv 1000)=m.tdiv 1000:=IntWalk.i64_in _ ⟨by omega,by omega⟩;clear HP o1 o2 o3 o4 o5 o6 o7 HP0;go_wp2_with fail
   go_region
   have HO':=(HO.set k hl (L[k]+t*m.tmod 1000)).drew;have hX':=(hX.set k (.int .i64 (L[k]+t*m.tmod 1000))).drew;go_wp2
   go_roundw
   case rel=>exact ⟨k+1,_,_,by omega,by go_num,rfl,HP',HO',hX'⟩
   case measure=>simp [intOf]; omega
  ·have e:k=9:=by omega
   have HE:=HB.out L m (e ▸ HP.out) wr HO hX;have hnl:¬ (k:Int)<9:=by omega
   clear HP0 HB HP HO hX e hlt hk;go_wp2_with fail
   go_end0
   exact ⟨rfl,HE⟩
theorem Fa (B:Int) (hB:0≤B∧B≤1000000000000) (g:Nat) (s:List Int) (w:World) (hs:dC w g s) (h9:s.length=9) (hb:∀ (j:Nat) (h:j<s.length),-B≤s[j]∧s[j]≤B) :
  Calls prog 191 #[ah g 0] w fun e w'=>e = .returned (dV (oh (gq s)))∧aw g w w':=by
 have HN0:=aB (nw.start h9 hb);have hgl:=hs.lt;generalize hT:gq s=T at *;generalize hR:oh T=res;have HR:=aB hR.symm;clear h9 hb hT hR;obtain ⟨hal0,q00⟩:=iV w #[aD,aD,()] 24;have X0:=aw.of (t:=g) hal0 (M5 hgl)
 have hs0:dC (w.alloc (.cells #[aD,aD,()] 24)) g s:=⟨My hgl hal0.size,fun i hi=>(hal0.cell (p:=ah g i) hgl).trans (hs.c i hi),fun i=>(hal0.frozen (p:=ah g i) hgl).trans (hs.f i)⟩
 have hne:=Nat.ne_of_gt hgl;clear hal0 hs;unfold dV;go_enter func191,ntmps191;go_wp2_with fail
 generalize w.alloc (.cells #[aD,aD,()] 24)=w0 at *;go_loopw [3] (fun vi wr=>∃ (k:Nat) (L:List Int),k≤8∧vi = .int .i64 k∧Hid (nw T B k L)∧dC wr g L∧aw g w0 wr) (fun i _=>8 - (intOf i).toNat)
 case atStart=>exact ⟨0,s,MD _,rfl,HN0,hs0,aw.refl _ _⟩
 case round =>
  obtain ⟨k,L,hk,rfl,HN,HO,hX⟩:=hrel;by_cases hlt:k<8
  ·have hl:k<L.length:=by rw [HN.out.len]; omega
   have hl1:k+1<L.length:=by rw [HN.out.len]; omega
   have hkz:(k:Int)<8:=by omega
   have c0:=HO.c k hl;have f0:=HO.f k;have c1:=HO.c (k+1) hl1;have f1:=HO.f (k+1);have o1:=HN.out.here hl;have o2:=rA L[k];have o3:=HN.out.high (k+1) hl1 (Nat.lt_succ_self _);have o4:-1000000000000≤L[k].tdiv 1000∧L[k].tdiv 1000≤1000000000000:=xf (by decide) ag;have HN':Hid (nw T B (k+1) ((L.set (k+1) (L[k+1]+L[k].tdiv 1000)).set k (L[k].tmod 1000))):=HN.out.step hB.1 hl hl1;have hW1:IntKind.i64.wrap (L[k].tmod 1000)=L[k].tmod 1000:=IntWalk.i64_in _ ⟨by omega,by omega⟩;have hW2:IntKind.i64.wrap (L[k].tdiv 1000)=L[k].tdiv 1000:=IntWalk.i64_in _ ⟨by omega,by omega⟩
   have hW3:IntKind.i64.wrap (L[k+1]+L[k].tdiv 1000)=L[k+1]+L[k].tdiv 1000:=IntWalk.i64_in _ ⟨by omega,by omega⟩;clear HN o1 o2 o3 o4 HN0;go_wp2_with fail
   go_region
   have HO1:=(HO.set (k+1) hl1 (L[k+1]+L[k].tdiv 1000)).drew;have hX1:=(hX.set (k+1) (.int .i64 (L[k+1]+L[k].tdiv 1000))).drew;have hl2:k<(L.set (k+1) (L[k+1]+L[k].tdiv 1000)).length:=by simpa using hl
   have c2:=HO1.c k hl2;rw [NF ag] at c2;have f2:=HO1.f k;clear c0 f0 c1 f1 hW3;go_wp2_with fail
   go_region
   have HO2:=(HO1.set k hl2 (L[k].tmod 1000)).drew;have hX2:=(hX1.set k (.int .i64 (L[k].tmod 1000))).drew;go_wp2_with fail
   go_roundw
   case rel=>exact ⟨k+1,_,by omega,by go_num,HN',HO2,hX2⟩
   case measure=>simp [intOf]; omega
  ·have e:k=8:=by omega
   have HN:=aB (e ▸ HN.out);have HH0:=aB (lQ.start HN.out);have hnl:¬ (k:Int)<8:=by omega
   clear HN0 e hlt hk;obtain ⟨w1,hw1⟩:∃ z,z=wr:=⟨_,rfl⟩
   subst hw1;go_wp2_with fail
   go_loopw [4,5] (fun vv vi wr=>∃ (k:Nat) (v:Int),k≤9∧Hid (lQ T L k v)∧vv = .int .i64 v∧((k=0∧vi = .int .i64 (-1))∨∃ j:Nat,k=j+1∧vi = .int .i64 (j:Int))∧(-3000000000000000≤v∧v≤3000000000000000)∧(k=9→v=0)∧dC wr g L∧aw g w0 wr) (fun _ i _=>(intOf i+1).toNat)
   case atStart=>exact ⟨9,0,Mx _,HH0,rfl,.inr ⟨8,rfl,rfl⟩,by omega,fun _=>rfl,HO,hX⟩
   case round =>
    obtain ⟨k,v,hk9,HH,rfl,hi,hv,hv9,HO2,hX2⟩:=hrel;rcases hi with ⟨rfl,rfl⟩ | ⟨j,rfl,rfl⟩
    ·have ev:v=T:=HH.out.done;subst ev;clear HH0 HH HN;go_wp2_with fail
     have con:=ph v wr;rw [← HR.out] at con;unfold dV at con;refine bC con fun w2 hb2=>?_;have X2:=hX2.trans (aw.of hb2 (M5 HO2.lt));have q2:=(X2.2 w (an q00) hne).trans q00;have d0:=cell_of (i:=0) q2 rfl;have d1:=cell_of (i:=1) q2 rfl;have d2:=cell_of (i:=2) q2 rfl;have f0:=MB w2 w 0 _ _ q2
     have f1:=MB w2 w 1 _ _ q2;have f2:=MB w2 w 2 _ _ q2;have XE:=(((X0.trans X2).mu w.heap.size 0 res.1 (Mx _) (M5 hgl)).mu w.heap.size 1 res.2.1 (Mx _) (M5 hgl)).mu w.heap.size 2 res.2.2 (Mx _) (M5 hgl);clear con HR;dsimp only;go_wp2_with fail
     exact MA (v:=.agg #[res.1,res.2.1,res.2.2]) (by simp [results,results191,go_sem,d0,d1,d2]) rfl ⟨rfl,XE⟩
    ·have hj9:j<L.length:=by rw [HN.out.len]; omega
     have hj0:(0:Int)≤(j:Int):=by omega
     have hj99:(j:Int)<9:=by omega
     by_cases hfar:2000000000000<v∨v < -2000000000000
     ·have hj8:j<8:=by
       by_cases e:j=8
       ·subst e; have:=hv9 rfl; omega
       ·omega
      have hin:=HH.out.Fu HN.out hj8 hfar;have er:res=(1,0,⟨#[]⟩):=by rw [HR.out]; unfold oh; rw [hin]; rfl
      subst er;clear HH0 HH HN HR hin;have main:2000000000000<v∨(¬ 2000000000000<v∧v < -2000000000000):=by omega
      clear hfar;rcases main with h1 | ⟨h1,h2⟩
      all_goals (
       go_wp2_with fail
       refine bC (bP wr) fun w2 hb2=>?_;have X2:=hX2.trans (aw.of hb2 (M5 HO2.lt));have q2:=(X2.2 w (an q00) hne).trans q00;have d0:=cell_of (i:=0) q2 rfl;have d1:=cell_of (i:=1) q2 rfl;have d2:=cell_of (i:=2) q2 rfl;have f0:=MB w2 w 0 _ _ q2;have f1:=MB w2 w 1 _ _ q2
       have f2:=MB w2 w 2 _ _ q2;have XE:=(((X0.trans X2).mu w.heap.size 0 (1:Int) (Mx _) (M5 hgl)).mu w.heap.size 1 aD (Mx _) (M5 hgl)).mu w.heap.size 2 () (Mx _) (M5 hgl);dsimp only;go_wp2_with fail
       exact MA (v:=.agg #[(1:Int),aD,()]) (by simp [results,results191,go_sem,d0,d1,d2]) rfl ⟨rfl,XE⟩)
     ·have n1:¬ 2000000000000<v:=fun h=>hfar (.inl h)
      have n2:¬ v < -2000000000000:=fun h=>hfar (.inr h)
      have c0:=HO2.c j hj9;have hd:-2000000000000≤L[j]∧L[j]≤2000000000000:=by
       by_cases e:j=8
       ·subst e; have:=HN.out.here hj9; omega
       ·have:=HN.out.low j hj9 ag; omega
      have HH':Hid (lQ T L j (1000*v+L[j])):=HH.out.step hj9;have hW1:IntKind.i64.wrap (1000*v)=1000*v:=IntWalk.i64_in _ ⟨by omega,by omega⟩;have hW2:IntKind.i64.wrap (1000*v+L[j])=1000*v+L[j]:=IntWalk.i64_in _ ⟨by omega,by omega⟩;have hbd:-3000000000000000≤1000*v+L[j]∧1000*v+L[j]≤3000000000000000:=by
       by_cases e:j=8
       ·subst e; have:=hv9 rfl; omega
       ·have:=HN.out.low j hj9 ag; omega
      clear HH HH0 HN hd hfar;go_wp2_with fail
      go_roundw
      case rel=>exact ⟨j,1000*v+L[j],by omega,HH',rfl,(by
       rcases Nat.eq_zero_or_pos j with e | e
       ·subst e; exact .inl ⟨rfl,rfl⟩
       ·exact .inr ⟨j - 1,by omega,by rw [show ((j - 1:Nat):Int)=(j:Int) - 1 by omega]⟩),hbd,(fun e=>by omega),HO2,hX2⟩
      case measure=>first | (simp [intOf]; done) | (simp [intOf]; omega)
theorem vX (l:List Wp) (p:Wp):gW (l ++ [p])=gW l+p.2:=by
 induction l with
 | nil=>simp [gW]
 | cons q r ih=>rw [Nu,gW,gW,ih]; omega
theorem DG (l:List Wp) (p:Wp):jc (l ++ [p])=jc l+p.2*p.1.2.1:=by
 induction l with
 | nil=>simp [jc]
 | cons q r ih=>rw [Nu,jc,jc,ih]; omega
def fW (k:Int) (l:List Wp):Vl:=if k=4 then BJ l else if k=5 then BU l else match l with
 | []=>(1,0,⟨#[]⟩)
 | p :: _=>p.1
theorem Dc (k:Int):fW k []=(1,0,⟨#[]⟩):=by
 unfold fW
 split
 ·rfl
 ·split <;> rfl
theorem Ej (k:Int) (p:Wp):fW k [p]=p.1:=by
 unfold fW
 split
 ·rfl
 ·split <;> rfl
theorem AI (k:Int) {l:List Wp} (h:0<l.length) (p:Wp):fW k (l ++ [p])=if (k=4∧dP p.1 (fW k l)<0)∨(k=5∧0<dP p.1 (fW k l)) then p.1 else fW k l:=by
 match l,h with
 | q :: r,_ =>
  by_cases h4:k=4
  ·subst h4;simp [fW,BJ]
  ·by_cases h5:k=5
   ·subst h5;simp [fW,BU]
   ·simp [fW,h4,h5]
def tO (k:Int) (l:List Wp):Vl:=if k=1∨k=2 then oh (gW l) else if k=3∧0<l.length then oh (jc l) else fW k l
theorem Ib {k:Int} {l:List Wp} (h1:1≤k) (h5:k≤5) (hw:∀ p ∈ l,0≤p.2∧p.2≤1000000) (hl:l.length≤400):tO k l=eQ k l:=by
 have hs:=Cb hw;have hc:k=1∨k=2∨k=3∨k=4∨k=5:=by omega
 have hb:kO (gW l)=true:=by simp [kO]; omega
 rcases hc with rfl | rfl | rfl | rfl | rfl
 ·simp [tO,eQ,oh,countP,hb]
 ·simp [tO,eQ,oh,countP,hb]
 ·by_cases h0:l = []
  ·subst h0;simp [tO,eQ,CG,fW]
  ·have:0<l.length:=List.length_pos_iff.2 h0;simp [tO,eQ,CG,oh,h0,this]
 ·simp [tO,eQ,fW]
 ·simp [tO,eQ,fW]
end Go.Proofs.YtoefpglknaiaeaaGreat
