import Derived.Test.YtoefpglknaiaeaaGreatMW25
set_option maxHeartbeats 16000000
set_option maxRecDepth 100000
namespace Go.Proofs.YtoefpglknaiaeaaGreat
open Go.Lib Go.RowKit Go.Shelf _root_.Go.Proofs.Tryz
theorem applyF_at (data more:List (List Zp)) (da:Option Addr) (dc:Nat) (ma:Option Addr) (mc:Nat) (w:World) (hD:nN w da data) (hM:nN w ma more) (hn:data.length≤10000000000000) :
  Calls prog 28 #[.slice da data.length dc,.slice ma more.length mc] w fun e w'=>∃ a,(∃ c,e = .returned (.tuple #[.slice a (applyZ data more).length c,.int .i64 (applyE data more)]))∧nN w' a (applyZ data more)∧(∀ b off,a=some ⟨b,off,none⟩→w.heap.size≤b)∧Below w w w':=by
 generalize hr:applyE data more=r;generalize hz:applyZ data more=z;have HR:=aB hr;have HZ:=aB hz;clear hr hz;obtain ⟨cs,hcs,hmk⟩:=make_setsN hn w;have S0:=zX.lX w cs;rw [hcs] at S0;go_enter func28,ntmps28;by_cases hl:data.length=more.length;rotate_left
 ·have hne:((data.length:Int) != (more.length:Int))=true:=by simp; omega
  have e:r=8:=by rw [← HR.out]; unfold applyE; rw [if_pos hl]
  have e':z = []:=by rw [← HZ.out]; unfold applyZ; rw [HR.out,e,if_neg (by decide)]
  subst e e';go_wp2_with fail
  exact bJ rfl rfl ⟨none,⟨0,rfl⟩,.inl rfl,fun _ _ c=>(by cases c),Mz _ _⟩
 have hne:((data.length:Int) != (more.length:Int))=false:=by simp; omega
 have HR':Hid (r=applE (data.drop 0) (more.drop 0)):=by show _=_; rw [← HR.out]; unfold applyE; rw [if_neg (by simpa using hl)]; rfl
 have HZ':Hid (z=if r=0 then applL data more else []):=by show _=_; rw [← HZ.out,← HR.out]; rfl
 have HLn:=aB (applL_len hl);have hl1:data.length≤more.length:=by omega
 have hl2:more.length≤data.length:=by omega
 clear HR HZ hl hcs;have hal:=aN w (.cells cs 38);go_upto_region 4 with fail
 clear hne hmk;generalize w.alloc _=w1 at *;go_wp2_with fail
 go_loopw [21] (fun i wr=>∃ j:Nat,j≤data.length∧i = .int .i64 j∧Hid (r=applE (data.drop j) (more.drop j))∧zX wr w data.length ((applL data more).take j)∧Below w w wr) (fun i _=>data.length - (intOf i).toNat)
 case atStart=>exact ⟨0,MD _,rfl,HR',by simpa using S0,hal⟩
 case round =>
  obtain ⟨j,hj,rfl,HT,hS,hb⟩:=hrel;clear S0 HR' hal;by_cases hlt:j<data.length
  ·have hlt':j<more.length:=by omega
   obtain ⟨b1,o1,ai,ci,rfl,hb1,c1,hz1,hn1⟩:=(hD.next hb).elem hlt;obtain ⟨b2,o2,zi,zc,rfl,hb2,c2,hz2,_⟩:=(hM.next hb).elem hlt';have hjz:(j:Int)<(data.length:Int):=by omega
   have hjt:(j:Int)<(more.length:Int):=by omega
   have hj0:(0:Int)≤(j:Int):=by omega
   have hgl:=hS.lt;have HBad:Hid (¬ eJ 1 data[j] more[j]=0→r=eJ 1 data[j] more[j]):=fun c=>HT.out.trans (applE_bad hlt hlt' c)
   have HOk:Hid (eJ 1 data[j] more[j]=0→r=applE (data.drop (j+1)) (more.drop (j+1))):=fun c=>HT.out.trans (applE_next hlt hlt' c)
   have HTk:=aB (applL_take hlt hlt');have con:=Kh ai zi ci zc data[j] more[j] wr hz1 hz2 hn1;clear HT;generalize eJ 1 data[j] more[j]=er at *;generalize dM 1 data[j] more[j]=zr at *;go_wp2_with fail
   refine con.mono ?_;rintro e w5 ⟨v5,rfl,O5,hb5⟩;clear con c1 c2;obtain ⟨a5,c5,ev,_,_⟩:=O5.KW;subst ev;have hA5:=chain hb hb5;dsimp only;by_cases h0:er=0
   ·have HT':=aB (HOk.out h0);subst h0;have S5:=hS.next hb5;have hlen:((applL data more).take j).length=j:=by rw [MR,HLn.out]; omega
    have S6:=S5.store (by rw [hlen]; exact hlt) O5 hgl;rw [hlen,← HTk.out] at S6;obtain ⟨u5,r5⟩:=S5.room j hlt;have f5:=S5.fz j;have hA6:=hA5.setCell (p:=ah w j) (Mx _) (.slice a5 zr.length c5);clear HBad HOk HTk S5 hlen hS O5;go_wp2_with fail
    go_roundw
    case rel=>exact ⟨j+1,by omega,by go_num,HT',S6,hA6⟩
    case measure=>simp [intOf]; omega
   ·have e:r=er:=HBad.out h0;have h0b:(er != 0)=true:=by simpa using h0
    have e':z = []:=by rw [HZ'.out,if_neg (by rw [e]; exact h0)]
    subst e e';clear HBad HOk HTk hS O5 HZ';go_wp2_with fail
    exact bJ rfl rfl ⟨none,⟨0,rfl⟩,.inl rfl,fun _ _ c=>(by cases c),hA5⟩
  ·have e:r=0:=by rw [HT.out,applE_end ag]
   have ej:j=data.length:=by omega
   have hjn:¬ (j:Int)<(data.length:Int):=by omega
   have e':z=applL data more:=by rw [HZ'.out,if_pos e]
   have hd:=hS.dt;rw [ej,← HLn.out,MM,← e'] at hd;have hzl:(data.length:Nat)=z.length:=by rw [e']; exact HLn.out.symm
   have HZl:=aB hzl;subst e;clear HT HZ' e' hS ej hzl;go_wp2_with fail
   exact MA (v:=.tuple #[.slice (some (ah w 0)) data.length data.length,aD]) (by simp [results,results28,go_sem]) rfl ⟨some (ah w 0),⟨data.length,by rw [← HZl.out]⟩,hd,fun b off c=>(by injection c with c; injection c with c1 _ _; omega),hb⟩
theorem refApply_at (data more:List (List Zp)) (da:Option Addr) (dc:Nat) (ma:Option Addr) (mc:Nat) (w:World) (hD:nN w da data) (hM:nN w ma more) (hn:data.length*24≤140737488351232) :
  Calls prog 29 #[.slice da data.length dc,.slice ma more.length mc] w fun e w'=>(∃ a,(∃ c,e = .returned (.tuple #[.slice a (applyZ data more).length c,.int .i64 (applyE data more)]))∧nN w' a (applyZ data more)∧(∀ b off,a=some ⟨b,off,none⟩→w.heap.size≤b))∧Below w w w':=by
 obtain ⟨i0,hi,hj0,hj1,hj2⟩:=info_parts infoS;generalize hr:applyE data more=r;generalize hz:applyZ data more=z;have HR:=aB hr;have HZ:=aB hz;clear hr hz;go_enter func29,ntmps29;by_cases hl:data.length=more.length;rotate_left
 ·have hne:((data.length:Int) != (more.length:Int))=true:=by simp; omega
  have e:r=8:=by rw [← HR.out]; unfold applyE; rw [if_pos hl]
  have e':z = []:=by rw [← HZ.out]; unfold applyZ; rw [HR.out,e,if_neg (by decide)]
  subst e e';go_wp2_with fail
  exact bJ rfl rfl ⟨⟨none,⟨0,rfl⟩,.inl rfl,fun _ _ c=>(by cases c)⟩,Mz _ _⟩
 have hne:((data.length:Int) != (more.length:Int))=false:=by simp; omega
 have HR':Hid (r=applE (data.drop 0) (more.drop 0)):=by show _=_; rw [← HR.out]; unfold applyE; rw [if_neg (by simpa using hl)]; rfl
 have HZ':Hid (z=if r=0 then applL data more else []):=by show _=_; rw [← HZ.out,← HR.out]; rfl
 have HLn:=aB (applL_len hl);have hl1:data.length≤more.length:=by omega
 have hl2:more.length≤data.length:=by omega
 clear HR HZ hl;go_wp2_with fail
 clear hne;go_loopw [6,17] (fun v i wr=>∃ (j:Nat) (cs:List Value),j≤data.length∧i = .int .i64 j∧Hid (r=applE (data.drop j) (more.drop j))∧OwnQ True w wr v ((applL data more).take j) cs∧Below w w wr) (fun _ i _=>data.length - (intOf i).toNat)
 case atStart=>exact ⟨0,[],MD _,rfl,HR',by simpa using OwnQ.nil w w,Mz _ _⟩
 case round =>
  obtain ⟨j,cs,hj,rfl,HT,hS,hb⟩:=hrel;clear HR';by_cases hlt:j<data.length
  ·have hlt':j<more.length:=by omega
   obtain ⟨b1,o1,ai,ci,rfl,hb1,c1,hz1,hn1⟩:=(hD.next hb).elem hlt;obtain ⟨b2,o2,zi,zc,rfl,hb2,c2,hz2,_⟩:=(hM.next hb).elem hlt';have hjz:(j:Int)<(data.length:Int):=by omega
   have hjt:(j:Int)<(more.length:Int):=by omega
   have hjp:(0:Int)≤(j:Int):=by omega
   have HBad:Hid (¬ eJ 1 data[j] more[j]=0→r=eJ 1 data[j] more[j]):=fun c=>HT.out.trans (applE_bad hlt hlt' c)
   have HOk:Hid (eJ 1 data[j] more[j]=0→r=applE (data.drop (j+1)) (more.drop (j+1))):=fun c=>HT.out.trans (applE_next hlt hlt' c)
   have HTk:=aB (applL_take hlt hlt');clear HT;go_upto_region 7 with fail
   have hCC:∀ W W':World,(W.cell? ⟨b1,o1+j,none⟩=some (.slice ai data[j].length ci)∧W.cell? ⟨b2,o2+j,none⟩=some (.slice zi more[j].length zc))→Below W W W'→(W'.cell? ⟨b1,o1+j,none⟩=some (.slice ai data[j].length ci)∧W'.cell? ⟨b2,o2+j,none⟩=some (.slice zi more[j].length zc)):=fun W W' h hb=>⟨(hb.cell (p:=⟨b1,_,none⟩) (ML _ _ h.1)).trans h.1,(hb.cell (p:=⟨b2,_,none⟩) (ML _ _ h.2)).trans h.2⟩
   have hdr:Below wr wr wr.drew:=(Mz _ _).drew;have CW:=hCC _ _ ⟨c1,c2⟩ hdr;clear c1 c2;refine aP (fun W=>W.cell? ⟨b1,o1+j,none⟩=some (.slice ai data[j].length ci)∧W.cell? ⟨b2,o2+j,none⟩=some (.slice zi more[j].length zc)) aG ?_;refine bB hCC 21 0 (.slice (some (ah b1 o1)) data.length dc) (fun n hn=>?_) CW ?_
   ·go_simp
   simp only [pX];refine bB hCC 22 1 j (fun n hn=>?_) CW ?_
   ·go_simp
   simp only [pX];refine bB hCC 23 2 (.pointer (some ⟨b1,o1+j,none⟩)) (fun n hn=>?_) CW ?_
   ·go_simp
   simp only [pX];refine bB hCC 24 3 (.slice ai data[j].length ci) (fun n hn=>?_) CW ?_
   ·have hc:=hn.1;go_simp
   simp only [pX];refine bB hCC 25 4 (.slice (some (ah b2 o2)) more.length mc) (fun n hn=>?_) CW ?_
   ·go_simp
   simp only [pX];refine bB hCC 26 5 j (fun n hn=>?_) CW ?_
   ·go_simp
   simp only [pX];refine bB hCC 27 6 (.pointer (some ⟨b2,o2+j,none⟩)) (fun n hn=>?_) CW ?_
   ·go_simp
   simp only [pX];refine bB hCC 28 7 (.slice zi more[j].length zc) (fun n hn=>?_) CW ?_
   ·have hc:=hn.2;go_simp
   simp only [pX];refine gp 8 aG fun w3 hb3=>?_
   have D3:=chain hdr hb3;have CW3:=hCC _ _ CW hb3;have con:=boQ 1 (.inl rfl) ai zi ci zc data[j] more[j] w3 (hz1.next D3) (hz2.next D3);generalize eJ 1 data[j] more[j]=er at *;generalize dM 1 data[j] more[j]=zr at *;refine wpOp_step rfl (fun K hK=>?_);go_simp;refine con.mono ?_;rintro e w4 ⟨⟨a5,c5,rfl,y4,n5⟩,hb4⟩;have CW4:=hCC _ _ CW3 hb4;refine hK _ _ ⟨CW4,?_⟩;clear hK K con CW3 CW;have D4:=chain D3 hb4;try simp only [pX]
   refine bB hCC 20 9 (.tuple #[.slice a5 zr.length c5,er]) (fun n hn=>?_) CW4 ?_
   ·go_simp
   simp only [pX];refine bB hCC 30 10 (.slice a5 zr.length c5) (fun n hn=>?_) CW4 ?_
   ·go_simp
   simp only [pX];refine bB hCC 31 11 er (fun n hn=>?_) CW4 ?_
   ·go_simp
   simp only [pX];refine bB hCC 8 12 (.slice a5 zr.length c5) (fun n hn=>?_) CW4 ?_
   ·go_simp
   simp only [pX];refine bB hCC 9 13 er (fun n hn=>?_) CW4 ?_
   ·go_simp
   simp only [pX];refine cA aG ?_;intro w5 hb5;have z5:=y4.next hb5;replace hb5:=chain D4 hb5;clear CW4 hCC D4 D3 hb4 hb3 hdr y4;by_cases h0:er=0
   ·have HT':=aB (HOk.out h0);subst h0;have hal:=aN w5 (.cells #[.slice a5 zr.length c5] 38);have q6:=cell_of (i:=0) (bq w5 #[.slice a5 zr.length c5] 38) rfl;have hb6:=chain hb5 hal;have hb7:=chain hb hb6;have O6:=hS.next hb6;have Z6:=z5.next hal;have HL:Hid (((applL data more).take j).length=j):=by show _=_; rw [MR,HLn.out]; omega
    have o6:=O6.own;rw [HL.out] at o6;have z7:=hb7.size;clear HBad HOk hS hal hb5 hb6 z5 hz1 hz2 hn1;go_wp2_with (at_builtin; refine wpList_append_sl rfl _ _ 32 rfl w 38 i0 underlying32 hi hj0 hj1 hj2 _ j cs rfl o6 O6.all (ah w5 0) (.slice a5 zr.length c5) ⟨_,_,_,rfl⟩ q6 1 rfl ag z7 ?_)
    intro v' w8 ho8 hg8 ha8 _;have R8:=O6.push Z6 n5 (by rw [HL.out]; exact ho8) hg8 ha8;rw [← HTk.out] at R8;have hb8:=hb7.grown hg8 z7 (fun q hq=>(o6.lt q hq).1);clear ho8 hg8 ha8 o6 O6 Z6 q6 hb7 HTk;go_wp2_with fail
    go_roundw
    case rel=>exact ⟨j+1,_,by omega,by go_num,HT',R8,hb8⟩
    case measure=>simp [intOf]; omega
   ·have e:r=er:=HBad.out h0;have h0b:(er != 0)=true:=by simpa using h0
    have e':z = []:=by rw [HZ'.out,if_neg (by rw [e]; exact h0)]
    subst e e';clear HBad HOk HTk hS HZ';go_wp2_with fail
    exact bJ rfl rfl ⟨⟨none,⟨0,rfl⟩,.inl rfl,fun _ _ c=>(by cases c)⟩,chain hb hb5⟩
  ·have e:r=0:=by rw [HT.out,applE_end ag]
   have ej:j=data.length:=by omega
   have hjn:¬ (j:Int)<(data.length:Int):=by omega
   have e':z=applL data more:=by rw [HZ'.out,if_pos e]
   rw [ej,← HLn.out,MM,← e'] at hS;obtain ⟨a,c,rfl,hd0⟩:=hS.dt;have hd:=hd0.at;have hf:Hid (∀ b off,a=some ⟨b,off,none⟩→w.heap.size≤b):=fun b off e=>(hS.own.lt b (by rw [e]; rfl)).1
   subst e;clear HT HZ' e' hS ej hd0;go_wp2_with fail
   exact bJ rfl rfl ⟨⟨a,⟨c,rfl⟩,hd,hf.out⟩,hb⟩
theorem refDataS_at (ts:List (List Int)) (data:List (List Zp)) (ta:Option Addr) (tc:Nat) (a:Option Addr) (cap:Nat) (w:World) (hT:jG w w ta ts) (hD:nN w a data) (h8:ts.length≤8) :
  Calls prog 35 #[.slice ta ts.length tc,.slice a data.length cap] w fun e w'=>e = .returned (.int .i64 (fI ts data))∧Below w w w':=by
 by_cases hn:data.length≤10000000000000
 ·exact Bc ts data ta tc a cap w hT hD hn
 ·have hl:¬ data.length=ts.length:=by omega
  have hne:((ts.length:Int) != (data.length:Int))=true:=by simp; omega
  have e:fI ts data=8:=by unfold fI; rw [if_pos hl]
  rw [e];clear e hl hn hD hT;go_enter func35,ntmps35;go_wp2_with fail
  go_ret;exact ⟨rfl,Mz _ _⟩
def wrong6 (ts:List (List Int)) (p:Pl) (data more:List (List Zp)):Int:=if wrongD ts p data more≠0 then wrongD ts p data more else applyE data more
theorem applyZ_len (data more:List (List Zp)):(applyZ data more).length≤data.length:=by
 unfold applyZ;by_cases h:applyE data more=0
 ·rw [if_pos h];by_cases hl:data.length=more.length
  ·rw [applL_len hl]; exact Mx _
  ·unfold applyE at h; rw [if_pos hl] at h; exact absurd h (by decide)
 ·rw [if_neg h]; exact MD _
theorem refWrong6_at (ts:List (List Int)) (p:Pl) (q:Pw) (data more:List (List Zp)) (ta:Option Addr) (tc:Nat) (da:Option Addr) (dc:Nat) (ma:Option Addr) (mc:Nat) (w:World) (hT:jG w w ta ts) (hp:kH w w p q) (hk:gu p) (hD:nN w da data) (hM:nN w ma more) (hn:data.length*24≤140737488351232) :
  Calls prog 31 #[.slice ta ts.length tc,fw p q,.slice da data.length dc,.slice ma more.length mc] w fun e w'=>e = .returned (.int .i64 (wrong6 ts p data more))∧Below w w w':=by
 have hn2:data.length≤10000000000000:=by omega
 generalize hr:wrong6 ts p data more=r;have HR:Hid (wrong6 ts p data more=r):=hr;clear hr;have TX:TbX w ta ts:=hT;have PX:PlX w p q:=hp;have DX:=hD;have HK:Hid (gu p):=hk;clear hT hp hD hk;have MX:=hM;clear hM;have hA:Below w w w:=Mz _ _;have hb:=aN w (.cells #[p.k,p.n,p.x.k,p.x.v.1,p.x.v.2.1,p.x.v.2.2,p.x.c,.slice q.xa p.x.ks.length q.xc,.slice q.sa p.xs.length q.sc,.slice q.ga p.gs.length q.gc,.slice q.ka p.ks.length q.kc] 31)
 replace TX:=TX.next hb;replace PX:=PX.next hb;replace DX:=DX.next hb;replace MX:=MX.next hb;replace hA:=chain hA hb;have EL:ElX (w.alloc (.cells #[p.k,p.n,p.x.k,p.x.v.1,p.x.v.2.1,p.x.v.2.2,p.x.c,.slice q.xa p.x.ks.length q.xc,.slice q.sa p.xs.length q.sc,.slice q.ga p.gs.length q.gc,.slice q.ka p.ks.length q.kc] 31)) w p q:=⟨ft.new w p q 31,by simp⟩
 unfold fw;go_enter func31,ntmps31;go_upto_region 1 with fail
 generalize w.alloc (.cells #[p.k,p.n,p.x.k,p.x.v.1,p.x.v.2.1,p.x.v.2.2,p.x.c,.slice q.xa p.x.ks.length q.xc,.slice q.sa p.xs.length q.sc,.slice q.ga p.gs.length q.gc,.slice q.ka p.ks.length q.kc] 31)=w1 at *;clear hb;have con:=qp ts p q ta tc w1 TX PX HK.out;generalize hq:dp ts p=le at con;have HL:Hid (dp ts p=le):=hq;clear hq;try unfold fw at con
 obtain ⟨y0,y1,⟨y2,y3,y4,y5,y6,y7⟩,y8,y9,y10⟩:=EL.el;simp only [MG] at y1 y2 y3 y4 y5 y6 y7 y8 y9 y10;go_wp2_with fail
 refine con.mono ?_;rintro e w2 ⟨a1,c1,rfl,_,hb⟩;clear con;clear y0 y1 y2 y3 y4 y5 y6 y7 y8 y9 y10;replace TX:=TX.next hb;replace PX:=PX.next hb;replace DX:=DX.next hb;replace MX:=MX.next hb;replace EL:=EL.next hb;replace hA:=chain hA hb;clear hb;dsimp only;generalize (if le=0 then aA ts p else []).length=n1 at *;by_cases h0:le=0;rotate_left
 ·have hb0:(le != 0)=true:=by simpa using h0
  have e1:r=le:=by rw [← HR.out]; simp [wrong6,wrongD,HL.out,h0]
  subst e1;clear HR;go_wp2_with fail
  go_ret;exact ⟨rfl,hA⟩
 have HL0:dp ts p=0:=by rw [HL.out,h0]
 have HL1:=aB HL0;clear HL HL0;subst h0;have con:=Bc ts data ta tc da dc w2 TX DX hn2;generalize hq:fI ts data=d1 at con;have HD1:=aB hq;clear hq;go_wp2_with fail
 refine bC con fun w3 hb=>?_;clear con;replace TX:=TX.next hb;replace PX:=PX.next hb;replace DX:=DX.next hb;replace MX:=MX.next hb;replace EL:=EL.next hb;replace hA:=chain hA hb;clear hb;dsimp only;by_cases h0:d1=0;rotate_left
 ·have hb0:(d1 != 0)=true:=by simpa using h0
  have e1:r=d1:=by rw [← HR.out]; simp [wrong6,wrongD,HL1.out,HD1.out,h0]
  subst e1;clear HR;go_wp2_with fail
  go_ret;exact ⟨rfl,hA⟩
 have HD2:Hid (fI ts data=0):=by show _=_; rw [HD1.out,h0]
 clear HD1;subst h0;have h8:=Lz (fX HL1.out).1;have con:=refDataS_at ts more ta tc ma mc w3 TX MX h8;generalize hq:fI ts more=d2 at con;have HD3:=aB hq;clear hq;go_wp2_with fail
 refine bC con fun w4 hb=>?_;clear con;replace TX:=TX.next hb;replace PX:=PX.next hb;replace DX:=DX.next hb;replace MX:=MX.next hb;replace EL:=EL.next hb;replace hA:=chain hA hb;clear hb;dsimp only;by_cases h0:d2=0;rotate_left
 ·have hb0:(d2 != 0)=true:=by simpa using h0
  have e1:r=d2:=by rw [← HR.out]; simp [wrong6,wrongD,HL1.out,HD2.out,HD3.out,h0]
  subst e1;clear HR;go_wp2_with fail
  go_ret;exact ⟨rfl,hA⟩
 have HD4:Hid (fI ts more=0):=by show _=_; rw [HD3.out,h0]
 clear HD3;subst h0;have e1:applyE data more=r:=by rw [← HR.out]; simp [wrong6,wrongD,HL1.out,HD2.out,HD4.out]
 have con:=refApply_at data more da dc ma mc w4 DX MX hn;generalize hq:applyE data more=ae at con;have HA:=aB hq;clear hq;generalize hq:applyZ data more=az at con;have HZ:=aB hq;clear hq;go_wp2_with fail
 refine con.mono ?_;rintro e w5 ⟨⟨a4,⟨c4,rfl⟩,_⟩,hb⟩;clear con;replace TX:=TX.next hb;replace PX:=PX.next hb;replace DX:=DX.next hb;replace MX:=MX.next hb;replace EL:=EL.next hb;replace hA:=chain hA hb;clear hb;dsimp only;rw [HA.out] at e1;subst e1;go_wp2_with fail
 go_ret;exact ⟨rfl,hA⟩
def Del6 (ts:List (List Int)) (p:Pl) (data more:List (List Zp)) (z:List Zp):Prop:=applyE data more=0∧Fx ts data p=0∧Fx ts (applyZ data more) p=0∧eJ (-1) (Fq ts (applyZ data more) p) (Fq ts data p)=0∧z=dM (-1) (Fq ts (applyZ data more) p) (Fq ts data p)
theorem refDelta6_at (ts:List (List Int)) (p:Pl) (q:Pw) (data more:List (List Zp)) (ta:Option Addr) (tc:Nat) (da:Option Addr) (dc:Nat) (ma:Option Addr) (mc:Nat) (w:World) (hT:jG w w ta ts) (hp:kH w w p q) (hk:gu p) (hD:nN w da data) (hM:nN w ma more) (hn:data.length*24≤140737488351232) :
  Calls prog 32 #[.slice ta ts.length tc,fw p q,.slice da data.length dc,.slice ma more.length mc] w fun e w'=>(∃ a c z,∃ b:Bool,e = .returned (.tuple #[.slice a (List.length z) c,b])∧aK w' a z∧(b=true→Del6 ts p data more z))∧Below w w w':=by
 have hn2:data.length≤10000000000000:=by omega
 have hn3:(applyZ data more).length≤10000000000000:=MO (applyZ_len _ _) hn2;have TX:TbX w ta ts:=hT;have PX:PlX w p q:=hp;have DX:=hD;have HK:Hid (gu p):=hk;clear hT hp hD hk;have MX:=hM;clear hM;have hA:Below w w w:=Mz _ _;have hb:=aN w (.cells #[p.k,p.n,p.x.k,p.x.v.1,p.x.v.2.1,p.x.v.2.2,p.x.c,.slice q.xa p.x.ks.length q.xc,.slice q.sa p.xs.length q.sc,.slice q.ga p.gs.length q.gc,.slice q.ka p.ks.length q.kc] 31)
 replace TX:=TX.next hb;replace PX:=PX.next hb;replace DX:=DX.next hb;replace MX:=MX.next hb;replace hA:=chain hA hb;have EL:ElX (w.alloc (.cells #[p.k,p.n,p.x.k,p.x.v.1,p.x.v.2.1,p.x.v.2.2,p.x.c,.slice q.xa p.x.ks.length q.xc,.slice q.sa p.xs.length q.sc,.slice q.ga p.gs.length q.gc,.slice q.ka p.ks.length q.kc] 31)) w p q:=⟨ft.new w p q 31,by simp⟩
 unfold fw;go_enter func32,ntmps32;go_upto_region 1 with fail
 generalize w.alloc (.cells #[p.k,p.n,p.x.k,p.x.v.1,p.x.v.2.1,p.x.v.2.2,p.x.c,.slice q.xa p.x.ks.length q.xc,.slice q.sa p.xs.length q.sc,.slice q.ga p.gs.length q.gc,.slice q.ka p.ks.length q.kc] 31)=w1 at *;clear hb;have con:=refApply_at data more da dc ma mc w1 DX MX hn;generalize hq:applyE data more=ae at con;have HA:Hid (applyE data more=ae):=hq;clear hq;generalize hq:applyZ data more=az at con;have HZ:Hid (applyZ data more=az):=hq;clear hq;go_wp2_with fail
 refine con.mono ?_;rintro e w2 ⟨⟨a1,⟨c1,rfl⟩,D1,_⟩,hb⟩;clear con;replace TX:=TX.next hb;replace PX:=PX.next hb;replace DX:=DX.next hb;replace MX:=MX.next hb;replace EL:=EL.next hb;replace hA:=chain hA hb;clear hb;dsimp only;rw [HZ.out] at hn3;by_cases h0:ae=0;rotate_left
 ·have hb0:(ae != 0)=true:=by simpa using h0
  go_wp2_with fail
  exact bJ rfl rfl ⟨⟨none,0,[],false,rfl,lJ _,fun c=>by cases c⟩,hA⟩
 have HA0:Hid (applyE data more=0):=by show _=_; rw [HA.out,h0]
 clear HA;subst h0;have con:=Bt ts (data) p q ta tc da dc TX DX PX HK.out hn2;generalize hq:Fx ts data p=e2 at con;have HE2:=aB hq;clear hq;generalize hq:Fq ts data p=z2 at con;have HZ2:=aB hq;clear hq;try unfold fw at con
 obtain ⟨y0,y1,⟨y2,y3,y4,y5,y6,y7⟩,y8,y9,y10⟩:=EL.el;simp only [MG] at y1 y2 y3 y4 y5 y6 y7 y8 y9 y10;go_wp2_with fail
 refine con.mono ?_;rintro e w3 ⟨⟨a2,c2,rfl,Z2⟩,hb⟩;clear con;clear y0 y1 y2 y3 y4 y5 y6 y7 y8 y9 y10;replace TX:=TX.next hb;replace PX:=PX.next hb;replace DX:=DX.next hb;replace MX:=MX.next hb;replace EL:=EL.next hb;replace D1:=D1.next hb;replace hA:=chain hA hb;clear hb;dsimp only;have con:=Bt ts az p q ta tc a1 c1 TX D1 PX HK.out hn3;generalize hq:Fx ts az p=e3 at con;have HE3:=aB hq;clear hq;generalize hq:Fq ts az p=z3 at con;have HZ3:=aB hq;clear hq;try unfold fw at con
 obtain ⟨y0,y1,⟨y2,y3,y4,y5,y6,y7⟩,y8,y9,y10⟩:=EL.el;simp only [MG] at y1 y2 y3 y4 y5 y6 y7 y8 y9 y10;go_wp2_with fail
 refine con.mono ?_;rintro e w4 ⟨⟨a3,c3,rfl,Z3⟩,hb⟩;clear con;clear y0 y1 y2 y3 y4 y5 y6 y7 y8 y9 y10;replace TX:=TX.next hb;replace PX:=PX.next hb;replace DX:=DX.next hb;replace MX:=MX.next hb;replace EL:=EL.next hb;replace D1:=D1.next hb;replace Z2:=Z2.next hb;replace hA:=chain hA hb;clear hb;dsimp only;by_cases h0:e2=0;rotate_left
 ·have hb0:(e2 != 0)=true:=by simpa using h0
  go_wp2_with fail
  exact bJ rfl rfl ⟨⟨none,0,[],false,rfl,lJ _,fun c=>by cases c⟩,hA⟩
 have HE20:Hid (Fx ts data p=0):=by show _=_; rw [HE2.out,h0]
 clear HE2;subst h0;by_cases h0:e3=0;rotate_left
 ·have hb0:(e3 != 0)=true:=by simpa using h0
  go_wp2_with fail
  exact bJ rfl rfl ⟨⟨none,0,[],false,rfl,lJ _,fun c=>by cases c⟩,hA⟩
 have HE30:Hid (Fx ts az p=0):=by show _=_; rw [HE3.out,h0]
 clear HE3;subst h0;have con:=CD (-1) (.inr rfl) a3 a2 c3 c2 z3 z2 w4 Z3 Z2;generalize hq:eJ (-1) z3 z2=e4 at con;have HE4:=aB hq;clear hq;generalize hq:dM (-1) z3 z2=z4 at con;have HZ4:=aB hq;clear hq;go_wp2_with fail
 refine con.mono ?_;rintro e w5 ⟨⟨a4,c4,rfl,Z4⟩,hb⟩;clear con;replace TX:=TX.next hb;replace PX:=PX.next hb;replace DX:=DX.next hb;replace MX:=MX.next hb;replace EL:=EL.next hb;replace D1:=D1.next hb;replace Z2:=Z2.next hb;replace Z3:=Z3.next hb;replace hA:=chain hA hb;clear hb;dsimp only;have HG:Hid ((e4 == 0)=true→Del6 ts p data more z4):=fun c=>by
  have c':e4=0:=by simpa using c
  unfold Del6;rw [HZ.out,HZ3.out,HZ2.out];exact ⟨HA0.out,HE20.out,HE30.out,HE4.out.trans c',HZ4.out.symm⟩
 clear HE4 HZ4 HE30 HE20 HZ3 HZ2 HA0 HZ;go_wp2_with fail
 exact bJ rfl rfl ⟨⟨a4,c4,z4,e4 == 0,rfl,Z4,HG.out⟩,hA⟩
def AfP (ts:List (List Int)) (p:Pl) (data ch:List (List Zp)) (w w':World) (v1 v2:Value):Prop :=
 ∃ a c a2 c2,v1 = .slice a (applyZ data ch).length c∧v2 = .slice a2 (Fq ts (applyZ data ch) p).length c2∧(a2=none→c2=0)∧nN w' a (applyZ data ch)∧(∀ b off,a=some ⟨b,off,none⟩→w.heap.size≤b)∧aK w' a2 (Fq ts (applyZ data ch) p)
theorem afterX_at (ts:List (List Int)) (p:Pl) (q:Pw) (data ch:List (List Zp)) (ta:Option Addr) (tc:Nat) (da:Option Addr) (dc:Nat) (ca:Option Addr) (cc:Nat) (w:World) (hT:jG w w ta ts) (hp:kH w w p q) (hk:gu p) (hD:nN w da data) (hC:nN w ca ch) (h8:ts.length≤8) (hn:data.length≤10000000000000) :
  Calls prog 61 #[.slice ta ts.length tc,fw p q,.slice da data.length dc,.slice ca ch.length cc] w fun e w'=>∃ v1 v2,e = .returned (.tuple #[v1,v2,.int .i64 (afE ts p data ch)])∧(afE ts p data ch=0→AfP ts p data ch w w' v1 v2)∧Below w w w':=by
 generalize hr:afE ts p data ch=r;have HR:Hid (afE ts p data ch=r):=hr;clear hr;have TX:TbX w ta ts:=hT;have PX:PlX w p q:=hp;have DX:=hD;have HK:Hid (gu p):=hk;clear hT hp hD hk;have CX:=hC;clear hC;have hA:Below w w w:=Mz _ _;have hb:=aN w (.cells #[p.k,p.n,p.x.k,p.x.v.1,p.x.v.2.1,p.x.v.2.2,p.x.c,.slice q.xa p.x.ks.length q.xc,.slice q.sa p.xs.length q.sc,.slice q.ga p.gs.length q.gc,.slice q.ka p.ks.length q.kc] 31);replace TX:=TX.next hb
 replace PX:=PX.next hb;replace DX:=DX.next hb;replace CX:=CX.next hb;replace hA:=chain hA hb;have EL:ElX (w.alloc (.cells #[p.k,p.n,p.x.k,p.x.v.1,p.x.v.2.1,p.x.v.2.2,p.x.c,.slice q.xa p.x.ks.length q.xc,.slice q.sa p.xs.length q.sc,.slice q.ga p.gs.length q.gc,.slice q.ka p.ks.length q.kc] 31)) w p q:=⟨ft.new w p q 31,by simp⟩
 unfold fw;go_enter func61,ntmps61;go_upto_region 1 with fail
 generalize w.alloc (.cells #[p.k,p.n,p.x.k,p.x.v.1,p.x.v.2.1,p.x.v.2.2,p.x.c,.slice q.xa p.x.ks.length q.xc,.slice q.sa p.xs.length q.sc,.slice q.ga p.gs.length q.gc,.slice q.ka p.ks.length q.kc] 31)=w1 at *;clear hb;have con:=Fe ts ch ta tc ca cc w1 TX CX h8;generalize hq:fI ts ch=d1 at con;have HD:Hid (fI ts ch=d1):=hq;clear hq;go_wp2_with fail
 refine bC con fun w2 hb=>?_;clear con;replace TX:=TX.next hb;replace PX:=PX.next hb;replace DX:=DX.next hb;replace CX:=CX.next hb;replace EL:=EL.next hb;replace hA:=chain hA hb;clear hb;dsimp only;by_cases h0:d1=0;rotate_left
 ·have hb0:(d1 != 0)=true:=by simpa using h0
  have e1:r=d1:=by rw [← HR.out]; simp [afE,HD.out,h0]
  subst e1;clear HR;go_wp2_with fail
  exact JX rfl rfl ⟨_,_,rfl,fun c=>absurd c h0,hA⟩
 have HD0:Hid (fI ts ch=0):=by show _=_; rw [HD.out,h0]
 clear HD;subst h0;have hs1:=hA.size;have con:=applyF_at data ch da dc ca cc w2 DX CX hn;generalize hq:applyE data ch=d2 at con;have HA:=aB hq;clear hq;generalize hq:applyZ data ch=az at con;have HZ:=aB hq;clear hq;go_wp2_with fail
 refine con.mono ?_;rintro e w3 ⟨a2,⟨c2,rfl⟩,D2,hf2,hb⟩;clear con;replace TX:=TX.next hb;replace PX:=PX.next hb;replace DX:=DX.next hb;replace CX:=CX.next hb;replace EL:=EL.next hb;replace hA:=chain hA hb;clear hb;dsimp only;by_cases h0:d2=0;rotate_left
 ·have hb0:(d2 != 0)=true:=by simpa using h0
  have e1:r=d2:=by rw [← HR.out]; simp [afE,HD0.out,HA.out,h0]
  subst e1;clear HR;go_wp2_with fail
  exact JX rfl rfl ⟨_,_,rfl,fun c=>absurd c h0,hA⟩
 have HA0:Hid (applyE data ch=0):=by show _=_; rw [HA.out,h0]
 clear HA;subst h0;have HF:Hid (∀ b off,a2=some ⟨b,off,none⟩→w.heap.size≤b):=fun b off c=>MO hs1 (hf2 b off c)
 clear hf2 hs1;have con:=Hx ts (az) p q ta tc a2 c2 w3 TX D2 PX HK.out;generalize hq:Fx ts (az) p=e3 at con;have HE3:=aB hq;clear hq;generalize hq:Fq ts (az) p=z3 at con;have HZ3:=aB hq;clear hq;try unfold fw at con
 obtain ⟨y0,y1,⟨y2,y3,y4,y5,y6,y7⟩,y8,y9,y10⟩:=EL.el;simp only [MG] at y1 y2 y3 y4 y5 y6 y7 y8 y9 y10;go_wp2_with fail
 refine con.mono ?_;rintro e w4 ⟨v3,rfl,O3,hb⟩;clear con;clear y0 y1 y2 y3 y4 y5 y6 y7 y8 y9 y10;replace TX:=TX.next hb;replace PX:=PX.next hb;replace DX:=DX.next hb;replace CX:=CX.next hb;replace EL:=EL.next hb;replace D2:=D2.next hb;replace hA:=chain hA hb;clear hb;obtain ⟨a3,c3,rfl,Z3,n3⟩:=O3.KW;clear O3;dsimp only;have e1:e3=r:=by rw [← HR.out]; simp [afE,HD0.out,HA0.out,HZ.out,HE3.out]
 subst e1;have HP:Hid (AfP ts p data ch w w4 (.slice a2 az.length c2) (.slice a3 z3.length c3)):=⟨a2,c2,a3,c3,by rw [HZ.out],by rw [HZ.out,HZ3.out],n3,by rw [HZ.out]; exact D2,HF.out,by rw [HZ.out,HZ3.out]; exact Z3⟩
 clear HR HD0 HA0 HZ HE3 HZ3 HF D2 Z3;go_wp2_with fail
 exact JX rfl rfl ⟨_,_,rfl,fun _=>HP.out,hA⟩
theorem fset {W:World} {B:Nat} {a b x y:Value} {T:TypeId} (h:W.heap[B]? = some (.cells #[a,b] T (0,0))):((W.setCell (ah B 0) x).setCell (ah B 1) y).heap[B]? = some (.cells #[x,y] T (0,0)) :=
 heap_setCell_same _ B 1 #[x,b] T y (heap_setCell_same W B 0 #[a,b] T x h)
theorem fset_below {W:World} {B lo:Nat} {x y:Value} (hl:lo≤B):Below lo W ((W.setCell (ah B 0) x).setCell (ah B 1) y):=((Mz lo W).setCell (p:=ah B 0) hl x).setCell (p:=ah B 1) hl y
theorem same_setA {w:World} {g i:Nat} {cs:Array Value} {T:TypeId} {v:Value} (h:w.heap[g]? = some (.cells cs T (0,0))) (hc:cs.setIfInBounds i v=cs):Below w w (w.setCell (ah g i) v):=by
 have X:=(Mz g w).setCell (p:=ah g i) (Mx _) v;refine ⟨X.os,X.tape,X.output,X.size,fun k hk=>?_⟩;by_cases e:k=g
 ·subst e;rw [heap_setCell_same w k i cs T v h,hc,h]
 ·exact Nf w (ah g i) v k e
theorem keepX_at (ts:List (List Int)) (p:Pl) (q:Pw) (data:List (List Zp)) (chs:List (List (List Zp))) (ta:Option Addr) (tc:Nat) (da:Option Addr) (dc:Nat) (ha:Option Addr) (hc:Nat) (w:World) (hT:jG w w ta ts) (hp:kH w w p q) (hk:gu p) (hD:nN w da data) (hC:ChAt w ha chs) :
  Calls prog 38 #[.slice ta ts.length tc,fw p q,.slice da data.length dc,.slice ha chs.length hc] w fun e w'=>∃ a,(∃ c,e = .returned (.tuple #[.slice a (kpL ts p data chs).length c,.agg #[.int .i64 (kpF ts p data chs).1,.int .i64 (kpF ts p data chs).2]]))∧nN w' a (kpL ts p data chs)∧Below w w w':=by
 obtain ⟨i0,hi,hj0,hj1,hj2⟩:=info_parts infoS;have HK:Hid (gu p):=hk;have TX:TbX w ta ts:=hT;have PX:PlX w p q:=hp;have DX:=hD;have CX:=hC;clear hT hp hD hk hC;generalize hF:kpF ts p data chs=F;generalize hL:kpL ts p data chs=L;have HF:Hid (kpF ts p data chs=F):=hF;have HL:Hid (kpL ts p data chs=L):=hL;clear hF hL
 have hA:Below w w ((w.alloc (.cells #[p.k,p.n,p.x.k,p.x.v.1,p.x.v.2.1,p.x.v.2.2,p.x.c,.slice q.xa p.x.ks.length q.xc,.slice q.sa p.xs.length q.sc,.slice q.ga p.gs.length q.gc,.slice q.ka p.ks.length q.kc] 31)).alloc (.cells #[aD,aD] 67)):=(aN ..).alloc (by simp) _
 have hb:Below w w ((w.alloc (.cells #[p.k,p.n,p.x.k,p.x.v.1,p.x.v.2.1,p.x.v.2.2,p.x.c,.slice q.xa p.x.ks.length q.xc,.slice q.sa p.xs.length q.sc,.slice q.ga p.gs.length q.gc,.slice q.ka p.ks.length q.kc] 31)).alloc (.cells #[aD,aD] 67)):=hA
 have EL:ElX ((w.alloc (.cells #[p.k,p.n,p.x.k,p.x.v.1,p.x.v.2.1,p.x.v.2.2,p.x.c,.slice q.xa p.x.ks.length q.xc,.slice q.sa p.xs.length q.sc,.slice q.ga p.gs.length q.gc,.slice q.ka p.ks.length q.kc] 31)).alloc (.cells #[aD,aD] 67)) w p q:=(⟨ft.new w p q 31,by simp⟩:ElX (w.alloc (.cells #[p.k,p.n,p.x.k,p.x.v.1,p.x.v.2.1,p.x.v.2.2,p.x.c,.slice q.xa p.x.ks.length q.xc,.slice q.sa p.xs.length q.sc,.slice q.ga p.gs.length q.gc,.slice q.ka p.ks.length q.kc] 31)) w p q).next (aN ..)
 have QF:=bq (w.alloc (.cells #[p.k,p.n,p.x.k,p.x.v.1,p.x.v.2.1,p.x.v.2.2,p.x.c,.slice q.xa p.x.ks.length q.xc,.slice q.sa p.xs.length q.sc,.slice q.ga p.gs.length q.gc,.slice q.ka p.ks.length q.kc] 31)) #[aD,aD] 67
 have hBz:w.heap.size≤(w.alloc (.cells #[p.k,p.n,p.x.k,p.x.v.1,p.x.v.2.1,p.x.v.2.2,p.x.c,.slice q.xa p.x.ks.length q.xc,.slice q.sa p.xs.length q.sc,.slice q.ga p.gs.length q.gc,.slice q.ka p.ks.length q.kc] 31)).heap.size:=by simp
 replace TX:=TX.next hb;replace PX:=PX.next hb;replace DX:=DX.next hb;replace CX:=CX.next hb;clear hb;unfold fw;go_enter func38,ntmps38;go_upto_region 1 with fail
 rw [show (w.alloc (.cells #[p.k,p.n,p.x.k,p.x.v.1,p.x.v.2.1,p.x.v.2.2,p.x.c,.slice q.xa p.x.ks.length q.xc,.slice q.sa p.xs.length q.sc,.slice q.ga p.gs.length q.gc,.slice q.ka p.ks.length q.kc] 31)).heap.size=w.heap.size+1 by simp] at QF hBz
 generalize (w.alloc (.cells #[.int .i64 p.k,.int .i64 p.n,.int .i64 p.x.k,.int .i64 p.x.v.1,.int .i64 p.x.v.2.1,.string p.x.v.2.2,.int .i64 p.x.c,.slice q.xa p.x.ks.length q.xc,.slice q.sa p.xs.length q.sc,.slice q.ga p.gs.length q.gc,.slice q.ka p.ks.length q.kc] 31)).alloc (.cells #[.int .i64 0,.int .i64 0] 67)=w1 at *;have con:=Hx ts data p q ta tc da dc w1 TX DX PX HK.out;generalize hq:Fx ts data p=e2 at con;have HE:Hid (Fx ts data p=e2):=hq;clear hq;generalize hq:Fq ts data p=z2 at con;have HZ:Hid (Fq ts data p=z2):=hq;clear hq;try unfold fw at con
 obtain ⟨y0,y1,⟨y2,y3,y4,y5,y6,y7⟩,y8,y9,y10⟩:=EL.el;simp only [MG] at y1 y2 y3 y4 y5 y6 y7 y8 y9 y10;go_wp2_with fail
 refine con.mono ?_;rintro e w2 ⟨v2,rfl,O2,hb⟩;clear con;clear y0 y1 y2 y3 y4 y5 y6 y7 y8 y9 y10;replace TX:=TX.next hb;replace PX:=PX.next hb;replace DX:=DX.next hb;replace CX:=CX.next hb;replace EL:=EL.next hb;replace hA:=chain hA hb;replace QF:=iX hb QF;clear hb;obtain ⟨a2,c2,rfl,Z2,n2⟩:=O2.KW;clear O2;by_cases h0:e2=0;rotate_left
 ·have hb0:(e2 != 0)=true:=by simpa using h0
  have hF9:F=(e2,0):=by rw [← HF.out,kp_ev (by rw [HE.out]; exact h0),HE.out]
  have hL9:L = []:=by rw [← HL.out]; exact kp_err (HF.out.trans hF9) h0
  subst hF9 hL9;clear HF HL HE HZ Z2 TX PX DX CX EL;have x0:=cell_of (i:=0) QF rfl;have x1:=cell_of (i:=1) QF rfl;have y0:=MB _ (w+1) 0 _ _ QF;have y1:=MB _ (w+1) 1 _ _ QF;have Q9:=fset (x:=.int .i64 e2) (y:=.int .i64 0) QF;have hB:=hA.trans (fset_below (W:=w2) (B:=w.heap.size+1) (x:=.int .i64 e2) (y:=.int .i64 0) hBz);have g0:=cell_of (i:=0) Q9 rfl;have g1:=cell_of (i:=1) Q9 rfl;clear Q9 QF;go_wp2_with fail
  exact MA (v:=.tuple #[.slice none 0 0,.agg #[.int .i64 e2,.int .i64 0]]) (by simp [results,results38,go_sem,g0,g1]) rfl ⟨none,⟨0,rfl⟩,.inl rfl,hB⟩
 have HE0:Hid (Fx ts data p=0):=by show _=_; rw [HE.out,h0]
 clear HE;subst h0;by_cases l30:(30:Int)<(chs.length:Int)
 ·have hF9:F=(5,0):=by rw [← HF.out]; exact kp_many HE0.out ag
  have hL9:L = []:=by rw [← HL.out]; exact kp_err (HF.out.trans hF9) (by decide)
  subst hF9 hL9;clear HF HL HE0 HZ Z2 TX PX DX CX EL;have x0:=cell_of (i:=0) QF rfl;have x1:=cell_of (i:=1) QF rfl;have y0:=MB _ (w+1) 0 _ _ QF;have y1:=MB _ (w+1) 1 _ _ QF;have Q9:=fset (x:=.int .i64 5) (y:=.int .i64 0) QF;have hB:=hA.trans (fset_below (W:=w2) (B:=w.heap.size+1) (x:=.int .i64 5) (y:=.int .i64 0) hBz);have g0:=cell_of (i:=0) Q9 rfl;have g1:=cell_of (i:=1) Q9 rfl;clear Q9 QF;go_wp2_with fail
  exact MA (v:=.tuple #[.slice none 0 0,.agg #[.int .i64 5,.int .i64 0]]) (by simp [results,results38,go_sem,g0,g1]) rfl ⟨none,⟨0,rfl⟩,.inl rfl,hB⟩
 have l30n:chs.length≤30:=by omega
 have hal:=aN w2 (.cells #[.slice a2 z2.length c2] 38);have K0:=OwnQ.one (c:=c2) (p:=True) Z2 (fun _=>n2);have D0:DFk (w2.alloc (.cells #[.slice a2 z2.length c2] 38)) (.slice (some (ah w2 0)) 1 1) da data:=DFk.LG DX hal (Mx _);have HKZ:Hid ([z2]=keepZ ts p data chs (0+1)):=by show _=_; rw [keepZ_succ,← HZ.out]; rfl
 rw [HKZ.out] at K0;clear HKZ HZ Z2;go_upto_region 7 with fail
 have hgz:=hal.size;generalize w2.alloc (.cells #[.slice a2 z2.length c2] 38)=w3 at *;clear DX;go_wp2_with fail
 go_loopw [2,12,37] (fun d v i wr=>∃ (j:Nat) (aj:Option Addr) (cj:Nat) (cs:List Value),j≤chs.length∧i = .int .i64 j∧d = .slice aj (keepD data chs j).length cj∧Hid (∀ i,i<j→kpE ts p data chs i=0)∧DFk wr v aj (keepD data chs j)∧OwnQ True w2 wr v (keepZ ts p data chs (j+1)) cs∧Below w2 w2 wr) (fun _ _ i _=>chs.length - (intOf i).toNat)
 case atStart=>exact ⟨0,da,dc,_,MD _,rfl,rfl,fun i hi=>absurd hi (M9 _),D0,K0,hal⟩
 case round =>
  obtain ⟨j,aj,cj,cs,hj,rfl,rfl,HQ,DJ,KJ,hb⟩:=hrel;clear D0 K0 hal;replace TX:=TX.next hb;replace PX:=PX.next hb;replace CX:=CX.next hb;replace EL:=EL.next hb;replace QF:=iX hb QF;have hA:=chain hA hb;have EVj:=kp_evs HE0.out j hj HQ.out;have hl:=ev_len EVj;have HEV:=aB EVj;clear EVj;by_cases hlt:j<chs.length
  ·obtain ⟨b,off,ai,ci,rfl,hbl,x0,dX⟩:=CX.elem hlt;have hjz:(j:Int)<(chs.length:Int):=by omega
   have hj30:(j:Int)≤30:=by omega
   have HKE:=kpE_at (ts:=ts) (p:=p) (data:=data) hlt;have HDs:=keepD_succ (data:=data) hlt;have HKE1:=aB HKE;have HDs1:=aB HDs;clear HKE HDs;have con:=afterX_at ts p q (keepD data chs j) chs[j] ta tc aj cj ai ci wr TX PX HK.out DJ.1 dX hl.1 ag;generalize hq:afE ts p (keepD data chs j) chs[j]=ea at con;have HEA:=aB (HKE1.out.trans hq);clear hq HKE1;unfold fw at con;obtain ⟨y0,y1,⟨y2,y3,y4,y5,y6,y7⟩,y8,y9,y10⟩:=EL.el
   simp only [MG] at y1 y2 y3 y4 y5 y6 y7 y8 y9 y10;go_wp2_with fail
   refine con.mono ?_;rintro e w5 ⟨v1,v2,rfl,hP,hbb⟩;clear con;clear y0 y1 y2 y3 y4 y5 y6 y7 y8 y9 y10;have HP:=aB hP;clear hP x0;have hAw:=hA;replace QF:=iX hbb QF;replace hA:=chain hA hbb;by_cases h0:ea=0;rotate_left
   ·have hb0:(ea != 0)=true:=by simpa using h0
    have hF9:F=(ea,(j:Int)+1):=by rw [← HF.out,kp_bad HE0.out l30n hlt HQ.out (by rw [HEA.out]; exact h0),HEA.out]
    have hL9:L = []:=by rw [← HL.out]; exact kp_err (HF.out.trans hF9) h0
    subst hF9 hL9;clear HF HL HE0 TX PX CX EL KJ DJ HP HEA HDs1 HQ HEV dX hAw;have x0:=cell_of (i:=0) QF rfl;have x1:=cell_of (i:=1) QF rfl;have y0:=MB _ (w+1) 0 _ _ QF;have y1:=MB _ (w+1) 1 _ _ QF;have Q9:=fset (x:=.int .i64 ea) (y:=.int .i64 ((j:Int)+1)) QF;have hB:=hA.trans (fset_below (W:=w5) (B:=w.heap.size+1) (x:=.int .i64 ea) (y:=.int .i64 ((j:Int)+1)) hBz);have g0:=cell_of (i:=0) Q9 rfl;have g1:=cell_of (i:=1) Q9 rfl;clear Q9 QF;go_wp2_with fail
    exact MA (v:=.tuple #[.slice none 0 0,.agg #[.int .i64 ea,.int .i64 ((j:Int)+1)]]) (by simp [results,results38,go_sem,g0,g1]) rfl ⟨none,⟨0,rfl⟩,.inl rfl,hB⟩
   obtain ⟨a,c,a5,c5,rfl,rfl,n5,D5,hf5,Z5⟩:=HP.out h0;have HE':Hid (∀ i,i<j+1→kpE ts p data chs i=0):=fun i hi=>by
    by_cases e:i=j
    ·rw [e,HEA.out,h0]
    ·exact HQ.out i ag
   subst h0;rw [← HDs1.out] at D5 Z5;have HDl:=aB HDs1.out;have HLd:(applyZ (keepD data chs j) chs[j]).length=(keepD data chs (j+1)).length:=by rw [HDs1.out]
   have HLz':(Fq ts (applyZ (keepD data chs j) chs[j]) p).length=(Fq ts (keepD data chs (j+1)) p).length:=by rw [HDs1.out]
   rw [HLd,HLz'];clear HLd HLz' HP HEA HDs1 HQ HDl;have HZs:=aB (keepZ_succ ts p data chs (j+1));have HLz:=aB (keepZ_len ts p data chs (j+1));generalize hdn:keepD data chs (j+1)=dn at *;have HDn:=aB hdn;clear hdn;generalize Fq ts dn p=zn at *;have hal:=aN w5 (.cells #[.slice a5 zn.length c5] 38);have q6:=cell_of (i:=0) (bq w5 #[.slice a5 zn.length c5] 38) rfl
   have h56:=chain hbb hal;have K6:=KJ.next h56;have Z6:=Z5.next hal;have hin:=dt_in D5 hf5;have D6:=D5.next hal;have hsz:=hal.size;have hb6:=chain hb h56;have o6:=K6.own;rw [HLz.out] at o6;have z7:=hb6.size;have hvg:∀ g,Value.ownBlock u12=some g→g<wr.heap.size:=fun g hg=>(KJ.own.lt g hg).2
   have zw:w2.heap.size≤(w5.alloc (.cells #[.slice a5 zn.length c5] 38)).heap.size:=by have:=K6.own; omega
   clear DJ KJ hal Z5 D5 dX;go_upto_region 14 with (at_builtin; refine wpList_append_sl rfl _ _ 32 rfl w2 38 i0 underlying32 hi hj0 hj1 hj2 _ (j+1) cs rfl o6 K6.all (ah w5 0) (.slice a5 zn.length c5) ⟨_,_,_,rfl⟩ q6 1 rfl ag zw ?_)
   intro v' w8 ho8 hg8 ha8 hd8;have K8:=K6.push Z6 (fun _=>n5) (by rw [HLz.out]; exact ho8) hg8 ha8;rw [← HZs.out] at K8;have hg6:=K6.all;have DD:DFk (w5.alloc (.cells #[.slice a5 zn.length c5] 38)) u12 a dn:=by
    refine ⟨D6,?_⟩;rcases hin with e | ⟨b',off',e,h1,h2⟩
    ·exact .inl e
    ·refine .inr fun b2 o2 e2 h3=>?_
     have:=hvg _ h3;rw [e] at e2;have:=congrArg Addr.block (Nk e2);simp only at this;omega
   have D8:=DFk.new (W:=w5.alloc (.cells #[.slice a5 zn.length c5] 38)) (B:=wr.heap.size) (DD.off hg6 hg8) (hin.imp id fun ⟨b',off',e,h1,h2⟩=>⟨b',off',e,h1,by omega⟩) hvg (by simpa using hd8);have hb8:=hb6.grown hg8 z7 (fun q hq=>(o6.lt q hq).1);clear K6 Z6 D6 DD ho8 hg8 ha8 hd8 hb6 o6 q6 hin hvg hg6 HLz;go_wp2_with fail
   go_roundw
   case rel=>exact ⟨j+1,a,c,_,by omega,by go_num,by rw [HDn.out],HE',by rw [HDn.out]; exact D8,K8,hb8⟩
   case measure=>simp [intOf]; omega
  ·have e:j=chs.length:=by omega
   have hjn:¬ (j:Int)<(chs.length:Int):=by omega
   subst e;obtain ⟨hF9,hL9⟩:=kp_all HE0.out l30n HQ.out;rw [HF.out] at hF9;rw [HL.out] at hL9;rw [← hL9] at KJ;subst hF9;clear hL9 HF HL HQ HE0 HEV DJ TX PX CX EL;obtain ⟨av,cv,rfl,DV0⟩:=KJ.dt;have DV:=DV0.at;clear DV0;have x0:=cell_of (i:=0) QF rfl;have x1:=cell_of (i:=1) QF rfl;have y0:=MB _ (w+1) 0 _ _ QF;have y1:=MB _ (w+1) 1 _ _ QF;have s1:=same_setA (i:=0) (v:=.int .i64 0) QF rfl;have Q1:=iX s1 QF;have s2:=same_setA (i:=1) (v:=.int .i64 0) Q1 rfl;have DW:=(DV.next s1).next s2;have hB:=chain hA (chain s1 s2)
   have Q2:=iX s2 Q1;have g0:=cell_of (i:=0) Q2 rfl;have g1:=cell_of (i:=1) Q2 rfl;clear DV KJ s1 s2 QF Q1 Q2;go_wp2_with fail
   exact MA (v:=.tuple #[.slice av L.length cv,.agg #[.int .i64 0,.int .i64 0]]) (by simp [results,results38,go_sem,g0,g1]) rfl ⟨av,⟨cv,rfl⟩,DW,hB⟩
theorem wrong_af {ts:List (List Int)} {p:Pl} {data ch:List (List Zp)} (h:Fx ts data p=0) (h0:¬ wrong6 ts p data ch=0):afE ts p data ch=wrong6 ts p data ch:=by
 obtain ⟨l1,l2,_,_⟩:=ev_inv h;unfold wrong6 wrongD at h0 ⊢;simp only [l1,l2,ne_eq,not_true_eq_false,if_false] at h0 ⊢;unfold afE;by_cases c:fI ts ch=0
 ·simp only [c,ne_eq,not_true_eq_false,if_false] at h0 ⊢;simp [h0]
 ·simp [c]
theorem wrong_ok {ts:List (List Int)} {p:Pl} {data ch:List (List Zp)} (h:Fx ts data p=0) (h0:wrong6 ts p data ch=0):fI ts ch=0∧applyE data ch=0:=by
 obtain ⟨l1,l2,_,_⟩:=ev_inv h;unfold wrong6 wrongD at h0;simp only [l1,l2,ne_eq,not_true_eq_false,if_false] at h0;by_cases c:fI ts ch=0
 ·simp only [c,not_true_eq_false,if_false] at h0;exact ⟨c,h0⟩
 ·simp [c] at h0
theorem refKeep_at (ts:List (List Int)) (p:Pl) (q:Pw) (data:List (List Zp)) (chs:List (List (List Zp))) (ta:Option Addr) (tc:Nat) (da:Option Addr) (dc:Nat) (ha:Option Addr) (hc:Nat) (w:World) (hT:jG w w ta ts) (hp:kH w w p q) (hk:gu p) (hD:nN w da data) (hC:ChAt w ha chs) (hn2:data.length≤10000000000000) :
  Calls prog 39 #[.slice ta ts.length tc,fw p q,.slice da data.length dc,.slice ha chs.length hc] w fun e w'=>∃ (v:Value) (f1 f2:Int) (b:Bool),e = .returned (.tuple #[v,.agg #[f1,f2],b])∧(b=true→kpF ts p data chs=(f1,f2)∧∃ a c,v = .slice a (kpL ts p data chs).length c∧DtP False w' a (kpL ts p data chs))∧Below w w w':=by
 obtain ⟨i0,hi,hj0,hj1,hj2⟩:=info_parts infoS;have HK:=aB hk;have TX:TbX w ta ts:=hT;have PX:PlX w p q:=hp;have DX:=hD;have CX:=hC;clear hT hp hD hk hC;have hA:Below w w ((w.alloc (.cells #[p.k,p.n,p.x.k,p.x.v.1,p.x.v.2.1,p.x.v.2.2,p.x.c,.slice q.xa p.x.ks.length q.xc,.slice q.sa p.xs.length q.sc,.slice q.ga p.gs.length q.gc,.slice q.ka p.ks.length q.kc] 31)).alloc (.cells #[aD,aD] 67)):=(aN ..).alloc (by simp) _
 have hb:Below w w ((w.alloc (.cells #[p.k,p.n,p.x.k,p.x.v.1,p.x.v.2.1,p.x.v.2.2,p.x.c,.slice q.xa p.x.ks.length q.xc,.slice q.sa p.xs.length q.sc,.slice q.ga p.gs.length q.gc,.slice q.ka p.ks.length q.kc] 31)).alloc (.cells #[aD,aD] 67)):=hA
 have EL:ElX ((w.alloc (.cells #[p.k,p.n,p.x.k,p.x.v.1,p.x.v.2.1,p.x.v.2.2,p.x.c,.slice q.xa p.x.ks.length q.xc,.slice q.sa p.xs.length q.sc,.slice q.ga p.gs.length q.gc,.slice q.ka p.ks.length q.kc] 31)).alloc (.cells #[aD,aD] 67)) w p q:=(⟨ft.new w p q 31,by simp⟩:ElX (w.alloc (.cells #[p.k,p.n,p.x.k,p.x.v.1,p.x.v.2.1,p.x.v.2.2,p.x.c,.slice q.xa p.x.ks.length q.xc,.slice q.sa p.xs.length q.sc,.slice q.ga p.gs.length q.gc,.slice q.ka p.ks.length q.kc] 31)) w p q).next (aN ..)
 have QF:=bq (w.alloc (.cells #[p.k,p.n,p.x.k,p.x.v.1,p.x.v.2.1,p.x.v.2.2,p.x.c,.slice q.xa p.x.ks.length q.xc,.slice q.sa p.xs.length q.sc,.slice q.ga p.gs.length q.gc,.slice q.ka p.ks.length q.kc] 31)) #[aD,aD] 67
 have hBz:w.heap.size≤(w.alloc (.cells #[p.k,p.n,p.x.k,p.x.v.1,p.x.v.2.1,p.x.v.2.2,p.x.c,.slice q.xa p.x.ks.length q.xc,.slice q.sa p.xs.length q.sc,.slice q.ga p.gs.length q.gc,.slice q.ka p.ks.length q.kc] 31)).heap.size:=by simp
 replace TX:=TX.next hb;replace PX:=PX.next hb;replace DX:=DX.next hb;replace CX:=CX.next hb;clear hb;unfold fw;go_enter func39,ntmps39;go_upto_region 1 with fail
 rw [show (w.alloc (.cells #[p.k,p.n,p.x.k,p.x.v.1,p.x.v.2.1,p.x.v.2.2,p.x.c,.slice q.xa p.x.ks.length q.xc,.slice q.sa p.xs.length q.sc,.slice q.ga p.gs.length q.gc,.slice q.ka p.ks.length q.kc] 31)).heap.size=w.heap.size+1 by simp] at QF hBz
 generalize (w.alloc (.cells #[p.k,p.n,p.x.k,p.x.v.1,p.x.v.2.1,p.x.v.2.2,p.x.c,.slice q.xa p.x.ks.length q.xc,.slice q.sa p.xs.length q.sc,.slice q.ga p.gs.length q.gc,.slice q.ka p.ks.length q.kc] 31)).alloc (.cells #[aD,aD] 67)=w1 at *;have con:=Bt ts data p q ta tc da dc TX DX PX HK.out hn2;generalize hq:Fx ts data p=e2 at con;have HE:Hid (Fx ts data p=e2):=hq;clear hq;generalize hq:Fq ts data p=z2 at con;have HZ:Hid (Fq ts data p=z2):=hq;clear hq;try unfold fw at con
 obtain ⟨y0,y1,⟨y2,y3,y4,y5,y6,y7⟩,y8,y9,y10⟩:=EL.el;simp only [MG] at y1 y2 y3 y4 y5 y6 y7 y8 y9 y10;go_wp2_with fail
 refine con.mono ?_;rintro e w2 ⟨⟨a2,c2,rfl,Z2⟩,hb⟩;clear con;clear y0 y1 y2 y3 y4 y5 y6 y7 y8 y9 y10;replace TX:=TX.next hb;replace PX:=PX.next hb;replace DX:=DX.next hb;replace CX:=CX.next hb;replace EL:=EL.next hb;replace hA:=chain hA hb;replace QF:=iX hb QF;clear hb;by_cases h0:e2=0;rotate_left
 ·have hb0:(e2 != 0)=true:=by simpa using h0
  have HF9:Hid (kpF ts p data chs=(e2,0)):=by show _=_; rw [kp_ev (by rw [HE.out]; exact h0),HE.out]
  have HL9:=aB (kp_err HF9.out h0);clear HE HZ Z2 TX PX DX CX EL;have x0:=cell_of (i:=0) QF rfl;have x1:=cell_of (i:=1) QF rfl;have y0:=MB _ (w+1) 0 _ _ QF;have y1:=MB _ (w+1) 1 _ _ QF;have Q9:=fset (x:=.int .i64 e2) (y:=.int .i64 0) QF;have hB:=hA.trans (fset_below (W:=w2) (B:=w.heap.size+1) (x:=.int .i64 e2) (y:=.int .i64 0) hBz);have g0:=cell_of (i:=0) Q9 rfl;have g1:=cell_of (i:=1) Q9 rfl;clear Q9 QF;go_wp2_with fail
  exact MA (v:=.tuple #[.slice none 0 0,.agg #[.int .i64 e2,.int .i64 0],.bool true]) (by simp [results,results39,go_sem,g0,g1]) rfl ⟨_,_,_,true,rfl,fun _=>⟨HF9.out,none,0,by rw [HL9.out]; rfl,by rw [HL9.out]; exact .inl rfl⟩,hB⟩
 have HE0:Hid (Fx ts data p=0):=by show _=_; rw [HE.out,h0]
 clear HE;subst h0;by_cases l30:(30:Int)<(chs.length:Int)
 ·have HF9:Hid (kpF ts p data chs=(5,0)):=kp_many HE0.out ag;have HL9:Hid (kpL ts p data chs = []):=kp_err HF9.out (by decide);clear HE0 HZ Z2 TX PX DX CX EL;have x0:=cell_of (i:=0) QF rfl;have x1:=cell_of (i:=1) QF rfl;have y0:=MB _ (w+1) 0 _ _ QF;have y1:=MB _ (w+1) 1 _ _ QF;have Q9:=fset (x:=.int .i64 5) (y:=.int .i64 0) QF;have hB:=hA.trans (fset_below (W:=w2) (B:=w.heap.size+1) (x:=.int .i64 5) (y:=.int .i64 0) hBz);have g0:=cell_of (i:=0) Q9 rfl;have g1:=cell_of (i:=1) Q9 rfl;clear Q9 QF;go_wp2_with fail
  exact MA (v:=.tuple #[.slice none 0 0,.agg #[.int .i64 5,.int .i64 0],.bool true]) (by simp [results,results39,go_sem,g0,g1]) rfl ⟨_,_,_,true,rfl,fun _=>⟨HF9.out,none,0,by rw [HL9.out]; rfl,by rw [HL9.out]; exact .inl rfl⟩,hB⟩
 have l30n:chs.length≤30:=by omega
 have hal:=aN w2 (.cells #[.slice a2 z2.length c2] 38);have K0:=OwnQ.one (c:=c2) (p:=False) Z2 (fun c=>c.elim);have D0:DFk (w2.alloc (.cells #[.slice a2 z2.length c2] 38)) (.slice (some (ah w2 0)) 1 1) da data:=DFk.LG DX hal (Mx _);have HKZ:Hid ([z2]=keepZ ts p data chs (0+1)):=by show _=_; rw [keepZ_succ,← HZ.out]; rfl
 rw [HKZ.out] at K0;clear HKZ HZ Z2;go_upto_region 7 with fail
 have hgz:=hal.size;generalize w2.alloc _=w3 at *;clear DX;go_wp2_with fail
 go_loopw [2,13,40] (fun d v i wr=>∃ (j:Nat) (aj:Option Addr) (cj:Nat) (cs:List Value),j≤chs.length∧i = .int .i64 j∧d = .slice aj (keepD data chs j).length cj∧Hid (∀ i,i<j→kpE ts p data chs i=0)∧DFk wr v aj (keepD data chs j)∧OwnQ False w2 wr v (keepZ ts p data chs (j+1)) cs∧Below w2 w2 wr) (fun _ _ i _=>chs.length - (intOf i).toNat)
 case atStart=>exact ⟨0,da,dc,_,MD _,rfl,rfl,fun i hi=>absurd hi (M9 _),D0,K0,hal⟩
 case round =>
  obtain ⟨j,aj,cj,cs,hj,rfl,rfl,HQ,DJ,KJ,hb⟩:=hrel;clear D0 K0 hal;replace TX:=TX.next hb;replace PX:=PX.next hb;replace CX:=CX.next hb;replace EL:=EL.next hb;replace QF:=iX hb QF;have hA:=chain hA hb;have EVj:=kp_evs HE0.out j hj HQ.out;have hl:=ev_len EVj;have HEV:=aB EVj;clear EVj;by_cases hlt:j<chs.length
  ·obtain ⟨b,off,ai,ci,rfl,hbl,x0,dX⟩:=CX.elem hlt;have hjz:(j:Int)<(chs.length:Int):=by omega
   have hj30:(j:Int)≤30:=by omega
   have HKE:=kpE_at (ts:=ts) (p:=p) (data:=data) hlt;have HDs:=keepD_succ (data:=data) hlt;have HKE1:=aB HKE;have HDs1:=aB HDs;clear HKE HDs;have con:=refWrong6_at ts p q (keepD data chs j) chs[j] ta tc aj cj ai ci wr TX PX HK.out DJ.1 dX ag;generalize hq:wrong6 ts p (keepD data chs j) chs[j]=ew at con;have HW:=aB hq;clear hq;try unfold fw at con
   obtain ⟨y0,y1,⟨y2,y3,y4,y5,y6,y7⟩,y8,y9,y10⟩:=EL.el;simp only [MG] at y1 y2 y3 y4 y5 y6 y7 y8 y9 y10;go_wp2_with fail
   refine bC con fun w5 hb2=>?_;clear con;clear y0 y1 y2 y3 y4 y5 y6 y7 y8 y9 y10;replace TX:=TX.next hb2;replace PX:=PX.next hb2;replace CX:=CX.next hb2;replace EL:=EL.next hb2;replace DJ:=DJ.next hb2;replace KJ:=KJ.next hb2;replace dX:=dX.next hb2;replace hA:=chain hA hb2;replace hb:=chain hb hb2;replace QF:=iX hb2 QF;clear hb2 x0;by_cases h0:ew=0;rotate_left
   ·have hb0:(ew != 0)=true:=by simpa using h0
    have HEA:Hid (kpE ts p data chs j=ew):=by show _=_; rw [HKE1.out,wrong_af HEV.out (by rw [HW.out]; exact h0),HW.out]
    have HF9:Hid (kpF ts p data chs=(ew,(j:Int)+1)):=by show _=_; rw [kp_bad HE0.out l30n hlt HQ.out (by rw [HEA.out]; exact h0),HEA.out]
    have HL9:=aB (kp_err HF9.out h0);clear HE0 TX PX CX EL KJ DJ HW HEA HDs1 HQ HEV HKE1 dX;have x0:=cell_of (i:=0) QF rfl;have x1:=cell_of (i:=1) QF rfl;have y0:=MB _ (w+1) 0 _ _ QF;have y1:=MB _ (w+1) 1 _ _ QF;have Q9:=fset (x:=.int .i64 ew) (y:=.int .i64 ((j:Int)+1)) QF;have hB:=hA.trans (fset_below (W:=w5) (B:=w.heap.size+1) (x:=.int .i64 ew) (y:=.int .i64 ((j:Int)+1)) hBz);have g0:=cell_of (i:=0) Q9 rfl;have g1:=cell_of (i:=1) Q9 rfl;clear Q9 QF;go_wp2_with fail
    exact MA (v:=.tuple #[.slice none 0 0,.agg #[.int .i64 ew,.int .i64 ((j:Int)+1)],.bool true]) (by simp [results,results39,go_sem,g0,g1]) rfl ⟨_,ew,(j:Int)+1,true,rfl,fun _=>⟨HF9.out,none,0,by rw [HL9.out]; rfl,by rw [HL9.out]; exact .inl rfl⟩,hB⟩
   obtain ⟨hw1,hw2⟩:=wrong_ok HEV.out (HW.out.trans h0);have HW1:=aB hw1;have HW2:=aB hw2;clear hw1 hw2 HW;subst h0;have con:=refDelta6_at ts p q (keepD data chs j) chs[j] ta tc aj cj ai ci w5 TX PX HK.out DJ.1 dX ag;try unfold fw at con
   obtain ⟨y0,y1,⟨y2,y3,y4,y5,y6,y7⟩,y8,y9,y10⟩:=EL.el;simp only [MG] at y1 y2 y3 y4 y5 y6 y7 y8 y9 y10;go_wp2_with fail
   refine con.mono ?_;rintro e w6 ⟨⟨ad,cd,zd,bd,rfl,_,hgd⟩,hb2⟩;clear con;clear y0 y1 y2 y3 y4 y5 y6 y7 y8 y9 y10;replace TX:=TX.next hb2;replace PX:=PX.next hb2;replace CX:=CX.next hb2;replace EL:=EL.next hb2;replace DJ:=DJ.next hb2;replace KJ:=KJ.next hb2;replace dX:=dX.next hb2;replace hA:=chain hA hb2;replace hb:=chain hb hb2;replace QF:=iX hb2 QF;have HG:=aB hgd;clear hgd hb2;cases bd with
   | false =>
    clear HE0 TX PX CX EL KJ DJ HDs1 HQ HEV HKE1 HW1 HW2 HG dX;have x0:=cell_of (i:=0) QF rfl;have x1:=cell_of (i:=1) QF rfl;have y0:=MB _ (w+1) 0 _ _ QF;have y1:=MB _ (w+1) 1 _ _ QF;have Q9:=fset (x:=.int .i64 0) (y:=.int .i64 0) QF;have hB:=hA.trans (fset_below (W:=w6) (B:=w.heap.size+1) (x:=.int .i64 0) (y:=.int .i64 0) hBz);have g0:=cell_of (i:=0) Q9 rfl;have g1:=cell_of (i:=1) Q9 rfl;clear Q9 QF;go_wp2_with fail
    exact MA (v:=.tuple #[.slice none 0 0,.agg #[.int .i64 0,.int .i64 0],.bool false]) (by simp [results,results39,go_sem,g0,g1]) rfl ⟨_,0,0,false,rfl,fun c=>(by cases c),hB⟩
   | true =>
    have HEA:Hid (kpE ts p data chs j=0):=by
     obtain ⟨h1,_,h3,_,_⟩:=HG.out rfl;show _=_;rw [HKE1.out]; unfold afE; simp [HW1.out,h1,h3]
    clear HG HKE1 HW1;have HVG:Hid (∀ g,Value.ownBlock u13=some g→g<w6.heap.size):=fun g hg=>(KJ.own.lt g hg).2
    have con:=refApply_at (keepD data chs j) chs[j] aj cj ai ci w6 DJ.1 dX ag;go_wp2_with fail
    refine con.mono ?_;rintro e w7 ⟨⟨a,⟨c,rfl⟩,D7,hf7⟩,hb2⟩;clear con;replace TX:=TX.next hb2;replace PX:=PX.next hb2;replace CX:=CX.next hb2;replace EL:=EL.next hb2;replace DJ:=DJ.next hb2;replace KJ:=KJ.next hb2;replace dX:=dX.next hb2;replace hA:=chain hA hb2;replace hb:=chain hb hb2;replace QF:=iX hb2 QF;clear hb2;rw [HW2.out];have hln:(applyZ (keepD data chs j) chs[j]).length≤10000000000000:=MO (applyZ_len _ _) ag;have con:=Bt ts (applyZ (keepD data chs j) chs[j]) p q ta tc a c TX D7 PX HK.out hln;try unfold fw at con
    obtain ⟨y0,y1,⟨y2,y3,y4,y5,y6,y7⟩,y8,y9,y10⟩:=EL.el;simp only [MG] at y1 y2 y3 y4 y5 y6 y7 y8 y9 y10;go_wp2_with fail
    refine con.mono ?_;rintro e w8 ⟨⟨a5,c5,rfl,Z5⟩,hb2⟩;clear con;clear y0 y1 y2 y3 y4 y5 y6 y7 y8 y9 y10;replace TX:=TX.next hb2;replace PX:=PX.next hb2;replace CX:=CX.next hb2;replace EL:=EL.next hb2;replace DJ:=DJ.next hb2;replace KJ:=KJ.next hb2;replace dX:=dX.next hb2;replace D7:=D7.next hb2;replace hA:=chain hA hb2;replace hb:=chain hb hb2;replace QF:=iX hb2 QF;have HE':Hid (∀ i,i<j+1→kpE ts p data chs i=0):=fun i hi=>by
     by_cases e:i=j
     ·rw [e,HEA.out]
     ·exact HQ.out i ag
    rw [← HDs1.out] at D7 Z5;have HLd:(applyZ (keepD data chs j) chs[j]).length=(keepD data chs (j+1)).length:=by rw [HDs1.out]
    have HLz':(Fq ts (applyZ (keepD data chs j) chs[j]) p).length=(Fq ts (keepD data chs (j+1)) p).length:=by rw [HDs1.out]
    rw [HLd,HLz'];clear HLd HLz' HEA HDs1 HQ hb2 hln HW2;have HZs:=aB (keepZ_succ ts p data chs (j+1));have HLz:=aB (keepZ_len ts p data chs (j+1));generalize hdn:keepD data chs (j+1)=dn at *;have HDn:=aB hdn;clear hdn;generalize Fq ts dn p=zn at *;have hal:=aN w8 (.cells #[.slice a5 zn.length c5] 38)
    have q6:=cell_of (i:=0) (bq w8 #[.slice a5 zn.length c5] 38) rfl;have K6:=KJ.next hal;have Z6:=Z5.next hal;have hin:=dt_in D7 hf7;have D6:=D7.next hal;have hsz:=hal.size;have hb6:=chain hb hal;have o6:=K6.own;rw [HLz.out] at o6;have z7:=hb6.size;have hvg:=HVG.out
    clear DJ KJ hal Z5 D7 dX;go_upto_region 19 with (at_builtin; refine wpList_append_sl rfl _ _ 32 rfl w2 38 i0 underlying32 hi hj0 hj1 hj2 _ (j+1) cs rfl o6 K6.all (ah w8 0) (.slice a5 zn.length c5) ⟨_,_,_,rfl⟩ q6 1 rfl ag z7 ?_)
    intro v' w9 ho9 hg9 ha9 hd9;have K8:=K6.push Z6 (fun c=>c.elim) (by rw [HLz.out]; exact ho9) hg9 ha9;rw [← HZs.out] at K8;have hg6:=K6.all;have DD:DFk (w8.alloc (.cells #[.slice a5 zn.length c5] 38)) u13 a dn:=by
     refine ⟨D6,?_⟩;rcases hin with e | ⟨b',off',e,h1,h2⟩
     ·exact .inl e
     ·refine .inr fun b2 o2 e2 h3=>?_
      have:=hvg _ h3;rw [e] at e2;have:=congrArg Addr.block (Nk e2);simp only at this;omega
    have D8:=DFk.new (W:=w8.alloc (.cells #[.slice a5 zn.length c5] 38)) (B:=w6.heap.size) (DD.off hg6 hg9) (hin.imp id fun ⟨b',off',e,h1,h2⟩=>⟨b',off',e,h1,by omega⟩) hvg (by simpa using hd9);have hb8:=hb6.grown hg9 z7 (fun q hq=>(o6.lt q hq).1);clear K6 Z6 D6 DD ho9 hg9 ha9 hd9 hb6 o6 q6 hin hvg hg6 HLz HVG;go_wp2_with fail
    go_roundw
    case rel=>exact ⟨j+1,a,c,_,by omega,by go_num,by rw [HDn.out],HE',by rw [HDn.out]; exact D8,K8,hb8⟩
    case measure=>simp [intOf]; omega
  ·have e:j=chs.length:=by omega
   have hjn:¬ (j:Int)<(chs.length:Int):=by omega
   subst e;obtain ⟨hF9,hL9⟩:=kp_all HE0.out l30n HQ.out;rw [← hL9] at KJ;have HF9:=aB hF9;clear hL9 hF9 HQ HE0 HEV DJ TX PX CX EL;obtain ⟨av,cv,rfl,DV⟩:=KJ.dt;have x0:=cell_of (i:=0) QF rfl;have x1:=cell_of (i:=1) QF rfl;have y0:=MB _ (w+1) 0 _ _ QF;have y1:=MB _ (w+1) 1 _ _ QF;have s1:=same_setA (i:=0) (v:=.int .i64 0) QF rfl;have Q1:=iX s1 QF;have s2:=same_setA (i:=1) (v:=.int .i64 0) Q1 rfl;have DW:=(DV.next s1).next s2;have hB:=chain hA (chain s1 s2)
   have Q2:=iX s2 Q1;have g0:=cell_of (i:=0) Q2 rfl;have g1:=cell_of (i:=1) Q2 rfl;clear DV KJ s1 s2 QF Q1 Q2;go_wp2_with fail
   exact MA (v:=.tuple #[.slice av (kpL ts p data chs).length cv,.agg #[.int .i64 0,.int .i64 0],.bool true]) (by simp [results,results39,go_sem,g0,g1]) rfl ⟨_,0,0,.inr ⟨rfl,⟨HF9.out,av,⟨cv,rfl⟩,DW⟩,hB⟩⟩
end Go.Proofs.YtoefpglknaiaeaaGreat
namespace Go.Proofs.YtoefpglknaiaeaaGreat
open Go.ChangeAt Go.ChangeShapes Go.Joins Go.Lib Go.RowKit Go.Shelf Go.WideShapes _root_.Go.Proofs.Tryz
theorem kpL_len (ts:List (List Int)) (p:Pl) (data:List (List Zp)) (chs:List (List (List Zp))):(kpL ts p data chs).length≤1000000:=by
 unfold kpL;by_cases h:(kpF ts p data chs).1=0
 ·rw [if_pos h,keepZ_len];unfold kpF at h;by_cases h1:Fx ts data p=0
  ·rw [if_neg (by simp [h1])] at h;by_cases h2:30<chs.length
   ·rw [if_pos h2] at h; simp at h
   ·omega
  ·rw [if_pos h1] at h; exact absurd h h1
 ·rw [if_neg h]; simp
theorem sameL_at (zs:List (List Zp)) (a a':Option Addr) (cap cap':Nat) (w:World) (h:DtP False w a zs) (h':DtP False w a' zs) (hn:zs.length≤1000000) :
  Calls prog 40 #[.slice a zs.length cap,.slice a' zs.length cap'] w fun e w'=>e = .returned true∧Below w w w':=by
 go_enter func40,ntmps40;go_wp2_with fail
 go_loopw [13] (fun i wr=>∃ k:Nat,k≤zs.length∧i = .int .i64 k∧Below w w wr) (fun i _=>zs.length - (intOf i).toNat)
 case atStart=>exact ⟨0,MD _,rfl,Mz _ _⟩
 case round =>
  obtain ⟨k,hk,rfl,hb⟩:=hrel;by_cases hlt:k<zs.length
  ·obtain ⟨b,off,ai,ci,rfl,hbl,c0,z0⟩:=(h.next hb).elem hlt;obtain ⟨b',off',ai',ci',rfl,hbl',c0',z0'⟩:=(h'.next hb).elem hlt;have hkz:(k:Int)<(zs.length:Int):=by omega
   generalize zs[k]=z at *;go_upto_region 6 with fail
   have con:∀ n:cF wr,Calls prog 21 #[.slice ai z.length ci,.slice ai' z.length ci'] n.now fun e w'=>e = .returned true∧Below n.now.heap.size n.now w':=fun n=>JP ai ai' ci ci' z n.now (z0.next n.ok) (z0'.next n.ok)
   have p1:=ak c0;have p2:=ak c0';haveI:Nonempty (cF wr):=⟨⟨_,Mz _ _⟩⟩
   clear c0 c0' z0 z0';refine aq aG aG ?_
   repeat (go_big_quiet_step (first | (go_at_call 21; exact cG (con _))))
   refine wpQuiet_nil ?_;rintro wz ⟨⟨vz,hbz⟩,hz⟩;obtain rfl:wz=vz:=hz;have hb2:=chain hb hbz;clear p1 p2 this con;go_wp2_with fail
   go_roundw
   case rel=>exact ⟨k+1,by omega,by go_num,hb2⟩
   case measure=>simp [intOf]; omega
  ·go_wp2_with fail
   go_ret;exact ⟨rfl,hb⟩
theorem keepTells_walk (ta:Option Addr) (tc:Nat) (ts:List (List Int)) (p:Pl) (q:Pw) (da:Option Addr) (dc:Nat) (data:List (List Zp)) (ha:Option Addr) (hc:Nat) (chs:List (List (List Zp))) (w:World) (hT:jG w w ta ts) (hp:kH w w p q) (hk:gu p) (hD:nN w da data) (hn2:data.length≤10000000000000) (hC:ChAt w ha chs) :
  Calls prog 12 #[.slice ta ts.length tc,fw p q,.slice da data.length dc,.slice ha chs.length hc] w fun e w'=>e = .returned true∧Below w w w':=by
 have TX:TbX w ta ts:=hT;have PX:PlX w p q:=hp;have DX:=hD;have HK:Hid (gu p):=hk;clear hT hp hD hk;have CX:=hC;clear hC;have hA:Below w w w:=Mz _ _;have hb:=aN w (.cells #[p.k,p.n,p.x.k,p.x.v.1,p.x.v.2.1,p.x.v.2.2,p.x.c,.slice q.xa p.x.ks.length q.xc,.slice q.sa p.xs.length q.sc,.slice q.ga p.gs.length q.gc,.slice q.ka p.ks.length q.kc] 31);replace TX:=TX.next hb;replace PX:=PX.next hb;replace DX:=DX.next hb;replace CX:=CX.next hb
 replace hA:=chain hA hb;have EL:ElX (w.alloc (.cells #[p.k,p.n,p.x.k,p.x.v.1,p.x.v.2.1,p.x.v.2.2,p.x.c,.slice q.xa p.x.ks.length q.xc,.slice q.sa p.xs.length q.sc,.slice q.ga p.gs.length q.gc,.slice q.ka p.ks.length q.kc] 31)) w p q:=⟨ft.new w p q 31,by simp⟩
 unfold fw;go_enter func12,ntmps12;go_upto_region 1 with fail
 generalize w.alloc (.cells #[p.k,p.n,p.x.k,p.x.v.1,p.x.v.2.1,p.x.v.2.2,p.x.c,.slice q.xa p.x.ks.length q.xc,.slice q.sa p.xs.length q.sc,.slice q.ga p.gs.length q.gc,.slice q.ka p.ks.length q.kc] 31)=w1 at *;clear hb;have con:=keepX_at ts p q data chs ta tc da dc ha hc w1 TX PX HK.out DX CX;try unfold fw at con
 obtain ⟨y0,y1,⟨y2,y3,y4,y5,y6,y7⟩,y8,y9,y10⟩:=EL.el;simp only [MG] at y1 y2 y3 y4 y5 y6 y7 y8 y9 y10;go_wp2_with fail
 refine con.mono ?_;rintro e w2 ⟨a1,⟨c1,rfl⟩,D1,hb⟩;clear con;clear y0 y1 y2 y3 y4 y5 y6 y7 y8 y9 y10;replace TX:=TX.next hb;replace PX:=PX.next hb;replace DX:=DX.next hb;replace CX:=CX.next hb;replace EL:=EL.next hb;replace hA:=chain hA hb;clear hb;dsimp only;generalize hF:kpF ts p data chs=F at *;have HF:=aB hF;clear hF;have Q1:=bq w2 #[F.1,F.2] 67;have hb:=aN w2 (.cells #[F.1,F.2] 67);go_upto_region 2 with fail
 generalize w2.alloc _=w3 at *;replace TX:=TX.next hb;replace PX:=PX.next hb;replace DX:=DX.next hb;replace CX:=CX.next hb;replace EL:=EL.next hb;replace D1:=D1.next hb;replace hA:=chain hA hb;clear hb;have con:=refKeep_at ts p q data chs ta tc da dc ha hc w3 TX PX HK.out DX CX hn2;unfold fw at con;obtain ⟨y0,y1,⟨y2,y3,y4,y5,y6,y7⟩,y8,y9,y10⟩:=EL.el;simp only [MG] at y1 y2 y3 y4 y5 y6 y7 y8 y9 y10;go_wp2_with fail
 refine con.mono ?_;rintro e w4 ⟨v2,f1,f2,b,rfl,hg,hb⟩;clear con;clear y0 y1 y2 y3 y4 y5 y6 y7 y8 y9 y10;have HG:=aB hg;clear hg;replace Q1:=iX hb Q1;replace TX:=TX.next hb;replace PX:=PX.next hb;replace DX:=DX.next hb;replace CX:=CX.next hb;replace EL:=EL.next hb;replace D1:=D1.next hb;replace hA:=chain hA hb;clear hb;have Q2:=bq w4 #[f1,f2] 67
 have hb:=aN w4 (.cells #[f1,f2] 67);go_upto_region 3 with fail
 generalize w4.alloc _=w5 at *;replace Q1:=iX hb Q1;replace TX:=TX.next hb;replace PX:=PX.next hb;replace DX:=DX.next hb;replace CX:=CX.next hb;replace EL:=EL.next hb;replace D1:=D1.next hb;replace hA:=chain hA hb;replace HG:Hid (b=true→kpF ts p data chs=(f1,f2)∧∃ a c,v2 = .slice a (kpL ts p data chs).length c∧DtP False w5 a (kpL ts p data chs)):=fun c=>(HG.out c).imp id fun ⟨a,c,h1,h2⟩=>⟨a,c,h1,h2.next hb⟩
 clear hb;cases b with
 | false =>
  clear HG D1 Q1 Q2;go_wp2_with fail
  go_ret;exact ⟨rfl,hA⟩
 | true =>
  obtain ⟨hF,a2,c2,rfl,D2⟩:=HG.out rfl;rw [HF.out] at hF;subst hF;have hL:(kpL ts p data chs).length≤1000000:=kpL_len _ _ _ _;have Bm:=cell_of (i:=0) Q1 rfl;have c11:=cell_of (i:=1) Q1 rfl;have c20:=cell_of (i:=0) Q2 rfl;have c21:=cell_of (i:=1) Q2 rfl;clear HG Q1 Q2 HF;generalize kpL ts p data chs=L at *;have HL:=aB hL;clear hL;have con:=sameL_at L a1 a2 c1 c2 w5 D1.p D2 HL.out;dsimp only at *;go_wp2_with fail
  refine bC con fun wz hb=>?_;clear con;replace hA:=chain hA hb;go_wp2_with fail
  go_ret;exact ⟨rfl,hA⟩
theorem qDs:Tryz.prog.cellsOf 32=1:=by kernel_rfl
theorem open_changes {H:Type} {enc:TypeId × Value→H} {W:World} {r:Reach} {b0:Nat} {v:Value} {d:DataW H} {p:List MemPlace}
  (hv:Value.okWide prog W r b0 63 v) (h:DataW.Trod enc prog W 0 (fun _=>true) true 63 v d p):∃ (a:Option Addr) (cap:Nat) (l:List (List (List Zp))),v = .slice a l.length cap∧ChAt W a l:=by
 obtain ⟨a0,len0,cap0,rfl⟩:=okWide_slice underlying63 hv;obtain ⟨fuel,hf⟩:=h;rcases Go.Deep.open_slice underlying63 hf with ⟨hcs,_⟩ | ⟨a,len,cap,m,n,D,Pl,hcs,_,hl,hm,hmm,_,hx⟩
 ·exact ⟨none,0,[],by simpa [Value.cells] using hcs,.inl rfl⟩
 ·rw [qDs] at hx;simp only [if_true] at hmm;obtain ⟨f,hf'⟩:=Go.Deep.choose_lt (α:=List (List Zp) × Option Addr × Nat) (n:=len) (p:=fun i y=>W.cell? ((a.add (i*1)).add 0)=some (.slice y.2.1 y.1.length y.2.2)∧nN W y.2.1 y.1) (fun i hi=>by
   obtain ⟨cs',h1,h2⟩:=hx i ag;obtain ⟨_,_,hcell⟩:=N3 h1;obtain ⟨ai,ci,l,rfl,hz⟩:=Ba h2;exact ⟨(l,ai,ci),hcell 0 (by simp),hz⟩)
  refine ⟨some a,cap,(List.range len).map fun i=>(f i).1,by simpa [Value.cells] using hcs,?_⟩;by_cases h0:len=0
  ·left; simp [h0]
  ·obtain ⟨b,off,spot⟩:=a;have hc:=(hf' 0 ag).1;have hspot:spot=none:=by simpa [Addr.add] using NX hc
   subst hspot;refine .inr ⟨b,off,fun i=>(f i).2.1,fun i=>(f i).2.2,rfl,ML W _ (by simpa [Addr.add] using hc),fun i hi=>?_⟩;have hi':i<len:=by simpa using hi
   obtain ⟨g0,g1⟩:=hf' i hi';simp only [Gj,Nat.mul_one,Nat.add_zero] at g0;simp only [NC,NM];exact ⟨g0,g1⟩
end Go.Proofs.YtoefpglknaiaeaaGreat
