/- Together: N7, N8, N9, NA, NB, NC, ND, NP, Q3. -/
import Derived.Test.YtohjlfhmnmcndaaGreatM10
import Derived.Test.YtohjlfhmnmcndaaGreatM7
namespace Go.Proofs.YtohjlfhmnmcndaaGreat
open Go.RowKit Go.Lib Go.Shelf
set_option maxRecDepth 100000
set_option maxHeartbeats 16000000
inductive cz:Pl→Prop
 | mk (k n:Int) (x:Ex) (xs:List Ex) (gs:List Ag) (ks:List Pl) (hn:-9223372036854775808≤n∧n≤9223372036854775807) (hx:xs.length≤100000000000000) (hg:gs.length≤100000000000000) (hk:∀ p ∈ ks,cz p):cz (.mk k n x xs gs ks)
theorem cz.n {p:Pl} (h:cz p):-9223372036854775808≤p.n∧p.n≤9223372036854775807:=by cases h with | mk _ _ _ _ _ _ hn _ _ _=>exact hn
theorem cz.sum {p:Pl} (h:cz p):p.xs.length+p.gs.length≤9223372036854775807:=by cases h with | mk _ _ _ _ _ _ _ hx hg _=>simp only [Pl.xs,Pl.gs]; omega
theorem cz.ks {p:Pl} (h:cz p):∀ q ∈ p.ks,cz q:=by cases h with | mk _ _ _ _ _ _ _ _ _ hk=>exact hk
theorem iH {B lo:Nat} {W:World} {B1 n:Nat} {v:Value} {l:List Int} (ho:W.ownsRow B1 3 1 v n (l.map (Value.int .i64))) (hn:n=l.length) (htB:lo≤B1):∃ a cap,v = .slice a l.length cap∧kr B lo W a l:=by
 subst hn;have ho':=ho;obtain ⟨hx,⟨rfl,h0⟩ | ⟨g,cap,cur,rfl,hg,hh,hn,hc,hs,ht⟩⟩:=ho
 ·have:l = []:=Nu h0;subst this;exact ⟨none,0,rfl,⟨by simp,.inl rfl⟩⟩
 ·refine ⟨_,cap,rfl,⟨by omega,.inr ⟨g,0,rfl,(ho'.lt g rfl).2,by omega,fun i hi=>?_⟩⟩⟩;have:=ho'.cellAt i (by omega);rw [Np,this];simp [hi]
theorem fr.t {B lo:Nat} {W:World} {g:Nat} {l:List Int} (h:fr W g l) (hl:l.length≤8) (hg:lo≤g):kr B lo W (some ⟨g,0,none⟩) l :=
 ⟨by unfold maxLen; omega,.inr ⟨g,0,rfl,h.lt,by omega,fun i hi=>by simpa using h.c i hi⟩⟩
theorem kr.nil (B lo:Nat) (W:World):kr B lo W none []:=⟨Nr _,.inl rfl⟩
theorem kr.low {B lo:Nat} {W w1:World} {a:Option Addr} {l:List Int} (h:kr B lo W a l) (hb:Below W.heap.size W w1) (hB:B≤W.heap.size):kr B lo w1 a l:=h.next (Kept.of hb hB)
theorem xz {cols:List Int} {xs:List Ex} {z:List Zp} (h:iv cols xs z=0):xs.length≤8:=by
 unfold iv at h;by_cases h0:aP cols xs=0
 ·exact (nU h0).1
 ·rw [if_pos h0] at h; exact absurd h h0
theorem sG {cols:List Int} {xs:List Ex} {gs:List Ag} {z:List Zp} (h:df cols xs gs z=0):xs.length+gs.length≤8:=by
 unfold df at h;by_cases h0:8<xs.length+gs.length
 ·rw [if_pos h0] at h; cases h
 ·omega
def FU (B lo:Nat) (w':World) (e:Ending) (er:Int) (C:List Int):Prop:=∃ ca cc,e = .returned (.tuple #[.slice ca (if er=0 then C else []).length cc,.int .i64 er])∧kr B lo w' ca (if er=0 then C else [])
theorem wu (B lo:Nat) (hB:B≤lo) (p:Pl) (q:Pw) (cols:List Int) (ca:Option Addr) (cc:Nat) (w:World) (ht:lo≤w.heap.size) (hp:ja w.heap.size w p q) (hc:kr B lo w ca cols) (hk:cz p) :
  Calls Tryz.prog 112 #[bP p q,.slice ca cols.length cc] w fun e w'=>FU B lo w' e (jf p.k p.n p.x p.xs p.gs cols) (qM p.k p.xs p.gs cols)∧Below w.heap.size w w':=by
 have hA:Below w.heap.size w (w.alloc (.cells (eS p q) 31)):=((Nk _ _).alloc (Nj _) _)
 have E:=gY.new w p q 31;have hpA:=(hp.next hA (Nj _)).up hA.size;have hcA:=hc.low hA (by omega);have hzA:=hA.size;have con:=ue p q cols ca cc _ hpA hcA.at hk.n hk.sum;have H3:Hid (p.k=3→qM p.k p.xs p.gs cols=dP cols p.xs):=fun h=>by unfold qM; rw [if_pos h]
 have H12:Hid (p.k=12→qM p.k p.xs p.gs cols=dP cols p.xs ++ cQ cols p.gs):=fun h=>by unfold qM cQ; rw [if_neg (by omega),if_pos h]
 have H0:Hid (¬ p.k=3→¬ p.k=12→qM p.k p.xs p.gs cols=cols):=fun h1 h2=>by unfold qM; rw [if_neg h1,if_neg h2]
 have L3:Hid (p.k=3→jf p.k p.n p.x p.xs p.gs cols=0→p.xs.length≤8):=fun h e=>by unfold jf at e; rw [if_neg (by omega),if_pos h] at e; exact xz e
 have L12:Hid (p.k=12→jf p.k p.n p.x p.xs p.gs cols=0→p.xs.length+p.gs.length≤8):=fun h e=>by unfold jf at e; rw [if_neg (by omega),if_neg (by omega),if_pos h] at e; exact sG e
 generalize jf p.k p.n p.x p.xs p.gs cols=er at *;generalize qM p.k p.xs p.gs cols=C at *;have E':=E;obtain ⟨p0,p1,p2,p8,p9,p10⟩:=E';obtain ⟨x0,x1,x2,x3,x4,x5⟩:=p2;simp only [Np] at p1 x0 x1 x2 x3 x4 x5 p8 p9 p10;unfold bP at con ⊢;have lw:=ae (aw w (eS p q) 31);go_enter Tryz.func112,Tryz.ntmps112;go_wp2_with fail
 generalize w.alloc (.cells (eS p q) 31)=wA at *;refine con.mono ?_;rintro e w5 ⟨rfl,hb5⟩;clear con p0 p1 x0 x1 x2 x3 x4 x5 p8 p9 p10;have hA5:=chain hA hb5;have E5:=E.next hb5 lw;obtain ⟨p0,p1,p2,p8,p9,p10⟩:=E5;simp only [Np] at p1 p8 p9 p10;have hp5:=(hpA.next hb5 (Nj _)).up hb5.size;have hc5:=hcA.low hb5 (by omega);have hz5:=hb5.size;dsimp only;by_cases h0:er=0;rotate_left
 ·have hb:(er != 0)=true:=by simpa using h0
  go_wp2_with fail
  exact Nl (v:=.tuple #[.slice none 0 0,.int .i64 er]) (by simp [results,Tryz.results112,go_sem]) rfl ⟨⟨none,0,by rw [if_neg h0]; rfl,by rw [if_neg h0]; exact kr.nil _ _ _⟩,hA5⟩
 subst h0;by_cases k3:p.k=3
 ·have e:=H3.out k3;subst e;have h8:=L3.out k3 rfl;have kb:(p.k == 3)=true:=by simpa using k3
  have con:=rA cols p.xs ca cc q.sa q.sc w5 hc5.at hp5.xs h8;clear H3 H12 H0 L3 L12;go_wp2_with fail
  refine con.mono ?_;rintro e w6 ⟨rfl,O6,hb6⟩;clear con;have h8':(dP cols p.xs).length≤8:=by rw [ic]; exact h8
  have I6:=O6.t (B:=B) (lo:=lo) h8' (by omega);have HEl:Hid ((dP cols p.xs).length=p.xs.length):=ic _ _;dsimp only;clear p0 p1 p2 p8 p9 p10 h8';go_wp2_with fail
  exact Nl (v:=.tuple #[.slice (some ⟨w5.heap.size,0,none⟩) p.xs.length p.xs.length,.int .i64 0]) (by simp [results,Tryz.results112,go_sem]) rfl ⟨⟨some ⟨w5.heap.size,0,none⟩,p.xs.length,by rw [if_pos rfl,HEl.out],by rw [if_pos rfl]; exact I6⟩,chain hA5 hb6⟩
 have b3:(p.k == 3)=false:=by rw [beq_eq_false_iff_ne]; exact k3
 by_cases k12:p.k=12
 ·have e:=H12.out k12;subst e;have h8:=L12.out k12 rfl;have kb:(p.k == 12)=true:=by simpa using k12
  clear H3 H12 H0 L3 L12;go_wp2_with fail
  clear p0 p1 p2 p10;have hCC:∀ W W':World,(W.cell? ⟨w.heap.size,8,none⟩=some (.slice q.sa p.xs.length q.sc)∧W.cell? ⟨w.heap.size,9,none⟩=some (.slice q.ga p.gs.length q.gc)∧w.heap.size<W.heap.size)→Below W.heap.size W W'→(W'.cell? ⟨w.heap.size,8,none⟩=some (.slice q.sa p.xs.length q.sc)∧W'.cell? ⟨w.heap.size,9,none⟩=some (.slice q.ga p.gs.length q.gc)∧w.heap.size<W'.heap.size):=fun W W' h hb=>⟨(hb.cell (p:=⟨w.heap.size,8,none⟩) h.2.2).trans h.1,(hb.cell (p:=⟨w.heap.size,9,none⟩) h.2.2).trans h.2.1,Nn h.2.2 hb.size⟩
  have hd:Below w5.heap.size w5 w5.drew:=(Nk _ _).drew;have CW:=hCC _ _ ⟨p8,p9,Nn lw hz5⟩ hd;refine aK (fun W=>(W.cell? ⟨w.heap.size,8,none⟩=some (.slice q.sa p.xs.length q.sc)∧W.cell? ⟨w.heap.size,9,none⟩=some (.slice q.ga p.gs.length q.gc)∧w.heap.size<W.heap.size)) (by kernel_rfl) ?_;refine ab hCC 23 (i:=0) (v:=.slice ca cols.length cc) (fun n hn=>?_) CW ?_
  ·go_simp
  simp only [Act.put,pA,pB,pC];refine ab hCC 24 (i:=1) (v:=.pointer (some ⟨w.heap.size,8,none⟩)) (fun n hn=>?_) CW ?_
  ·go_simp
  simp only [Act.put,pA,pB,pC];refine ab hCC 25 (i:=2) (v:=.slice q.sa p.xs.length q.sc) (fun n hn=>?_) CW ?_
  ·have hc:=hn.1;go_simp
  simp only [Act.put,pA,pB,pC];refine ab hCC 27 (i:=4) (v:=.slice ca cols.length cc) (fun n hn=>?_) CW ?_
  ·go_simp
  simp only [Act.put,pA,pB,pC];refine ab hCC 28 (i:=5) (v:=.pointer (some ⟨w.heap.size,9,none⟩)) (fun n hn=>?_) CW ?_
  ·go_simp
  simp only [Act.put,pA,pB,pC];refine ab hCC 29 (i:=6) (v:=.slice q.ga p.gs.length q.gc) (fun n hn=>?_) CW ?_
  ·have hc:=hn.2.1;go_simp
  simp only [Act.put,pA,pB,pC];refine az (rs:=[3]) (by kernel_rfl) (by simp) ?_;intro w6 hb6 jj hjj;obtain rfl:jj=3:=by simpa using hjj
  clear hjj;have CW6:=hCC _ _ CW hb6;have D6:=chain hd hb6;have con:=rA cols p.xs ca cc q.sa q.sc w6 (hc5.low D6 (by omega)).at ((hp5.next D6 (Nj _)).up D6.size).xs (by omega);refine wpOp_step rfl (fun K hK=>?_);go_simp;refine con.mono ?_;rintro e w7 ⟨rfl,O7,hb7⟩;clear con;have CW7:=hCC _ _ CW6 hb7;have D7:=chain D6 hb7;refine hK _ _ ⟨CW7,?_⟩;clear hK K;refine az (rs:=[7]) (by kernel_rfl) (by simp) ?_;intro w8 hb8 jj hjj;obtain rfl:jj=7:=by simpa using hjj
  clear hjj;have CW8:=hCC _ _ CW7 hb8;have D8:=chain D7 hb8;have con:=xv cols p.gs ca cc q.ga q.gc w8 (hc5.low D8 (by omega)).at ((hp5.next D8 (Nj _)).up D8.size).gs (by omega);refine wpOp_step rfl (fun K hK=>?_);go_simp;refine con.mono ?_;rintro e w9 ⟨rfl,O9,hb9⟩;clear con;have CW9:=hCC _ _ CW8 hb9;have D9:=chain D8 hb9;refine hK _ _ ⟨CW9,?_⟩;clear hK K;refine az (rs:=[8]) (by kernel_rfl) (by simp) ?_;intro wB hbB jj hjj;obtain rfl:jj=8:=by simpa using hjj
  clear hjj;have CWB:=hCC _ _ CW9 hbB;have DB:=chain D9 hbB;refine wpOp_step rfl (fun K hK=>?_);go_simp;have e1:(dP cols p.xs).length=p.xs.length:=ic _ _;have e2:(cQ cols p.gs).length=p.gs.length:=pK _ _;have R1:=dN ((O7.nx (chain hb8 (chain hb9 hbB))).is (by rw [e1]; unfold maxLen; omega));have R2:=dN ((O9.nx hbB).is (by rw [e2]; unfold maxLen; omega));rw [e1] at R1;rw [e2] at R2;have PC:=gA.new p.xs.length p.gs.length R1 R2 45
  have halB:=aa wB (.cells #[.slice (some ⟨w6.heap.size,0,none⟩) p.xs.length p.xs.length,.slice (some ⟨w8.heap.size,0,none⟩) p.gs.length p.gs.length] 45);have CWC:=hCC _ _ CWB halB;have DC:=chain DB halB;refine hK _ _ ⟨CWC,?_⟩;clear hK K R1 R2;generalize wB.alloc (.cells #[.slice (some ⟨w6.heap.size,0,none⟩) p.xs.length p.xs.length,.slice (some ⟨w8.heap.size,0,none⟩) p.gs.length p.gs.length] 45)=wC at *;refine az (rs:=[9]) (by kernel_rfl) (by simp) ?_;intro wD hbD jj hjj;obtain rfl:jj=9:=by simpa using hjj
  clear hjj;have CWD:=hCC _ _ CWC hbD;have DD:=chain DC hbD;refine wpOp_step rfl (fun K hK=>?_);go_simp;refine (kY _ _ _ _ _ wD (PC.next hbD) (by omega)).mono ?_;rintro e wE ⟨vE,rfl,OE,hbE⟩;rw [← Om] at OE;have hzD:=DD.size;obtain ⟨aE,cE,rfl,IE⟩:=iH (B:=B) (lo:=lo) OE (by simp [e1,e2]) (by omega);have CWE:=hCC _ _ CWD hbE;have DE:=chain DD hbE;refine hK _ _ ⟨CWE,?_⟩;clear hK K OE PC CW6 CW7 CW8 CW9 CWB CWC CWD CW O7 O9 e1 e2;obtain ⟨tt,htt⟩:∃ tt,tt=dP cols p.xs ++ cQ cols p.gs:=⟨_,rfl⟩
  rw [← htt] at IE ⊢;have HTT:Hid (tt=dP cols p.xs ++ cQ cols p.gs):=htt;clear htt;refine ab hCC 4 (i:=10) (v:=.slice aE tt.length cE) (fun n hn=>?_) CWE ?_
  ·go_simp
  simp only [Act.put,pA,pB,pC];refine ab hCC 5 (i:=11) (v:=.int .i64 0) (fun n hn=>?_) CWE ?_
  ·go_simp
  simp only [Act.put,pA,pB,pC];refine bL (by kernel_rfl) ?_;intro wF hbF;have hAF:=chain hA5 (chain DE hbF);have IF:=IE.low hbF (by have:=DE.size; omega);clear CWE hCC hbF DE IE;go_wp2_with fail
  exact Nl (v:=.tuple #[.slice aE tt.length cE,.int .i64 0]) (by simp [results,Tryz.results112,go_sem]) rfl ⟨⟨aE,cE,by rw [if_pos rfl,← HTT.out],by rw [if_pos rfl,← HTT.out]; exact IF⟩,hAF⟩
 have b12:(p.k == 12)=false:=by rw [beq_eq_false_iff_ne]; exact k12
 have e:=H0.out k3 k12;subst e;clear H3 H12 H0 L3 L12 k3 k12;go_wp2_with fail
 exact Nl (v:=.tuple #[.slice ca C.length cc,.int .i64 0]) (by simp [results,Tryz.results112,go_sem]) rfl ⟨⟨ca,cc,by rw [if_pos rfl],by rw [if_pos rfl]; exact hc5⟩,hA5⟩
theorem wY (B lo:Nat) (hB:B≤lo) (p:Pl) (q:Pw) (l r:List Int) (la:Option Addr) (lc:Nat) (ra:Option Addr) (rc:Nat) (w:World) (ht:lo≤w.heap.size) (hp:ja w.heap.size w p q) (hl:kr B lo w la l) (hr:kr B lo w ra r) (hl8:l.length≤8) (hr8:r.length≤8) :
  Calls Tryz.prog 113 #[bP p q,.slice la l.length lc,.slice ra r.length rc] w fun e w'=>FU B lo w' e (tV p.k p.x l r) (qI p.k l r)∧Below w.heap.size w w':=by
 have hA:Below w.heap.size w (w.alloc (.cells (eS p q) 31)):=((Nk _ _).alloc (Nj _) _)
 have E:=gY.new w p q 31;have hpA:=(hp.next hA (Nj _)).up hA.size;have hlA:=hl.low hA (by omega);have hrA:=hr.low hA (by omega);have hzA:=hA.size;have lw:=ae (aw w (eS p q) 31);have HQ1:Hid (p.k=8∨p.k=9→tV p.k p.x l r=hY l r∧qI p.k l r=bC l r):=fun h=>by unfold tV qI; rw [if_pos h,if_pos h]; exact ⟨rfl,rfl⟩
 have HQ2:Hid (¬ (p.k=8∨p.k=9)→tV p.k p.x l r=bY 0 l r p.x [] []):=fun h=>by unfold tV; rw [if_neg h]
 have HQ3:Hid (¬ (p.k=8∨p.k=9)→p.k=5∨p.k=6→qI p.k l r=l):=fun h h'=>by unfold qI; rw [if_neg h,if_pos h']
 have HQ4:Hid (¬ (p.k=8∨p.k=9)→¬ (p.k=5∨p.k=6)→qI p.k l r=l ++ r):=fun h h'=>by unfold qI; rw [if_neg h,if_neg h']
 generalize tV p.k p.x l r=er at *;generalize qI p.k l r=C at *;have E':=E;obtain ⟨p0,p1,p2,p8,p9,p10⟩:=E';obtain ⟨x0,x1,x2,x3,x4,x5⟩:=p2;simp only [Np] at p1 x0 x1 x2 x3 x4 x5 p8 p9 p10;unfold bP;go_enter Tryz.func113,Tryz.ntmps113;by_cases h89:p.k=8∨p.k=9
 ·obtain ⟨e1,e2⟩:=HQ1.out h89;have con:=wG l r la lc ra rc _ hlA.at hrA.at hl8;rw [← e1] at con;have HL:Hid (er=0→(bC l r).length=l.length):=fun h0=>by
   rw [e1] at h0;unfold hY at h0;by_cases hlr:l.length=r.length
   ·exact eK hlr
   ·rw [if_pos hlr] at h0; cases h0
  have HC:Hid (C=bC l r):=e2;clear HQ1 HQ2 HQ3 HQ4 e1 e2;have h2:p.k=8∨(¬ p.k=8∧p.k=9):=by omega
  clear h89;rcases h2 with h2 | ⟨h2,h3⟩
  ·have b8:(p.k == 8)=true:=by simpa using h2
   clear h2;go_wp2_with fail
   generalize w.alloc (.cells (eS p q) 31)=wA at *;refine con.mono ?_;rintro e w5 ⟨v5,rfl,h0,hn0,hb5⟩;clear con;dsimp only;by_cases he:er=0
   ·subst he;obtain ⟨rfl,O5⟩:=h0 rfl;have HLn:Hid ((bC l r).length=l.length):=HL.out rfl;have I5:=O5.t (B:=B) (lo:=lo) (by rw [HLn.out]; exact hl8) (by omega);clear HL;clear h0 hn0;go_wp2_with fail
    exact Nl (v:=.tuple #[.slice (some ⟨wA.heap.size,0,none⟩) l.length l.length,.int .i64 0]) (by simp [results,Tryz.results113,go_sem]) rfl ⟨⟨_,_,by rw [if_pos rfl,HC.out,HLn.out],by rw [if_pos rfl,HC.out]; exact I5⟩,chain hA hb5⟩
   ·obtain rfl:=hn0 he;clear h0 hn0;go_wp2_with fail
    exact Nl (v:=.tuple #[.slice none 0 0,.int .i64 er]) (by simp [results,Tryz.results113,go_sem]) rfl ⟨⟨none,0,by rw [if_neg he]; rfl,by rw [if_neg he]; exact kr.nil _ _ _⟩,chain hA hb5⟩
  ·have b8:(p.k == 8)=false:=by rw [beq_eq_false_iff_ne]; exact h2
   have b9:(p.k == 9)=true:=by simpa using h3
   clear h2 h3;go_wp2_with fail
   generalize w.alloc (.cells (eS p q) 31)=wA at *;refine con.mono ?_;rintro e w5 ⟨v5,rfl,h0,hn0,hb5⟩;clear con;dsimp only;by_cases he:er=0
   ·subst he;obtain ⟨rfl,O5⟩:=h0 rfl;have HLn:Hid ((bC l r).length=l.length):=HL.out rfl;have I5:=O5.t (B:=B) (lo:=lo) (by rw [HLn.out]; exact hl8) (by omega);clear HL;clear h0 hn0;go_wp2_with fail
    exact Nl (v:=.tuple #[.slice (some ⟨wA.heap.size,0,none⟩) l.length l.length,.int .i64 0]) (by simp [results,Tryz.results113,go_sem]) rfl ⟨⟨_,_,by rw [if_pos rfl,HC.out,HLn.out],by rw [if_pos rfl,HC.out]; exact I5⟩,chain hA hb5⟩
   ·obtain rfl:=hn0 he;clear h0 hn0;go_wp2_with fail
    exact Nl (v:=.tuple #[.slice none 0 0,.int .i64 er]) (by simp [results,Tryz.results113,go_sem]) rfl ⟨⟨none,0,by rw [if_neg he]; rfl,by rw [if_neg he]; exact kr.nil _ _ _⟩,chain hA hb5⟩
 have b8:(p.k == 8)=false:=by rw [beq_eq_false_iff_ne]; exact fun e=>h89 (.inl e)
 have b9:(p.k == 9)=false:=by rw [beq_eq_false_iff_ne]; exact fun e=>h89 (.inr e)
 have con:=Cf l r p.x la lc ra rc q.xa q.xc none 0 [] none 0 [] _ hlA.at hrA.at hpA.x (ml _) (ml _) (by omega) (by omega);rw [← HQ2.out h89] at con;have H5:Hid (p.k=5∨p.k=6→C=l):=HQ3.out h89;have H0:Hid (¬ (p.k=5∨p.k=6)→C=l ++ r):=HQ4.out h89;clear HQ1 HQ2 HQ3 HQ4 h89;generalize dg 0 l r p.x [] []=zz at *;unfold lC at con;go_wp2_with fail
 generalize w.alloc (.cells (eS p q) 31)=wA at *;refine con.mono ?_;rintro e w5 ⟨v5,rfl,O5,hb5⟩;clear con O5 p0 p1 x0 x1 x2 x3 x4 x5 p8 p9 p10;have hA5:=chain hA hb5;have p0:=(E.next hb5 lw).c0;have hl5:=hlA.low hb5 (by omega);have hr5:=hrA.low hb5 (by omega);have hz5:=hb5.size;dsimp only;by_cases he:er=0;rotate_left
 ·have hb:(er != 0)=true:=by simpa using he
  go_wp2_with fail
  exact Nl (v:=.tuple #[.slice none 0 0,.int .i64 er]) (by simp [results,Tryz.results113,go_sem]) rfl ⟨⟨none,0,by rw [if_neg he]; rfl,by rw [if_neg he]; exact kr.nil _ _ _⟩,hA5⟩
 subst he;by_cases h56:p.k=5∨p.k=6
 ·have e:=H5.out h56;have HC:Hid (C=l):=e;clear H5 H0 e;have h2:p.k=5∨(¬ p.k=5∧p.k=6):=by omega
  clear h56;rcases h2 with h2 | ⟨h2,h3⟩
  ·have b5:(p.k == 5)=true:=by simpa using h2
   clear h2;go_wp2_with fail
   exact Nl (v:=.tuple #[.slice la l.length lc,.int .i64 0]) (by simp [results,Tryz.results113,go_sem]) rfl ⟨⟨la,lc,by rw [if_pos rfl,HC.out],by rw [if_pos rfl,HC.out]; exact hl5⟩,hA5⟩
  ·have b5:(p.k == 5)=false:=by rw [beq_eq_false_iff_ne]; exact h2
   have b6:(p.k == 6)=true:=by simpa using h3
   clear h2 h3;go_wp2_with fail
   exact Nl (v:=.tuple #[.slice la l.length lc,.int .i64 0]) (by simp [results,Tryz.results113,go_sem]) rfl ⟨⟨la,lc,by rw [if_pos rfl,HC.out],by rw [if_pos rfl,HC.out]; exact hl5⟩,hA5⟩
 have b5:(p.k == 5)=false:=by rw [beq_eq_false_iff_ne]; exact fun e=>h56 (.inl e)
 have b6:(p.k == 6)=false:=by rw [beq_eq_false_iff_ne]; exact fun e=>h56 (.inr e)
 have HC:Hid (C=l ++ r):=H0.out h56;clear H5 H0 h56;have PC:=gA.new lc rc (dN hl5.at) (dN hr5.at) 45;have hal5:=aa w5 (.cells #[.slice la l.length lc,.slice ra r.length rc] 45);go_wp2_with fail
 generalize w5.alloc (.cells #[.slice la l.length lc,.slice ra r.length rc] 45)=w6 at *;refine (kY _ _ _ _ _ w6 PC (by omega)).mono ?_;rintro e w7 ⟨v7,rfl,O7,hb7⟩;rw [← Om,← HC.out] at O7;have hl7:l.length+r.length=C.length:=by rw [HC.out,Nx]
 have hz6:=hal5.size;obtain ⟨a7,c7,rfl,I7⟩:=iH (B:=B) (lo:=lo) O7 hl7 (by omega);clear PC O7 hl7;dsimp only;go_wp2_with fail
 exact Nl (v:=.tuple #[.slice a7 C.length c7,.int .i64 0]) (by simp [results,Tryz.results113,go_sem]) rfl ⟨⟨a7,c7,by rw [if_pos rfl],by rw [if_pos rfl]; exact I7⟩,chain hA5 (chain hal5 hb7)⟩
theorem CU (ts:List (List Int)) (B lo t:Nat) (ta:Option Addr) (tc:Nat) (p:Pl) (q:Pw) (na:Option Addr) (nc:Nat) (w:World) (hB:B≤t) (htl:t<lo) (hlw:lo≤w.heap.size) (c0:w.cell? ⟨t,0,none⟩=some (.slice ta ts.length tc)) (hT:fy B w ta ts) (hp:ja B w p q) (hN:sY ts B lo w na p.ks) (hk:cz p) (hlen:p.ks.length=cJ p.k) (h8:∀ r ∈ p.ks,(ah ts r).length≤8) :
  Calls Tryz.prog 89 #[.pointer (some ⟨t,0,none⟩),bP p q,.slice na p.ks.length nc] w fun e w'=>FU B lo w' e (fC ts p.k p.n p.x p.xs p.gs (p.ks.map (ah ts))) (iR ts p.k p.n p.xs p.gs (p.ks.map (ah ts)))∧Below w.heap.size w w':=by
 have hA:Below w.heap.size w (w.alloc (.cells (eS p q) 31)):=((Nk _ _).alloc (Nj _) _)
 have E:=gY.new w p q 31;have lw:=ae (aw w (eS p q) 31);have ht:t<w.heap.size:=by omega
 have hBw:B≤w.heap.size:=by omega
 have h2:=gh p.k;have hc:p.ks = []∨(∃ k0,p.ks = [k0])∨∃ k0 k1,p.ks = [k0,k1]:=by
  match hm:p.ks with
  | []=>exact .inl rfl
  | [k0]=>exact .inr (.inl ⟨k0,rfl⟩)
  | [k0,k1]=>exact .inr (.inr ⟨k0,k1,rfl⟩)
  | _ :: _ :: _ :: _=>rw [hm] at hlen; simp at hlen; omega
 have dA:=(hA.cell (p:=⟨t,0,none⟩) ht).trans c0;generalize hER:fC ts p.k p.n p.x p.xs p.gs (p.ks.map (ah ts))=er;generalize hCR:iR ts p.k p.n p.xs p.gs (p.ks.map (ah ts))=C;have HER:Hid (fC ts p.k p.n p.x p.xs p.gs (p.ks.map (ah ts))=er):=hER;have HCR:Hid (iR ts p.k p.n p.xs p.gs (p.ks.map (ah ts))=C):=hCR;have HK:Hid (cz p):=hk;clear hER hCR hlen h2 hk;unfold bP;go_enter Tryz.func89,Tryz.ntmps89;rcases hc with hks | ⟨k0,hks⟩ | ⟨k0,k1,hks⟩
 ·have hl0:p.ks.length=0:=by rw [hks]; rfl
  have lb:((p.ks.length:Int) == 0)=true:=by simp [hl0]
  have eE:er=if p.n<0∨ts.length≤p.n then 7 else 0:=by rw [← HER.out,hks]; rfl
  have eC:C=ts.getD p.n.toNat []:=by rw [← HCR.out,hks]; rfl
  have HE1:Hid (er=_):=eE;have HC1:Hid (C=_):=eC;clear eE eC;clear HER HCR h8 hks hl0;go_wp2_with fail
  generalize w.alloc (.cells (eS p q) 31)=wA at *;have hCC:∀ W W':World,(gY W w.heap.size 0 p q∧w.heap.size<W.heap.size∧W.cell? ⟨t,0,none⟩=some (.slice ta ts.length tc)∧t<W.heap.size)→Below W.heap.size W W'→(gY W' w.heap.size 0 p q∧w.heap.size<W'.heap.size∧W'.cell? ⟨t,0,none⟩=some (.slice ta ts.length tc)∧t<W'.heap.size):=fun W W' h hb=>⟨h.1.next hb h.2.1,Nn h.2.1 hb.size,(hb.cell (p:=⟨t,0,none⟩) h.2.2.2).trans h.2.2.1,Nn h.2.2.2 hb.size⟩
  have hd:Below wA.heap.size wA wA.drew:=(Nk _ _).drew;have CW:=hCC _ _ ⟨E,lw,dA,Nn ht hA.size⟩ hd;refine aK (fun W=>(gY W w.heap.size 0 p q∧w.heap.size<W.heap.size∧W.cell? ⟨t,0,none⟩=some (.slice ta ts.length tc)∧t<W.heap.size)) (by kernel_rfl) ?_;refine ab hCC 12 (i:=0) (v:=.pointer (some ⟨t,0,none⟩)) (fun n hn=>?_) CW ?_
  ·go_simp
  simp only [Act.put,pA,pB,pC];refine ab hCC 13 (i:=1) (v:=.pointer (some ⟨t,0,none⟩)) (fun n hn=>?_) CW ?_
  ·go_simp
  simp only [Act.put,pA,pB,pC];refine ab hCC 14 (i:=2) (v:=.pointer (some ⟨t,0,none⟩)) (fun n hn=>?_) CW ?_
  ·go_simp
  simp only [Act.put,pA,pB,pC];refine ab hCC 15 (i:=3) (v:=.slice ta ts.length tc) (fun n hn=>?_) CW ?_
  ·have hc:=hn.2.2.1;go_simp
  simp only [Act.put,pA,pB,pC];refine ab hCC 16 (i:=4) (v:=.pointer (some ⟨w.heap.size,1,none⟩)) (fun n hn=>?_) CW ?_
  ·go_simp
  simp only [Act.put,pA,pB,pC];refine ab hCC 17 (i:=5) (v:=.int .i64 p.n) (fun n hn=>?_) CW ?_
  ·have hc:=hn.1.c1;simp only [Np] at hc;go_simp
  simp only [Act.put,pA,pB,pC];refine az (rs:=[6]) (by kernel_rfl) (by simp) ?_;intro w6 hb6 jj hjj;obtain rfl:jj=6:=by simpa using hjj
  clear hjj;have CW6:=hCC _ _ CW hb6;have D6:=chain hA (chain hd hb6);have con:=wj ts p.n B ta tc w6 (hT.next D6 hBw);rw [← HE1.out,← HC1.out] at con;refine wpOp_step rfl (fun K hK=>?_);go_simp;refine con.mono ?_;rintro e w7 ⟨⟨a7,c7,rfl,I7⟩,hb7⟩;clear con;have CW7:=hCC _ _ CW6 hb7;have D7:=chain D6 hb7;refine hK _ _ ⟨CW7,?_⟩;clear hK K CW6 CW;have J7:=I7.t (lo:=lo) (by have:=CW7.2.2.2; omega);obtain ⟨cl,hcl⟩:∃ cl,cl=(if er=0 then C else []):=⟨_,rfl⟩
  rw [← hcl] at J7 ⊢;have HCl:Hid (cl=(if er=0 then C else [])):=hcl;clear hcl I7;refine ab hCC 19 (i:=7) (v:=.slice a7 cl.length c7) (fun n hn=>?_) CW7 ?_
  ·go_simp
  simp only [Act.put,pA,pB,pC];refine ab hCC 20 (i:=8) (v:=.int .i64 er) (fun n hn=>?_) CW7 ?_
  ·go_simp
  simp only [Act.put,pA,pB,pC];refine ab hCC 6 (i:=9) (v:=.slice a7 cl.length c7) (fun n hn=>?_) CW7 ?_
  ·go_simp
  simp only [Act.put,pA,pB,pC];refine ab hCC 7 (i:=10) (v:=.int .i64 er) (fun n hn=>?_) CW7 ?_
  ·go_simp
  simp only [Act.put,pA,pB,pC];refine bL (by kernel_rfl) ?_;intro w8 hb8;have J8:=J7.low hb8 (by have:=CW7.2.2.2; omega);have D8:=chain D7 hb8;clear CW7 hCC hb8 D7 J7;go_wp2
  exact Nl (v:=.tuple #[.slice a7 cl.length c7,.int .i64 er]) (by simp [results,Tryz.results89,go_sem]) rfl ⟨⟨a7,c7,by rw [HCl.out],by rw [← HCl.out]; exact J8⟩,D8⟩
 ·have hl0:p.ks.length=1:=by rw [hks]; rfl
  have lb:((p.ks.length:Int) == 0)=false:=by simp [hl0]
  have lb1:((p.ks.length:Int) == 1)=true:=by simp [hl0]
  have lz:0<p.ks.length:=by omega
  have eE:er=jf p.k p.n p.x p.xs p.gs (ah ts k0):=by rw [← HER.out,hks]; rfl
  have eC:C=qM p.k p.xs p.gs (ah ts k0):=by rw [← HCR.out,hks]; rfl
  have HE1:Hid (er=_):=eE;have HC1:Hid (C=_):=eC;clear eE eC;rw [hks] at hN;obtain ⟨b,off,q0,c1,cc1,n1,nc1,rfl,hbl,hbt,_,d11,_,ND⟩:=hN.elem (i:=0) (by simp);simp only [Nat.zero_mul,Oz,Oa] at d11 ND;have I1:=ND.cols;clear HER HCR h8 hks hl0 hN ND;have d11A:=(hA.cell (p:=⟨b,off+11,none⟩) hbl).trans d11;go_wp2_with fail
  generalize w.alloc (.cells (eS p q) 31)=wA at *;have hCC:∀ W W':World,(gY W w.heap.size 0 p q∧w.heap.size<W.heap.size∧W.cell? ⟨b,off+11,none⟩=some (.slice c1 (ah ts k0).length cc1)∧t<W.heap.size∧b<W.heap.size)→Below W.heap.size W W'→(gY W' w.heap.size 0 p q∧w.heap.size<W'.heap.size∧W'.cell? ⟨b,off+11,none⟩=some (.slice c1 (ah ts k0).length cc1)∧t<W'.heap.size∧b<W'.heap.size):=fun W W' h hb=>⟨h.1.next hb h.2.1,Nn h.2.1 hb.size,(hb.cell (p:=⟨b,off+11,none⟩) h.2.2.2.2).trans h.2.2.1,Nn h.2.2.2.1 hb.size,Nn h.2.2.2.2 hb.size⟩
  have hd:Below wA.heap.size wA wA.drew:=(Nk _ _).drew;have CW:=hCC _ _ ⟨E,lw,d11A,Nn ht hA.size,Nn hbl hA.size⟩ hd;refine aK (fun W=>(gY W w.heap.size 0 p q∧w.heap.size<W.heap.size∧W.cell? ⟨b,off+11,none⟩=some (.slice c1 (ah ts k0).length cc1)∧t<W.heap.size∧b<W.heap.size)) (by kernel_rfl) ?_;refine ab hCC 23 (i:=0) (v:=.agg (eS p q)) (fun n hn=>?_) CW ?_
  ·obtain ⟨⟨n0,n1,⟨n2,n3,n4,n5,n6,n7⟩,n8,n9,n10⟩,_⟩:=hn;simp only [Np] at n1 n2 n3 n4 n5 n6 n7 n8 n9 n10;go_simp
  simp only [Act.put,pA,pB,pC];refine ab hCC 24 (i:=1) (v:=.slice (some ⟨b,off,none⟩) p.ks.length nc) (fun n hn=>?_) CW ?_
  ·go_simp
  simp only [Act.put,pA,pB,pC];refine ab hCC 25 (i:=2) (v:=.pointer (some ⟨b,off,none⟩)) (fun n hn=>?_) CW ?_
  ·go_simp
  simp only [Act.put,pA,pB,pC];refine ab hCC 26 (i:=3) (v:=.pointer (some ⟨b,off+11,none⟩)) (fun n hn=>?_) CW ?_
  ·go_simp
  simp only [Act.put,pA,pB,pC];refine ab hCC 27 (i:=4) (v:=.slice c1 (ah ts k0).length cc1) (fun n hn=>?_) CW ?_
  ·have hc:=hn.2.2.1;go_simp
  simp only [Act.put,pA,pB,pC];refine az (rs:=[5]) (by kernel_rfl) (by simp) ?_;intro w6 hb6 jj hjj;obtain rfl:jj=5:=by simpa using hjj
  clear hjj;have CW6:=hCC _ _ CW hb6;have D6:=chain hA (chain hd hb6);have con:=wu B lo (by omega) p q (ah ts k0) c1 cc1 w6 (Nw hlw D6.size) ((hp.next D6 hBw).up (Nw hBw D6.size)) (I1.low D6 hBw) HK.out;rw [← HE1.out,← HC1.out] at con;unfold bP at con;refine wpOp_step rfl (fun K hK=>?_);go_simp;refine con.mono ?_;rintro e w7 ⟨⟨a7,c7,rfl,J7⟩,hb7⟩;clear con;have CW7:=hCC _ _ CW6 hb7;have D7:=chain D6 hb7;refine hK _ _ ⟨CW7,?_⟩;clear hK K CW6 CW;obtain ⟨cl,hcl⟩:∃ cl,cl=(if er=0 then C else []):=⟨_,rfl⟩
  rw [← hcl] at J7 ⊢;have HCl:Hid (cl=(if er=0 then C else [])):=hcl;clear hcl;refine ab hCC 29 (i:=6) (v:=.slice a7 cl.length c7) (fun n hn=>?_) CW7 ?_
  ·go_simp
  simp only [Act.put,pA,pB,pC];refine ab hCC 30 (i:=7) (v:=.int .i64 er) (fun n hn=>?_) CW7 ?_
  ·go_simp
  simp only [Act.put,pA,pB,pC];refine ab hCC 6 (i:=8) (v:=.slice a7 cl.length c7) (fun n hn=>?_) CW7 ?_
  ·go_simp
  simp only [Act.put,pA,pB,pC];refine ab hCC 7 (i:=9) (v:=.int .i64 er) (fun n hn=>?_) CW7 ?_
  ·go_simp
  simp only [Act.put,pA,pB,pC];refine bL (by kernel_rfl) ?_;intro w8 hb8;have J8:=J7.low hb8 (by have:=CW7.2.2.2.1; omega);have D8:=chain D7 hb8;clear CW7 hCC hb8 D7 J7;go_wp2
  exact Nl (v:=.tuple #[.slice a7 cl.length c7,.int .i64 er]) (by simp [results,Tryz.results89,go_sem]) rfl ⟨⟨a7,c7,by rw [HCl.out],by rw [← HCl.out]; exact J8⟩,D8⟩
 ·have hl0:p.ks.length=2:=by rw [hks]; rfl
  have lb:((p.ks.length:Int) == 0)=false:=by simp [hl0]
  have lb1:((p.ks.length:Int) == 1)=false:=by simp [hl0]
  have lz:0<p.ks.length:=by omega
  have lz1:(1:Int)<(p.ks.length:Int):=by omega
  have eE:er=tV p.k p.x (ah ts k0) (ah ts k1):=by rw [← HER.out,hks]; rfl
  have eC:C=qI p.k (ah ts k0) (ah ts k1):=by rw [← HCR.out,hks]; rfl
  have HE1:Hid (er=_):=eE;have HC1:Hid (C=_):=eC;clear eE eC;have g0:=h8 k0 (by rw [hks]; simp);have g1:=h8 k1 (by rw [hks]; simp);rw [hks] at hN;obtain ⟨b,off,q0,c1,cc1,n1,nc1,rfl,hbl,hbt,_,d11,_,ND⟩:=hN.elem (i:=0) (by simp);obtain ⟨b',off',q1,c2,cc2,n2,nc2,eb,_,_,_,d24,_,ND1⟩:=hN.elem (i:=1) (by simp);have eb:=NU eb;injection eb with eb1 eb2
  subst eb1 eb2;simp only [Nat.zero_mul,Nat.one_mul,Oz,Oa,Ot] at d11 ND d24 ND1;have I1:=ND.cols;have I2:=ND1.cols;clear HER HCR h8 hks hl0 hN ND ND1;have d11A:=(hA.cell (p:=⟨b,off+11,none⟩) hbl).trans d11;have d24A:=(hA.cell (p:=⟨b,off+13+11,none⟩) hbl).trans d24;go_wp2_with fail
  generalize w.alloc (.cells (eS p q) 31)=wA at *
  have hCC:∀ W W':World,(gY W w.heap.size 0 p q∧w.heap.size<W.heap.size∧W.cell? ⟨b,off+11,none⟩=some (.slice c1 (ah ts k0).length cc1)∧W.cell? ⟨b,off+13+11,none⟩=some (.slice c2 (ah ts k1).length cc2)∧t<W.heap.size∧b<W.heap.size)→Below W.heap.size W W'→(gY W' w.heap.size 0 p q∧w.heap.size<W'.heap.size∧W'.cell? ⟨b,off+11,none⟩=some (.slice c1 (ah ts k0).length cc1)∧W'.cell? ⟨b,off+13+11,none⟩=some (.slice c2 (ah ts k1).length cc2)∧t<W'.heap.size∧b<W'.heap.size):=fun W W' h hb=>⟨h.1.next hb h.2.1,Nn h.2.1 hb.size,(hb.cell (p:=⟨b,off+11,none⟩) h.2.2.2.2.2).trans h.2.2.1,(hb.cell (p:=⟨b,off+13+11,none⟩) h.2.2.2.2.2).trans h.2.2.2.1,Nn h.2.2.2.2.1 hb.size,Nn h.2.2.2.2.2 hb.size⟩
  have hd:Below wA.heap.size wA wA.drew:=(Nk _ _).drew;have CW:=hCC _ _ ⟨E,lw,d11A,d24A,Nn ht hA.size,Nn hbl hA.size⟩ hd;refine aK (fun W=>(gY W w.heap.size 0 p q∧w.heap.size<W.heap.size∧W.cell? ⟨b,off+11,none⟩=some (.slice c1 (ah ts k0).length cc1)∧W.cell? ⟨b,off+13+11,none⟩=some (.slice c2 (ah ts k1).length cc2)∧t<W.heap.size∧b<W.heap.size)) (by kernel_rfl) ?_;refine ab hCC 31 (i:=0) (v:=.agg (eS p q)) (fun n hn=>?_) CW ?_
  ·obtain ⟨⟨n0,n1,⟨n2,n3,n4,n5,n6,n7⟩,n8,n9,n10⟩,_⟩:=hn;simp only [Np] at n1 n2 n3 n4 n5 n6 n7 n8 n9 n10;go_simp
  simp only [Act.put,pA,pB,pC];refine ab hCC 32 (i:=1) (v:=.slice (some ⟨b,off,none⟩) p.ks.length nc) (fun n hn=>?_) CW ?_
  ·go_simp
  simp only [Act.put,pA,pB,pC];refine ab hCC 33 (i:=2) (v:=.pointer (some ⟨b,off,none⟩)) (fun n hn=>?_) CW ?_
  ·go_simp
  simp only [Act.put,pA,pB,pC];refine ab hCC 34 (i:=3) (v:=.pointer (some ⟨b,off+11,none⟩)) (fun n hn=>?_) CW ?_
  ·go_simp
  simp only [Act.put,pA,pB,pC];refine ab hCC 35 (i:=4) (v:=.slice c1 (ah ts k0).length cc1) (fun n hn=>?_) CW ?_
  ·have hc:=hn.2.2.1;go_simp
  simp only [Act.put,pA,pB,pC];refine ab hCC 36 (i:=5) (v:=.slice (some ⟨b,off,none⟩) p.ks.length nc) (fun n hn=>?_) CW ?_
  ·go_simp
  simp only [Act.put,pA,pB,pC];refine ab hCC 37 (i:=6) (v:=.pointer (some ⟨b,off+13,none⟩)) (fun n hn=>?_) CW ?_
  ·go_simp
  simp only [Act.put,pA,pB,pC];refine ab hCC 38 (i:=7) (v:=.pointer (some ⟨b,off+13+11,none⟩)) (fun n hn=>?_) CW ?_
  ·go_simp
  simp only [Act.put,pA,pB,pC];refine ab hCC 39 (i:=8) (v:=.slice c2 (ah ts k1).length cc2) (fun n hn=>?_) CW ?_
  ·have hc:=hn.2.2.2.1;go_simp
  simp only [Act.put,pA,pB,pC];refine az (rs:=[9]) (by kernel_rfl) (by simp) ?_;intro w6 hb6 jj hjj;obtain rfl:jj=9:=by simpa using hjj
  clear hjj;have CW6:=hCC _ _ CW hb6;have D6:=chain hA (chain hd hb6);have con:=wY B lo (by omega) p q (ah ts k0) (ah ts k1) c1 cc1 c2 cc2 w6 (Nw hlw D6.size) ((hp.next D6 hBw).up (Nw hBw D6.size)) (I1.low D6 hBw) (I2.low D6 hBw) g0 g1;rw [← HE1.out,← HC1.out] at con;unfold bP at con;refine wpOp_step rfl (fun K hK=>?_);go_simp;refine con.mono ?_;rintro e w7 ⟨⟨a7,c7,rfl,J7⟩,hb7⟩;clear con;have CW7:=hCC _ _ CW6 hb7;have D7:=chain D6 hb7;refine hK _ _ ⟨CW7,?_⟩;clear hK K CW6 CW;obtain ⟨cl,hcl⟩:∃ cl,cl=(if er=0 then C else []):=⟨_,rfl⟩
  rw [← hcl] at J7 ⊢;have HCl:Hid (cl=(if er=0 then C else [])):=hcl;clear hcl;refine ab hCC 41 (i:=10) (v:=.slice a7 cl.length c7) (fun n hn=>?_) CW7 ?_
  ·go_simp
  simp only [Act.put,pA,pB,pC];refine ab hCC 42 (i:=11) (v:=.int .i64 er) (fun n hn=>?_) CW7 ?_
  ·go_simp
  simp only [Act.put,pA,pB,pC];refine ab hCC 6 (i:=12) (v:=.slice a7 cl.length c7) (fun n hn=>?_) CW7 ?_
  ·go_simp
  simp only [Act.put,pA,pB,pC];refine ab hCC 7 (i:=13) (v:=.int .i64 er) (fun n hn=>?_) CW7 ?_
  ·go_simp
  simp only [Act.put,pA,pB,pC];refine bL (by kernel_rfl) ?_;intro w8 hb8;have J8:=J7.low hb8 (by have:=CW7.2.2.2.2.1; omega);have D8:=chain D7 hb8;clear CW7 hCC hb8 D7 J7;go_wp2
  exact Nl (v:=.tuple #[.slice a7 cl.length c7,.int .i64 er]) (by simp [results,Tryz.results89,go_sem]) rfl ⟨⟨a7,c7,by rw [HCl.out],by rw [← HCl.out]; exact J8⟩,D8⟩
end Go.Proofs.YtohjlfhmnmcndaaGreat
namespace Go.Proofs.YtohjlfhmnmcndaaGreat
open Go.RowKit
set_option maxRecDepth 100000
set_option maxHeartbeats 16000000
theorem fO {ts:List (List Int)} {k n:Int} {x:Ex} {xs:List Ex} {gs:List Ag} {ks:List Pl} {m d:Int} (h:(aQ ts (.mk k n x xs gs ks) m d).1=0):eO k ks.length (m+1) d=0∧(aW ts ks (m+1) (d+1)).1=0∧fC ts k n x xs gs (kQ ts ks)=0∧(aQ ts (.mk k n x xs gs ks) m d).2=(aW ts ks (m+1) (d+1)).2:=by
 rw [aQ] at h ⊢;by_cases h1:eO k ks.length (m+1) d=0
 ·rw [if_neg (by simp [h1])] at h ⊢;by_cases h2:(aW ts ks (m+1) (d+1)).1=0
  ·rw [if_neg (by simp [h2])] at h ⊢;exact ⟨h1,h2,h,rfl⟩
  ·rw [if_pos h2] at h; exact absurd h h2
 ·rw [if_pos h1] at h; exact absurd h h1
theorem iY {k:Int} {n:Nat} {m d:Int} (h:eO k n m d=0):n=cJ k∧1≤k∧k≤13∧m≤60∧d≤15:=by
 unfold eO at h;by_cases g1:60<m∨15<d
 ·simp [g1] at h
 by_cases g2:k<1∨13<k
 ·simp [g1,g2] at h
 by_cases g3:n=cJ k
 ·exact ⟨g3,by omega⟩
 ·simp [g1,g2,g3] at h
theorem lJ {ts:List (List Int)} {p:Pl} {r:List Pl} {m d:Int} (h:(aW ts (p :: r) m d).1=0):(aQ ts p m d).1=0∧(aW ts r (aQ ts p m d).2 d).1=0∧(aW ts (p :: r) m d).2=(aW ts r (aQ ts p m d).2 d).2:=by
 rw [aW] at h ⊢;by_cases h1:(aQ ts p m d).1=0
 ·rw [if_neg (by simp [h1])] at h ⊢;exact ⟨h1,h,rfl⟩
 ·rw [if_pos h1] at h; exact absurd h h1
theorem gN {ts:List (List Int)}:∀ {ks:List Pl} {m d:Int},(aW ts ks m d).1=0→∀ p ∈ ks,∃ m',(aQ ts p m' d).1=0
 | [],_,_,_,p,hp=>by cases hp
 | q :: r,m,d,h,p,hp=>by
  obtain ⟨h1,h2,_⟩:=lJ h
  rcases List.mem_cons.1 hp with rfl | hp
  ·exact ⟨m,h1⟩
  ·exact gN h2 p hp
theorem qS (ts:List (List Int)):∀ (p:Pl) (m d:Int),(aQ ts p m d).1=0→m<(aQ ts p m d).2∧(aQ ts p m d).2≤60 :=
 Pl.ind fun k n x xs gs ks ih m d h=>by
  obtain ⟨h1,h2,_,e⟩:=fO h
  have hq:=iY h1
  have aux:∀ (l:List Pl),(∀ p ∈ l,∀ (m d:Int),(aQ ts p m d).1=0→m<(aQ ts p m d).2∧(aQ ts p m d).2≤60)→∀ m d,m≤60→(aW ts l m d).1=0→m≤(aW ts l m d).2∧(aW ts l m d).2≤60:=by
   intro l
   induction l with
   | nil=>intro _ m d hm _; rw [aW]; exact ⟨Oo _,hm⟩
   | cons p r ihl =>
    intro hl m d hm h;obtain ⟨g1,g2,g3⟩:=lJ h;have a1:=hl p (by simp) m d g1;have a2:=ihl (fun q hq=>hl q (by simp [hq])) _ d a1.2 g2;rw [g3];omega
  have:=aux ks ih (m+1) (d+1) (by omega) h2;rw [e];omega
theorem yg:∀ {l r:List Int},(bC l r).length≤l.length
 | [],_=>by simp [bC]
 | a :: l,[]=>by simp [bC]
 | a :: l,b :: r=>by
  have:=yg (l:=l) (r:=r)
  rw [bC,N4,N4]
  omega
theorem Me {ts:List (List Int)} (h:dC ts=0):∀ c ∈ ts,c.length≤8:=by
 have aux:∀ (l:List (List Int)),ie l=0→∀ c ∈ l,c.length≤8:=by
  intro l
  induction l with
  | nil=>intro _ c hc; cases hc
  | cons a r ih =>
   intro h c hc;rw [ie] at h;by_cases h0:eI a=0
   ·rw [if_neg (by simp [h0])] at h;rcases List.mem_cons.1 hc with rfl | hc
    ·unfold eI at h0;by_cases h8:8<c.length
     ·rw [if_pos h8] at h0; cases h0
     ·omega
    ·exact ih h c hc
   ·rw [if_pos h0] at h; exact absurd h h0
 unfold dC at h;by_cases h8:8<ts.length
 ·rw [if_pos h8] at h; cases h
 ·rw [if_neg h8] at h; exact aux ts h
theorem Dn {l r:List Int} {x:Ex} {w:Nat} {a b:List Zp} (h:bY w l r x a b=0):l.length+r.length≤8:=by
 unfold bY at h;by_cases h0:jH l r x a b=0
 ·unfold jH at h0;by_cases h8:8<l.length+r.length
  ·rw [if_pos h8] at h0; cases h0
  ·omega
 ·rw [if_pos h0] at h; exact absurd h h0
theorem node8 {ts:List (List Int)} (hts:∀ c ∈ ts,c.length≤8) {k n:Int} {x:Ex} {xs:List Ex} {gs:List Ag} {cs:List (List Int)} (h:fC ts k n x xs gs cs=0) (hc:∀ c ∈ cs,c.length≤8):(iR ts k n xs gs cs).length≤8:=by
 match cs,h,hc with
 | [],h,_ =>
  simp only [fC] at h;simp only [iR];by_cases h0:n<0∨(ts.length:Int)≤n
  ·rw [if_pos h0] at h; cases h
  ·have hn:n.toNat<ts.length:=by omega
   have e:ts.getD n.toNat []=ts[n.toNat]:=by simp [hn]
   rw [e];exact hts _ (Ns hn)
 | [c],h,hc =>
  simp only [fC] at h;simp only [iR,qM];have h8:=hc c (by simp);by_cases k3:k=3
  ·rw [if_pos k3,ic];unfold jf at h;rw [if_neg (by omega),if_pos k3] at h;exact xz h
  ·rw [if_neg k3];by_cases k12:k=12
   ·rw [if_pos k12,Nx,ic,Od];unfold jf at h;rw [if_neg (by omega),if_neg k3,if_pos k12] at h;exact sG h
   ·rw [if_neg k12]; exact h8
 | l :: r :: _,h,hc =>
  simp only [fC] at h;simp only [iR,qI];have h8:=hc l (by simp);by_cases k8:k=8∨k=9
  ·rw [if_pos k8];exact Nw yg h8
  ·rw [if_neg k8];by_cases k5:k=5∨k=6
   ·rw [if_pos k5]; exact h8
   ·rw [if_neg k5,Nx];unfold tV at h;rw [if_neg k8] at h;exact Dn h
theorem iu {ts:List (List Int)} (hts:dC ts=0):∀ (p:Pl) (m d:Int),(aQ ts p m d).1=0→(ah ts p).length≤8 :=
 Pl.ind fun k n x xs gs ks ih m d h=>by
  obtain ⟨_,h2,h3,_⟩:=fO h
  rw [ah]
  refine node8 (Me hts) h3 fun c hc=>?_
  rw [dR] at hc
  obtain ⟨p,hp,rfl⟩:=List.mem_map.1 hc
  obtain ⟨m',hm⟩:=gN h2 p hp
  exact ih p hp m' _ hm
end Go.Proofs.YtohjlfhmnmcndaaGreat
namespace Go.Proofs.YtohjlfhmnmcndaaGreat
open Go.RowKit Go.Lib Go.Shelf
set_option maxRecDepth 100000
set_option maxHeartbeats 16000000
def cU (W:World) (g:Nat):Nat→List Value→World
 | _,[]=>W
 | o,v :: r=>cU (W.setCell ⟨g,o,none⟩ v) g (o+1) r
theorem fc (g:Nat):∀ (vs:List Value) (W:World) (o b p:Nat),(b≠g∨p<o∨o+vs.length≤p)→(cU W g o vs).cell? ⟨b,p,none⟩=W.cell? ⟨b,p,none⟩
 | [],_,_,_,_,_=>rfl
 | v :: r,W,o,b,p,h=>by
  rw [cU,fc g r _ (o+1) b p (by simp at h; omega)]
  refine Nv _ _ _ _ (by intro e; injection e with e1 e2; simp at h; omega)
theorem pY (g:Nat):∀ (vs:List Value) (W:World) (o i:Nat) (h:i<vs.length),(∀ k,k<vs.length→∃ u,W.cell? ⟨g,o+k,none⟩=some u)→(cU W g o vs).cell? ⟨g,o+i,none⟩=some vs[i]
 | v :: r,W,o,0,_,hr=>by
  obtain ⟨u,hu⟩:=hr 0 (by simp)
  rw [cU,fc g r _ _ _ _ (by omega)]
  exact Ou _ _ _ hu
 | v :: r,W,o,i+1,h,hr=>by
  have:=pY g r (W.setCell ⟨g,o,none⟩ v) (o+1) i (by simpa using h) fun k hk=>by
   obtain ⟨u,hu⟩:=hr (k+1) (by simpa using hk)
   refine ⟨u,?_⟩
   rw [Nv _ _ _ _ (by intro e; injection e with e1 e2; omega)]
   rw [← hu]
   congr 2
   omega
  rw [cU]
  rw [show o+(i+1)=o+1+i by omega,this]
  rfl
theorem oK (g:Nat):∀ (vs:List Value) (W:World) (o b p:Nat),(cU W g o vs).frozen? ⟨b,p,none⟩=W.frozen? ⟨b,p,none⟩
 | [],_,_,_,_=>rfl
 | v :: r,W,o,b,p=>by rw [cU,oK g r,N8]
theorem lS (g:Nat):∀ (vs:List Value) (W:World) (o:Nat),(cU W g o vs).heap.size=W.heap.size
 | [],_,_=>rfl
 | v :: r,W,o=>by rw [cU,lS g r,Pa]
theorem jo {B lo:Nat} {W0:World} (g:Nat) (hB:B≤g) (hg:g<lo):∀ (vs:List Value) (W:World) (o:Nat),Kept B lo W0 W→Kept B lo W0 (cU W g o vs)
 | [],_,_,h=>h
 | v :: r,_,o,h=>jo g hB hg r _ _ (h.set g o v hB hg)
theorem j7 {t:Nat} {W0:World} (g:Nat) (hg:W0.heap.size≤g) (ht:t≤W0.heap.size):∀ (vs:List Value) (W:World) (o:Nat),au t W0 W→au t W0 (cU W g o vs)
 | [],_,_,h=>h
 | v :: r,_,o,h=>j7 g hg ht r _ _ (h.Hi g o v hg ht)
def qO:List Value:=[.int .i64 0,.int .i64 0,.int .i64 0,.int .i64 0,.int .i64 0,.string ⟨#[]⟩,.int .i64 0,.slice none 0 0,.slice none 0 0,.slice none 0 0,.slice none 0 0,.slice none 0 0,.slice none 0 0]
def nY (n:Nat):Array Value:=((List.replicate n qO).flatten).toArray
theorem BC (n:Nat):(nY n).size=n*13:=by
 unfold nY;rw [List.size_toArray,List.length_flatten,List.map_replicate,List.sum_replicate_nat];rfl
theorem BB {n:Nat} (h:n≤2) (w:World):(Instr.makeSlice 71 (.int .i64 n) (.int .i64 n)).run Tryz.prog w = .ok (.slice (some ⟨w.heap.size,0,none⟩) n n) (w.alloc (.cells (nY n) 73)):=by
 obtain rfl | rfl | rfl:n=0∨n=1∨n=2:=by omega
 all_goals kernel_rfl
structure DQ (ts:List (List Int)) (B lo g:Nat) (W:World) (l:List Pl) (j:Nat):Prop where
 lt:g<W.heap.size
 gB:B≤g
 gl:g<lo
 room:∀ o,o<l.length*13→∃ u,W.cell? ⟨g,o,none⟩=some u
 fz:∀ o,W.frozen? ⟨g,o,none⟩=false
 laid:∀ (i:Nat) (h:i<l.length),i<j→∃ q ca cc na nc,gY W g (i*13) l[i] q∧W.cell? ⟨g,i*13+11,none⟩=some (.slice ca (ah ts l[i]).length cc)∧W.cell? ⟨g,i*13+12,none⟩=some (.slice na l[i].ks.length nc)∧E8 ts B lo W l[i] q ca na
theorem DQ.new (ts:List (List Int)) {B lo:Nat} (w:World) (l:List Pl) (hB:B≤w.heap.size) (hl:w.heap.size<lo) (T:TypeId):DQ ts B lo w.heap.size (w.alloc (.cells (nY l.length) T)) l 0:=by
 have q:=aw w (nY l.length) T;refine ⟨ae q,hB,hl,fun o ho=>?_,fun o=>No _ w.heap.size o _ _ q,fun i _ h=>absurd h (N7 _)⟩;have hs:o<(nY l.length).size:=by rw [BC]; exact ho
 exact ⟨(nY l.length)[o],cell_of (i:=o) q (by rw [Oc hs])⟩
theorem DQ.next {ts:List (List Int)} {B lo g t:Nat} {W w1:World} {l:List Pl} {j:Nat} (h:DQ ts B lo g W l j) (hb:au t W w1) (hB:B≤t) (ht:t<g):DQ ts B lo g w1 l j:=by
 have hn:g≠t:=by omega
 have gl:=h.gl;refine ⟨Nn h.lt hb.size,h.gB,h.gl,fun o ho=>?_,fun o=>(hb.frozen (p:=⟨g,o,none⟩) h.lt hn).trans (h.fz o),fun i hi hj=>?_⟩
 ·obtain ⟨u,hu⟩:=h.room o ho;exact ⟨u,(hb.cell (p:=⟨g,o,none⟩) h.lt hn).trans hu⟩
 ·obtain ⟨q,ca,cc,na,nc,e,e1,e2,e3⟩:=h.laid i hi hj;exact ⟨q,ca,cc,na,nc,e.mN hb h.lt hn,(hb.cell (p:=⟨g,_,none⟩) h.lt hn).trans e1,(hb.cell (p:=⟨g,_,none⟩) h.lt hn).trans e2,e3.next (Kept.Nb hb hB (by omega))⟩
def zM (p:Pl) (q:Pw) (ca:Option Addr) (n cc:Nat) (na:Option Addr) (nc:Nat):List Value:=[.int .i64 p.k,.int .i64 p.n,.int .i64 p.x.k,.int .i64 p.x.v.1,.int .i64 p.x.v.2.1,.string p.x.v.2.2,.int .i64 p.x.c,.slice q.xa p.x.ks.length q.xc,.slice q.sa p.xs.length q.sc,.slice q.ga p.gs.length q.gc,.slice q.ka p.ks.length q.kc,.slice ca n cc,.slice na p.ks.length nc]
theorem DQ.store {ts:List (List Int)} {B lo g:Nat} {W:World} {l:List Pl} {j:Nat} (h:DQ ts B lo g W l j) (hj:j<l.length) {q:Pw} {ca:Option Addr} {cc:Nat} {na:Option Addr} {nc:Nat} (hn:E8 ts B lo W l[j] q ca na) :
  DQ ts B lo g (cU W g (j*13) (zM l[j] q ca (ah ts l[j]).length cc na nc)) l (j+1):=by
 have hK:=jo g h.gB h.gl (zM l[j] q ca (ah ts l[j]).length cc na nc) W (j*13) (Kept.refl B lo W);have hr:∀ k,k<(zM l[j] q ca (ah ts l[j]).length cc na nc).length→∃ u,W.cell? ⟨g,j*13+k,none⟩=some u:=fun k hk=>h.room _ (by
  have:k<13:=hk;have:(j+1)*13≤l.length*13:=Nat.mul_le_mul_right 13 hj;omega)
 have hs:∀ (i:Nat) (hi:i<13),(cU W g (j*13) (zM l[j] q ca (ah ts l[j]).length cc na nc)).cell? ⟨g,j*13+i,none⟩=some ((zM l[j] q ca (ah ts l[j]).length cc na nc)[i]'hi):=fun i hi=>pY g (zM l[j] q ca (ah ts l[j]).length cc na nc) W (j*13) i hi hr
 have ho:∀ o,(o<j*13∨j*13+13≤o)→(cU W g (j*13) (zM l[j] q ca (ah ts l[j]).length cc na nc)).cell? ⟨g,o,none⟩=W.cell? ⟨g,o,none⟩:=fun o h=>fc g _ W _ _ _ (.inr h)
 refine ⟨by rw [lS]; exact h.lt,h.gB,h.gl,fun o hl=>?_,fun o=>by rw [oK]; exact h.fz o,fun i hi hij=>?_⟩
 ·by_cases c:o<j*13∨j*13+13≤o
  ·rw [ho o c]; exact h.room o hl
  ·have:=hs (o - j*13) (by omega);rw [show j*13+(o - j*13)=o by omega] at this;exact ⟨_,this⟩
 ·by_cases e:i=j
  ·subst e;refine ⟨q,ca,cc,na,nc,⟨hs 0 (by decide),hs 1 (by decide),⟨hs 2 (by decide),hs 3 (by decide),hs 4 (by decide),hs 5 (by decide),hs 6 (by decide),hs 7 (by decide)⟩,hs 8 (by decide),hs 9 (by decide),hs 10 (by decide)⟩,hs 11 (by decide),hs 12 (by decide),hn.next hK⟩
  ·obtain ⟨q',ca',cc',na',nc',e0,e1,e2,e3⟩:=h.laid i hi (by omega);have hlt:i*13+13≤j*13:=by
    have:(i+1)*13≤j*13:=Nat.mul_le_mul_right 13 (by omega);omega
   exact ⟨q',ca',cc',na',nc',⟨(ho _ (by omega)).trans e0.c0,(ho _ (by omega)).trans e0.c1,⟨(ho _ (by omega)).trans e0.ub.c0,(ho _ (by omega)).trans e0.ub.c1,(ho _ (by omega)).trans e0.ub.c2,(ho _ (by omega)).trans e0.ub.c3,(ho _ (by omega)).trans e0.ub.c4,(ho _ (by omega)).trans e0.ub.c5⟩,(ho _ (by omega)).trans e0.c8,(ho _ (by omega)).trans e0.c9,(ho _ (by omega)).trans e0.zY⟩,(ho _ (by omega)).trans e1,(ho _ (by omega)).trans e2,e3.next hK⟩
theorem DQ.ns {ts:List (List Int)} {B lo lo' g:Nat} {W:World} {l:List Pl} (h:DQ ts B lo g W l l.length) (hl:lo'≤g):sY ts B lo' W (some ⟨g,0,none⟩) l:=by
 have gl:=h.gl;have ex:=fun (i:Nat) (hi:i<l.length)=>h.laid i hi hi
 refine .some g 0 l (fun i=>if hi:i<l.length then (ex i hi).choose else ⟨none,0,none,0,none,0,none,0⟩) (fun i=>if hi:i<l.length then (ex i hi).choose_spec.choose else none) (fun i=>if hi:i<l.length then (ex i hi).choose_spec.choose_spec.choose else 0) (fun i=>if hi:i<l.length then (ex i hi).choose_spec.choose_spec.choose_spec.choose else none) (fun i=>if hi:i<l.length then (ex i hi).choose_spec.choose_spec.choose_spec.choose_spec.choose else 0) h.lt hl ?_ ?_ ?_ ?_ ?_ ?_
 all_goals intro i hi
 all_goals simp only [hi,dite_true,Np]
 all_goals have sp:=(ex i hi).choose_spec.choose_spec.choose_spec.choose_spec.choose_spec
 ·exact sp.1
 ·exact sp.2.1
 ·exact sp.2.2.1
 ·exact sp.2.2.2.pl
 ·exact sp.2.2.2.cols.wide (by omega)
 ·exact sY.wide (by omega) sp.2.2.2.kids
theorem jO {ts:List (List Int)} {p:Pl} {m d:Int} (h:¬ eO p.k p.ks.length (m+1) d=0):aQ ts p m d=(eO p.k p.ks.length (m+1) d,m+1):=by
 cases p; simp only [Pl.k,Pl.ks] at h ⊢; rw [aQ,if_pos h]
theorem uI {ts:List (List Int)} {p:Pl} {m d:Int} (h:eO p.k p.ks.length (m+1) d=0) (he:¬ (aW ts p.ks (m+1) (d+1)).1=0):aQ ts p m d=aW ts p.ks (m+1) (d+1):=by
 cases p; simp only [Pl.k,Pl.ks] at h he; rw [aQ,if_neg (by simp [h]),if_pos he]; rfl
theorem uW {ts:List (List Int)} {p:Pl} {m d:Int} (h:eO p.k p.ks.length (m+1) d=0) (he:(aW ts p.ks (m+1) (d+1)).1=0):aQ ts p m d=(fC ts p.k p.n p.x p.xs p.gs (p.ks.map (ah ts)),(aW ts p.ks (m+1) (d+1)).2):=by
 cases p; simp only [Pl.k,Pl.ks] at h he; rw [aQ,if_neg (by simp [h]),if_neg (by simp [he]),dR]; rfl
theorem xP (ts:List (List Int)) (p:Pl):ah ts p=iR ts p.k p.n p.xs p.gs (p.ks.map (ah ts)):=by
 cases p; rw [ah,dR]; rfl
theorem jr.all {t:Nat} {ta:Option Addr} {n tc:Nat} {m:Int} {W:World} (h:jr W t ta n tc m) (g:Nat) (hn:g≠t) (vs:List Value) (o:Nat):jr (cU W g o vs) t ta n tc m :=
 ⟨by rw [lS]; exact h.lt,(fc g vs W o t 0 (.inl (Ne.symm hn))).trans h.c0,(fc g vs W o t 1 (.inl (Ne.symm hn))).trans h.c1,(oK g vs W o t 1).trans h.f1⟩
theorem gY.all {b off:Nat} {p:Pl} {q:Pw} {W:World} (h:gY W b off p q) (g:Nat) (hn:b≠g) (vs:List Value) (o:Nat):gY (cU W g o vs) b off p q :=
 have k:=fun x=>fc g vs W o b x (.inl hn)
 ⟨(k _).trans h.c0,(k _).trans h.c1,⟨(k _).trans h.ub.c0,(k _).trans h.ub.c1,(k _).trans h.ub.c2,(k _).trans h.ub.c3,(k _).trans h.ub.c4,(k _).trans h.ub.c5⟩,(k _).trans h.c8,(k _).trans h.c9,(k _).trans h.zY⟩
theorem nZ (g k:Nat) (hn:k≠g):∀ (vs:List Value) (W:World) (o:Nat),k<W.heap.size→(cU W g o vs).heap[k]? = W.heap[k]?
 | [],_,_,_=>rfl
 | v :: r,W,o,hk=>by
  rw [cU,nZ g k hn r _ _ (by rw [Pa]; exact hk)]
  exact ((au.refl g W).set o v).2 k hk hn
def xg (ts:List (List Int)) (p:Pl):Prop :=
 ∀ (B t:Nat) (ta:Option Addr) (tc:Nat) (q:Pw) (m d:Int) (w:World),ja B w p q→fy B w ta ts→B≤t→jr w t ta ts.length tc m→0≤m→m≤60→0≤d→d≤16→cz p →
  Calls Tryz.prog 64 #[.pointer (some ⟨t,0,none⟩),bP p q,.int .i64 d] w fun e w'=>(∃ v,e = .returned (.tuple #[v,.int .i64 (aQ ts p m d).1])∧((aQ ts p m d).1=0→∃ ca cc na nc,v=oI p q ca (ah ts p).length cc na nc∧E8 ts B w.heap.size w' p q ca na)∧(¬ (aQ ts p m d).1=0→v=lI))∧au t w w'∧jr w' t ta ts.length tc (aQ ts p m d).2
theorem JQ (ts:List (List Int)) (hts:dC ts=0) (p:Pl) (ih:∀ r ∈ p.ks,xg ts r):xg ts p:=by
 intro B t ta tc q m d w hp hT hBt ht hm0 hm hd0 hd hok;have htw:=ht.lt;have HT:Hid (dC ts=0):=hts;have HK:Hid (cz p):=hok;have IH:Hid (∀ r ∈ p.ks,xg ts r):=ih;generalize hr:aQ ts p m d=r;have HR:Hid (aQ ts p m d=r):=hr;clear hr hts hok ih;have zS:(w.setCell ⟨t,1,none⟩ (.int .i64 (m+1))).heap.size=w.heap.size:=Pa _ _ _;have TS:=ht.count (m+1);have XS:=(au.refl t w).set 1 (.int .i64 (m+1));have E0:=gY.new (w.setCell ⟨t,1,none⟩ (.int .i64 (m+1))) p q 31;have l0:=ae (aw (w.setCell ⟨t,1,none⟩ (.int .i64 (m+1))) (eS p q) 31)
 have z0:((w.setCell ⟨t,1,none⟩ (.int .i64 (m+1))).alloc (.cells (eS p q) 31)).heap.size=w.heap.size+1:=by simp
 have h0:Below (w.setCell ⟨t,1,none⟩ (.int .i64 (m+1))).heap.size (w.setCell ⟨t,1,none⟩ (.int .i64 (m+1))) ((w.setCell ⟨t,1,none⟩ (.int .i64 (m+1))).alloc (.cells (eS p q) 31)):=(Nk _ _).alloc (Nj _) _
 have h1:Below ((w.setCell ⟨t,1,none⟩ (.int .i64 (m+1))).alloc (.cells (eS p q) 31)).heap.size ((w.setCell ⟨t,1,none⟩ (.int .i64 (m+1))).alloc (.cells (eS p q) 31)) (((w.setCell ⟨t,1,none⟩ (.int .i64 (m+1))).alloc (.cells (eS p q) 31)).alloc (.cells #[.int .i64 0,.int .i64 0,.int .i64 0,.int .i64 0,.int .i64 0,.string ⟨#[]⟩,.int .i64 0,.slice none 0 0,.slice none 0 0,.slice none 0 0,.slice none 0 0,.slice none 0 0,.slice none 0 0] 73)):=(Nk _ _).alloc (Nj _) _
 have QR:=aw ((w.setCell ⟨t,1,none⟩ (.int .i64 (m+1))).alloc (.cells (eS p q) 31)) #[.int .i64 0,.int .i64 0,.int .i64 0,.int .i64 0,.int .i64 0,.string ⟨#[]⟩,.int .i64 0,.slice none 0 0,.slice none 0 0,.slice none 0 0,.slice none 0 0,.slice none 0 0,.slice none 0 0] 73;rw [z0] at QR;rw [zS] at E0 l0;have h01:=chain h0 h1;have T0:=TS.next h01;have X0:=XS.trans (au.of h01 (by rw [zS]; exact NV htw));have EA:=E0.next h1 l0;have H2:=ht.c1;have H3:=ht.f1
 have zA:w.heap.size+1<(((w.setCell ⟨t,1,none⟩ (.int .i64 (m+1))).alloc (.cells (eS p q) 31)).alloc (.cells #[.int .i64 0,.int .i64 0,.int .i64 0,.int .i64 0,.int .i64 0,.string ⟨#[]⟩,.int .i64 0,.slice none 0 0,.slice none 0 0,.slice none 0 0,.slice none 0 0,.slice none 0 0,.slice none 0 0] 73)).heap.size:=ae QR;have hWm:IntKind.i64.wrap (m+1)=m+1:=IntWalk.i64_in _ ⟨by omega,by omega⟩;clear XS E0 TS;unfold bP;go_enter Tryz.func64,Tryz.ntmps64;go_wp2_with fail
 clear H2 H3 h0 h1 h01 l0 z0 zS;generalize ((w.setCell ⟨t,1,none⟩ (.int .i64 (m+1))).alloc (.cells (eS p q) 31)).alloc (.cells #[.int .i64 0,.int .i64 0,.int .i64 0,.int .i64 0,.int .i64 0,.string ⟨#[]⟩,.int .i64 0,.slice none 0 0,.slice none 0 0,.slice none 0 0,.slice none 0 0,.slice none 0 0,.slice none 0 0] 73)=wA at *
 have hCC:∀ W W':World,(gY W w.heap.size 0 p q∧w.heap.size<W.heap.size∧W.cell? ⟨t,1,none⟩=some (.int .i64 (m+1))∧t<W.heap.size)→Below W.heap.size W W'→(gY W' w.heap.size 0 p q∧w.heap.size<W'.heap.size∧W'.cell? ⟨t,1,none⟩=some (.int .i64 (m+1))∧t<W'.heap.size):=fun W W' h hb=>⟨h.1.next hb h.2.1,Nn h.2.1 hb.size,(hb.cell (p:=⟨t,1,none⟩) h.2.2.2).trans h.2.2.1,Nn h.2.2.2 hb.size⟩
 have hd:Below wA.heap.size wA wA.drew:=(Nk _ _).drew;have CW:=hCC _ _ ⟨EA,by omega,T0.c1,by omega⟩ hd;refine aK (fun W=>(gY W w.heap.size 0 p q∧w.heap.size<W.heap.size∧W.cell? ⟨t,1,none⟩=some (.int .i64 (m+1))∧t<W.heap.size)) (by kernel_rfl) ?_;refine ab hCC 23 (i:=0) (v:=.agg (eS p q)) (fun n hn=>?_) CW ?_
 ·obtain ⟨⟨n0,n1,⟨n2,n3,n4,n5,n6,n7⟩,n8,n9,n10⟩,_⟩:=hn;simp only [Np] at n1 n2 n3 n4 n5 n6 n7 n8 n9 n10;go_simp
 simp only [Act.put,pA,pB,pC];refine ab hCC 24 (i:=1) (v:=.pointer (some ⟨t,0,none⟩)) (fun n hn=>?_) CW ?_
 ·go_simp
 simp only [Act.put,pA,pB,pC];refine ab hCC 25 (i:=2) (v:=.pointer (some ⟨t,0,none⟩)) (fun n hn=>?_) CW ?_
 ·go_simp
 simp only [Act.put,pA,pB,pC];refine ab hCC 26 (i:=3) (v:=.pointer (some ⟨t,1,none⟩)) (fun n hn=>?_) CW ?_
 ·go_simp
 simp only [Act.put,pA,pB,pC];refine ab hCC 27 (i:=4) (v:=.int .i64 (m+1)) (fun n hn=>?_) CW ?_
 ·have hc:=hn.2.2.1;go_simp
 simp only [Act.put,pA,pB,pC];refine ab hCC 28 (i:=5) (v:=.int .i64 d) (fun n hn=>?_) CW ?_
 ·go_simp
 simp only [Act.put,pA,pB,pC];refine az (rs:=[6]) (by kernel_rfl) (by simp) ?_;intro w1 hb1 jj hjj;obtain rfl:jj=6:=by simpa using hjj
 clear hjj;have CW1:=hCC _ _ CW hb1;have con:=tY p q (m+1) d w1;unfold bP at con;generalize hw0:eO p.k p.ks.length (m+1) d=e0 at *;have HW:Hid (eO p.k p.ks.length (m+1) d=e0):=hw0;clear hw0;refine wpOp_step rfl (fun K hK=>?_);go_simp;refine con.mono ?_;rintro e w2 ⟨rfl,hb2⟩;clear con;have CW2:=hCC _ _ CW1 hb2;refine hK _ _ ⟨CW2,?_⟩;clear hK K CW1 CW;refine ab hCC 8 (i:=7) (v:=.int .i64 e0) (fun n hn=>?_) CW2 ?_
 ·go_simp
 simp only [Act.put,pA,pB,pC];refine bL (by kernel_rfl) ?_;intro w3 hb3';have hb3:=chain hd (chain hb1 (chain hb2 hb3'));clear CW2 hCC hb3' hb2 hb1 hd;have T3:=T0.next hb3;have E3:=EA.next hb3 (by omega);have QR:=(hb3.block _ (by omega)).trans QR;have X3:=X0.trans (au.of hb3 (by omega));have z3:=hb3.size;clear T0 EA X0;by_cases hw:e0=0;rotate_left
 ·have er:r=(e0,m+1):=by rw [← HR.out,jO (by rw [HW.out]; exact hw),HW.out]
  subst er;have HEr:¬ e0=0:=hw;have hwb:(e0 != 0)=true:=by simpa using hw
  clear HR hw;have d0:w3.cell? ⟨w.heap.size+1,0,none⟩=some (.int .i64 0):=cell_of (i:=0) QR rfl;have f0:w3.frozen? ⟨w.heap.size+1,0,none⟩=false:=No w3 (w.heap.size+1) 0 _ _ QR;have d1:w3.cell? ⟨w.heap.size+1,1,none⟩=some (.int .i64 0):=cell_of (i:=1) QR rfl;have f1:w3.frozen? ⟨w.heap.size+1,1,none⟩=false:=No w3 (w.heap.size+1) 1 _ _ QR;have d2:w3.cell? ⟨w.heap.size+1,2,none⟩=some (.int .i64 0):=cell_of (i:=2) QR rfl;have f2:w3.frozen? ⟨w.heap.size+1,2,none⟩=false:=No w3 (w.heap.size+1) 2 _ _ QR
  have d3:w3.cell? ⟨w.heap.size+1,3,none⟩=some (.int .i64 0):=cell_of (i:=3) QR rfl;have f3:w3.frozen? ⟨w.heap.size+1,3,none⟩=false:=No w3 (w.heap.size+1) 3 _ _ QR;have d4:w3.cell? ⟨w.heap.size+1,4,none⟩=some (.int .i64 0):=cell_of (i:=4) QR rfl;have f4:w3.frozen? ⟨w.heap.size+1,4,none⟩=false:=No w3 (w.heap.size+1) 4 _ _ QR;have d5:w3.cell? ⟨w.heap.size+1,5,none⟩=some (.string ⟨#[]⟩):=cell_of (i:=5) QR rfl;have f5:w3.frozen? ⟨w.heap.size+1,5,none⟩=false:=No w3 (w.heap.size+1) 5 _ _ QR
  have d6:w3.cell? ⟨w.heap.size+1,6,none⟩=some (.int .i64 0):=cell_of (i:=6) QR rfl;have f6:w3.frozen? ⟨w.heap.size+1,6,none⟩=false:=No w3 (w.heap.size+1) 6 _ _ QR;have d7:w3.cell? ⟨w.heap.size+1,7,none⟩=some (.slice none 0 0):=cell_of (i:=7) QR rfl;have f7:w3.frozen? ⟨w.heap.size+1,7,none⟩=false:=No w3 (w.heap.size+1) 7 _ _ QR;have d8:w3.cell? ⟨w.heap.size+1,8,none⟩=some (.slice none 0 0):=cell_of (i:=8) QR rfl;have f8:w3.frozen? ⟨w.heap.size+1,8,none⟩=false:=No w3 (w.heap.size+1) 8 _ _ QR
  have d9:w3.cell? ⟨w.heap.size+1,9,none⟩=some (.slice none 0 0):=cell_of (i:=9) QR rfl;have f9:w3.frozen? ⟨w.heap.size+1,9,none⟩=false:=No w3 (w.heap.size+1) 9 _ _ QR;have d10:w3.cell? ⟨w.heap.size+1,10,none⟩=some (.slice none 0 0):=cell_of (i:=10) QR rfl;have f10:w3.frozen? ⟨w.heap.size+1,10,none⟩=false:=No w3 (w.heap.size+1) 10 _ _ QR;have d11:w3.cell? ⟨w.heap.size+1,11,none⟩=some (.slice none 0 0):=cell_of (i:=11) QR rfl;have f11:w3.frozen? ⟨w.heap.size+1,11,none⟩=false:=No w3 (w.heap.size+1) 11 _ _ QR
  have d12:w3.cell? ⟨w.heap.size+1,12,none⟩=some (.slice none 0 0):=cell_of (i:=12) QR rfl;have f12:w3.frozen? ⟨w.heap.size+1,12,none⟩=false:=No w3 (w.heap.size+1) 12 _ _ QR;have XE:=j7 (w.heap.size+1) (Nat.le_succ _) (NV htw) qO w3 0 X3;have TE:jr (cU w3 (w.heap.size+1) 0 qO) t ta ts.length tc _:=jr.all T3 (w.heap.size+1) (by omega) qO 0;clear QR;go_wp2_with fail
  first
   | exact Nl (v:=.tuple #[lI,.int .i64 e0]) (by simp [results,Tryz.results64,go_sem,lI,d0,d1,d2,d3,d4,d5,d6,d7,d8,d9,d10,d11,d12]) rfl ⟨rfl,XE,TE⟩
   | exact Nl (v:=.tuple #[lI,.int .i64 e0]) (by simp [results,Tryz.results64,go_sem,lI,d0,d1,d2,d3,d4,d5,d6,d7,d8,d9,d10,d11,d12]) rfl ⟨⟨_,rfl,rfl⟩,XE,TE⟩
   | exact Nl (v:=.tuple #[lI,.int .i64 e0]) (by simp [results,Tryz.results64,go_sem,lI,d0,d1,d2,d3,d4,d5,d6,d7,d8,d9,d10,d11,d12]) rfl ⟨⟨_,rfl,fun c=>absurd c HEr,fun _=>rfl⟩,XE,TE⟩
   | trace_state
 subst hw;obtain ⟨hln,hk1,hk13,hm1,hd1⟩:=iY HW.out;have hl2:p.ks.length≤2:=by rw [hln]; exact gh _
 have HL:Hid (p.ks.length=cJ p.k):=hln;have hmk:=BB hl2;clear hln;have zY:=E3.zY;simp only [Np] at zY;have zl:w.heap.size<w3.heap.size:=by omega
 go_wp2_with fail
 have hal4:=aa w3 (.cells (nY p.ks.length) 73);have KT:=DQ.new ts (B:=B) (lo:=w3.heap.size+1) w3 p.ks (by omega) (Nat.lt_succ_self _) 73;have T4:=T3.next hal4;have E4:=E3.next hal4 (by omega);have QR4:=(hal4.block _ (ae QR)).trans QR;have X4:=X3.trans (au.of hal4 (by omega));have hgw:w.heap.size+1<w3.heap.size:=by omega
 clear T3 E3 QR X3 hmk zY hal4;generalize w3.alloc (.cells (nY p.ks.length) 73)=w4 at *;generalize w3.heap.size=g at *
 go_loopw [41] (fun i wr=>∃ (j:Nat) (mq:Int),j≤p.ks.length∧i = .int .i64 j∧0≤mq∧mq≤60∧Hid (aW ts p.ks (m+1) (d+1)=aW ts (p.ks.drop j) mq (d+1))∧au t w wr∧jr wr t ta ts.length tc mq∧gY wr w.heap.size 0 p q∧wr.heap[w.heap.size+1]? = some (.cells #[.int .i64 0,.int .i64 0,.int .i64 0,.int .i64 0,.int .i64 0,.string ⟨#[]⟩,.int .i64 0,.slice none 0 0,.slice none 0 0,.slice none 0 0,.slice none 0 0,.slice none 0 0,.slice none 0 0] 73 (0,0))∧DQ ts B (g+1) g wr p.ks j) (fun i _=>p.ks.length - (intOf i).toNat)
 case atStart=>exact ⟨0,m+1,Nr _,rfl,by omega,hm1,rfl,X4,T4,E4,QR4,KT⟩
 case round =>
  obtain ⟨j,mq,hj,rfl,hq0,hq,HE,hX,hTy,hE,QR,hKT⟩:=hrel;clear X4 T4 E4 QR4 KT;have hz:=hX.size;have hgl:=hKT.lt;by_cases hlt:j<p.ks.length
  ·obtain ⟨b,off,q1,eka,hbl,EL,PB⟩:=(ft.next (hX.below hBt) (Nj _) hp.ks).elem hlt;obtain ⟨y0,y1,⟨y2,y3,y4,y5,y6,y7⟩,y8,y9,y10⟩:=EL;have hjz:(j:Int)<(p.ks.length:Int):=by omega
   have hal:=aa wr (.cells #[.int .i64 p.ks[j].k,.int .i64 p.ks[j].n,.int .i64 p.ks[j].x.k,.int .i64 p.ks[j].x.v.1,.int .i64 p.ks[j].x.v.2.1,.string p.ks[j].x.v.2.2,.int .i64 p.ks[j].x.c,.slice q1.xa p.ks[j].x.ks.length q1.xc,.slice q1.sa p.ks[j].xs.length q1.sc,.slice q1.ga p.ks[j].gs.length q1.gc,.slice q1.ka p.ks[j].ks.length q1.kc] 31)
   have zk:(wr.alloc (.cells #[.int .i64 p.ks[j].k,.int .i64 p.ks[j].n,.int .i64 p.ks[j].x.k,.int .i64 p.ks[j].x.v.1,.int .i64 p.ks[j].x.v.2.1,.string p.ks[j].x.v.2.2,.int .i64 p.ks[j].x.c,.slice q1.xa p.ks[j].x.ks.length q1.xc,.slice q1.sa p.ks[j].xs.length q1.sc,.slice q1.ga p.ks[j].gs.length q1.gc,.slice q1.ka p.ks[j].ks.length q1.kc] 31)).heap.size=wr.heap.size+1:=by simp
   have hBr:B≤wr.heap.size:=by omega
   have con:=IH.out p.ks[j] (Ns hlt) B t ta tc q1 mq (d+1) _ (PB.next hal hBr) ((hT.next (hX.below hBt) (Nj _)).next hal hBr) hBt (hTy.next hal) hq0 hq (by omega) (by omega) (HK.out.ks _ (Ns hlt));unfold bP at con;go_upto_region 9 with fail
   clear y0 y1 y2 y3 y4 y5 y6 y7 y8 y9 y10;have EK:=gY.new wr p.ks[j] q1 31;generalize wr.alloc (.cells #[.int .i64 p.ks[j].k,.int .i64 p.ks[j].n,.int .i64 p.ks[j].x.k,.int .i64 p.ks[j].x.v.1,.int .i64 p.ks[j].x.v.2.1,.string p.ks[j].x.v.2.2,.int .i64 p.ks[j].x.c,.slice q1.xa p.ks[j].x.ks.length q1.xc,.slice q1.sa p.ks[j].xs.length q1.sc,.slice q1.ga p.ks[j].gs.length q1.gc,.slice q1.ka p.ks[j].ks.length q1.kc] 31)=wk at *;obtain ⟨y0,y1,⟨y2,y3,y4,y5,y6,y7⟩,y8,y9,y10⟩:=EK;simp only [Np] at y1 y2 y3 y4 y5 y6 y7 y8 y9 y10;go_wp2_with fail
   refine con.mono ?_;rintro e w5 ⟨⟨v5,rfl,hok,hbad⟩,hX5,hT5⟩;clear con y0 y1 y2 y3 y4 y5 y6 y7 y8 y9 y10;have XK:=au.of (t:=t) hal (by omega);have X5:=XK.trans hX5;have X5w:=hX.trans X5;have KT5:=hKT.next X5 hBt (by omega);have E5:=hE.mN X5 (by omega) (by omega);have QR5:=(X5.2 _ (ae QR) (by omega)).trans QR;have hz5:=hX5.size;generalize hly:aQ ts p.ks[j] mq (d+1)=ly at *;have HY:Hid (aQ ts p.ks[j] mq (d+1)=ly):=hly;obtain ⟨e1,n1⟩:=ly;clear hly hKT hE QR hTy hX XK hX5;by_cases he:e1=0
   ·subst he;obtain ⟨ca,cc,na,nc,rfl,ND⟩:=hok rfl;have hn1:=qS ts p.ks[j] mq (d+1) (by rw [HY.out]);rw [HY.out] at hn1;have HN:Hid (mq<n1∧n1≤60):=hn1;have HE':Hid (aW ts p.ks (m+1) (d+1)=aW ts (p.ks.drop (j+1)) n1 (d+1)):=by
     show _=_;rw [HE.out,yD hlt (by rw [HY.out]),HY.out]
    have hal6:=aa w5 (.cells #[.int .i64 p.ks[j].k,.int .i64 p.ks[j].n,.int .i64 p.ks[j].x.k,.int .i64 p.ks[j].x.v.1,.int .i64 p.ks[j].x.v.2.1,.string p.ks[j].x.v.2.2,.int .i64 p.ks[j].x.c,.slice q1.xa p.ks[j].x.ks.length q1.xc,.slice q1.sa p.ks[j].xs.length q1.sc,.slice q1.ga p.ks[j].gs.length q1.gc,.slice q1.ka p.ks[j].ks.length q1.kc,.slice ca (ah ts p.ks[j]).length cc,.slice na p.ks[j].ks.length nc] 73);have X6:=au.of (t:=t) hal6 (by omega);have KT6:=KT5.next X6 hBt (by omega)
    have ND6:=(ND.wide (lo':=g+1) (by omega)).next (Kept.of hal6 (by omega));have T6:=hT5.next hal6;have E6:=E5.mN X6 (by omega) (by omega);have QR6:=(X6.2 _ (ae QR5) (by omega)).trans QR5;have X6w:=X5w.trans X6;have hz6:=hal6.size
    have Q6:=aw w5 #[.int .i64 p.ks[j].k,.int .i64 p.ks[j].n,.int .i64 p.ks[j].x.k,.int .i64 p.ks[j].x.v.1,.int .i64 p.ks[j].x.v.2.1,.string p.ks[j].x.v.2.2,.int .i64 p.ks[j].x.c,.slice q1.xa p.ks[j].x.ks.length q1.xc,.slice q1.sa p.ks[j].xs.length q1.sc,.slice q1.ga p.ks[j].gs.length q1.gc,.slice q1.ka p.ks[j].ks.length q1.kc,.slice ca (ah ts p.ks[j]).length cc,.slice na p.ks[j].ks.length nc] 73;have hj13:j*13+13≤p.ks.length*13:=by
     have:(j+1)*13≤p.ks.length*13:=Nat.mul_le_mul_right 13 hlt;omega
    unfold oI;clear hn1 HE HY hok hbad KT5 ND hT5 E5 QR5 X5w X5 X6;go_upto_region 12 with fail
    generalize w5.alloc (.cells #[.int .i64 p.ks[j].k,.int .i64 p.ks[j].n,.int .i64 p.ks[j].x.k,.int .i64 p.ks[j].x.v.1,.int .i64 p.ks[j].x.v.2.1,.string p.ks[j].x.v.2.2,.int .i64 p.ks[j].x.c,.slice q1.xa p.ks[j].x.ks.length q1.xc,.slice q1.sa p.ks[j].xs.length q1.sc,.slice q1.ga p.ks[j].gs.length q1.gc,.slice q1.ka p.ks[j].ks.length q1.kc,.slice ca (ah ts p.ks[j]).length cc,.slice na p.ks[j].ks.length nc] 73)=w6 at *;obtain ⟨u0',r0⟩:=KT6.room (j*13) (by omega);have g0:=KT6.fz (j*13);obtain ⟨u1',r1⟩:=KT6.room (j*13+1) (by omega);have g1:=KT6.fz (j*13+1)
    obtain ⟨u2',r2⟩:=KT6.room (j*13+2) (by omega);have g2:=KT6.fz (j*13+2);obtain ⟨u3',r3⟩:=KT6.room (j*13+3) (by omega);have g3:=KT6.fz (j*13+3);obtain ⟨u4',r4⟩:=KT6.room (j*13+4) (by omega);have g4:=KT6.fz (j*13+4);obtain ⟨u5',r5⟩:=KT6.room (j*13+5) (by omega);have g5:=KT6.fz (j*13+5);obtain ⟨u6',r6⟩:=KT6.room (j*13+6) (by omega);have g6:=KT6.fz (j*13+6);obtain ⟨u7',r7⟩:=KT6.room (j*13+7) (by omega);have g7:=KT6.fz (j*13+7);obtain ⟨u8',r8⟩:=KT6.room (j*13+8) (by omega);have g8:=KT6.fz (j*13+8);obtain ⟨u9',r9⟩:=KT6.room (j*13+9) (by omega);have g9:=KT6.fz (j*13+9)
    obtain ⟨u10',r10⟩:=KT6.room (j*13+10) (by omega);have g10:=KT6.fz (j*13+10);obtain ⟨u11',r11⟩:=KT6.room (j*13+11) (by omega);have g11:=KT6.fz (j*13+11);obtain ⟨u12',r12⟩:=KT6.room (j*13+12) (by omega);have g12:=KT6.fz (j*13+12);have m0:=cell_of (i:=0) Q6 rfl;have m1:=cell_of (i:=1) Q6 rfl;have m2:=cell_of (i:=2) Q6 rfl;have m3:=cell_of (i:=3) Q6 rfl;have m4:=cell_of (i:=4) Q6 rfl;have m5:=cell_of (i:=5) Q6 rfl;have m6:=cell_of (i:=6) Q6 rfl;have m7:=cell_of (i:=7) Q6 rfl;have m8:=cell_of (i:=8) Q6 rfl;have m9:=cell_of (i:=9) Q6 rfl;have m10:=cell_of (i:=10) Q6 rfl
    have m11:=cell_of (i:=11) Q6 rfl;have m12:=cell_of (i:=12) Q6 rfl;go_wp2_with fail
    have FX:au t w ((((((((((((((w6).setCell ⟨g,j*13,none⟩ (.int .i64 p.ks[j].k)).setCell ⟨g,j*13+1,none⟩ (.int .i64 p.ks[j].n)).setCell ⟨g,j*13+2,none⟩ (.int .i64 p.ks[j].x.k)).setCell ⟨g,j*13+3,none⟩ (.int .i64 p.ks[j].x.v.1)).setCell ⟨g,j*13+4,none⟩ (.int .i64 p.ks[j].x.v.2.1)).setCell ⟨g,j*13+5,none⟩ (.string p.ks[j].x.v.2.2)).setCell ⟨g,j*13+6,none⟩ (.int .i64 p.ks[j].x.c)).setCell ⟨g,j*13+7,none⟩ (.slice q1.xa p.ks[j].x.ks.length q1.xc)).setCell ⟨g,j*13+8,none⟩ (.slice q1.sa p.ks[j].xs.length q1.sc)).setCell ⟨g,j*13+9,none⟩ (.slice q1.ga p.ks[j].gs.length q1.gc)).setCell ⟨g,j*13+10,none⟩ (.slice q1.ka p.ks[j].ks.length q1.kc)).setCell ⟨g,j*13+11,none⟩ (.slice ca (ah ts p.ks[j]).length cc)).setCell ⟨g,j*13+12,none⟩ (.slice na p.ks[j].ks.length nc)):=j7 g (by omega) (by omega) (zM p.ks[j] q1 ca (ah ts p.ks[j]).length cc na nc) w6 (j*13) X6w
    have FT:jr ((((((((((((((w6).setCell ⟨g,j*13,none⟩ (.int .i64 p.ks[j].k)).setCell ⟨g,j*13+1,none⟩ (.int .i64 p.ks[j].n)).setCell ⟨g,j*13+2,none⟩ (.int .i64 p.ks[j].x.k)).setCell ⟨g,j*13+3,none⟩ (.int .i64 p.ks[j].x.v.1)).setCell ⟨g,j*13+4,none⟩ (.int .i64 p.ks[j].x.v.2.1)).setCell ⟨g,j*13+5,none⟩ (.string p.ks[j].x.v.2.2)).setCell ⟨g,j*13+6,none⟩ (.int .i64 p.ks[j].x.c)).setCell ⟨g,j*13+7,none⟩ (.slice q1.xa p.ks[j].x.ks.length q1.xc)).setCell ⟨g,j*13+8,none⟩ (.slice q1.sa p.ks[j].xs.length q1.sc)).setCell ⟨g,j*13+9,none⟩ (.slice q1.ga p.ks[j].gs.length q1.gc)).setCell ⟨g,j*13+10,none⟩ (.slice q1.ka p.ks[j].ks.length q1.kc)).setCell ⟨g,j*13+11,none⟩ (.slice ca (ah ts p.ks[j]).length cc)).setCell ⟨g,j*13+12,none⟩ (.slice na p.ks[j].ks.length nc)) t ta ts.length tc n1:=jr.all T6 g (by omega) (zM p.ks[j] q1 ca (ah ts p.ks[j]).length cc na nc) (j*13)
    have FE:gY ((((((((((((((w6).setCell ⟨g,j*13,none⟩ (.int .i64 p.ks[j].k)).setCell ⟨g,j*13+1,none⟩ (.int .i64 p.ks[j].n)).setCell ⟨g,j*13+2,none⟩ (.int .i64 p.ks[j].x.k)).setCell ⟨g,j*13+3,none⟩ (.int .i64 p.ks[j].x.v.1)).setCell ⟨g,j*13+4,none⟩ (.int .i64 p.ks[j].x.v.2.1)).setCell ⟨g,j*13+5,none⟩ (.string p.ks[j].x.v.2.2)).setCell ⟨g,j*13+6,none⟩ (.int .i64 p.ks[j].x.c)).setCell ⟨g,j*13+7,none⟩ (.slice q1.xa p.ks[j].x.ks.length q1.xc)).setCell ⟨g,j*13+8,none⟩ (.slice q1.sa p.ks[j].xs.length q1.sc)).setCell ⟨g,j*13+9,none⟩ (.slice q1.ga p.ks[j].gs.length q1.gc)).setCell ⟨g,j*13+10,none⟩ (.slice q1.ka p.ks[j].ks.length q1.kc)).setCell ⟨g,j*13+11,none⟩ (.slice ca (ah ts p.ks[j]).length cc)).setCell ⟨g,j*13+12,none⟩ (.slice na p.ks[j].ks.length nc)) w.heap.size 0 p q:=E6.all g (by omega) (zM p.ks[j] q1 ca (ah ts p.ks[j]).length cc na nc) (j*13)
    have FQ:((((((((((((((w6).setCell ⟨g,j*13,none⟩ (.int .i64 p.ks[j].k)).setCell ⟨g,j*13+1,none⟩ (.int .i64 p.ks[j].n)).setCell ⟨g,j*13+2,none⟩ (.int .i64 p.ks[j].x.k)).setCell ⟨g,j*13+3,none⟩ (.int .i64 p.ks[j].x.v.1)).setCell ⟨g,j*13+4,none⟩ (.int .i64 p.ks[j].x.v.2.1)).setCell ⟨g,j*13+5,none⟩ (.string p.ks[j].x.v.2.2)).setCell ⟨g,j*13+6,none⟩ (.int .i64 p.ks[j].x.c)).setCell ⟨g,j*13+7,none⟩ (.slice q1.xa p.ks[j].x.ks.length q1.xc)).setCell ⟨g,j*13+8,none⟩ (.slice q1.sa p.ks[j].xs.length q1.sc)).setCell ⟨g,j*13+9,none⟩ (.slice q1.ga p.ks[j].gs.length q1.gc)).setCell ⟨g,j*13+10,none⟩ (.slice q1.ka p.ks[j].ks.length q1.kc)).setCell ⟨g,j*13+11,none⟩ (.slice ca (ah ts p.ks[j]).length cc)).setCell ⟨g,j*13+12,none⟩ (.slice na p.ks[j].ks.length nc)).heap[w.heap.size+1]? = some (.cells #[.int .i64 0,.int .i64 0,.int .i64 0,.int .i64 0,.int .i64 0,.string ⟨#[]⟩,.int .i64 0,.slice none 0 0,.slice none 0 0,.slice none 0 0,.slice none 0 0,.slice none 0 0,.slice none 0 0] 73 (0,0)):=(nZ g (w.heap.size+1) (by omega) (zM p.ks[j] q1 ca (ah ts p.ks[j]).length cc na nc) w6 (j*13) (ae QR6)).trans QR6
    have FK:DQ ts B (g+1) g ((((((((((((((w6).setCell ⟨g,j*13,none⟩ (.int .i64 p.ks[j].k)).setCell ⟨g,j*13+1,none⟩ (.int .i64 p.ks[j].n)).setCell ⟨g,j*13+2,none⟩ (.int .i64 p.ks[j].x.k)).setCell ⟨g,j*13+3,none⟩ (.int .i64 p.ks[j].x.v.1)).setCell ⟨g,j*13+4,none⟩ (.int .i64 p.ks[j].x.v.2.1)).setCell ⟨g,j*13+5,none⟩ (.string p.ks[j].x.v.2.2)).setCell ⟨g,j*13+6,none⟩ (.int .i64 p.ks[j].x.c)).setCell ⟨g,j*13+7,none⟩ (.slice q1.xa p.ks[j].x.ks.length q1.xc)).setCell ⟨g,j*13+8,none⟩ (.slice q1.sa p.ks[j].xs.length q1.sc)).setCell ⟨g,j*13+9,none⟩ (.slice q1.ga p.ks[j].gs.length q1.gc)).setCell ⟨g,j*13+10,none⟩ (.slice q1.ka p.ks[j].ks.length q1.kc)).setCell ⟨g,j*13+11,none⟩ (.slice ca (ah ts p.ks[j]).length cc)).setCell ⟨g,j*13+12,none⟩ (.slice na p.ks[j].ks.length nc)) p.ks (j+1):=KT6.store hlt ND6
    generalize (((((((((((((w6).setCell ⟨g,j*13,none⟩ (.int .i64 p.ks[j].k)).setCell ⟨g,j*13+1,none⟩ (.int .i64 p.ks[j].n)).setCell ⟨g,j*13+2,none⟩ (.int .i64 p.ks[j].x.k)).setCell ⟨g,j*13+3,none⟩ (.int .i64 p.ks[j].x.v.1)).setCell ⟨g,j*13+4,none⟩ (.int .i64 p.ks[j].x.v.2.1)).setCell ⟨g,j*13+5,none⟩ (.string p.ks[j].x.v.2.2)).setCell ⟨g,j*13+6,none⟩ (.int .i64 p.ks[j].x.c)).setCell ⟨g,j*13+7,none⟩ (.slice q1.xa p.ks[j].x.ks.length q1.xc)).setCell ⟨g,j*13+8,none⟩ (.slice q1.sa p.ks[j].xs.length q1.sc)).setCell ⟨g,j*13+9,none⟩ (.slice q1.ga p.ks[j].gs.length q1.gc)).setCell ⟨g,j*13+10,none⟩ (.slice q1.ka p.ks[j].ks.length q1.kc)).setCell ⟨g,j*13+11,none⟩ (.slice ca (ah ts p.ks[j]).length cc)).setCell ⟨g,j*13+12,none⟩ (.slice na p.ks[j].ks.length nc)=w7 at *
    clear KT6 ND6 T6 E6 QR6 X6w Q6;clear r0 g0 m0 r1 g1 m1 r2 g2 m2 r3 g3 m3 r4 g4 m4 r5 g5 m5 r6 g6 m6 r7 g7 m7 r8 g8 m8 r9 g9 m9 r10 g10 m10 r11 g11 m11 r12 g12 m12;rw [← eka];go_roundw
    case rel=>exact ⟨j+1,n1,by omega,by go_num,by have:=HN.out; omega,HN.out.2,HE',FX,FT,FE,FQ,FK⟩
    case measure=>simp [intOf]; omega
   ·have er:r=(e1,n1):=by
     rw [← HR.out,uI HW.out (by rw [HE.out,rT hlt (by rw [HY.out]; exact he),HY.out]; exact he),HE.out,rT hlt (by rw [HY.out]; exact he),HY.out]
    subst er;obtain rfl:=hbad he;have HEr:¬ e1=0:=he;have heb:(e1 != 0)=true:=by simpa using he
    have hal6:=aa w5 (.cells #[.int .i64 0,.int .i64 0,.int .i64 0,.int .i64 0,.int .i64 0,.string ⟨#[]⟩,.int .i64 0,.slice none 0 0,.slice none 0 0,.slice none 0 0,.slice none 0 0,.slice none 0 0,.slice none 0 0] 73);have QR:=(hal6.block _ (ae QR5)).trans QR5;have T6:=hT5.next hal6;have X6:=X5w.trans (au.of hal6 (by omega));clear HR he hok hbad HE HY KT5 QR5 hT5 X5w X5 E5;unfold lI;go_upto_region 10 with fail
    generalize w5.alloc (.cells #[.int .i64 0,.int .i64 0,.int .i64 0,.int .i64 0,.int .i64 0,.string ⟨#[]⟩,.int .i64 0,.slice none 0 0,.slice none 0 0,.slice none 0 0,.slice none 0 0,.slice none 0 0,.slice none 0 0] 73)=w6 at *;have d0:w6.cell? ⟨w.heap.size+1,0,none⟩=some (.int .i64 0):=cell_of (i:=0) QR rfl;have f0:w6.frozen? ⟨w.heap.size+1,0,none⟩=false:=No w6 (w.heap.size+1) 0 _ _ QR;have d1:w6.cell? ⟨w.heap.size+1,1,none⟩=some (.int .i64 0):=cell_of (i:=1) QR rfl;have f1:w6.frozen? ⟨w.heap.size+1,1,none⟩=false:=No w6 (w.heap.size+1) 1 _ _ QR
    have d2:w6.cell? ⟨w.heap.size+1,2,none⟩=some (.int .i64 0):=cell_of (i:=2) QR rfl;have f2:w6.frozen? ⟨w.heap.size+1,2,none⟩=false:=No w6 (w.heap.size+1) 2 _ _ QR;have d3:w6.cell? ⟨w.heap.size+1,3,none⟩=some (.int .i64 0):=cell_of (i:=3) QR rfl;have f3:w6.frozen? ⟨w.heap.size+1,3,none⟩=false:=No w6 (w.heap.size+1) 3 _ _ QR;have d4:w6.cell? ⟨w.heap.size+1,4,none⟩=some (.int .i64 0):=cell_of (i:=4) QR rfl;have f4:w6.frozen? ⟨w.heap.size+1,4,none⟩=false:=No w6 (w.heap.size+1) 4 _ _ QR
    have d5:w6.cell? ⟨w.heap.size+1,5,none⟩=some (.string ⟨#[]⟩):=cell_of (i:=5) QR rfl;have f5:w6.frozen? ⟨w.heap.size+1,5,none⟩=false:=No w6 (w.heap.size+1) 5 _ _ QR;have d6:w6.cell? ⟨w.heap.size+1,6,none⟩=some (.int .i64 0):=cell_of (i:=6) QR rfl;have f6:w6.frozen? ⟨w.heap.size+1,6,none⟩=false:=No w6 (w.heap.size+1) 6 _ _ QR;have d7:w6.cell? ⟨w.heap.size+1,7,none⟩=some (.slice none 0 0):=cell_of (i:=7) QR rfl;have f7:w6.frozen? ⟨w.heap.size+1,7,none⟩=false:=No w6 (w.heap.size+1) 7 _ _ QR
    have d8:w6.cell? ⟨w.heap.size+1,8,none⟩=some (.slice none 0 0):=cell_of (i:=8) QR rfl;have f8:w6.frozen? ⟨w.heap.size+1,8,none⟩=false:=No w6 (w.heap.size+1) 8 _ _ QR;have d9:w6.cell? ⟨w.heap.size+1,9,none⟩=some (.slice none 0 0):=cell_of (i:=9) QR rfl;have f9:w6.frozen? ⟨w.heap.size+1,9,none⟩=false:=No w6 (w.heap.size+1) 9 _ _ QR;have d10:w6.cell? ⟨w.heap.size+1,10,none⟩=some (.slice none 0 0):=cell_of (i:=10) QR rfl;have f10:w6.frozen? ⟨w.heap.size+1,10,none⟩=false:=No w6 (w.heap.size+1) 10 _ _ QR
    have d11:w6.cell? ⟨w.heap.size+1,11,none⟩=some (.slice none 0 0):=cell_of (i:=11) QR rfl;have f11:w6.frozen? ⟨w.heap.size+1,11,none⟩=false:=No w6 (w.heap.size+1) 11 _ _ QR;have d12:w6.cell? ⟨w.heap.size+1,12,none⟩=some (.slice none 0 0):=cell_of (i:=12) QR rfl;have f12:w6.frozen? ⟨w.heap.size+1,12,none⟩=false:=No w6 (w.heap.size+1) 12 _ _ QR;have XE:=j7 (w.heap.size+1) (Nat.le_succ _) (NV htw) qO w6 0 X6;have TE:jr (cU w6 (w.heap.size+1) 0 qO) t ta ts.length tc _:=jr.all T6 (w.heap.size+1) (by omega) qO 0;clear QR;go_wp2_with fail
    first
     | exact Nl (v:=.tuple #[lI,.int .i64 e1]) (by simp [results,Tryz.results64,go_sem,lI,d0,d1,d2,d3,d4,d5,d6,d7,d8,d9,d10,d11,d12]) rfl ⟨rfl,XE,TE⟩
     | exact Nl (v:=.tuple #[lI,.int .i64 e1]) (by simp [results,Tryz.results64,go_sem,lI,d0,d1,d2,d3,d4,d5,d6,d7,d8,d9,d10,d11,d12]) rfl ⟨⟨_,rfl,rfl⟩,XE,TE⟩
     | exact Nl (v:=.tuple #[lI,.int .i64 e1]) (by simp [results,Tryz.results64,go_sem,lI,d0,d1,d2,d3,d4,d5,d6,d7,d8,d9,d10,d11,d12]) rfl ⟨⟨_,rfl,fun c=>absurd c HEr,fun _=>rfl⟩,XE,TE⟩
     | trace_state
  ·have e:j=p.ks.length:=by omega
   have hends:aW ts p.ks (m+1) (d+1)=(0,mq):=by rw [HE.out,Bv (by omega)]
   have er:r=(fC ts p.k p.n p.x p.xs p.gs (p.ks.map (ah ts)),mq):=by rw [← HR.out,uW HW.out (by rw [hends]),hends]
   have K8:Hid (∀ r ∈ p.ks,(ah ts r).length≤8):=fun r hr=>by
    obtain ⟨m',hm'⟩:=gN (ts:=ts) (ks:=p.ks) (m:=m+1) (d:=d+1) (by rw [hends]) r hr;exact iu HT.out r m' _ hm'
   subst e;have hns:=hKT.ns (lo':=w.heap.size+2) (by omega);have con:=CU ts B (w.heap.size+2) t ta tc p q (some ⟨g,0,none⟩) p.ks.length wr hBt (by omega) (by omega) hTy.c0 (hT.next (hX.below hBt) (Nj _)) (hp.next (hX.below hBt) (Nj _)) hns HK.out HL.out K8.out;have HC:Hid (ah ts p=iR ts p.k p.n p.xs p.gs (p.ks.map (ah ts))):=xP ts p;rw [← HC.out] at con;generalize fC ts p.k p.n p.x p.xs p.gs (p.ks.map (ah ts))=en at *;subst er;unfold bP at con;have hE':=hE;obtain ⟨y0,y1,⟨y2,y3,y4,y5,y6,y7⟩,y8,y9,y10⟩:=hE'
   simp only [Np] at y1 y2 y3 y4 y5 y6 y7 y8 y9 y10;clear HR HE hends K8 hKT;go_wp2_with fail
   refine con.mono ?_;rintro e w7 ⟨⟨ca,cc,rfl,IC⟩,hb7⟩;clear con y0 y1 y2 y3 y4 y5 y6 y7 y8 y9 y10;have X7:=hX.trans (au.of hb7 (by omega));have T7:=hTy.next hb7;have E7:=hE.next hb7 (by omega);have QR:=(hb7.block _ (ae QR)).trans QR;have hns7:=sY.next (Kept.of hb7 (by omega)) hns;have hp7:=(hp.next (hX.below hBt) (Nj _)).next hb7 (by omega);have hz7:=hb7.size;clear hns hE hTy hX;dsimp only;by_cases hen:en=0;rotate_left
   ·have HEr:¬ en=0:=hen;have heb:(en != 0)=true:=by simpa using hen
    rw [if_neg hen];clear IC hen;have d0:w7.cell? ⟨w.heap.size+1,0,none⟩=some (.int .i64 0):=cell_of (i:=0) QR rfl;have f0:w7.frozen? ⟨w.heap.size+1,0,none⟩=false:=No w7 (w.heap.size+1) 0 _ _ QR;have d1:w7.cell? ⟨w.heap.size+1,1,none⟩=some (.int .i64 0):=cell_of (i:=1) QR rfl;have f1:w7.frozen? ⟨w.heap.size+1,1,none⟩=false:=No w7 (w.heap.size+1) 1 _ _ QR;have d2:w7.cell? ⟨w.heap.size+1,2,none⟩=some (.int .i64 0):=cell_of (i:=2) QR rfl;have f2:w7.frozen? ⟨w.heap.size+1,2,none⟩=false:=No w7 (w.heap.size+1) 2 _ _ QR
    have d3:w7.cell? ⟨w.heap.size+1,3,none⟩=some (.int .i64 0):=cell_of (i:=3) QR rfl;have f3:w7.frozen? ⟨w.heap.size+1,3,none⟩=false:=No w7 (w.heap.size+1) 3 _ _ QR;have d4:w7.cell? ⟨w.heap.size+1,4,none⟩=some (.int .i64 0):=cell_of (i:=4) QR rfl;have f4:w7.frozen? ⟨w.heap.size+1,4,none⟩=false:=No w7 (w.heap.size+1) 4 _ _ QR;have d5:w7.cell? ⟨w.heap.size+1,5,none⟩=some (.string ⟨#[]⟩):=cell_of (i:=5) QR rfl;have f5:w7.frozen? ⟨w.heap.size+1,5,none⟩=false:=No w7 (w.heap.size+1) 5 _ _ QR
    have d6:w7.cell? ⟨w.heap.size+1,6,none⟩=some (.int .i64 0):=cell_of (i:=6) QR rfl;have f6:w7.frozen? ⟨w.heap.size+1,6,none⟩=false:=No w7 (w.heap.size+1) 6 _ _ QR;have d7:w7.cell? ⟨w.heap.size+1,7,none⟩=some (.slice none 0 0):=cell_of (i:=7) QR rfl;have f7:w7.frozen? ⟨w.heap.size+1,7,none⟩=false:=No w7 (w.heap.size+1) 7 _ _ QR;have d8:w7.cell? ⟨w.heap.size+1,8,none⟩=some (.slice none 0 0):=cell_of (i:=8) QR rfl;have f8:w7.frozen? ⟨w.heap.size+1,8,none⟩=false:=No w7 (w.heap.size+1) 8 _ _ QR
    have d9:w7.cell? ⟨w.heap.size+1,9,none⟩=some (.slice none 0 0):=cell_of (i:=9) QR rfl;have f9:w7.frozen? ⟨w.heap.size+1,9,none⟩=false:=No w7 (w.heap.size+1) 9 _ _ QR;have d10:w7.cell? ⟨w.heap.size+1,10,none⟩=some (.slice none 0 0):=cell_of (i:=10) QR rfl;have f10:w7.frozen? ⟨w.heap.size+1,10,none⟩=false:=No w7 (w.heap.size+1) 10 _ _ QR;have d11:w7.cell? ⟨w.heap.size+1,11,none⟩=some (.slice none 0 0):=cell_of (i:=11) QR rfl;have f11:w7.frozen? ⟨w.heap.size+1,11,none⟩=false:=No w7 (w.heap.size+1) 11 _ _ QR
    have d12:w7.cell? ⟨w.heap.size+1,12,none⟩=some (.slice none 0 0):=cell_of (i:=12) QR rfl;have f12:w7.frozen? ⟨w.heap.size+1,12,none⟩=false:=No w7 (w.heap.size+1) 12 _ _ QR;have XE:=j7 (w.heap.size+1) (Nat.le_succ _) (NV htw) qO w7 0 X7;have TE:jr (cU w7 (w.heap.size+1) 0 qO) t ta ts.length tc _:=jr.all T7 (w.heap.size+1) (by omega) qO 0;clear QR;go_wp2_with fail
    first
     | exact Nl (v:=.tuple #[lI,.int .i64 en]) (by simp [results,Tryz.results64,go_sem,lI,d0,d1,d2,d3,d4,d5,d6,d7,d8,d9,d10,d11,d12]) rfl ⟨rfl,XE,TE⟩
     | exact Nl (v:=.tuple #[lI,.int .i64 en]) (by simp [results,Tryz.results64,go_sem,lI,d0,d1,d2,d3,d4,d5,d6,d7,d8,d9,d10,d11,d12]) rfl ⟨⟨_,rfl,rfl⟩,XE,TE⟩
     | exact Nl (v:=.tuple #[lI,.int .i64 en]) (by simp [results,Tryz.results64,go_sem,lI,d0,d1,d2,d3,d4,d5,d6,d7,d8,d9,d10,d11,d12]) rfl ⟨⟨_,rfl,fun c=>absurd c HEr,fun _=>rfl⟩,XE,TE⟩
     | trace_state
   subst hen;rw [if_pos rfl] at IC ⊢;obtain ⟨y0,y1,⟨y2,y3,y4,y5,y6,y7⟩,y8,y9,y10⟩:=E7;simp only [Np] at y1 y2 y3 y4 y5 y6 y7 y8 y9 y10;have ND7:E8 ts B (w.heap.size+2) w7 p q ca (some ⟨g,0,none⟩):=⟨hp7,IC,hns7⟩
   have NDE:=(ND7.next (jo (w.heap.size+1) (by omega) (by omega) (zM p q ca (ah ts p).length cc (some ⟨g,0,none⟩) p.ks.length) w7 0 (Kept.refl _ _ _))).wide (lo':=w.heap.size) (by omega);have XE:=j7 (w.heap.size+1) (Nat.le_succ _) (NV htw) (zM p q ca (ah ts p).length cc (some ⟨g,0,none⟩) p.ks.length) w7 0 X7;have TE:jr (cU w7 (w.heap.size+1) 0 (zM p q ca (ah ts p).length cc (some ⟨g,0,none⟩) p.ks.length)) t ta ts.length tc _:=jr.all T7 (w.heap.size+1) (by omega) (zM p q ca (ah ts p).length cc (some ⟨g,0,none⟩) p.ks.length) 0
   have d0:w7.cell? ⟨w.heap.size+1,0,none⟩=some (.int .i64 0):=cell_of (i:=0) QR rfl;have f0:w7.frozen? ⟨w.heap.size+1,0,none⟩=false:=No w7 (w.heap.size+1) 0 _ _ QR;have d1:w7.cell? ⟨w.heap.size+1,1,none⟩=some (.int .i64 0):=cell_of (i:=1) QR rfl;have f1:w7.frozen? ⟨w.heap.size+1,1,none⟩=false:=No w7 (w.heap.size+1) 1 _ _ QR;have d2:w7.cell? ⟨w.heap.size+1,2,none⟩=some (.int .i64 0):=cell_of (i:=2) QR rfl;have f2:w7.frozen? ⟨w.heap.size+1,2,none⟩=false:=No w7 (w.heap.size+1) 2 _ _ QR
   have d3:w7.cell? ⟨w.heap.size+1,3,none⟩=some (.int .i64 0):=cell_of (i:=3) QR rfl;have f3:w7.frozen? ⟨w.heap.size+1,3,none⟩=false:=No w7 (w.heap.size+1) 3 _ _ QR;have d4:w7.cell? ⟨w.heap.size+1,4,none⟩=some (.int .i64 0):=cell_of (i:=4) QR rfl;have f4:w7.frozen? ⟨w.heap.size+1,4,none⟩=false:=No w7 (w.heap.size+1) 4 _ _ QR;have d5:w7.cell? ⟨w.heap.size+1,5,none⟩=some (.string ⟨#[]⟩):=cell_of (i:=5) QR rfl;have f5:w7.frozen? ⟨w.heap.size+1,5,none⟩=false:=No w7 (w.heap.size+1) 5 _ _ QR
   have d6:w7.cell? ⟨w.heap.size+1,6,none⟩=some (.int .i64 0):=cell_of (i:=6) QR rfl;have f6:w7.frozen? ⟨w.heap.size+1,6,none⟩=false:=No w7 (w.heap.size+1) 6 _ _ QR;have d7:w7.cell? ⟨w.heap.size+1,7,none⟩=some (.slice none 0 0):=cell_of (i:=7) QR rfl;have f7:w7.frozen? ⟨w.heap.size+1,7,none⟩=false:=No w7 (w.heap.size+1) 7 _ _ QR;have d8:w7.cell? ⟨w.heap.size+1,8,none⟩=some (.slice none 0 0):=cell_of (i:=8) QR rfl;have f8:w7.frozen? ⟨w.heap.size+1,8,none⟩=false:=No w7 (w.heap.size+1) 8 _ _ QR
   have d9:w7.cell? ⟨w.heap.size+1,9,none⟩=some (.slice none 0 0):=cell_of (i:=9) QR rfl;have f9:w7.frozen? ⟨w.heap.size+1,9,none⟩=false:=No w7 (w.heap.size+1) 9 _ _ QR;have d10:w7.cell? ⟨w.heap.size+1,10,none⟩=some (.slice none 0 0):=cell_of (i:=10) QR rfl;have f10:w7.frozen? ⟨w.heap.size+1,10,none⟩=false:=No w7 (w.heap.size+1) 10 _ _ QR;have d11:w7.cell? ⟨w.heap.size+1,11,none⟩=some (.slice none 0 0):=cell_of (i:=11) QR rfl;have f11:w7.frozen? ⟨w.heap.size+1,11,none⟩=false:=No w7 (w.heap.size+1) 11 _ _ QR
   have d12:w7.cell? ⟨w.heap.size+1,12,none⟩=some (.slice none 0 0):=cell_of (i:=12) QR rfl;have f12:w7.frozen? ⟨w.heap.size+1,12,none⟩=false:=No w7 (w.heap.size+1) 12 _ _ QR;clear QR IC hns7 hp7 ND7 T7 X7;go_wp2_with fail
   first
    | exact Nl (v:=.tuple #[oI p q ca (ah ts p).length cc (some ⟨g,0,none⟩) p.ks.length,.int .i64 0]) (by simp [results,Tryz.results64,go_sem,oI,d0,d1,d2,d3,d4,d5,d6,d7,d8,d9,d10,d11,d12]) rfl ⟨⟨_,rfl,ca,cc,some ⟨g,0,none⟩,⟨p.ks.length,rfl⟩,NDE⟩,XE,TE⟩
    | exact Nl (v:=.tuple #[oI p q ca (ah ts p).length cc (some ⟨g,0,none⟩) p.ks.length,.int .i64 0]) (by simp [results,Tryz.results64,go_sem,oI,d0,d1,d2,d3,d4,d5,d6,d7,d8,d9,d10,d11,d12]) rfl ⟨⟨ca,cc,some ⟨g,0,none⟩,p.ks.length,rfl,NDE⟩,XE,TE⟩
    | exact Nl (v:=.tuple #[oI p q ca (ah ts p).length cc (some ⟨g,0,none⟩) p.ks.length,.int .i64 0]) (by simp [results,Tryz.results64,go_sem,oI,d0,d1,d2,d3,d4,d5,d6,d7,d8,d9,d10,d11,d12]) rfl ⟨⟨_,rfl,⟨ca,cc,some ⟨g,0,none⟩,p.ks.length,rfl,NDE⟩⟩,XE,TE⟩
    | exact Nl (v:=.tuple #[oI p q ca (ah ts p).length cc (some ⟨g,0,none⟩) p.ks.length,.int .i64 0]) (by simp [results,Tryz.results64,go_sem,oI,d0,d1,d2,d3,d4,d5,d6,d7,d8,d9,d10,d11,d12]) rfl ⟨⟨_,rfl,fun _=>⟨ca,cc,some ⟨g,0,none⟩,p.ks.length,rfl,NDE⟩,fun c=>absurd rfl c⟩,XE,TE⟩
    | trace_state
theorem Gm (ts:List (List Int)) (hts:dC ts=0):∀ p,xg ts p:=Pl.ind fun k n x xs gs ks ih=>JQ ts hts (.mk k n x xs gs ks) ih
theorem kR {B:Nat} {W0:World} (g:Nat) (hg:B≤g):∀ (vs:List Value) (W:World) (o:Nat),Below B W0 W→Below B W0 (cU W g o vs)
 | [],_,_,h=>h
 | v :: r,_,o,h=>kR g hg r _ _ (h.setCell (p:=⟨g,o,none⟩) hg v)
def aX (ts:List (List Int)) (p:Pl):Int:=if dC ts≠0 then dC ts else (aQ ts p 0 1).1
theorem uY (ts:List (List Int)) (p:Pl) (q:Pw) (ta:Option Addr) (tc:Nat) (w:World) (hT:fy w.heap.size w ta ts) (hp:ja w.heap.size w p q) (hk:cz p) :
  Calls Tryz.prog 38 #[.slice ta ts.length tc,bP p q] w fun e w'=>(∃ v,e = .returned (.tuple #[v,.int .i64 (aX ts p)])∧(aX ts p=0→∃ ca cc na nc,v=oI p q ca (ah ts p).length cc na nc∧E8 ts w.heap.size w.heap.size w' p q ca na)∧(¬ aX ts p=0→v=lI))∧Below w.heap.size w w':=by
 have E0:=gY.new w p q 31;have l0:=ae (aw w (eS p q) 31);have z0:(w.alloc (.cells (eS p q) 31)).heap.size=w.heap.size+1:=by simp
 have h0:=aa w (.cells (eS p q) 31);have h1:Below (w.alloc (.cells (eS p q) 31)).heap.size (w.alloc (.cells (eS p q) 31)) ((w.alloc (.cells (eS p q) 31)).alloc (.cells #[.int .i64 0,.int .i64 0,.int .i64 0,.int .i64 0,.int .i64 0,.string ⟨#[]⟩,.int .i64 0,.slice none 0 0,.slice none 0 0,.slice none 0 0,.slice none 0 0,.slice none 0 0,.slice none 0 0] 73)):=(Nk _ _).alloc (Nj _) _
 have QR:=aw (w.alloc (.cells (eS p q) 31)) #[.int .i64 0,.int .i64 0,.int .i64 0,.int .i64 0,.int .i64 0,.string ⟨#[]⟩,.int .i64 0,.slice none 0 0,.slice none 0 0,.slice none 0 0,.slice none 0 0,.slice none 0 0,.slice none 0 0] 73;rw [z0] at QR;have h01:=chain h0 h1;have EA:=E0.next h1 l0;have zA:w.heap.size+1<((w.alloc (.cells (eS p q) 31)).alloc (.cells #[.int .i64 0,.int .i64 0,.int .i64 0,.int .i64 0,.int .i64 0,.string ⟨#[]⟩,.int .i64 0,.slice none 0 0,.slice none 0 0,.slice none 0 0,.slice none 0 0,.slice none 0 0,.slice none 0 0] 73)).heap.size:=ae QR
 have con:=td ts ta tc ((w.alloc (.cells (eS p q) 31)).alloc (.cells #[.int .i64 0,.int .i64 0,.int .i64 0,.int .i64 0,.int .i64 0,.string ⟨#[]⟩,.int .i64 0,.slice none 0 0,.slice none 0 0,.slice none 0 0,.slice none 0 0,.slice none 0 0,.slice none 0 0] 73)) ((hT.next h01 (Nj _)).up h01.size);have HK:Hid (cz p):=hk;generalize hle:aX ts p=le;have HLe:Hid (aX ts p=le):=hle;generalize hte:dC ts=te at con;have HTe:Hid (dC ts=te):=hte;clear hle hte hk E0;unfold bP;go_enter Tryz.func38,Tryz.ntmps38;go_wp2_with fail
 clear h0 h1 l0 z0;generalize (w.alloc (.cells (eS p q) 31)).alloc (.cells #[.int .i64 0,.int .i64 0,.int .i64 0,.int .i64 0,.int .i64 0,.string ⟨#[]⟩,.int .i64 0,.slice none 0 0,.slice none 0 0,.slice none 0 0,.slice none 0 0,.slice none 0 0,.slice none 0 0] 73)=wA at *;refine con.mono ?_;rintro e w3 ⟨rfl,hb3⟩;clear con;have hA3:=chain h01 hb3;have E3:=EA.next hb3 (by omega);have QR:=(hb3.block _ (by omega)).trans QR;have z3:=hb3.size;clear EA;dsimp only;by_cases ht:te=0;rotate_left
 ·have el:le=te:=by rw [← HLe.out]; unfold aX; rw [HTe.out,if_pos ht]
  subst el;have HEr:¬ le=0:=ht;have htb:(le != 0)=true:=by simpa using ht
  clear ht HLe HTe;have d0:w3.cell? ⟨w.heap.size+1,0,none⟩=some (.int .i64 0):=cell_of (i:=0) QR rfl;have f0:w3.frozen? ⟨w.heap.size+1,0,none⟩=false:=No w3 (w.heap.size+1) 0 _ _ QR;have d1:w3.cell? ⟨w.heap.size+1,1,none⟩=some (.int .i64 0):=cell_of (i:=1) QR rfl;have f1:w3.frozen? ⟨w.heap.size+1,1,none⟩=false:=No w3 (w.heap.size+1) 1 _ _ QR;have d2:w3.cell? ⟨w.heap.size+1,2,none⟩=some (.int .i64 0):=cell_of (i:=2) QR rfl;have f2:w3.frozen? ⟨w.heap.size+1,2,none⟩=false:=No w3 (w.heap.size+1) 2 _ _ QR
  have d3:w3.cell? ⟨w.heap.size+1,3,none⟩=some (.int .i64 0):=cell_of (i:=3) QR rfl;have f3:w3.frozen? ⟨w.heap.size+1,3,none⟩=false:=No w3 (w.heap.size+1) 3 _ _ QR;have d4:w3.cell? ⟨w.heap.size+1,4,none⟩=some (.int .i64 0):=cell_of (i:=4) QR rfl;have f4:w3.frozen? ⟨w.heap.size+1,4,none⟩=false:=No w3 (w.heap.size+1) 4 _ _ QR;have d5:w3.cell? ⟨w.heap.size+1,5,none⟩=some (.string ⟨#[]⟩):=cell_of (i:=5) QR rfl;have f5:w3.frozen? ⟨w.heap.size+1,5,none⟩=false:=No w3 (w.heap.size+1) 5 _ _ QR
  have d6:w3.cell? ⟨w.heap.size+1,6,none⟩=some (.int .i64 0):=cell_of (i:=6) QR rfl;have f6:w3.frozen? ⟨w.heap.size+1,6,none⟩=false:=No w3 (w.heap.size+1) 6 _ _ QR;have d7:w3.cell? ⟨w.heap.size+1,7,none⟩=some (.slice none 0 0):=cell_of (i:=7) QR rfl;have f7:w3.frozen? ⟨w.heap.size+1,7,none⟩=false:=No w3 (w.heap.size+1) 7 _ _ QR;have d8:w3.cell? ⟨w.heap.size+1,8,none⟩=some (.slice none 0 0):=cell_of (i:=8) QR rfl;have f8:w3.frozen? ⟨w.heap.size+1,8,none⟩=false:=No w3 (w.heap.size+1) 8 _ _ QR
  have d9:w3.cell? ⟨w.heap.size+1,9,none⟩=some (.slice none 0 0):=cell_of (i:=9) QR rfl;have f9:w3.frozen? ⟨w.heap.size+1,9,none⟩=false:=No w3 (w.heap.size+1) 9 _ _ QR;have d10:w3.cell? ⟨w.heap.size+1,10,none⟩=some (.slice none 0 0):=cell_of (i:=10) QR rfl;have f10:w3.frozen? ⟨w.heap.size+1,10,none⟩=false:=No w3 (w.heap.size+1) 10 _ _ QR;have d11:w3.cell? ⟨w.heap.size+1,11,none⟩=some (.slice none 0 0):=cell_of (i:=11) QR rfl;have f11:w3.frozen? ⟨w.heap.size+1,11,none⟩=false:=No w3 (w.heap.size+1) 11 _ _ QR
  have d12:w3.cell? ⟨w.heap.size+1,12,none⟩=some (.slice none 0 0):=cell_of (i:=12) QR rfl;have f12:w3.frozen? ⟨w.heap.size+1,12,none⟩=false:=No w3 (w.heap.size+1) 12 _ _ QR;have XE:=kR (w.heap.size+1) (Nat.le_succ _) qO w3 0 hA3;clear QR;go_wp2_with fail
  first
   | exact Nl (v:=.tuple #[lI,.int .i64 le]) (by simp [results,Tryz.results38,go_sem,lI,d0,d1,d2,d3,d4,d5,d6,d7,d8,d9,d10,d11,d12]) rfl ⟨rfl,XE⟩
   | exact Nl (v:=.tuple #[lI,.int .i64 le]) (by simp [results,Tryz.results38,go_sem,lI,d0,d1,d2,d3,d4,d5,d6,d7,d8,d9,d10,d11,d12]) rfl ⟨⟨_,rfl,rfl⟩,XE⟩
   | exact Nl (v:=.tuple #[lI,.int .i64 le]) (by simp [results,Tryz.results38,go_sem,lI,d0,d1,d2,d3,d4,d5,d6,d7,d8,d9,d10,d11,d12]) rfl ⟨⟨_,rfl,fun c=>absurd c HEr,fun _=>rfl⟩,XE⟩
   | trace_state
 subst ht;have HL2:Hid (le=(aQ ts p 0 1).1):=by show _=_; rw [← HLe.out]; unfold aX; rw [HTe.out,if_neg (by simp)]
 have hal4:=aa w3 (.cells #[.slice ta ts.length tc,.int .i64 0] 97);have Q4:=aw w3 #[.slice ta ts.length tc,.int .i64 0] 97;have TY:jr (w3.alloc (.cells #[.slice ta ts.length tc,.int .i64 0] 97)) w3.heap.size ta ts.length tc 0:=⟨ae Q4,cell_of (i:=0) Q4 rfl,cell_of (i:=1) Q4 rfl,No _ w3.heap.size 1 _ _ Q4⟩
 have hA4:=chain hA3 hal4;have con:=Gm ts HTe.out p w.heap.size w3.heap.size ta tc q 0 1 _ (hp.next hA4 (Nj _)) (hT.next hA4 (Nj _)) (by omega) TY (by omega) (by omega) (by omega) (by omega) HK.out;rw [← HL2.out] at con;have E4:=E3.next hal4 (by omega);have QR:=(hal4.block _ (by omega)).trans QR;have z4:(w3.alloc (.cells #[.slice ta ts.length tc,.int .i64 0] 97)).heap.size=w3.heap.size+1:=by simp
 obtain ⟨y0,y1,⟨y2,y3,y4,y5,y6,y7⟩,y8,y9,y10⟩:=E4;simp only [Np] at y1 y2 y3 y4 y5 y6 y7 y8 y9 y10;unfold bP at con;clear HL2 HLe HTe E3;go_upto_region 5 with fail
 generalize w3.alloc (.cells #[.slice ta ts.length tc,.int .i64 0] 97)=w4 at *;go_wp2_with fail
 refine con.mono ?_;rintro e w5 ⟨⟨v5,rfl,hok,hbad⟩,hX5,_⟩;clear con y0 y1 y2 y3 y4 y5 y6 y7 y8 y9 y10;have QR:=(hX5.2 _ (by omega) (by omega)).trans QR;have hA5:Below w.heap.size w w5:=hA4.trans (hX5.below (by omega));dsimp only;by_cases he:le=0;rotate_left
 ·obtain rfl:=hbad he;have HEr:¬ le=0:=he;clear hok hbad he;unfold lI;have d0:w5.cell? ⟨w.heap.size+1,0,none⟩=some (.int .i64 0):=cell_of (i:=0) QR rfl;have f0:w5.frozen? ⟨w.heap.size+1,0,none⟩=false:=No w5 (w.heap.size+1) 0 _ _ QR;have d1:w5.cell? ⟨w.heap.size+1,1,none⟩=some (.int .i64 0):=cell_of (i:=1) QR rfl;have f1:w5.frozen? ⟨w.heap.size+1,1,none⟩=false:=No w5 (w.heap.size+1) 1 _ _ QR;have d2:w5.cell? ⟨w.heap.size+1,2,none⟩=some (.int .i64 0):=cell_of (i:=2) QR rfl;have f2:w5.frozen? ⟨w.heap.size+1,2,none⟩=false:=No w5 (w.heap.size+1) 2 _ _ QR
  have d3:w5.cell? ⟨w.heap.size+1,3,none⟩=some (.int .i64 0):=cell_of (i:=3) QR rfl;have f3:w5.frozen? ⟨w.heap.size+1,3,none⟩=false:=No w5 (w.heap.size+1) 3 _ _ QR;have d4:w5.cell? ⟨w.heap.size+1,4,none⟩=some (.int .i64 0):=cell_of (i:=4) QR rfl;have f4:w5.frozen? ⟨w.heap.size+1,4,none⟩=false:=No w5 (w.heap.size+1) 4 _ _ QR;have d5:w5.cell? ⟨w.heap.size+1,5,none⟩=some (.string ⟨#[]⟩):=cell_of (i:=5) QR rfl;have f5:w5.frozen? ⟨w.heap.size+1,5,none⟩=false:=No w5 (w.heap.size+1) 5 _ _ QR
  have d6:w5.cell? ⟨w.heap.size+1,6,none⟩=some (.int .i64 0):=cell_of (i:=6) QR rfl;have f6:w5.frozen? ⟨w.heap.size+1,6,none⟩=false:=No w5 (w.heap.size+1) 6 _ _ QR;have d7:w5.cell? ⟨w.heap.size+1,7,none⟩=some (.slice none 0 0):=cell_of (i:=7) QR rfl;have f7:w5.frozen? ⟨w.heap.size+1,7,none⟩=false:=No w5 (w.heap.size+1) 7 _ _ QR;have d8:w5.cell? ⟨w.heap.size+1,8,none⟩=some (.slice none 0 0):=cell_of (i:=8) QR rfl;have f8:w5.frozen? ⟨w.heap.size+1,8,none⟩=false:=No w5 (w.heap.size+1) 8 _ _ QR
  have d9:w5.cell? ⟨w.heap.size+1,9,none⟩=some (.slice none 0 0):=cell_of (i:=9) QR rfl;have f9:w5.frozen? ⟨w.heap.size+1,9,none⟩=false:=No w5 (w.heap.size+1) 9 _ _ QR;have d10:w5.cell? ⟨w.heap.size+1,10,none⟩=some (.slice none 0 0):=cell_of (i:=10) QR rfl;have f10:w5.frozen? ⟨w.heap.size+1,10,none⟩=false:=No w5 (w.heap.size+1) 10 _ _ QR;have d11:w5.cell? ⟨w.heap.size+1,11,none⟩=some (.slice none 0 0):=cell_of (i:=11) QR rfl;have f11:w5.frozen? ⟨w.heap.size+1,11,none⟩=false:=No w5 (w.heap.size+1) 11 _ _ QR
  have d12:w5.cell? ⟨w.heap.size+1,12,none⟩=some (.slice none 0 0):=cell_of (i:=12) QR rfl;have f12:w5.frozen? ⟨w.heap.size+1,12,none⟩=false:=No w5 (w.heap.size+1) 12 _ _ QR;have XE:=kR (w.heap.size+1) (Nat.le_succ _) qO w5 0 hA5;clear QR;go_wp2_with fail
  first
   | exact Nl (v:=.tuple #[lI,.int .i64 le]) (by simp [results,Tryz.results38,go_sem,lI,d0,d1,d2,d3,d4,d5,d6,d7,d8,d9,d10,d11,d12]) rfl ⟨rfl,XE⟩
   | exact Nl (v:=.tuple #[lI,.int .i64 le]) (by simp [results,Tryz.results38,go_sem,lI,d0,d1,d2,d3,d4,d5,d6,d7,d8,d9,d10,d11,d12]) rfl ⟨⟨_,rfl,rfl⟩,XE⟩
   | exact Nl (v:=.tuple #[lI,.int .i64 le]) (by simp [results,Tryz.results38,go_sem,lI,d0,d1,d2,d3,d4,d5,d6,d7,d8,d9,d10,d11,d12]) rfl ⟨⟨_,rfl,fun c=>absurd c HEr,fun _=>rfl⟩,XE⟩
   | trace_state
 subst he;obtain ⟨ca,cc,na,nc,rfl,ND⟩:=hok rfl;clear hok hbad;have NDE:=(ND.next (jo (w.heap.size+1) (by omega) (by omega) (zM p q ca (ah ts p).length cc na nc) w5 0 (Kept.refl _ _ _))).wide (lo':=w.heap.size) (by omega);have XE:=kR (w.heap.size+1) (Nat.le_succ _) (zM p q ca (ah ts p).length cc na nc) w5 0 hA5;have d0:w5.cell? ⟨w.heap.size+1,0,none⟩=some (.int .i64 0):=cell_of (i:=0) QR rfl;have f0:w5.frozen? ⟨w.heap.size+1,0,none⟩=false:=No w5 (w.heap.size+1) 0 _ _ QR;have d1:w5.cell? ⟨w.heap.size+1,1,none⟩=some (.int .i64 0):=cell_of (i:=1) QR rfl
 have f1:w5.frozen? ⟨w.heap.size+1,1,none⟩=false:=No w5 (w.heap.size+1) 1 _ _ QR;have d2:w5.cell? ⟨w.heap.size+1,2,none⟩=some (.int .i64 0):=cell_of (i:=2) QR rfl;have f2:w5.frozen? ⟨w.heap.size+1,2,none⟩=false:=No w5 (w.heap.size+1) 2 _ _ QR;have d3:w5.cell? ⟨w.heap.size+1,3,none⟩=some (.int .i64 0):=cell_of (i:=3) QR rfl;have f3:w5.frozen? ⟨w.heap.size+1,3,none⟩=false:=No w5 (w.heap.size+1) 3 _ _ QR;have d4:w5.cell? ⟨w.heap.size+1,4,none⟩=some (.int .i64 0):=cell_of (i:=4) QR rfl
 have f4:w5.frozen? ⟨w.heap.size+1,4,none⟩=false:=No w5 (w.heap.size+1) 4 _ _ QR;have d5:w5.cell? ⟨w.heap.size+1,5,none⟩=some (.string ⟨#[]⟩):=cell_of (i:=5) QR rfl;have f5:w5.frozen? ⟨w.heap.size+1,5,none⟩=false:=No w5 (w.heap.size+1) 5 _ _ QR;have d6:w5.cell? ⟨w.heap.size+1,6,none⟩=some (.int .i64 0):=cell_of (i:=6) QR rfl;have f6:w5.frozen? ⟨w.heap.size+1,6,none⟩=false:=No w5 (w.heap.size+1) 6 _ _ QR;have d7:w5.cell? ⟨w.heap.size+1,7,none⟩=some (.slice none 0 0):=cell_of (i:=7) QR rfl
 have f7:w5.frozen? ⟨w.heap.size+1,7,none⟩=false:=No w5 (w.heap.size+1) 7 _ _ QR;have d8:w5.cell? ⟨w.heap.size+1,8,none⟩=some (.slice none 0 0):=cell_of (i:=8) QR rfl;have f8:w5.frozen? ⟨w.heap.size+1,8,none⟩=false:=No w5 (w.heap.size+1) 8 _ _ QR;have d9:w5.cell? ⟨w.heap.size+1,9,none⟩=some (.slice none 0 0):=cell_of (i:=9) QR rfl;have f9:w5.frozen? ⟨w.heap.size+1,9,none⟩=false:=No w5 (w.heap.size+1) 9 _ _ QR;have d10:w5.cell? ⟨w.heap.size+1,10,none⟩=some (.slice none 0 0):=cell_of (i:=10) QR rfl
 have f10:w5.frozen? ⟨w.heap.size+1,10,none⟩=false:=No w5 (w.heap.size+1) 10 _ _ QR;have d11:w5.cell? ⟨w.heap.size+1,11,none⟩=some (.slice none 0 0):=cell_of (i:=11) QR rfl;have f11:w5.frozen? ⟨w.heap.size+1,11,none⟩=false:=No w5 (w.heap.size+1) 11 _ _ QR;have d12:w5.cell? ⟨w.heap.size+1,12,none⟩=some (.slice none 0 0):=cell_of (i:=12) QR rfl;have f12:w5.frozen? ⟨w.heap.size+1,12,none⟩=false:=No w5 (w.heap.size+1) 12 _ _ QR;clear QR ND;unfold oI;go_wp2_with fail
 first
  | exact Nl (v:=.tuple #[oI p q ca (ah ts p).length cc na nc,.int .i64 0]) (by simp [results,Tryz.results38,go_sem,oI,d0,d1,d2,d3,d4,d5,d6,d7,d8,d9,d10,d11,d12]) rfl ⟨⟨_,rfl,ca,cc,na,⟨nc,rfl⟩,NDE⟩,XE⟩
  | exact Nl (v:=.tuple #[oI p q ca (ah ts p).length cc na nc,.int .i64 0]) (by simp [results,Tryz.results38,go_sem,oI,d0,d1,d2,d3,d4,d5,d6,d7,d8,d9,d10,d11,d12]) rfl ⟨⟨_,rfl,fun _=>⟨ca,cc,na,nc,rfl,NDE⟩,fun c=>absurd rfl c⟩,XE⟩
  | trace_state
def cV:List (List Int)→List (List Zp)→Int
 | c :: l,z :: r=>if bz c z≠0 then bz c z else cV l r
 | _,_=>0
def bG (ts:List (List Int)) (data:List (List Zp)):Int:=if data.length≠ts.length then 8 else cV ts data
theorem tO {l:List (List Int)} {r:List (List Zp)} {j:Nat} (h:j<l.length) (h':j<r.length) (he:¬ bz l[j] r[j]=0):cV (l.drop j) (r.drop j)=bz l[j] r[j]:=by
 rw [Nq h,Nq h',cV,if_pos he]
theorem pX {l:List (List Int)} {r:List (List Zp)} {j:Nat} (h:j<l.length) (h':j<r.length) (he:bz l[j] r[j]=0):cV (l.drop j) (r.drop j)=cV (l.drop (j+1)) (r.drop (j+1)):=by
 rw [Nq h,Nq h',cV,if_neg (by simp [he])]
theorem sj {l:List (List Int)} {r:List (List Zp)} {j:Nat} (h:l.length≤j):cV (l.drop j) (r.drop j)=0:=by
 rw [NI h,cV];intro a l b r h; cases h
theorem vY (ts:List (List Int)) (data:List (List Zp)) (ta:Option Addr) (tc:Nat) (a:Option Addr) (cap:Nat) (w:World) (hT:fy w.heap.size w ta ts) (hD:gL w a data) (h8:ts.length≤8) :
  Calls Tryz.prog 40 #[.slice ta ts.length tc,.slice a data.length cap] w fun e w'=>e = .returned (.int .i64 (bG ts data))∧Below w.heap.size w w':=by
 generalize hr:bG ts data=r;have HR:Hid (bG ts data=r):=hr;clear hr;go_enter Tryz.func40,Tryz.ntmps40;by_cases hl:data.length=ts.length;rotate_left
 ·have hne:((data.length:Int) != (ts.length:Int))=true:=by simp; omega
  have e:r=8:=by rw [← HR.out]; unfold bG; rw [if_pos hl]
  subst e;go_wp2_with fail
  go_ret;exact ⟨rfl,Nk _ _⟩
 have hne:((data.length:Int) != (ts.length:Int))=false:=by simp; omega
 have HR':Hid (r=cV (ts.drop 0) (data.drop 0)):=by show _=_; rw [← HR.out]; unfold bG; rw [if_neg (by simpa using hl)]; rfl
 have hl1:data.length≤ts.length:=by omega
 have hl2:ts.length≤data.length:=by omega
 clear HR hl;go_wp2_with fail
 clear hne;go_loopw [15] (fun i wr=>∃ j:Nat,j≤data.length∧i = .int .i64 j∧Hid (r=cV (ts.drop j) (data.drop j))∧Below w.heap.size w wr) (fun i _=>data.length - (intOf i).toNat)
 case atStart=>exact ⟨0,Nr _,rfl,HR',Nk _ _⟩
 case round =>
  obtain ⟨j,hj,rfl,HT,hb⟩:=hrel;by_cases hlt:j<data.length
  ·have hlt':j<ts.length:=by omega
   obtain ⟨b1,o1,ai,ci,rfl,hb1,c1,hi⟩:=(hT.next hb (Nj _)).elem hlt';obtain ⟨b2,o2,zi,zc,rfl,hb2,c2,hz,_⟩:=(hD.next hb).elem hlt;have hjz:(j:Int)<(data.length:Int):=by omega
   have hjt:(j:Int)<(ts.length:Int):=by omega
   have hj0:(0:Int)≤(j:Int):=by omega
   have HBad:Hid (¬ bz ts[j] data[j]=0→r=bz ts[j] data[j]):=fun c=>HT.out.trans (tO hlt' hlt c)
   have HOk:Hid (bz ts[j] data[j]=0→r=cV (ts.drop (j+1)) (data.drop (j+1))):=fun c=>HT.out.trans (pX hlt' hlt c)
   have con:=gQ ts[j] ai ci zi zc data[j] wr (hi.up hb.size) hz;clear HT;generalize bz ts[j] data[j]=er at *;go_wp2_with fail
   refine con.mono ?_;rintro e w5 ⟨rfl,hb5⟩;clear con c1 c2;dsimp only;by_cases h0:er=0
   ·have HT':Hid (r=cV (ts.drop (j+1)) (data.drop (j+1))):=HOk.out h0;subst h0;clear HBad HOk;go_wp2_with fail
    go_roundw
    case rel=>exact ⟨j+1,by omega,by go_num,HT',chain hb hb5⟩
    case measure=>simp [intOf]; omega
   ·have e:r=er:=HBad.out h0;have h0b:(er != 0)=true:=by simpa using h0
    subst e;clear HBad HOk;go_wp2_with fail
    go_ret;exact ⟨rfl,chain hb hb5⟩
  ·have e:r=0:=by rw [HT.out,sj (by omega)]
   have hjn:¬ (j:Int)<(data.length:Int):=by omega
   subst e;clear HT;go_wp2_with fail
   go_ret;exact ⟨rfl,hb⟩
end Go.Proofs.YtohjlfhmnmcndaaGreat
namespace Go.Proofs.YtohjlfhmnmcndaaGreat
open Go.RowKit
set_option maxRecDepth 100000
set_option maxHeartbeats 16000000
structure Mw (ts:List (List Int)) (data:List (List Zp)):Prop where
 len:data.length=ts.length
 ok:∀ z ∈ data,aF z=0
theorem I0 {r:List Vl} (h:aJ r=0):r.length≤8:=by
 unfold aJ at h;by_cases h8:8<r.length
 ·rw [if_pos h8] at h; cases h
 ·omega
theorem ni {ts:List (List Int)} {data:List (List Zp)}:∀ {l:List Pl} {j:Nat} (h:j<l.length),(∀ i (hi:i<l.length),i<j→(aB ts data l[i]).1=0)→¬ (aB ts data l[j]).1=0→(cW ts data l).1=(aB ts data l[j]).1
 | p :: r,0,_,_,he=>by
  simp only [Oa] at he ⊢
  rw [cW,if_pos he]
 | p :: r,j+1,h,hb,he=>by
  have h0:(aB ts data p).1=0:=hb 0 (by simp) (by omega)
  rw [cW,if_neg (by simp [h0])]
  exact ni (l:=r) (by simpa using h) (fun i hi hj=>hb (i+1) (by simpa using hi) (by omega)) he
theorem sU {ts:List (List Int)} {data:List (List Zp)}:∀ {l:List Pl},(∀ r ∈ l,(aB ts data r).1=0)→cW ts data l=(0,l.map fun r=>(aB ts data r).2)
 | [],_=>by rw [cW]; rfl
 | p :: r,h=>by
  rw [cW,if_neg (by simp [h p (by simp)]),sU fun q hq=>h q (by simp [hq])]
  rfl
theorem uO {ts:List (List Int)} {data:List (List Zp)} {p:Pl} {e:Int} (h:(cW ts data p.ks).1=e) (he:¬ e=0):aB ts data p=(e,[]):=by
 cases p; simp only [Pl.ks] at h; rw [aB,h,if_pos he]
theorem fV {ts:List (List Int)} {data:List (List Zp)} {p:Pl} (h:∀ r ∈ p.ks,(aB ts data r).1=0):aB ts data p=aT data p.k p.n p.x p.xs p.gs (p.ks.map (ah ts)) (p.ks.map fun r=>(aB ts data r).2):=by
 cases p; simp only [Pl.ks] at h; rw [aB,sU h,if_neg (by simp),dR]; rfl
def hM (ts:List (List Int)) (data:List (List Zp)) (p:Pl):Int:=if aX ts p≠0 then aX ts p else if bG ts data≠0 then bG ts data else (aB ts data p).1
def yr (ts:List (List Int)) (data:List (List Zp)) (p:Pl):List Zp:=if aX ts p≠0∨bG ts data≠0 then [] else (aB ts data p).2
theorem tv:∀ {l:List (List Int)} {r:List (List Zp)},l.length=r.length→cV l r=0→∀ (i:Nat) (h:i<l.length) (h':i<r.length),bz l[i] r[i]=0
 | c :: l,z :: r,hl,h,0,_,_=>by
  rw [cV] at h
  by_cases c0:bz c z=0
  ·exact c0
  ·rw [if_pos c0] at h; exact absurd h c0
 | c :: l,z :: r,hl,h,i+1,h1,h2=>by
  rw [cV] at h
  by_cases c0:bz c z=0
  ·rw [if_neg (by simp [c0])] at h
   exact tv (l:=l) (r:=r) (by simpa using hl) h i (by simpa using h1) (by simpa using h2)
  ·rw [if_pos c0] at h; exact absurd h c0
 | [],_,_,_,i,h1,_=>by simp at h1
 | _ :: _,[],hl,_,_,_,_=>by simp at hl
theorem j8 {ts:List (List Int)} {data:List (List Zp)} (h:bG ts data=0):data.length=ts.length∧∀ (i:Nat) (h:i<ts.length) (h':i<data.length),bz ts[i] data[i]=0:=by
 unfold bG at h;by_cases c:data.length=ts.length
 ·rw [if_neg (by simp [c])] at h;exact ⟨c,tv c.symm h⟩
 ·rw [if_pos c] at h; cases h
theorem DR {ts:List (List Int)} {data:List (List Zp)} (h:bG ts data=0):Mw ts data:=by
 obtain ⟨h1,h2⟩:=j8 h;refine ⟨h1,fun z hz=>?_⟩;obtain ⟨i,hi,rfl⟩:=Ov hz;exact ((dK _ _).1 (h2 i (by omega) hi)).set
theorem Ci {ts:List (List Int)} (h:dC ts=0):ts.length≤8:=by
 unfold dC at h;by_cases c:8<ts.length
 ·rw [if_pos c] at h; cases h
 ·omega
theorem cD {ts:List (List Int)} {p:Pl} (h:aX ts p=0):dC ts=0∧(aQ ts p 0 1).1=0:=by
 unfold aX at h;by_cases c:dC ts=0
 ·rw [if_neg (by simp [c])] at h;exact ⟨c,h⟩
 ·rw [if_pos c] at h; exact absurd h c
theorem sw {ts:List (List Int)} {data:List (List Zp)} {p:Pl} (h:¬ aX ts p=0):hM ts data p=aX ts p∧yr ts data p = []:=by
 unfold hM yr; rw [if_pos h,if_pos (.inl h)]; exact ⟨rfl,rfl⟩
theorem sd {ts:List (List Int)} {data:List (List Zp)} {p:Pl} (h:aX ts p=0) (h':¬ bG ts data=0):hM ts data p=bG ts data∧yr ts data p = []:=by
 unfold hM yr; rw [if_neg (by simp [h]),if_pos h',if_pos (.inr h')]; exact ⟨rfl,rfl⟩
theorem qT {ts:List (List Int)} {data:List (List Zp)} {p:Pl} (h:aX ts p=0) (h':bG ts data=0):hM ts data p=(aB ts data p).1∧yr ts data p=(aB ts data p).2:=by
 unfold hM yr; rw [if_neg (by simp [h]),if_neg (by simp [h']),if_neg (by simp [h,h'])]; exact ⟨rfl,rfl⟩
theorem cq {what:Nat} {l r:List Int} {x:Ex} {a b:List Zp} (h:bY what l r x a b=0) (q:List Vl):wt (dg what l r x a b) q=wt (fP what r.length x a b) q:=by unfold dg; rw [if_pos h,dO]
end Go.Proofs.YtohjlfhmnmcndaaGreat
