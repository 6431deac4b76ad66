import Derived.Test.YtoefpglknaiaeaaGreatMW14
set_option maxHeartbeats 16000000
set_option maxRecDepth 100000
namespace Go.Proofs.YtoefpglknaiaeaaGreat
open Go.RowKit Go.Lib Go.Shelf _root_.Go.Proofs.Tryz
theorem iF {k:Int} {n:Nat} {m d:Int} (h:60<m∨15<d):eF k n m d=4:=by simp [eF,h]
theorem kT {k:Int} {n:Nat} {m d:Int} (h:¬ 60<m) (h':¬ 15<d) (h2:k<1∨13<k):eF k n m d=1:=by simp [eF,h,h',h2]
theorem nS {k:Int} {n:Nat} {m d:Int} (h:¬ 60<m) (h':¬ 15<d) (h2:¬ k<1) (h3:¬ 13<k) (h4:¬ n=fk k):eF k n m d=5:=by simp [eF,h,h',h2,h3,h4]
theorem zD {k:Int} {n:Nat} {m d:Int} (h:¬ 60<m) (h':¬ 15<d) (h2:¬ k<1) (h3:¬ 13<k) (h4:n=fk k):eF k n m d=0:=by simp [eF,h,h',h2,h3,h4]
theorem ue (p:Pl) (q:Pw) (m d:Int) (w:World):Calls prog 87 #[fw p q,m,d] w fun e w'=>e = .returned (.int .i64 (eF p.k p.ks.length m d))∧Below w w w':=by
 unfold fw;by_cases h1:60<m;rw [iF (.inl h1)];rotate_left;by_cases h2:15<d;rw [iF (.inr h2)];rotate_left;by_cases h3:p.k<1;rw [kT h1 h2 (.inl h3)];rotate_left;by_cases h4:13<p.k;rw [kT h1 h2 (.inr h4)];rotate_left;obtain ⟨qb,hq,hn⟩:∃ qb:Bool,((p.ks.length:Int) != ((fk p.k:Nat):Int))=qb∧eF p.k p.ks.length m d=if qb then 5 else 0:=by
  by_cases h5:p.ks.length=fk p.k
  ·exact ⟨false,by simp [h5],by rw [zD h1 h2 h3 h4 h5]; rfl⟩
  ·exact ⟨true,by simp; omega,by rw [nS h1 h2 h3 h4 h5]; rfl⟩
 rw [hn];clear hn;have hA:Below w w (w.alloc (.cells (fE p q) 31)):=(aN ..)
 have E:=ft.new w p q 31;go_enter func87,ntmps87;go_wp2_with fail
 generalize w.alloc _=wA at *;have p0:=ak E.c0;have p10:=ak E.Bm;simp only [MG] at p10;haveI:Nonempty (cF wA):=⟨⟨_,Mz _ _⟩⟩
 refine aq aG aG ?_
 repeat (go_big_quiet_step (first | (go_at_call 119; exact cG (A6 _ _))))
 refine wpQuiet_nil ?_;rintro w3 ⟨⟨v3,hb3⟩,h3'⟩;obtain rfl:w3=v3:=h3';have hb:=chain hA hb3;clear p0 p10 E hA hb3;cases qb
 ·go_wp2_with fail
  go_ret;exact ⟨rfl,hb⟩
 ·go_wp2_with fail
  go_ret;exact ⟨rfl,hb⟩
 all_goals
  go_enter func87,ntmps87;go_wp2_with fail
  go_ret;exact ⟨rfl,(aN ..)⟩
theorem mR (w:World):aK w none []:=⟨MD _,.inl rfl⟩
theorem ui (p:Pl) (q:Pw) (cols:List Int) (ca:Option Addr) (cc:Nat) (w:World) (hp:kH w w p q) (hc:bf w w ca cols) (hn:-9223372036854775808≤p.n∧p.n≤9223372036854775807) (hs:p.xs.length+p.gs.length≤9223372036854775807) :
  Calls prog 160 #[fw p q,.slice ca cols.length cc] w fun e w'=>e = .returned (.int .i64 (jT p.k p.n p.x p.xs p.gs cols))∧Below w w w':=by
 have hA:Below w w (w.alloc (.cells (fE p q) 31)):=(aN ..)
 have E:=ft.new w p q 31;have hpA:=(hp.next hA (Mx _)).up hA.size;have hcA:=(hc.next hA (Mx _)).up hA.size;have c2:=vo cols p.x ca cc q.xa q.xc none 0 [] _ hcA hpA.x (mR _);have c3:=Hm cols p.xs ca cc q.sa q.sc none 0 [] _ hcA hpA.xs (mR _);have c12:=yt cols p.xs p.gs (fun g _ _=>vP g.1) hs ca cc q.sa q.sc q.ga q.gc none 0 [] _ hcA hpA.xs hpA.gs (mR _);have c13:=F8 cols p.xs p.n hn ca cc q.sa q.sc none 0 [] _ hcA hpA.xs (mR _)
 have H2:Hid (p.k=2→jT p.k p.n p.x p.xs p.gs cols=fU cols p.x []):=fun h=>by unfold jT; rw [if_pos h]
 have H3:Hid (p.k=3→jT p.k p.n p.x p.xs p.gs cols=jS cols p.xs []):=fun h=>by unfold jT; rw [if_neg ag,if_pos h]
 have H12:Hid (p.k=12→jT p.k p.n p.x p.xs p.gs cols=dx cols p.xs p.gs []):=fun h=>by unfold jT; rw [if_neg ag,if_neg ag,if_pos h]
 have H13:Hid (p.k=13→jT p.k p.n p.x p.xs p.gs cols=jU cols p.xs p.n []):=fun h=>by unfold jT; rw [if_neg ag,if_neg ag,if_neg ag,if_pos h]
 have H0:Hid (¬ p.k=2→¬ p.k=3→¬ p.k=12→¬ p.k=13→jT p.k p.n p.x p.xs p.gs cols=0):=fun h1 h2 h3 h4=>by unfold jT; rw [if_neg h1,if_neg h2,if_neg h3,if_neg h4]
 generalize jT p.k p.n p.x p.xs p.gs cols=er at *;generalize fU cols p.x []=e2 at *;generalize jS cols p.xs []=e3 at *;generalize dx cols p.xs p.gs []=e12 at *;generalize jU cols p.xs p.n []=e13 at *;generalize iQ cols p.x []=z2 at *;generalize nr cols p.xs []=z3 at *;generalize ei cols p.xs p.gs []=z12 at *;generalize lY cols p.xs p.n []=z13 at *;obtain ⟨p0,p1,p2,p8,p9,p10⟩:=E;obtain ⟨x0,x1,x2,x3,x4,x5⟩:=p2;simp only [MG] at p1 x0 x1 x2 x3 x4 x5 p8 p9 p10;unfold fN at c2;unfold fw;go_enter func160,ntmps160;by_cases k2:p.k=2
 ·have e:=H2.out k2;subst e;have kb:(p.k == 2)=true:=by simpa using k2
  clear H2 H3 H12 H13 H0 c3 c12 c13 k2;go_wp2_with fail
  generalize w.alloc _=wA at *;refine c2.mono ?_;rintro e w5 ⟨v5,rfl,O5,hb5⟩;clear c2 O5;dsimp only;go_wp2
  go_ret;exact ⟨rfl,chain hA hb5⟩
 have b2:(p.k == 2)=false:=by rw [beq_eq_false_iff_ne]; exact k2
 by_cases k3:p.k=3
 ·have e:=H3.out k3;subst e;have kb:(p.k == 3)=true:=by simpa using k3
  clear H2 H3 H12 H13 H0 c2 c12 c13 k3 k2;go_wp2_with fail
  generalize w.alloc _=wA at *;refine c3.mono ?_;rintro e w5 ⟨v5,rfl,O5,hb5⟩;clear c3 O5;dsimp only;go_wp2
  go_ret;exact ⟨rfl,chain hA hb5⟩
 have b3:(p.k == 3)=false:=by rw [beq_eq_false_iff_ne]; exact k3
 by_cases k12:p.k=12
 ·have e:=H12.out k12;subst e;have kb:(p.k == 12)=true:=by simpa using k12
  clear H2 H3 H12 H13 H0 c2 c3 c13 k12 k2 k3;go_wp2_with fail
  generalize w.alloc _=wA at *;refine c12.mono ?_;rintro e w5 ⟨v5,rfl,O5,hb5⟩;clear c12 O5;dsimp only;go_wp2
  go_ret;exact ⟨rfl,chain hA hb5⟩
 have b12:(p.k == 12)=false:=by rw [beq_eq_false_iff_ne]; exact k12
 by_cases k13:p.k=13
 ·have e:=H13.out k13;subst e;have kb:(p.k == 13)=true:=by simpa using k13
  clear H2 H3 H12 H13 H0 c2 c3 c12 k13 k12 k2 k3;go_wp2_with fail
  generalize w.alloc _=wA at *;refine c13.mono ?_;rintro e w5 ⟨v5,rfl,O5,hb5⟩;clear c13 O5;dsimp only;go_wp2
  go_ret;exact ⟨rfl,chain hA hb5⟩
 have b13:(p.k == 13)=false:=by rw [beq_eq_false_iff_ne]; exact k13
 have e:=H0.out k2 k3 k12 k13;subst e;clear H2 H3 H12 H13 H0 c2 c3 c12 c13 k2 k3 k12 k13;go_wp2
 go_ret;exact ⟨rfl,hA⟩
inductive gu:Pl→Prop
 | mk (k n:Int) (x:Ex) (xs:List Ex) (gs:List Ag) (ks:List Pl) (hn:-9223372036854775808≤n∧n≤9223372036854775807) (hx:xs.length≤100000000000000) (hg:gs.length≤100000000000000) (hk:∀ p ∈ ks,gu p):gu (.mk k n x xs gs ks)
theorem gu.n {p:Pl} (h:gu p):-9223372036854775808≤p.n∧p.n≤9223372036854775807:=by cases h with | mk _ _ _ _ _ _ hn _ _ _=>exact hn
theorem gu.sum {p:Pl} (h:gu p):p.xs.length+p.gs.length≤9223372036854775807:=by cases h with | mk _ _ _ _ _ _ _ hx hg _=>simp only [Pl.xs,Pl.gs]; omega
theorem gu.ks {p:Pl} (h:gu p):∀ q ∈ p.ks,gu q:=by cases h with | mk _ _ _ _ _ _ _ _ _ hk=>exact hk
theorem jw {B lo:Nat} {W:World} {B1 n:Nat} {v:Value} {l:List Int} (ho:W.ownsRow B1 3 1 v n (l.map (Value.int .i64))) (hn:n=l.length) (htB:lo≤B1):∃ a cap,v = .slice a l.length cap∧jZ B lo W a l:=by
 subst hn;have ho':=ho;obtain ⟨hx,⟨rfl,h0⟩ | ⟨g,cap,cur,rfl,hg,hh,hn,hc,hs,ht⟩⟩:=ho
 ·have:l = []:=MH h0;subst this;exact ⟨none,0,rfl,⟨by simp,.inl rfl⟩⟩
 ·refine ⟨_,cap,rfl,⟨by omega,.inr ⟨g,0,rfl,(ho'.lt g rfl).2,by omega,fun i hi=>?_⟩⟩⟩;have:=ho'.cellAt i ag;rw [MG,this];simp [hi]
theorem dC.t {B lo:Nat} {W:World} {g:Nat} {l:List Int} (h:dC W g l) (hl:l.length≤8) (hg:lo≤g):jZ B lo W (some (ah g 0)) l :=
 ⟨by unfold maxLen; omega,.inr ⟨g,0,rfl,h.lt,by omega,fun i hi=>by simpa using h.c i hi⟩⟩
theorem jZ.nil (B lo:Nat) (W:World):jZ B lo W none []:=⟨MD _,.inl rfl⟩
theorem jZ.low {B lo:Nat} {W w1:World} {a:Option Addr} {l:List Int} (h:jZ B lo W a l) (hb:Below W W w1) (hB:B≤W.heap.size):jZ B lo w1 a l:=h.next (Kept.of hb hB)
theorem yL {cols:List Int} {xs:List Ex} {z:List Zp} (h:jS cols xs z=0):xs.length≤8:=by
 unfold jS at h;by_cases h0:bM cols xs=0
 ·exact (kG h0).1
 ·rw [if_pos h0] at h; exact absurd h h0
theorem tD {cols:List Int} {xs:List Ex} {gs:List Ag} {z:List Zp} (h:dx cols xs gs z=0):xs.length+gs.length≤8:=by
 unfold dx at h;by_cases h0:8<xs.length+gs.length
 ·rw [if_pos h0] at h; cases h
 ·omega
def FO (B lo:Nat) (w':World) (e:Ending) (er:Int) (C:List Int):Prop:=∃ ca cc,e = .returned (.tuple #[.slice ca (if er=0 then C else []).length cc,er])∧jZ B lo w' ca (if er=0 then C else [])
theorem xv (B lo:Nat) (hB:B≤lo) (p:Pl) (q:Pw) (cols:List Int) (ca:Option Addr) (cc:Nat) (w:World) (ht:lo≤w.heap.size) (hp:kH w w p q) (hc:jZ B lo w ca cols) (hk:gu p) :
  Calls prog 121 #[fw p q,.slice ca cols.length cc] w fun e w'=>FO B lo w' e (jT p.k p.n p.x p.xs p.gs cols) (rI p.k p.xs p.gs cols)∧Below w w w':=by
 have hA:Below w w (w.alloc (.cells (fE p q) 31)):=(aN ..)
 have E:=ft.new w p q 31;have hpA:=(hp.next hA (Mx _)).up hA.size;have hcA:=hc.low hA ag;have hzA:=hA.size;have con:=ui p q cols ca cc _ hpA hcA.at hk.n hk.sum;have H3:Hid (p.k=3→rI p.k p.xs p.gs cols=gf cols p.xs):=fun h=>by unfold rI; rw [if_pos h]
 have H12:Hid (p.k=12→rI p.k p.xs p.gs cols=gf cols p.xs ++ dO cols p.gs):=fun h=>by unfold rI dO; rw [if_neg ag,if_pos h]
 have H0:Hid (¬ p.k=3→¬ p.k=12→rI p.k p.xs p.gs cols=cols):=fun h1 h2=>by unfold rI; rw [if_neg h1,if_neg h2]
 have L3:Hid (p.k=3→jT p.k p.n p.x p.xs p.gs cols=0→p.xs.length≤8):=fun h e=>by unfold jT at e; rw [if_neg ag,if_pos h] at e; exact yL e
 have L12:Hid (p.k=12→jT p.k p.n p.x p.xs p.gs cols=0→p.xs.length+p.gs.length≤8):=fun h e=>by unfold jT at e; rw [if_neg ag,if_neg ag,if_pos h] at e; exact tD e
 generalize jT p.k p.n p.x p.xs p.gs cols=er at *;generalize rI p.k p.xs p.gs cols=C at *;have E':=E;obtain ⟨p0,p1,p2,p8,p9,p10⟩:=E';obtain ⟨x0,x1,x2,x3,x4,x5⟩:=p2;simp only [MG] at p1 x0 x1 x2 x3 x4 x5 p8 p9 p10;unfold fw at con ⊢;have lw:=an (bq w (fE p q) 31);go_enter func121,ntmps121;go_wp2_with fail
 generalize w.alloc _=wA at *;refine bC con fun w5 hb5=>?_;clear con p0 p1 x0 x1 x2 x3 x4 x5 p8 p9 p10;have hA5:=chain hA hb5;have E5:=E.next hb5 lw;obtain ⟨p0,p1,p2,p8,p9,p10⟩:=E5;simp only [MG] at p1 p8 p9 p10;have hp5:=(hpA.next hb5 (Mx _)).up hb5.size;have hc5:=hcA.low hb5 ag;have hz5:=hb5.size;dsimp only;by_cases h0:er=0;rotate_left
 ·have hb:(er != 0)=true:=by simpa using h0
  go_wp2_with fail
  exact bJ rfl rfl ⟨⟨none,0,by rw [if_neg h0]; rfl,by rw [if_neg h0]; exact jZ.nil _ _ _⟩,hA5⟩
 subst h0;by_cases k3:p.k=3
 ·have e:=H3.out k3;subst e;have h8:=L3.out k3 rfl;have kb:(p.k == 3)=true:=by simpa using k3
  have con:=tT cols p.xs ca cc q.sa q.sc w5 hc5.at hp5.xs h8;clear H3 H12 H0 L3 L12;go_wp2_with fail
  refine con.mono ?_;rintro e w6 ⟨rfl,O6,hb6⟩;clear con;have h8':(gf cols p.xs).length≤8:=by rw [iR]; exact h8
  have I6:=O6.t (B:=B) (lo:=lo) h8' ag;have HEl:Hid ((gf cols p.xs).length=p.xs.length):=iR _ _;dsimp only;clear p0 p1 p2 p8 p9 p10 h8';go_wp2_with fail
  exact MA (v:=.tuple #[.slice (some (ah w5 0)) p.xs.length p.xs.length,aD]) (by simp [results,results121,go_sem]) rfl ⟨⟨some (ah w5 0),p.xs.length,by rw [if_pos rfl,HEl.out],by rw [if_pos rfl]; exact I6⟩,chain hA5 hb6⟩
 have b3:(p.k == 3)=false:=by rw [beq_eq_false_iff_ne]; exact k3
 by_cases k12:p.k=12
 ·have e:=H12.out k12;subst e;have h8:=L12.out k12 rfl;have kb:(p.k == 12)=true:=by simpa using k12
  clear H3 H12 H0 L3 L12;go_wp2_with fail
  clear p0 p1 p2 p10;have hCC:∀ W W':World,(W.cell? (ah w 8)=some (.slice q.sa p.xs.length q.sc)∧W.cell? (ah w 9)=some (.slice q.ga p.gs.length q.gc)∧w.heap.size<W.heap.size)→Below W W W'→(W'.cell? (ah w 8)=some (.slice q.sa p.xs.length q.sc)∧W'.cell? (ah w 9)=some (.slice q.ga p.gs.length q.gc)∧w.heap.size<W'.heap.size):=fun W W' h hb=>⟨(hb.cell (p:=ah w 8) h.2.2).trans h.1,(hb.cell (p:=ah w 9) h.2.2).trans h.2.1,My h.2.2 hb.size⟩
  have hd:Below w5 w5 w5.drew:=(Mz _ _).drew;have CW:=hCC _ _ ⟨p8,p9,My lw hz5⟩ hd;refine aP (fun W=>(W.cell? (ah w 8)=some (.slice q.sa p.xs.length q.sc)∧W.cell? (ah w 9)=some (.slice q.ga p.gs.length q.gc)∧w.heap.size<W.heap.size)) aG ?_;refine bB hCC 23 0 (.slice ca cols.length cc) (fun n hn=>?_) CW ?_
  ·go_simp
  simp only [pX];refine bB hCC 24 1 (ah w 8) (fun n hn=>?_) CW ?_
  ·go_simp
  simp only [pX];refine bB hCC 25 2 (.slice q.sa p.xs.length q.sc) (fun n hn=>?_) CW ?_
  ·have hc:=hn.1;go_simp
  simp only [pX];refine bB hCC 27 4 (.slice ca cols.length cc) (fun n hn=>?_) CW ?_
  ·go_simp
  simp only [pX];refine bB hCC 28 5 (ah w 9) (fun n hn=>?_) CW ?_
  ·go_simp
  simp only [pX];refine bB hCC 29 6 (.slice q.ga p.gs.length q.gc) (fun n hn=>?_) CW ?_
  ·have hc:=hn.2.1;go_simp
  simp only [Act.put,pA,pB,pC];refine gp 3 aG fun w6 hb6=>?_
  have CW6:=hCC _ _ CW hb6;have D6:=chain hd hb6;have con:=tT cols p.xs ca cc q.sa q.sc w6 (hc5.low D6 ag).at ((hp5.next D6 (Mx _)).up D6.size).xs ag;refine wpOp_step rfl (fun K hK=>?_);go_simp;refine con.mono ?_;rintro e w7 ⟨rfl,O7,hb7⟩;clear con;have CW7:=hCC _ _ CW6 hb7;have D7:=chain D6 hb7;refine hK _ _ ⟨CW7,?_⟩;clear hK K;refine gp 7 aG fun w8 hb8=>?_
  have CW8:=hCC _ _ CW7 hb8;have D8:=chain D7 hb8;have con:=yd cols p.gs ca cc q.ga q.gc w8 (hc5.low D8 ag).at ((hp5.next D8 (Mx _)).up D8.size).gs ag;refine wpOp_step rfl (fun K hK=>?_);go_simp;refine con.mono ?_;rintro e w9 ⟨rfl,O9,hb9⟩;clear con;have CW9:=hCC _ _ CW8 hb9;have D9:=chain D8 hb9;refine hK _ _ ⟨CW9,?_⟩;clear hK K;refine gp 8 aG fun wB hbB=>?_
  have CWB:=hCC _ _ CW9 hbB;have DB:=chain D9 hbB;refine wpOp_step rfl (fun K hK=>?_);go_simp;have e1:(gf cols p.xs).length=p.xs.length:=iR _ _;have e2:(dO cols p.gs).length=p.gs.length:=pM _ _;have R1:=dE ((O7.nx (chain hb8 (chain hb9 hbB))).is (by rw [e1]; unfold maxLen; omega));have R2:=dE ((O9.nx hbB).is (by rw [e2]; unfold maxLen; omega));rw [e1] at R1;rw [e2] at R2;have PC:=jA.new p.xs.length p.gs.length R1 R2 33
  have halB:=aN wB (.cells #[.slice (some (ah w6 0)) p.xs.length p.xs.length,.slice (some (ah w8 0)) p.gs.length p.gs.length] 33);have CWC:=hCC _ _ CWB halB;have DC:=chain DB halB;refine hK _ _ ⟨CWC,?_⟩;clear hK K R1 R2;generalize wB.alloc _=wC at *;refine gp 9 aG fun wD hbD=>?_
  have CWD:=hCC _ _ CWC hbD;have DD:=chain DC hbD;refine wpOp_step rfl (fun K hK=>?_);go_simp;refine (kX _ _ _ _ _ wD (PC.next hbD) ag).mono ?_;rintro e wE ⟨vE,rfl,OE,hbE⟩;rw [← Nc] at OE;have hzD:=DD.size;obtain ⟨aE,cE,rfl,IE⟩:=jw (B:=B) (lo:=lo) OE (by simp [e1,e2]) ag;have CWE:=hCC _ _ CWD hbE;have DE:=chain DD hbE;refine hK _ _ ⟨CWE,?_⟩;clear hK K OE PC CW6 CW7 CW8 CW9 CWB CWC CWD CW O7 O9 e1 e2;obtain ⟨tt,htt⟩:∃ tt,tt=gf cols p.xs ++ dO cols p.gs:=⟨_,rfl⟩
  rw [← htt] at IE ⊢;have HTT:=aB htt;clear htt;refine bB hCC 4 10 (.slice aE tt.length cE) (fun n hn=>?_) CWE ?_
  ·go_simp
  simp only [pX];refine bB hCC 5 11 aD (fun n hn=>?_) CWE ?_
  ·go_simp
  simp only [pX];refine cA aG ?_;intro wF hbF;have hAF:=chain hA5 (chain DE hbF);have IF:=IE.low hbF (by have:=DE.size; omega);clear CWE hCC hbF DE IE;go_wp2_with fail
  exact MA (v:=.tuple #[.slice aE tt.length cE,aD]) (by simp [results,results121,go_sem]) rfl ⟨⟨aE,cE,by rw [if_pos rfl,← HTT.out],by rw [if_pos rfl,← HTT.out]; exact IF⟩,hAF⟩
 have b12:(p.k == 12)=false:=by rw [beq_eq_false_iff_ne]; exact k12
 have e:=H0.out k3 k12;subst e;clear H3 H12 H0 L3 L12 k3 k12;go_wp2_with fail
 exact MA (v:=.tuple #[.slice ca C.length cc,aD]) (by simp [results,results121,go_sem]) rfl ⟨⟨ca,cc,by rw [if_pos rfl],by rw [if_pos rfl]; exact hc5⟩,hA5⟩
theorem wJ (B lo:Nat) (hB:B≤lo) (p:Pl) (q:Pw) (l r:List Int) (la:Option Addr) (lc:Nat) (ra:Option Addr) (rc:Nat) (w:World) (ht:lo≤w.heap.size) (hp:kH w w p q) (hl:jZ B lo w la l) (hr:jZ B lo w ra r) (hl8:l.length≤8) (hr8:r.length≤8) :
  Calls prog 122 #[fw p q,.slice la l.length lc,.slice ra r.length rc] w fun e w'=>FO B lo w' e (xg p.k p.x l r) (rL p.k l r)∧Below w w w':=by
 have hA:Below w w (w.alloc (.cells (fE p q) 31)):=(aN ..)
 have E:=ft.new w p q 31;have hpA:=(hp.next hA (Mx _)).up hA.size;have hlA:=hl.low hA ag;have hrA:=hr.low hA ag;have hzA:=hA.size;have lw:=an (bq w (fE p q) 31);have HQ1:Hid (p.k=8∨p.k=9→xg p.k p.x l r=jr l r∧rL p.k l r=cU l r):=fun h=>by unfold xg rL; rw [if_pos h,if_pos h]; exact ⟨rfl,rfl⟩
 have HQ2:Hid (¬ (p.k=8∨p.k=9)→xg p.k p.x l r=cw 0 l r p.x [] []):=fun h=>by unfold xg; rw [if_neg h]
 have HQ3:Hid (¬ (p.k=8∨p.k=9)→p.k=5∨p.k=6→rL p.k l r=l):=fun h h'=>by unfold rL; rw [if_neg h,if_pos h']
 have HQ4:Hid (¬ (p.k=8∨p.k=9)→¬ (p.k=5∨p.k=6)→rL p.k l r=l ++ r):=fun h h'=>by unfold rL; rw [if_neg h,if_neg h']
 generalize xg p.k p.x l r=er at *;generalize rL p.k l r=C at *;have E':=E;obtain ⟨p0,p1,p2,p8,p9,p10⟩:=E';obtain ⟨x0,x1,x2,x3,x4,x5⟩:=p2;simp only [MG] at p1 x0 x1 x2 x3 x4 x5 p8 p9 p10;unfold fw;go_enter func122,ntmps122;by_cases h89:p.k=8∨p.k=9
 ·obtain ⟨e1,e2⟩:=HQ1.out h89;have con:=vY l r la lc ra rc _ hlA.at hrA.at hl8;rw [← e1] at con;have HL:Hid (er=0→(cU l r).length=l.length):=fun h0=>by
   rw [e1] at h0;unfold jr at h0;by_cases hlr:l.length=r.length
   ·exact gA hlr
   ·rw [if_pos hlr] at h0; cases h0
  have HC:=aB e2;clear HQ1 HQ2 HQ3 HQ4 e1 e2;have h2:p.k=8∨(¬ p.k=8∧p.k=9):=by omega
  clear h89;rcases h2 with h2 | ⟨h2,h3⟩
  ·have b8:(p.k == 8)=true:=by simpa using h2
   clear h2;go_wp2_with fail
   generalize w.alloc _=wA at *;refine con.mono ?_;rintro e w5 ⟨v5,rfl,h0,hn0,hb5⟩;clear con;dsimp only;by_cases he:er=0
   ·subst he;obtain ⟨rfl,O5⟩:=h0 rfl;have HLn:=aB (HL.out rfl);have I5:=O5.t (B:=B) (lo:=lo) (by rw [HLn.out]; exact hl8) ag;clear HL;clear h0 hn0;go_wp2_with fail
    exact MA (v:=.tuple #[.slice (some (ah wA 0)) l.length l.length,aD]) (by simp [results,results122,go_sem]) rfl ⟨⟨_,_,by rw [if_pos rfl,HC.out,HLn.out],by rw [if_pos rfl,HC.out]; exact I5⟩,chain hA hb5⟩
   ·obtain rfl:=hn0 he;clear h0 hn0;go_wp2_with fail
    exact bJ rfl rfl ⟨⟨none,0,by rw [if_neg he]; rfl,by rw [if_neg he]; exact jZ.nil _ _ _⟩,chain hA hb5⟩
  ·have b8:(p.k == 8)=false:=by rw [beq_eq_false_iff_ne]; exact h2
   have b9:(p.k == 9)=true:=by simpa using h3
   clear h2 h3;go_wp2_with fail
   generalize w.alloc _=wA at *;refine con.mono ?_;rintro e w5 ⟨v5,rfl,h0,hn0,hb5⟩;clear con;dsimp only;by_cases he:er=0
   ·subst he;obtain ⟨rfl,O5⟩:=h0 rfl;have HLn:=aB (HL.out rfl);have I5:=O5.t (B:=B) (lo:=lo) (by rw [HLn.out]; exact hl8) ag;clear HL;clear h0 hn0;go_wp2_with fail
    exact MA (v:=.tuple #[.slice (some (ah wA 0)) l.length l.length,aD]) (by simp [results,results122,go_sem]) rfl ⟨⟨_,_,by rw [if_pos rfl,HC.out,HLn.out],by rw [if_pos rfl,HC.out]; exact I5⟩,chain hA hb5⟩
   ·obtain rfl:=hn0 he;clear h0 hn0;go_wp2_with fail
    exact bJ rfl rfl ⟨⟨none,0,by rw [if_neg he]; rfl,by rw [if_neg he]; exact jZ.nil _ _ _⟩,chain hA hb5⟩
 have b8:(p.k == 8)=false:=by rw [beq_eq_false_iff_ne]; exact fun e=>h89 (.inl e)
 have b9:(p.k == 9)=false:=by rw [beq_eq_false_iff_ne]; exact fun e=>h89 (.inr e)
 have con:=Cy l r p.x la lc ra rc q.xa q.xc none 0 [] none 0 [] _ hlA.at hrA.at hpA.x (mR _) (mR _) ag ag;rw [← HQ2.out h89] at con;have H5:=aB (HQ3.out h89);have H0:=aB (HQ4.out h89);clear HQ1 HQ2 HQ3 HQ4 h89;generalize cB 0 l r p.x [] []=zz at *;unfold fN at con;go_wp2_with fail
 generalize w.alloc _=wA at *;refine con.mono ?_;rintro e w5 ⟨v5,rfl,O5,hb5⟩;clear con O5 p0 p1 x0 x1 x2 x3 x4 x5 p8 p9 p10;have hA5:=chain hA hb5;have p0:=(E.next hb5 lw).c0;have hl5:=hlA.low hb5 ag;have hr5:=hrA.low hb5 ag;have hz5:=hb5.size;dsimp only;by_cases he:er=0;rotate_left
 ·have hb:(er != 0)=true:=by simpa using he
  go_wp2_with fail
  exact bJ rfl rfl ⟨⟨none,0,by rw [if_neg he]; rfl,by rw [if_neg he]; exact jZ.nil _ _ _⟩,hA5⟩
 subst he;by_cases h56:p.k=5∨p.k=6
 ·have e:=H5.out h56;have HC:=aB e;clear H5 H0 e;have h2:p.k=5∨(¬ p.k=5∧p.k=6):=by omega
  clear h56;rcases h2 with h2 | ⟨h2,h3⟩
  ·have b5:(p.k == 5)=true:=by simpa using h2
   clear h2;go_wp2_with fail
   exact MA (v:=.tuple #[.slice la l.length lc,aD]) (by simp [results,results122,go_sem]) rfl ⟨⟨la,lc,by rw [if_pos rfl,HC.out],by rw [if_pos rfl,HC.out]; exact hl5⟩,hA5⟩
  ·have b5:(p.k == 5)=false:=by rw [beq_eq_false_iff_ne]; exact h2
   have b6:(p.k == 6)=true:=by simpa using h3
   clear h2 h3;go_wp2_with fail
   exact MA (v:=.tuple #[.slice la l.length lc,aD]) (by simp [results,results122,go_sem]) rfl ⟨⟨la,lc,by rw [if_pos rfl,HC.out],by rw [if_pos rfl,HC.out]; exact hl5⟩,hA5⟩
 have b5:(p.k == 5)=false:=by rw [beq_eq_false_iff_ne]; exact fun e=>h56 (.inl e)
 have b6:(p.k == 6)=false:=by rw [beq_eq_false_iff_ne]; exact fun e=>h56 (.inr e)
 have HC:=aB (H0.out h56);clear H5 H0 h56;have PC:=jA.new lc rc (dE hl5.at) (dE hr5.at) 33;have hal5:=aN w5 (.cells #[.slice la l.length lc,.slice ra r.length rc] 33);go_wp2_with fail
 generalize w5.alloc _=w6 at *;refine (kX _ _ _ _ _ w6 PC ag).mono ?_;rintro e w7 ⟨v7,rfl,O7,hb7⟩;rw [← Nc,← HC.out] at O7;have hl7:l.length+r.length=C.length:=by rw [HC.out,ME]
 have hz6:=hal5.size;obtain ⟨a7,c7,rfl,I7⟩:=jw (B:=B) (lo:=lo) O7 hl7 ag;clear PC O7 hl7;dsimp only;go_wp2_with fail
 exact MA (v:=.tuple #[.slice a7 C.length c7,aD]) (by simp [results,results122,go_sem]) rfl ⟨⟨a7,c7,by rw [if_pos rfl],by rw [if_pos rfl]; exact I7⟩,chain hA5 (chain hal5 hb7)⟩
theorem Fj (ts:List (List Int)) (B lo t:Nat) (ta:Option Addr) (tc:Nat) (p:Pl) (q:Pw) (na:Option Addr) (nc:Nat) (w:World) (hB:B≤t) (htl:t<lo) (hlw:lo≤w.heap.size) (c0:w.cell? (ah t 0)=some (.slice ta ts.length tc)) (hT:jG B w ta ts) (hp:kH B w p q) (hN:rS ts B lo w na p.ks) (hk:gu p) (hlen:p.ks.length=fk p.k) (h8:∀ r ∈ p.ks,(aA ts r).length≤8) :
  Calls prog 88 #[ah t 0,fw p q,.slice na p.ks.length nc] w fun e w'=>FO B lo w' e (hM ts p.k p.n p.x p.xs p.gs (p.ks.map (aA ts))) (nH ts p.k p.n p.xs p.gs (p.ks.map (aA ts)))∧Below w w w':=by
 have hA:Below w w (w.alloc (.cells (fE p q) 31)):=(aN ..)
 have E:=ft.new w p q 31;have lw:=an (bq w (fE p q) 31);have ht:t<w.heap.size:=by omega
 have hBw:B≤w.heap.size:=by omega
 have h2:=mn p.k;have hc:p.ks = []∨(∃ k0,p.ks = [k0])∨∃ k0 k1,p.ks = [k0,k1]:=by
  match hm:p.ks with
  | []=>exact .inl rfl
  | [k0]=>exact .inr (.inl ⟨k0,rfl⟩)
  | [k0,k1]=>exact .inr (.inr ⟨k0,k1,rfl⟩)
  | _ :: _ :: _ :: _=>rw [hm] at hlen; simp at hlen; omega
 have dA:=(hA.cell (p:=ah t 0) ht).trans c0;generalize hER:hM ts p.k p.n p.x p.xs p.gs (p.ks.map (aA ts))=er;generalize hCR:nH ts p.k p.n p.xs p.gs (p.ks.map (aA ts))=C;have HER:=aB hER;have HCR:=aB hCR;have HK:=aB hk;clear hER hCR hlen h2 hk;unfold fw;go_enter func88,ntmps88;rcases hc with hks | ⟨k0,hks⟩ | ⟨k0,k1,hks⟩
 ·have hl0:p.ks.length=0:=by rw [hks]; rfl
  have lb:((p.ks.length:Int) == 0)=true:=by simp [hl0]
  have eE:er=if p.n<0∨ts.length≤p.n then 7 else 0:=by rw [← HER.out,hks]; rfl
  have eC:C=ts.getD p.n.toNat []:=by rw [← HCR.out,hks]; rfl
  have HE1:=aB eE;have HC1:=aB eC;clear eE eC;clear HER HCR h8 hks hl0;go_wp2_with fail
  generalize w.alloc _=wA at *;have hCC:∀ W W':World,(ft W w 0 p q∧w.heap.size<W.heap.size∧W.cell? (ah t 0)=some (.slice ta ts.length tc)∧t<W.heap.size)→Below W W W'→(ft W' w 0 p q∧w.heap.size<W'.heap.size∧W'.cell? (ah t 0)=some (.slice ta ts.length tc)∧t<W'.heap.size):=fun W W' h hb=>⟨h.1.next hb h.2.1,My h.2.1 hb.size,(hb.cell (p:=ah t 0) h.2.2.2).trans h.2.2.1,My h.2.2.2 hb.size⟩
  have hd:Below wA wA wA.drew:=(Mz _ _).drew;have CW:=hCC _ _ ⟨E,lw,dA,My ht hA.size⟩ hd;refine aP (fun W=>(ft W w 0 p q∧w.heap.size<W.heap.size∧W.cell? (ah t 0)=some (.slice ta ts.length tc)∧t<W.heap.size)) aG ?_;refine bB hCC 12 0 (ah t 0) (fun n hn=>?_) CW ?_
  ·go_simp
  simp only [pX];refine bB hCC 13 1 (ah t 0) (fun n hn=>?_) CW ?_
  ·go_simp
  simp only [pX];refine bB hCC 14 2 (ah t 0) (fun n hn=>?_) CW ?_
  ·go_simp
  simp only [pX];refine bB hCC 15 3 (.slice ta ts.length tc) (fun n hn=>?_) CW ?_
  ·have hc:=hn.2.2.1;go_simp
  simp only [pX];refine bB hCC 16 4 (ah w 1) (fun n hn=>?_) CW ?_
  ·go_simp
  simp only [pX];refine bB hCC 17 5 p.n (fun n hn=>?_) CW ?_
  ·have hc:=hn.1.c1;simp only [MG] at hc;go_simp
  simp only [pX];refine gp 6 aG fun w6 hb6=>?_
  have CW6:=hCC _ _ CW hb6;have D6:=chain hA (chain hd hb6);have con:=xb ts p.n B ta tc w6 (hT.next D6 hBw);rw [← HE1.out,← HC1.out] at con;refine wpOp_step rfl (fun K hK=>?_);go_simp;refine con.mono ?_;rintro e w7 ⟨⟨a7,c7,rfl,I7⟩,hb7⟩;clear con;have CW7:=hCC _ _ CW6 hb7;have D7:=chain D6 hb7;refine hK _ _ ⟨CW7,?_⟩;clear hK K CW6 CW;have J7:=I7.t (lo:=lo) (by have:=CW7.2.2.2; omega);obtain ⟨cl,hcl⟩:∃ cl,cl=(if er=0 then C else []):=⟨_,rfl⟩
  rw [← hcl] at J7 ⊢;have HCl:=aB hcl;clear hcl I7;refine bB hCC 19 7 (.slice a7 cl.length c7) (fun n hn=>?_) CW7 ?_
  ·go_simp
  simp only [pX];refine bB hCC 20 8 er (fun n hn=>?_) CW7 ?_
  ·go_simp
  simp only [pX];refine bB hCC 6 9 (.slice a7 cl.length c7) (fun n hn=>?_) CW7 ?_
  ·go_simp
  simp only [pX];refine bB hCC 7 10 er (fun n hn=>?_) CW7 ?_
  ·go_simp
  simp only [pX];refine cA aG ?_;intro w8 hb8;have J8:=J7.low hb8 (by have:=CW7.2.2.2; omega);have D8:=chain D7 hb8;clear CW7 hCC hb8 D7 J7;go_wp2
  exact MA (v:=.tuple #[.slice a7 cl.length c7,er]) (by simp [results,results88,go_sem]) rfl ⟨⟨a7,c7,by rw [HCl.out],by rw [← HCl.out]; exact J8⟩,D8⟩
 ·have hl0:p.ks.length=1:=by rw [hks]; rfl
  have lb:((p.ks.length:Int) == 0)=false:=by simp [hl0]
  have lb1:((p.ks.length:Int) == 1)=true:=by simp [hl0]
  have lz:0<p.ks.length:=by omega
  have eE:er=jT p.k p.n p.x p.xs p.gs (aA ts k0):=by rw [← HER.out,hks]; rfl
  have eC:C=rI p.k p.xs p.gs (aA ts k0):=by rw [← HCR.out,hks]; rfl
  have HE1:=aB eE;have HC1:=aB eC;clear eE eC;rw [hks] at hN;obtain ⟨b,off,q0,c1,cc1,n1,nc1,rfl,hbl,hbt,_,d11,_,ND⟩:=hN.elem (i:=0) (by simp);simp only [Oa,NW,Nw] at d11 ND;have I1:=ND.cols;clear HER HCR h8 hks hl0 hN ND;have d11A:=(hA.cell (p:=⟨b,off+11,none⟩) hbl).trans d11;go_wp2_with fail
  generalize w.alloc _=wA at *;have hCC:∀ W W':World,(ft W w 0 p q∧w.heap.size<W.heap.size∧W.cell? ⟨b,off+11,none⟩=some (.slice c1 (aA ts k0).length cc1)∧t<W.heap.size∧b<W.heap.size)→Below W W W'→(ft W' w 0 p q∧w.heap.size<W'.heap.size∧W'.cell? ⟨b,off+11,none⟩=some (.slice c1 (aA ts k0).length cc1)∧t<W'.heap.size∧b<W'.heap.size):=fun W W' h hb=>⟨h.1.next hb h.2.1,My h.2.1 hb.size,(hb.cell (p:=⟨b,off+11,none⟩) h.2.2.2.2).trans h.2.2.1,My h.2.2.2.1 hb.size,My h.2.2.2.2 hb.size⟩
  have hd:Below wA wA wA.drew:=(Mz _ _).drew;have CW:=hCC _ _ ⟨E,lw,d11A,My ht hA.size,My hbl hA.size⟩ hd;refine aP (fun W=>(ft W w 0 p q∧w.heap.size<W.heap.size∧W.cell? ⟨b,off+11,none⟩=some (.slice c1 (aA ts k0).length cc1)∧t<W.heap.size∧b<W.heap.size)) aG ?_;refine bB hCC 23 0 (.agg (fE p q)) (fun n hn=>?_) CW ?_
  ·obtain ⟨⟨n0,n1,⟨n2,n3,n4,n5,n6,n7⟩,n8,n9,n10⟩,_⟩:=hn;simp only [MG] at n1 n2 n3 n4 n5 n6 n7 n8 n9 n10;go_simp
  simp only [pX];refine bB hCC 24 1 (.slice (some (ah b off)) p.ks.length nc) (fun n hn=>?_) CW ?_
  ·go_simp
  simp only [pX];refine bB hCC 25 2 (ah b off) (fun n hn=>?_) CW ?_
  ·go_simp
  simp only [pX];refine bB hCC 26 3 (.pointer (some ⟨b,off+11,none⟩)) (fun n hn=>?_) CW ?_
  ·go_simp
  simp only [pX];refine bB hCC 27 4 (.slice c1 (aA ts k0).length cc1) (fun n hn=>?_) CW ?_
  ·have hc:=hn.2.2.1;go_simp
  simp only [pX];refine gp 5 aG fun w6 hb6=>?_
  have CW6:=hCC _ _ CW hb6;have D6:=chain hA (chain hd hb6);have con:=xv B lo ag p q (aA ts k0) c1 cc1 w6 (MO hlw D6.size) ((hp.next D6 hBw).up (MO hBw D6.size)) (I1.low D6 hBw) HK.out;rw [← HE1.out,← HC1.out] at con;unfold fw at con;refine wpOp_step rfl (fun K hK=>?_);go_simp;refine con.mono ?_;rintro e w7 ⟨⟨a7,c7,rfl,J7⟩,hb7⟩;clear con;have CW7:=hCC _ _ CW6 hb7;have D7:=chain D6 hb7;refine hK _ _ ⟨CW7,?_⟩;clear hK K CW6 CW;obtain ⟨cl,hcl⟩:∃ cl,cl=(if er=0 then C else []):=⟨_,rfl⟩
  rw [← hcl] at J7 ⊢;have HCl:=aB hcl;clear hcl;refine bB hCC 29 6 (.slice a7 cl.length c7) (fun n hn=>?_) CW7 ?_
  ·go_simp
  simp only [pX];refine bB hCC 30 7 er (fun n hn=>?_) CW7 ?_
  ·go_simp
  simp only [pX];refine bB hCC 6 8 (.slice a7 cl.length c7) (fun n hn=>?_) CW7 ?_
  ·go_simp
  simp only [pX];refine bB hCC 7 9 er (fun n hn=>?_) CW7 ?_
  ·go_simp
  simp only [pX];refine cA aG ?_;intro w8 hb8;have J8:=J7.low hb8 (by have:=CW7.2.2.2.1; omega);have D8:=chain D7 hb8;clear CW7 hCC hb8 D7 J7;go_wp2
  exact MA (v:=.tuple #[.slice a7 cl.length c7,er]) (by simp [results,results88,go_sem]) rfl ⟨⟨a7,c7,by rw [HCl.out],by rw [← HCl.out]; exact J8⟩,D8⟩
 ·have hl0:p.ks.length=2:=by rw [hks]; rfl
  have lb:((p.ks.length:Int) == 0)=false:=by simp [hl0]
  have lb1:((p.ks.length:Int) == 1)=false:=by simp [hl0]
  have lz:0<p.ks.length:=by omega
  have lz1:(1:Int)<(p.ks.length:Int):=by omega
  have eE:er=xg p.k p.x (aA ts k0) (aA ts k1):=by rw [← HER.out,hks]; rfl
  have eC:C=rL p.k (aA ts k0) (aA ts k1):=by rw [← HCR.out,hks]; rfl
  have HE1:=aB eE;have HC1:=aB eC;clear eE eC;have g0:=h8 k0 (by rw [hks]; simp);have g1:=h8 k1 (by rw [hks]; simp);rw [hks] at hN;obtain ⟨b,off,q0,c1,cc1,n1,nc1,rfl,hbl,hbt,_,d11,_,ND⟩:=hN.elem (i:=0) (by simp);obtain ⟨b',off',q1,c2,cc2,n2,nc2,eb,_,_,_,d24,_,ND1⟩:=hN.elem (i:=1) (by simp);have eb:=Nk eb;injection eb with eb1 eb2
  subst eb1 eb2;simp only [Oa,Nat.one_mul,NW,Nw,NJ] at d11 ND d24 ND1;have I1:=ND.cols;have I2:=ND1.cols;clear HER HCR h8 hks hl0 hN ND ND1;have d11A:=(hA.cell (p:=⟨b,off+11,none⟩) hbl).trans d11;have d24A:=(hA.cell (p:=⟨b,off+13+11,none⟩) hbl).trans d24;go_wp2_with fail
  generalize w.alloc _=wA at *
  have hCC:∀ W W':World,(ft W w 0 p q∧w.heap.size<W.heap.size∧W.cell? ⟨b,off+11,none⟩=some (.slice c1 (aA ts k0).length cc1)∧W.cell? ⟨b,off+13+11,none⟩=some (.slice c2 (aA ts k1).length cc2)∧t<W.heap.size∧b<W.heap.size)→Below W W W'→(ft W' w 0 p q∧w.heap.size<W'.heap.size∧W'.cell? ⟨b,off+11,none⟩=some (.slice c1 (aA ts k0).length cc1)∧W'.cell? ⟨b,off+13+11,none⟩=some (.slice c2 (aA ts k1).length cc2)∧t<W'.heap.size∧b<W'.heap.size):=fun W W' h hb=>⟨h.1.next hb h.2.1,My h.2.1 hb.size,(hb.cell (p:=⟨b,off+11,none⟩) h.2.2.2.2.2).trans h.2.2.1,(hb.cell (p:=⟨b,off+13+11,none⟩) h.2.2.2.2.2).trans h.2.2.2.1,My h.2.2.2.2.1 hb.size,My h.2.2.2.2.2 hb.size⟩
  have hd:Below wA wA wA.drew:=(Mz _ _).drew;have CW:=hCC _ _ ⟨E,lw,d11A,d24A,My ht hA.size,My hbl hA.size⟩ hd;refine aP (fun W=>(ft W w 0 p q∧w.heap.size<W.heap.size∧W.cell? ⟨b,off+11,none⟩=some (.slice c1 (aA ts k0).length cc1)∧W.cell? ⟨b,off+13+11,none⟩=some (.slice c2 (aA ts k1).length cc2)∧t<W.heap.size∧b<W.heap.size)) aG ?_;refine bB hCC 31 0 (.agg (fE p q)) (fun n hn=>?_) CW ?_
  ·obtain ⟨⟨n0,n1,⟨n2,n3,n4,n5,n6,n7⟩,n8,n9,n10⟩,_⟩:=hn;simp only [MG] at n1 n2 n3 n4 n5 n6 n7 n8 n9 n10;go_simp
  simp only [pX];refine bB hCC 32 1 (.slice (some (ah b off)) p.ks.length nc) (fun n hn=>?_) CW ?_
  ·go_simp
  simp only [pX];refine bB hCC 33 2 (ah b off) (fun n hn=>?_) CW ?_
  ·go_simp
  simp only [pX];refine bB hCC 34 3 (.pointer (some ⟨b,off+11,none⟩)) (fun n hn=>?_) CW ?_
  ·go_simp
  simp only [pX];refine bB hCC 35 4 (.slice c1 (aA ts k0).length cc1) (fun n hn=>?_) CW ?_
  ·have hc:=hn.2.2.1;go_simp
  simp only [pX];refine bB hCC 36 5 (.slice (some (ah b off)) p.ks.length nc) (fun n hn=>?_) CW ?_
  ·go_simp
  simp only [pX];refine bB hCC 37 6 (.pointer (some ⟨b,off+13,none⟩)) (fun n hn=>?_) CW ?_
  ·go_simp
  simp only [pX];refine bB hCC 38 7 (.pointer (some ⟨b,off+13+11,none⟩)) (fun n hn=>?_) CW ?_
  ·go_simp
  simp only [pX];refine bB hCC 39 8 (.slice c2 (aA ts k1).length cc2) (fun n hn=>?_) CW ?_
  ·have hc:=hn.2.2.2.1;go_simp
  simp only [pX];refine gp 9 aG fun w6 hb6=>?_
  have CW6:=hCC _ _ CW hb6;have D6:=chain hA (chain hd hb6);have con:=wJ B lo ag p q (aA ts k0) (aA ts k1) c1 cc1 c2 cc2 w6 (MO hlw D6.size) ((hp.next D6 hBw).up (MO hBw D6.size)) (I1.low D6 hBw) (I2.low D6 hBw) g0 g1;rw [← HE1.out,← HC1.out] at con;unfold fw at con;refine wpOp_step rfl (fun K hK=>?_);go_simp;refine con.mono ?_;rintro e w7 ⟨⟨a7,c7,rfl,J7⟩,hb7⟩;clear con;have CW7:=hCC _ _ CW6 hb7;have D7:=chain D6 hb7;refine hK _ _ ⟨CW7,?_⟩;clear hK K CW6 CW;obtain ⟨cl,hcl⟩:∃ cl,cl=(if er=0 then C else []):=⟨_,rfl⟩
  rw [← hcl] at J7 ⊢;have HCl:=aB hcl;clear hcl;refine bB hCC 41 10 (.slice a7 cl.length c7) (fun n hn=>?_) CW7 ?_
  ·go_simp
  simp only [pX];refine bB hCC 42 11 er (fun n hn=>?_) CW7 ?_
  ·go_simp
  simp only [pX];refine bB hCC 6 12 (.slice a7 cl.length c7) (fun n hn=>?_) CW7 ?_
  ·go_simp
  simp only [pX];refine bB hCC 7 13 er (fun n hn=>?_) CW7 ?_
  ·go_simp
  simp only [pX];refine cA aG ?_;intro w8 hb8;have J8:=J7.low hb8 (by have:=CW7.2.2.2.2.1; omega);have D8:=chain D7 hb8;clear CW7 hCC hb8 D7 J7;go_wp2
  exact MA (v:=.tuple #[.slice a7 cl.length c7,er]) (by simp [results,results88,go_sem]) rfl ⟨⟨a7,c7,by rw [HCl.out],by rw [← HCl.out]; exact J8⟩,D8⟩
end Go.Proofs.YtoefpglknaiaeaaGreat
namespace Go.Proofs.YtoefpglknaiaeaaGreat
open Go.RowKit
theorem iE {ts:List (List Int)} {k n:Int} {x:Ex} {xs:List Ex} {gs:List Ag} {ks:List Pl} {m d:Int} (h:(bD ts (.mk k n x xs gs ks) m d).1=0):eF k ks.length (m+1) d=0∧(bo ts ks (m+1) (d+1)).1=0∧hM ts k n x xs gs (ko ts ks)=0∧(bD ts (.mk k n x xs gs ks) m d).2=(bo ts ks (m+1) (d+1)).2:=by
 rw [bD] at h ⊢;by_cases h1:eF k ks.length (m+1) d=0
 ·rw [if_neg (by simp [h1])] at h ⊢;by_cases h2:(bo ts ks (m+1) (d+1)).1=0
  ·rw [if_neg (by simp [h2])] at h ⊢;exact ⟨h1,h2,h,rfl⟩
  ·rw [if_pos h2] at h; exact absurd h h2
 ·rw [if_pos h1] at h; exact absurd h h1
theorem jM {k:Int} {n:Nat} {m d:Int} (h:eF k n m d=0):n=fk k∧1≤k∧k≤13∧m≤60∧d≤15:=by
 unfold eF at h;by_cases g1:60<m∨15<d
 ·simp [g1] at h
 by_cases g2:k<1∨13<k
 ·simp [g1,g2] at h
 by_cases g3:n=fk k
 ·exact ⟨g3,by omega⟩
 ·simp [g1,g2,g3] at h
theorem j8 {ts:List (List Int)} {p:Pl} {r:List Pl} {m d:Int} (h:(bo ts (p :: r) m d).1=0):(bD ts p m d).1=0∧(bo ts r (bD ts p m d).2 d).1=0∧(bo ts (p :: r) m d).2=(bo ts r (bD ts p m d).2 d).2:=by
 rw [bo] at h ⊢;by_cases h1:(bD ts p m d).1=0
 ·rw [if_neg (by simp [h1])] at h ⊢;exact ⟨h1,h,rfl⟩
 ·rw [if_pos h1] at h; exact absurd h h1
theorem kW {ts:List (List Int)}:∀ {ks:List Pl} {m d:Int},(bo ts ks m d).1=0→∀ p ∈ ks,∃ m',(bD ts p m' d).1=0
 | [],_,_,_,p,hp=>by cases hp
 | q :: r,m,d,h,p,hp=>by
  obtain ⟨h1,h2,_⟩:=j8 h
  rcases List.mem_cons.1 hp with rfl | hp
  ·exact ⟨m,h1⟩
  ·exact kW h2 p hp
theorem wj (ts:List (List Int)):∀ (p:Pl) (m d:Int),(bD ts p m d).1=0→m<(bD ts p m d).2∧(bD ts p m d).2≤60 :=
 Pl.ind fun k n x xs gs ks ih m d h=>by
  obtain ⟨h1,h2,_,e⟩:=iE h
  have hq:=jM h1
  have aux:∀ (l:List Pl),(∀ p ∈ l,∀ (m d:Int),(bD ts p m d).1=0→m<(bD ts p m d).2∧(bD ts p m d).2≤60)→∀ m d,m≤60→(bo ts l m d).1=0→m≤(bo ts l m d).2∧(bo ts l m d).2≤60:=by
   intro l
   induction l with
   | nil=>intro _ m d hm _; rw [bo]; exact ⟨Int.le_refl _,hm⟩
   | cons p r ihl =>
    intro hl m d hm h;obtain ⟨g1,g2,g3⟩:=j8 h;have a1:=hl p (by simp) m d g1;have a2:=ihl (fun q hq=>hl q (by simp [hq])) _ d a1.2 g2;rw [g3];omega
  have:=aux ks ih (m+1) (d+1) ag h2;rw [e];omega
theorem xN:∀ {l r:List Int},(cU l r).length≤l.length
 | [],_=>by simp [cU]
 | a :: l,[]=>by simp [cU]
 | a :: l,b :: r=>by
  have:=xN (l:=l) (r:=r)
  rw [cU,Ng,Ng]
  omega
theorem Ls {ts:List (List Int)} (h:fg ts=0):∀ c ∈ ts,c.length≤8:=by
 have aux:∀ (l:List (List Int)),jI l=0→∀ c ∈ l,c.length≤8:=by
  intro l
  induction l with
  | nil=>intro _ c hc; cases hc
  | cons a r ih =>
   intro h c hc;rw [jI] at h;by_cases h0:fb a=0
   ·rw [if_neg (by simp [h0])] at h;rcases List.mem_cons.1 hc with rfl | hc
    ·unfold fb at h0;by_cases h8:8<c.length
     ·rw [if_pos h8] at h0; cases h0
     ·omega
    ·exact ih h c hc
   ·rw [if_pos h0] at h; exact absurd h h0
 unfold fg at h;by_cases h8:8<ts.length
 ·rw [if_pos h8] at h; cases h
 ·rw [if_neg h8] at h; exact aux ts h
theorem Ew {l r:List Int} {x:Ex} {w:Nat} {a b:List Zp} (h:cw w l r x a b=0):l.length+r.length≤8:=by
 unfold cw at h;by_cases h0:iG l r x a b=0
 ·unfold iG at h0;by_cases h8:8<l.length+r.length
  ·rw [if_pos h8] at h0; cases h0
  ·omega
 ·rw [if_pos h0] at h; exact absurd h h0
theorem node8 {ts:List (List Int)} (hts:∀ c ∈ ts,c.length≤8) {k n:Int} {x:Ex} {xs:List Ex} {gs:List Ag} {cs:List (List Int)} (h:hM ts k n x xs gs cs=0) (hc:∀ c ∈ cs,c.length≤8):(nH ts k n xs gs cs).length≤8:=by
 match cs,h,hc with
 | [],h,_ =>
  simp only [hM] at h;simp only [nH];by_cases h0:n<0∨(ts.length:Int)≤n
  ·rw [if_pos h0] at h; cases h
  ·have hn:n.toNat<ts.length:=by omega
   have e:ts.getD n.toNat []=ts[n.toNat]:=by simp [hn]
   rw [e];exact hts _ (MC hn)
 | [c],h,hc =>
  simp only [hM] at h;simp only [nH,rI];have h8:=hc c (by simp);by_cases k3:k=3
  ·rw [if_pos k3,iR];unfold jT at h;rw [if_neg ag,if_pos k3] at h;exact yL h
  ·rw [if_neg k3];by_cases k12:k=12
   ·rw [if_pos k12,ME,iR,Nt];unfold jT at h;rw [if_neg ag,if_neg k3,if_pos k12] at h;exact tD h
   ·rw [if_neg k12]; exact h8
 | l :: r :: _,h,hc =>
  simp only [hM] at h;simp only [nH,rL];have h8:=hc l (by simp);by_cases k8:k=8∨k=9
  ·rw [if_pos k8];exact MO xN h8
  ·rw [if_neg k8];by_cases k5:k=5∨k=6
   ·rw [if_pos k5]; exact h8
   ·rw [if_neg k5,ME];unfold xg at h;rw [if_neg k8] at h;exact Ew h
theorem oF {ts:List (List Int)} (hts:fg ts=0):∀ (p:Pl) (m d:Int),(bD ts p m d).1=0→(aA ts p).length≤8 :=
 Pl.ind fun k n x xs gs ks ih m d h=>by
  obtain ⟨_,h2,h3,_⟩:=iE h
  rw [aA]
  refine node8 (Ls hts) h3 fun c hc=>?_
  rw [gr] at hc
  obtain ⟨p,hp,rfl⟩:=List.mem_map.1 hc
  obtain ⟨m',hm⟩:=kW h2 p hp
  exact ih p hp m' _ hm
open Go.Lib Go.Shelf _root_.Go.Proofs.Tryz
def dI (W:World) (g:Nat):Nat→List Value→World
 | _,[]=>W
 | o,v :: r=>dI (W.setCell (ah g o) v) g (o+1) r
theorem fO (g:Nat):∀ (vs:List Value) (W:World) (o b p:Nat),(b≠g∨p<o∨o+vs.length≤p)→(dI W g o vs).cell? (ah b p)=W.cell? (ah b p)
 | [],_,_,_,_,_=>rfl
 | v :: r,W,o,b,p,h=>by
  rw [dI,fO g r _ (o+1) b p (by simp at h; omega)]
  refine MN _ _ _ _ (by intro e; injection e with e1 e2; simp at h; omega)
theorem qL (g:Nat):∀ (vs:List Value) (W:World) (o i:Nat) (h:i<vs.length),(∀ k,k<vs.length→∃ u,W.cell? ⟨g,o+k,none⟩=some u)→(dI W g o vs).cell? ⟨g,o+i,none⟩=some vs[i]
 | v :: r,W,o,0,_,hr=>by
  obtain ⟨u,hu⟩:=hr 0 (by simp)
  rw [dI,fO g r _ _ _ _ ag]
  exact NB _ _ _ hu
 | v :: r,W,o,i+1,h,hr=>by
  have:=qL g r (W.setCell (ah g o) v) (o+1) i (by simpa using h) fun k hk=>by
   obtain ⟨u,hu⟩:=hr (k+1) (by simpa using hk)
   refine ⟨u,?_⟩
   rw [MN _ _ _ _ (by intro e; injection e with e1 e2; omega)]
   rw [← hu]
   congr 2
   omega
  rw [dI]
  rw [show o+(i+1)=o+1+i by omega,this]
  rfl
theorem qh (g:Nat):∀ (vs:List Value) (W:World) (o b p:Nat),(dI W g o vs).frozen? (ah b p)=W.frozen? (ah b p)
 | [],_,_,_,_=>rfl
 | v :: r,W,o,b,p=>by rw [dI,qh g r,Na]
theorem mI (g:Nat):∀ (vs:List Value) (W:World) (o:Nat),(dI W g o vs).heap.size=W.heap.size
 | [],_,_=>rfl
 | v :: r,W,o=>by rw [dI,mI g r,N9]
theorem kh {B lo:Nat} {W0:World} (g:Nat) (hB:B≤g) (hg:g<lo):∀ (vs:List Value) (W:World) (o:Nat),Kept B lo W0 W→Kept B lo W0 (dI W g o vs)
 | [],_,_,h=>h
 | v :: r,_,o,h=>kh g hB hg r _ _ (h.set g o v hB hg)
theorem kC {t:Nat} {W0:World} (g:Nat) (hg:W0.heap.size≤g) (ht:t≤W0.heap.size):∀ (vs:List Value) (W:World) (o:Nat),aw t W0 W→aw t W0 (dI W g o vs)
 | [],_,_,h=>h
 | v :: r,_,o,h=>kC g hg ht r _ _ (h.mu g o v hg ht)
def qX:List Value:=[.int .i64 0,aD,aD,aD,aD,(),aD,bX,bX,bX,bX,bX,bX]
def oI (n:Nat):Array Value:=((List.replicate n qX).flatten).toArray
theorem BK (n:Nat):(oI n).size=n*13:=by
 unfold oI;rw [List.size_toArray,List.length_flatten,List.map_replicate,List.sum_replicate_nat];rfl
theorem zZ {n:Nat} (h:n≤2) (w:World):(Instr.makeSlice 77 n n).run prog w = .ok (.slice (some (ah w 0)) n n) (w.alloc (.cells (oI n) 79)):=by
 obtain rfl | rfl | rfl:n=0∨n=1∨n=2:=by omega
 all_goals kernel_rfl
structure Di (ts:List (List Int)) (B lo g:Nat) (W:World) (l:List Pl) (j:Nat):Prop where
 lt:g<W.heap.size
 gB:B≤g
 gl:g<lo
 room:∀ o,o<l.length*13→∃ u,W.cell? (ah g o)=some u
 fz:∀ o,W.frozen? (ah g o)=false
 laid:∀ (i:Nat) (h:i<l.length),i<j→∃ q ca cc na nc,ft W g (i*13) l[i] q∧W.cell? ⟨g,i*13+11,none⟩=some (.slice ca (aA ts l[i]).length cc)∧W.cell? ⟨g,i*13+12,none⟩=some (.slice na l[i].ks.length nc)∧EM ts B lo W l[i] q ca na
theorem Di.new (ts:List (List Int)) {B lo:Nat} (w:World) (l:List Pl) (hB:B≤w.heap.size) (hl:w.heap.size<lo) (T:TypeId):Di ts B lo w (w.alloc (.cells (oI l.length) T)) l 0:=by
 have q:=bq w (oI l.length) T;refine ⟨an q,hB,hl,fun o ho=>?_,fun o=>MB _ w o _ _ q,fun i _ h=>absurd h (M9 _)⟩;have hs:o<(oI l.length).size:=by rw [BK]; exact ho
 exact ⟨(oI l.length)[o],cell_of (i:=o) q (by rw [Ny hs])⟩
theorem Di.next {ts:List (List Int)} {B lo g t:Nat} {W w1:World} {l:List Pl} {j:Nat} (h:Di ts B lo g W l j) (hb:aw t W w1) (hB:B≤t) (ht:t<g):Di ts B lo g w1 l j:=by
 have hn:g≠t:=by omega
 have gl:=h.gl;refine ⟨My h.lt hb.size,h.gB,h.gl,fun o ho=>?_,fun o=>(hb.frozen (p:=ah g o) h.lt hn).trans (h.fz o),fun i hi hj=>?_⟩
 ·obtain ⟨u,hu⟩:=h.room o ho;exact ⟨u,(hb.cell (p:=ah g o) h.lt hn).trans hu⟩
 ·obtain ⟨q,ca,cc,na,nc,e,e1,e2,e3⟩:=h.laid i hi hj;exact ⟨q,ca,cc,na,nc,e.mx hb h.lt hn,(hb.cell (p:=⟨g,_,none⟩) h.lt hn).trans e1,(hb.cell (p:=⟨g,_,none⟩) h.lt hn).trans e2,e3.next (Kept.Mn hb hB ag)⟩
def yz (p:Pl) (q:Pw) (ca:Option Addr) (n cc:Nat) (na:Option Addr) (nc:Nat):List Value:=[.int .i64 p.k,p.n,p.x.k,p.x.v.1,p.x.v.2.1,p.x.v.2.2,p.x.c,.slice q.xa p.x.ks.length q.xc,.slice q.sa p.xs.length q.sc,.slice q.ga p.gs.length q.gc,.slice q.ka p.ks.length q.kc,.slice ca n cc,.slice na p.ks.length nc]
theorem Di.store {ts:List (List Int)} {B lo g:Nat} {W:World} {l:List Pl} {j:Nat} (h:Di ts B lo g W l j) (hj:j<l.length) {q:Pw} {ca:Option Addr} {cc:Nat} {na:Option Addr} {nc:Nat} (hn:EM ts B lo W l[j] q ca na) :
  Di ts B lo g (dI W g (j*13) (yz l[j] q ca (aA ts l[j]).length cc na nc)) l (j+1):=by
 have hK:=kh g h.gB h.gl (yz l[j] q ca (aA ts l[j]).length cc na nc) W (j*13) (Kept.refl B lo W);have hr:∀ k,k<(yz l[j] q ca (aA ts l[j]).length cc na nc).length→∃ u,W.cell? ⟨g,j*13+k,none⟩=some u:=fun k hk=>h.room _ (by
  have:k<13:=hk;have:(j+1)*13≤l.length*13:=Nat.mul_le_mul_right 13 hj;omega)
 have hs:∀ (i:Nat) (hi:i<13),(dI W g (j*13) (yz l[j] q ca (aA ts l[j]).length cc na nc)).cell? ⟨g,j*13+i,none⟩=some ((yz l[j] q ca (aA ts l[j]).length cc na nc)[i]'hi):=fun i hi=>qL g (yz l[j] q ca (aA ts l[j]).length cc na nc) W (j*13) i hi hr
 have ho:∀ o,(o<j*13∨j*13+13≤o)→(dI W g (j*13) (yz l[j] q ca (aA ts l[j]).length cc na nc)).cell? (ah g o)=W.cell? (ah g o):=fun o h=>fO g _ W _ _ _ (.inr h)
 refine ⟨by rw [mI]; exact h.lt,h.gB,h.gl,fun o hl=>?_,fun o=>by rw [qh]; exact h.fz o,fun i hi hij=>?_⟩
 ·by_cases c:o<j*13∨j*13+13≤o
  ·rw [ho o c]; exact h.room o hl
  ·have:=hs (o - j*13) ag;rw [show j*13+(o - j*13)=o by omega] at this;exact ⟨_,this⟩
 ·by_cases e:i=j
  ·subst e;refine ⟨q,ca,cc,na,nc,⟨hs 0 (by decide),hs 1 (by decide),⟨hs 2 (by decide),hs 3 (by decide),hs 4 (by decide),hs 5 (by decide),hs 6 (by decide),hs 7 (by decide)⟩,hs 8 (by decide),hs 9 (by decide),hs 10 (by decide)⟩,hs 11 (by decide),hs 12 (by decide),hn.next hK⟩
  ·obtain ⟨q',ca',cc',na',nc',e0,e1,e2,e3⟩:=h.laid i hi ag;have hlt:i*13+13≤j*13:=by
    have:(i+1)*13≤j*13:=Nat.mul_le_mul_right 13 ag;omega
   exact ⟨q',ca',cc',na',nc',⟨(ho _ ag).trans e0.c0,(ho _ ag).trans e0.c1,⟨(ho _ ag).trans e0.tX.c0,(ho _ ag).trans e0.tX.c1,(ho _ ag).trans e0.tX.c2,(ho _ ag).trans e0.tX.c3,(ho _ ag).trans e0.tX.c4,(ho _ ag).trans e0.tX.c5⟩,(ho _ ag).trans e0.c8,(ho _ ag).trans e0.c9,(ho _ ag).trans e0.Bm⟩,(ho _ ag).trans e1,(ho _ ag).trans e2,e3.next hK⟩
theorem Di.ns {ts:List (List Int)} {B lo lo' g:Nat} {W:World} {l:List Pl} (h:Di ts B lo g W l l.length) (hl:lo'≤g):rS ts B lo' W (some (ah g 0)) l:=by
 have gl:=h.gl;have ex:=fun (i:Nat) (hi:i<l.length)=>h.laid i hi hi
 refine .some g 0 l (fun i=>if hi:i<l.length then (ex i hi).choose else ⟨none,0,none,0,none,0,none,0⟩) (fun i=>if hi:i<l.length then (ex i hi).choose_spec.choose else none) (fun i=>if hi:i<l.length then (ex i hi).choose_spec.choose_spec.choose else 0) (fun i=>if hi:i<l.length then (ex i hi).choose_spec.choose_spec.choose_spec.choose else none) (fun i=>if hi:i<l.length then (ex i hi).choose_spec.choose_spec.choose_spec.choose_spec.choose else 0) h.lt hl ?_ ?_ ?_ ?_ ?_ ?_
 all_goals intro i hi
 all_goals simp only [hi,dite_true,MG]
 all_goals have sp:=(ex i hi).choose_spec.choose_spec.choose_spec.choose_spec.choose_spec
 ·exact sp.1
 ·exact sp.2.1
 ·exact sp.2.2.1
 ·exact sp.2.2.2.pl
 ·exact sp.2.2.2.cols.wide ag
 ·exact rS.wide ag sp.2.2.2.kids
theorem kN {ts:List (List Int)} {p:Pl} {m d:Int} (h:¬ eF p.k p.ks.length (m+1) d=0):bD ts p m d=(eF p.k p.ks.length (m+1) d,m+1):=by
 cases p; simp only [Pl.k,Pl.ks] at h ⊢; rw [bD,if_pos h]
theorem vO {ts:List (List Int)} {p:Pl} {m d:Int} (h:eF p.k p.ks.length (m+1) d=0) (he:¬ (bo ts p.ks (m+1) (d+1)).1=0):bD ts p m d=bo ts p.ks (m+1) (d+1):=by
 cases p; simp only [Pl.k,Pl.ks] at h he; rw [bD,if_neg (by simp [h]),if_pos he]; rfl
theorem vd {ts:List (List Int)} {p:Pl} {m d:Int} (h:eF p.k p.ks.length (m+1) d=0) (he:(bo ts p.ks (m+1) (d+1)).1=0):bD ts p m d=(hM ts p.k p.n p.x p.xs p.gs (p.ks.map (aA ts)),(bo ts p.ks (m+1) (d+1)).2):=by
 cases p; simp only [Pl.k,Pl.ks] at h he; rw [bD,if_neg (by simp [h]),if_neg (by simp [he]),gr]; rfl
theorem yG (ts:List (List Int)) (p:Pl):aA ts p=nH ts p.k p.n p.xs p.gs (p.ks.map (aA ts)):=by
 cases p; rw [aA,gr]; rfl
theorem j9.all {t:Nat} {ta:Option Addr} {n tc:Nat} {m:Int} {W:World} (h:j9 W t ta n tc m) (g:Nat) (hn:g≠t) (vs:List Value) (o:Nat):j9 (dI W g o vs) t ta n tc m :=
 ⟨by rw [mI]; exact h.lt,(fO g vs W o t 0 (.inl (Ne.symm hn))).trans h.c0,(fO g vs W o t 1 (.inl (Ne.symm hn))).trans h.c1,(qh g vs W o t 1).trans h.f1⟩
theorem ft.all {b off:Nat} {p:Pl} {q:Pw} {W:World} (h:ft W b off p q) (g:Nat) (hn:b≠g) (vs:List Value) (o:Nat):ft (dI W g o vs) b off p q :=
 have k:=fun x=>fO g vs W o b x (.inl hn)
 ⟨(k _).trans h.c0,(k _).trans h.c1,⟨(k _).trans h.tX.c0,(k _).trans h.tX.c1,(k _).trans h.tX.c2,(k _).trans h.tX.c3,(k _).trans h.tX.c4,(k _).trans h.tX.c5⟩,(k _).trans h.c8,(k _).trans h.c9,(k _).trans h.Bm⟩
theorem oz (g k:Nat) (hn:k≠g):∀ (vs:List Value) (W:World) (o:Nat),k<W.heap.size→(dI W g o vs).heap[k]? = W.heap[k]?
 | [],_,_,_=>rfl
 | v :: r,W,o,hk=>by
  rw [dI,oz g k hn r _ _ (by rw [N9]; exact hk)]
  exact ((aw.refl g W).set o v).2 k hk hn
def xe (ts:List (List Int)) (p:Pl):Prop :=
 ∀ (B t:Nat) (ta:Option Addr) (tc:Nat) (q:Pw) (m d:Int) (w:World),kH B w p q→jG B w ta ts→B≤t→j9 w t ta ts.length tc m→0≤m→m≤60→0≤d→d≤16→gu p →
  Calls prog 65 #[ah t 0,fw p q,d] w fun e w'=>(∃ v,e = .returned (.tuple #[v,.int .i64 (bD ts p m d).1])∧((bD ts p m d).1=0→∃ ca cc na nc,v=vJ p q ca (aA ts p).length cc na nc∧EM ts B w w' p q ca na)∧(¬ (bD ts p m d).1=0→v=zV))∧aw t w w'∧j9 w' t ta ts.length tc (bD ts p m d).2
theorem Iz (ts:List (List Int)) (hts:fg ts=0) (p:Pl) (ih:∀ r ∈ p.ks,xe ts r):xe ts p:=by
 intro B t ta tc q m d w hp hT hBt ht hm0 hm hd0 hd hok;have htw:=ht.lt;have HT:Hid (fg ts=0):=hts;have HK:Hid (gu p):=hok;have IH:Hid (∀ r ∈ p.ks,xe ts r):=ih;generalize hr:bD ts p m d=r;have HR:Hid (bD ts p m d=r):=hr;clear hr hts hok ih;have zS:(w.setCell (ah t 1) (.int .i64 (m+1))).heap.size=w.heap.size:=N9 _ _ _;have TS:=ht.count (m+1);have XS:=(aw.refl t w).set 1 (.int .i64 (m+1));have E0:=ft.new (w.setCell (ah t 1) (.int .i64 (m+1))) p q 31;have l0:=an (bq (w.setCell (ah t 1) (.int .i64 (m+1))) (fE p q) 31)
 have z0:((w.setCell (ah t 1) (.int .i64 (m+1))).alloc (.cells (fE p q) 31)).heap.size=w.heap.size+1:=by simp
 have h0:Below (w.setCell (ah t 1) (.int .i64 (m+1))).heap.size (w.setCell (ah t 1) (.int .i64 (m+1))) ((w.setCell (ah t 1) (.int .i64 (m+1))).alloc (.cells (fE p q) 31)):=aN ..
 have h1:Below ((w.setCell (ah t 1) (.int .i64 (m+1))).alloc (.cells (fE p q) 31)).heap.size ((w.setCell (ah t 1) (.int .i64 (m+1))).alloc (.cells (fE p q) 31)) (((w.setCell (ah t 1) (.int .i64 (m+1))).alloc (.cells (fE p q) 31)).alloc (.cells #[aD,aD,aD,aD,aD,(),aD,bX,bX,bX,bX,bX,bX] 79)):=aN ..
 have QR:=bq ((w.setCell (ah t 1) (.int .i64 (m+1))).alloc (.cells (fE p q) 31)) #[aD,aD,aD,aD,aD,(),aD,bX,bX,bX,bX,bX,bX] 79;rw [z0] at QR;rw [zS] at E0 l0;have h01:=chain h0 h1;have T0:=TS.next h01;have X0:=XS.trans (aw.of h01 (by rw [zS]; exact M5 htw));have EA:=E0.next h1 l0;have H2:=ht.c1;have H3:=ht.f1
 have zA:w.heap.size+1<(((w.setCell (ah t 1) (.int .i64 (m+1))).alloc (.cells (fE p q) 31)).alloc (.cells #[aD,aD,aD,aD,aD,(),aD,bX,bX,bX,bX,bX,bX] 79)).heap.size:=an QR;have hWm:IntKind.i64.wrap (m+1)=m+1:=IntWalk.i64_in _ ⟨by omega,by omega⟩;clear XS E0 TS;unfold fw;go_enter func65,ntmps65;go_wp2_with fail
 clear H2 H3 h0 h1 h01 l0 z0 zS;generalize ((w.setCell (ah t 1) (.int .i64 (m+1))).alloc (.cells (fE p q) 31)).alloc (.cells #[aD,aD,aD,aD,aD,(),aD,bX,bX,bX,bX,bX,bX] 79)=wA at *
 have hCC:∀ W W':World,(ft W w 0 p q∧w.heap.size<W.heap.size∧W.cell? (ah t 1)=some (.int .i64 (m+1))∧t<W.heap.size)→Below W W W'→(ft W' w 0 p q∧w.heap.size<W'.heap.size∧W'.cell? (ah t 1)=some (.int .i64 (m+1))∧t<W'.heap.size):=fun W W' h hb=>⟨h.1.next hb h.2.1,My h.2.1 hb.size,(hb.cell (p:=ah t 1) h.2.2.2).trans h.2.2.1,My h.2.2.2 hb.size⟩
 have hd:Below wA wA wA.drew:=(Mz _ _).drew;have CW:=hCC _ _ ⟨EA,by omega,T0.c1,by omega⟩ hd;refine aP (fun W=>(ft W w 0 p q∧w.heap.size<W.heap.size∧W.cell? (ah t 1)=some (.int .i64 (m+1))∧t<W.heap.size)) aG ?_;refine bB hCC 23 0 (.agg (fE p q)) (fun n hn=>?_) CW ?_
 ·obtain ⟨⟨n0,n1,⟨n2,n3,n4,n5,n6,n7⟩,n8,n9,n10⟩,_⟩:=hn;simp only [MG] at n1 n2 n3 n4 n5 n6 n7 n8 n9 n10;go_simp
 simp only [Act.put,pA,pB,pC];refine bB hCC 24 1 (ah t 0) (fun n hn=>?_) CW ?_
 ·go_simp
 simp only [Act.put,pA,pB,pC];refine bB hCC 25 2 (ah t 0) (fun n hn=>?_) CW ?_
 ·go_simp
 simp only [Act.put,pA,pB,pC];refine bB hCC 26 3 (ah t 1) (fun n hn=>?_) CW ?_
 ·go_simp
 simp only [Act.put,pA,pB,pC];refine bB hCC 27 4 (.int .i64 (m+1)) (fun n hn=>?_) CW ?_
 ·have hc:=hn.2.2.1;go_simp
 simp only [Act.put,pA,pB,pC];refine bB hCC 28 5 d (fun n hn=>?_) CW ?_
 ·go_simp
 simp only [Act.put,pA,pB,pC];refine gp 6 aG fun w1 hb1=>?_
 have CW1:=hCC _ _ CW hb1;have con:=ue p q (m+1) d w1;unfold fw at con;generalize hw0:eF p.k p.ks.length (m+1) d=e0 at *;have HW:Hid (eF p.k p.ks.length (m+1) d=e0):=hw0;clear hw0;refine wpOp_step rfl (fun K hK=>?_);go_simp;refine bC con fun w2 hb2=>?_;clear con;have CW2:=hCC _ _ CW1 hb2;refine hK _ _ ⟨CW2,?_⟩;clear hK K CW1 CW;refine bB hCC 8 7 e0 (fun n hn=>?_) CW2 ?_
 ·go_simp
 simp only [Act.put,pA,pB,pC];refine cA aG ?_;intro w3 hb3';have hb3:=chain hd (chain hb1 (chain hb2 hb3'));clear CW2 hCC hb3' hb2 hb1 hd;have T3:=T0.next hb3;have E3:=EA.next hb3 ag;have QR:=(hb3.block _ ag).trans QR;have X3:=X0.trans (aw.of hb3 ag);have z3:=hb3.size;clear T0 EA X0;by_cases hw:e0=0;rotate_left
 ·have er:r=(e0,m+1):=by rw [← HR.out,kN (by rw [HW.out]; exact hw),HW.out]
  subst er;have HEr:¬ e0=0:=hw;have hwb:(e0 != 0)=true:=by simpa using hw
  clear HR hw;have d0:w3.cell? (ah (w+1) 0)=some (.int .i64 0):=cell_of (i:=0) QR rfl;have f0:w3.frozen? (ah (w+1) 0)=false:=MB w3 (w+1) 0 _ _ QR;have d1:w3.cell? (ah (w+1) 1)=some (.int .i64 0):=cell_of (i:=1) QR rfl;have f1:w3.frozen? (ah (w+1) 1)=false:=MB w3 (w+1) 1 _ _ QR;have d2:w3.cell? (ah (w+1) 2)=some (.int .i64 0):=cell_of (i:=2) QR rfl;have f2:w3.frozen? (ah (w+1) 2)=false:=MB w3 (w+1) 2 _ _ QR
  have d3:w3.cell? (ah (w+1) 3)=some (.int .i64 0):=cell_of (i:=3) QR rfl;have f3:w3.frozen? (ah (w+1) 3)=false:=MB w3 (w+1) 3 _ _ QR;have d4:w3.cell? (ah (w+1) 4)=some (.int .i64 0):=cell_of (i:=4) QR rfl;have f4:w3.frozen? (ah (w+1) 4)=false:=MB w3 (w+1) 4 _ _ QR;have d5:w3.cell? (ah (w+1) 5)=some (.string ⟨#[]⟩):=cell_of (i:=5) QR rfl;have f5:w3.frozen? (ah (w+1) 5)=false:=MB w3 (w+1) 5 _ _ QR
  have d6:w3.cell? (ah (w+1) 6)=some (.int .i64 0):=cell_of (i:=6) QR rfl;have f6:w3.frozen? (ah (w+1) 6)=false:=MB w3 (w+1) 6 _ _ QR;have d7:w3.cell? (ah (w+1) 7)=some (.slice none 0 0):=cell_of (i:=7) QR rfl;have f7:w3.frozen? (ah (w+1) 7)=false:=MB w3 (w+1) 7 _ _ QR;have d8:w3.cell? (ah (w+1) 8)=some (.slice none 0 0):=cell_of (i:=8) QR rfl;have f8:w3.frozen? (ah (w+1) 8)=false:=MB w3 (w+1) 8 _ _ QR
  have d9:w3.cell? (ah (w+1) 9)=some (.slice none 0 0):=cell_of (i:=9) QR rfl;have f9:w3.frozen? (ah (w+1) 9)=false:=MB w3 (w+1) 9 _ _ QR;have d10:w3.cell? (ah (w+1) 10)=some (.slice none 0 0):=cell_of (i:=10) QR rfl;have f10:w3.frozen? (ah (w+1) 10)=false:=MB w3 (w+1) 10 _ _ QR;have d11:w3.cell? (ah (w+1) 11)=some (.slice none 0 0):=cell_of (i:=11) QR rfl;have f11:w3.frozen? (ah (w+1) 11)=false:=MB w3 (w+1) 11 _ _ QR
  have d12:w3.cell? (ah (w+1) 12)=some (.slice none 0 0):=cell_of (i:=12) QR rfl;have f12:w3.frozen? (ah (w+1) 12)=false:=MB w3 (w+1) 12 _ _ QR;have XE:=kC (w+1) (NL _) (M5 htw) qX w3 0 X3;have TE:j9 (dI w3 (w+1) 0 qX) t ta ts.length tc _:=j9.all T3 (w+1) ag qX 0;clear QR;go_wp2_with fail
  exact MA (v:=.tuple #[zV,e0]) (by simp [results,results65,go_sem,zV,d0,d1,d2,d3,d4,d5,d6,d7,d8,d9,d10,d11,d12]) rfl ⟨rfl,XE,TE⟩
 subst hw;obtain ⟨hln,hk1,hk13,hm1,hd1⟩:=jM HW.out;have hl2:p.ks.length≤2:=by rw [hln]; exact mn _
 have HL:Hid (p.ks.length=fk p.k):=hln;have hmk:=zZ hl2;clear hln;have Bm:=E3.Bm;simp only [MG] at Bm;have zl:w.heap.size<w3.heap.size:=by omega
 go_wp2_with fail
 have hal4:=aN w3 (.cells (oI p.ks.length) 79);have KT:=Di.new ts (B:=B) (lo:=w3.heap.size+1) w3 p.ks ag (Nat.lt_succ_self _) 79;have T4:=T3.next hal4;have E4:=E3.next hal4 ag;have QR4:=iX hal4 QR;have X4:=X3.trans (aw.of hal4 ag);have hgw:w.heap.size+1<w3.heap.size:=by omega
 clear T3 E3 QR X3 hmk Bm hal4;generalize w3.alloc (.cells (oI p.ks.length) 79)=w4 at *;generalize w3.heap.size=g at *
 go_loopw [41] (fun i wr=>∃ (j:Nat) (mq:Int),j≤p.ks.length∧i = .int .i64 j∧0≤mq∧mq≤60∧Hid (bo ts p.ks (m+1) (d+1)=bo ts (p.ks.drop j) mq (d+1))∧aw t w wr∧j9 wr t ta ts.length tc mq∧ft wr w 0 p q∧wr.heap[w.heap.size+1]? = some (.cells #[aD,aD,aD,aD,aD,(),aD,bX,bX,bX,bX,bX,bX] 79 (0,0))∧Di ts B (g+1) g wr p.ks j) (fun i _=>p.ks.length - (intOf i).toNat)
 case atStart=>exact ⟨0,m+1,MD _,rfl,by omega,hm1,rfl,X4,T4,E4,QR4,KT⟩
 case round =>
  obtain ⟨j,mq,hj,rfl,hq0,hq,HE,hX,hTy,hE,QR,hKT⟩:=hrel;clear X4 T4 E4 QR4 KT;have hz:=hX.size;have hgl:=hKT.lt;by_cases hlt:j<p.ks.length
  ·obtain ⟨b,off,q1,eka,hbl,EL,PB⟩:=(nn.next (hX.below hBt) (Mx _) hp.ks).elem hlt;obtain ⟨y0,y1,⟨y2,y3,y4,y5,y6,y7⟩,y8,y9,y10⟩:=EL;have hjz:(j:Int)<(p.ks.length:Int):=by omega
   have hal:=aN wr (.cells #[.int .i64 p.ks[j].k,.int .i64 p.ks[j].n,.int .i64 p.ks[j].x.k,.int .i64 p.ks[j].x.v.1,.int .i64 p.ks[j].x.v.2.1,.string p.ks[j].x.v.2.2,.int .i64 p.ks[j].x.c,.slice q1.xa p.ks[j].x.ks.length q1.xc,.slice q1.sa p.ks[j].xs.length q1.sc,.slice q1.ga p.ks[j].gs.length q1.gc,.slice q1.ka p.ks[j].ks.length q1.kc] 31)
   have zk:(wr.alloc (.cells #[.int .i64 p.ks[j].k,.int .i64 p.ks[j].n,.int .i64 p.ks[j].x.k,.int .i64 p.ks[j].x.v.1,.int .i64 p.ks[j].x.v.2.1,.string p.ks[j].x.v.2.2,.int .i64 p.ks[j].x.c,.slice q1.xa p.ks[j].x.ks.length q1.xc,.slice q1.sa p.ks[j].xs.length q1.sc,.slice q1.ga p.ks[j].gs.length q1.gc,.slice q1.ka p.ks[j].ks.length q1.kc] 31)).heap.size=wr.heap.size+1:=by simp
   have hBr:B≤wr.heap.size:=by omega
   have con:=IH.out p.ks[j] (MC hlt) B t ta tc q1 mq (d+1) _ (PB.next hal hBr) ((hT.next (hX.below hBt) (Mx _)).next hal hBr) hBt (hTy.next hal) hq0 hq ag ag (HK.out.ks _ (MC hlt));unfold fw at con;go_upto_region 9 with fail
   clear y0 y1 y2 y3 y4 y5 y6 y7 y8 y9 y10;have EK:=ft.new wr p.ks[j] q1 31;generalize wr.alloc (.cells #[.int .i64 p.ks[j].k,.int .i64 p.ks[j].n,.int .i64 p.ks[j].x.k,.int .i64 p.ks[j].x.v.1,.int .i64 p.ks[j].x.v.2.1,.string p.ks[j].x.v.2.2,.int .i64 p.ks[j].x.c,.slice q1.xa p.ks[j].x.ks.length q1.xc,.slice q1.sa p.ks[j].xs.length q1.sc,.slice q1.ga p.ks[j].gs.length q1.gc,.slice q1.ka p.ks[j].ks.length q1.kc] 31)=wk at *;obtain ⟨y0,y1,⟨y2,y3,y4,y5,y6,y7⟩,y8,y9,y10⟩:=EK;simp only [MG] at y1 y2 y3 y4 y5 y6 y7 y8 y9 y10;go_wp2_with fail
   refine con.mono ?_;rintro e w5 ⟨⟨v5,rfl,hok,hbad⟩,hX5,hT5⟩;clear con y0 y1 y2 y3 y4 y5 y6 y7 y8 y9 y10;have XK:=aw.of (t:=t) hal ag;have X5:=XK.trans hX5;have X5w:=hX.trans X5;have KT5:=hKT.next X5 hBt ag;have E5:=hE.mx X5 ag ag;have QR5:=(X5.2 _ (an QR) ag).trans QR;have hz5:=hX5.size;generalize hly:bD ts p.ks[j] mq (d+1)=ly at *;have HY:Hid (bD ts p.ks[j] mq (d+1)=ly):=hly;obtain ⟨e1,n1⟩:=ly;clear hly hKT hE QR hTy hX XK hX5;by_cases he:e1=0
   ·subst he;obtain ⟨ca,cc,na,nc,rfl,ND⟩:=hok rfl;have hn1:=wj ts p.ks[j] mq (d+1) (by rw [HY.out]);rw [HY.out] at hn1;have HN:Hid (mq<n1∧n1≤60):=hn1;have HE':Hid (bo ts p.ks (m+1) (d+1)=bo ts (p.ks.drop (j+1)) n1 (d+1)):=by
     show _=_;rw [HE.out,yO hlt (by rw [HY.out]),HY.out]
    have hal6:=aN w5 (.cells #[.int .i64 p.ks[j].k,.int .i64 p.ks[j].n,.int .i64 p.ks[j].x.k,.int .i64 p.ks[j].x.v.1,.int .i64 p.ks[j].x.v.2.1,.string p.ks[j].x.v.2.2,.int .i64 p.ks[j].x.c,.slice q1.xa p.ks[j].x.ks.length q1.xc,.slice q1.sa p.ks[j].xs.length q1.sc,.slice q1.ga p.ks[j].gs.length q1.gc,.slice q1.ka p.ks[j].ks.length q1.kc,.slice ca (aA ts p.ks[j]).length cc,.slice na p.ks[j].ks.length nc] 79);have X6:=aw.of (t:=t) hal6 ag;have KT6:=KT5.next X6 hBt ag
    have ND6:=(ND.wide (lo':=g+1) ag).next (Kept.of hal6 ag);have T6:=hT5.next hal6;have E6:=E5.mx X6 ag ag;have QR6:=(X6.2 _ (an QR5) ag).trans QR5;have X6w:=X5w.trans X6;have hz6:=hal6.size
    have Q6:=bq w5 #[.int .i64 p.ks[j].k,.int .i64 p.ks[j].n,.int .i64 p.ks[j].x.k,.int .i64 p.ks[j].x.v.1,.int .i64 p.ks[j].x.v.2.1,.string p.ks[j].x.v.2.2,.int .i64 p.ks[j].x.c,.slice q1.xa p.ks[j].x.ks.length q1.xc,.slice q1.sa p.ks[j].xs.length q1.sc,.slice q1.ga p.ks[j].gs.length q1.gc,.slice q1.ka p.ks[j].ks.length q1.kc,.slice ca (aA ts p.ks[j]).length cc,.slice na p.ks[j].ks.length nc] 79;have hj13:j*13+13≤p.ks.length*13:=by
     have:(j+1)*13≤p.ks.length*13:=Nat.mul_le_mul_right 13 hlt;omega
    unfold vJ;clear hn1 HE HY hok hbad KT5 ND hT5 E5 QR5 X5w X5 X6;go_upto_region 12 with fail
    generalize w5.alloc (.cells #[.int .i64 p.ks[j].k,.int .i64 p.ks[j].n,.int .i64 p.ks[j].x.k,.int .i64 p.ks[j].x.v.1,.int .i64 p.ks[j].x.v.2.1,.string p.ks[j].x.v.2.2,.int .i64 p.ks[j].x.c,.slice q1.xa p.ks[j].x.ks.length q1.xc,.slice q1.sa p.ks[j].xs.length q1.sc,.slice q1.ga p.ks[j].gs.length q1.gc,.slice q1.ka p.ks[j].ks.length q1.kc,.slice ca (aA ts p.ks[j]).length cc,.slice na p.ks[j].ks.length nc] 79)=w6 at *;obtain ⟨u0',r0⟩:=KT6.room (j*13) ag;have g0:=KT6.fz (j*13);obtain ⟨u1',r1⟩:=KT6.room (j*13+1) ag;have g1:=KT6.fz (j*13+1)
    obtain ⟨u2',r2⟩:=KT6.room (j*13+2) ag;have g2:=KT6.fz (j*13+2);obtain ⟨u3',r3⟩:=KT6.room (j*13+3) ag;have g3:=KT6.fz (j*13+3);obtain ⟨u4',r4⟩:=KT6.room (j*13+4) ag;have g4:=KT6.fz (j*13+4);obtain ⟨u5',r5⟩:=KT6.room (j*13+5) ag;have g5:=KT6.fz (j*13+5);obtain ⟨u6',r6⟩:=KT6.room (j*13+6) ag;have g6:=KT6.fz (j*13+6);obtain ⟨u7',r7⟩:=KT6.room (j*13+7) ag;have g7:=KT6.fz (j*13+7);obtain ⟨u8',r8⟩:=KT6.room (j*13+8) ag;have g8:=KT6.fz (j*13+8);obtain ⟨u9',r9⟩:=KT6.room (j*13+9) ag;have g9:=KT6.fz (j*13+9)
    obtain ⟨u10',r10⟩:=KT6.room (j*13+10) ag;have g10:=KT6.fz (j*13+10);obtain ⟨u11',r11⟩:=KT6.room (j*13+11) ag;have g11:=KT6.fz (j*13+11);obtain ⟨u12',r12⟩:=KT6.room (j*13+12) ag;have g12:=KT6.fz (j*13+12);have m0:=cell_of (i:=0) Q6 rfl;have m1:=cell_of (i:=1) Q6 rfl;have m2:=cell_of (i:=2) Q6 rfl;have m3:=cell_of (i:=3) Q6 rfl;have m4:=cell_of (i:=4) Q6 rfl;have m5:=cell_of (i:=5) Q6 rfl;have m6:=cell_of (i:=6) Q6 rfl;have m7:=cell_of (i:=7) Q6 rfl;have m8:=cell_of (i:=8) Q6 rfl;have m9:=cell_of (i:=9) Q6 rfl;have m10:=cell_of (i:=10) Q6 rfl
    have m11:=cell_of (i:=11) Q6 rfl;have m12:=cell_of (i:=12) Q6 rfl;go_wp2_with fail
    have FX:aw t w ((((((((((((((w6).setCell ⟨g,j*13,none⟩ (.int .i64 p.ks[j].k)).setCell ⟨g,j*13+1,none⟩ (.int .i64 p.ks[j].n)).setCell ⟨g,j*13+2,none⟩ (.int .i64 p.ks[j].x.k)).setCell ⟨g,j*13+3,none⟩ (.int .i64 p.ks[j].x.v.1)).setCell ⟨g,j*13+4,none⟩ (.int .i64 p.ks[j].x.v.2.1)).setCell ⟨g,j*13+5,none⟩ (.string p.ks[j].x.v.2.2)).setCell ⟨g,j*13+6,none⟩ (.int .i64 p.ks[j].x.c)).setCell ⟨g,j*13+7,none⟩ (.slice q1.xa p.ks[j].x.ks.length q1.xc)).setCell ⟨g,j*13+8,none⟩ (.slice q1.sa p.ks[j].xs.length q1.sc)).setCell ⟨g,j*13+9,none⟩ (.slice q1.ga p.ks[j].gs.length q1.gc)).setCell ⟨g,j*13+10,none⟩ (.slice q1.ka p.ks[j].ks.length q1.kc)).setCell ⟨g,j*13+11,none⟩ (.slice ca (aA ts p.ks[j]).length cc)).setCell ⟨g,j*13+12,none⟩ (.slice na p.ks[j].ks.length nc)):=kC g ag ag (yz p.ks[j] q1 ca (aA ts p.ks[j]).length cc na nc) w6 (j*13) X6w
    have FT:j9 ((((((((((((((w6).setCell ⟨g,j*13,none⟩ (.int .i64 p.ks[j].k)).setCell ⟨g,j*13+1,none⟩ (.int .i64 p.ks[j].n)).setCell ⟨g,j*13+2,none⟩ (.int .i64 p.ks[j].x.k)).setCell ⟨g,j*13+3,none⟩ (.int .i64 p.ks[j].x.v.1)).setCell ⟨g,j*13+4,none⟩ (.int .i64 p.ks[j].x.v.2.1)).setCell ⟨g,j*13+5,none⟩ (.string p.ks[j].x.v.2.2)).setCell ⟨g,j*13+6,none⟩ (.int .i64 p.ks[j].x.c)).setCell ⟨g,j*13+7,none⟩ (.slice q1.xa p.ks[j].x.ks.length q1.xc)).setCell ⟨g,j*13+8,none⟩ (.slice q1.sa p.ks[j].xs.length q1.sc)).setCell ⟨g,j*13+9,none⟩ (.slice q1.ga p.ks[j].gs.length q1.gc)).setCell ⟨g,j*13+10,none⟩ (.slice q1.ka p.ks[j].ks.length q1.kc)).setCell ⟨g,j*13+11,none⟩ (.slice ca (aA ts p.ks[j]).length cc)).setCell ⟨g,j*13+12,none⟩ (.slice na p.ks[j].ks.length nc)) t ta ts.length tc n1:=j9.all T6 g ag (yz p.ks[j] q1 ca (aA ts p.ks[j]).length cc na nc) (j*13)
    have FE:ft ((((((((((((((w6).setCell ⟨g,j*13,none⟩ (.int .i64 p.ks[j].k)).setCell ⟨g,j*13+1,none⟩ (.int .i64 p.ks[j].n)).setCell ⟨g,j*13+2,none⟩ (.int .i64 p.ks[j].x.k)).setCell ⟨g,j*13+3,none⟩ (.int .i64 p.ks[j].x.v.1)).setCell ⟨g,j*13+4,none⟩ (.int .i64 p.ks[j].x.v.2.1)).setCell ⟨g,j*13+5,none⟩ (.string p.ks[j].x.v.2.2)).setCell ⟨g,j*13+6,none⟩ (.int .i64 p.ks[j].x.c)).setCell ⟨g,j*13+7,none⟩ (.slice q1.xa p.ks[j].x.ks.length q1.xc)).setCell ⟨g,j*13+8,none⟩ (.slice q1.sa p.ks[j].xs.length q1.sc)).setCell ⟨g,j*13+9,none⟩ (.slice q1.ga p.ks[j].gs.length q1.gc)).setCell ⟨g,j*13+10,none⟩ (.slice q1.ka p.ks[j].ks.length q1.kc)).setCell ⟨g,j*13+11,none⟩ (.slice ca (aA ts p.ks[j]).length cc)).setCell ⟨g,j*13+12,none⟩ (.slice na p.ks[j].ks.length nc)) w 0 p q:=E6.all g ag (yz p.ks[j] q1 ca (aA ts p.ks[j]).length cc na nc) (j*13)
    have FQ:((((((((((((((w6).setCell ⟨g,j*13,none⟩ (.int .i64 p.ks[j].k)).setCell ⟨g,j*13+1,none⟩ (.int .i64 p.ks[j].n)).setCell ⟨g,j*13+2,none⟩ (.int .i64 p.ks[j].x.k)).setCell ⟨g,j*13+3,none⟩ (.int .i64 p.ks[j].x.v.1)).setCell ⟨g,j*13+4,none⟩ (.int .i64 p.ks[j].x.v.2.1)).setCell ⟨g,j*13+5,none⟩ (.string p.ks[j].x.v.2.2)).setCell ⟨g,j*13+6,none⟩ (.int .i64 p.ks[j].x.c)).setCell ⟨g,j*13+7,none⟩ (.slice q1.xa p.ks[j].x.ks.length q1.xc)).setCell ⟨g,j*13+8,none⟩ (.slice q1.sa p.ks[j].xs.length q1.sc)).setCell ⟨g,j*13+9,none⟩ (.slice q1.ga p.ks[j].gs.length q1.gc)).setCell ⟨g,j*13+10,none⟩ (.slice q1.ka p.ks[j].ks.length q1.kc)).setCell ⟨g,j*13+11,none⟩ (.slice ca (aA ts p.ks[j]).length cc)).setCell ⟨g,j*13+12,none⟩ (.slice na p.ks[j].ks.length nc)).heap[w.heap.size+1]? = some (.cells #[aD,aD,aD,aD,aD,(),aD,bX,bX,bX,bX,bX,bX] 79 (0,0)):=(oz g (w+1) ag (yz p.ks[j] q1 ca (aA ts p.ks[j]).length cc na nc) w6 (j*13) (an QR6)).trans QR6
    have FK:Di ts B (g+1) g ((((((((((((((w6).setCell ⟨g,j*13,none⟩ (.int .i64 p.ks[j].k)).setCell ⟨g,j*13+1,none⟩ (.int .i64 p.ks[j].n)).setCell ⟨g,j*13+2,none⟩ (.int .i64 p.ks[j].x.k)).setCell ⟨g,j*13+3,none⟩ (.int .i64 p.ks[j].x.v.1)).setCell ⟨g,j*13+4,none⟩ (.int .i64 p.ks[j].x.v.2.1)).setCell ⟨g,j*13+5,none⟩ (.string p.ks[j].x.v.2.2)).setCell ⟨g,j*13+6,none⟩ (.int .i64 p.ks[j].x.c)).setCell ⟨g,j*13+7,none⟩ (.slice q1.xa p.ks[j].x.ks.length q1.xc)).setCell ⟨g,j*13+8,none⟩ (.slice q1.sa p.ks[j].xs.length q1.sc)).setCell ⟨g,j*13+9,none⟩ (.slice q1.ga p.ks[j].gs.length q1.gc)).setCell ⟨g,j*13+10,none⟩ (.slice q1.ka p.ks[j].ks.length q1.kc)).setCell ⟨g,j*13+11,none⟩ (.slice ca (aA ts p.ks[j]).length cc)).setCell ⟨g,j*13+12,none⟩ (.slice na p.ks[j].ks.length nc)) p.ks (j+1):=KT6.store hlt ND6
    generalize (((((((((((((w6).setCell ⟨g,j*13,none⟩ (.int .i64 p.ks[j].k)).setCell ⟨g,j*13+1,none⟩ (.int .i64 p.ks[j].n)).setCell ⟨g,j*13+2,none⟩ (.int .i64 p.ks[j].x.k)).setCell ⟨g,j*13+3,none⟩ (.int .i64 p.ks[j].x.v.1)).setCell ⟨g,j*13+4,none⟩ (.int .i64 p.ks[j].x.v.2.1)).setCell ⟨g,j*13+5,none⟩ (.string p.ks[j].x.v.2.2)).setCell ⟨g,j*13+6,none⟩ (.int .i64 p.ks[j].x.c)).setCell ⟨g,j*13+7,none⟩ (.slice q1.xa p.ks[j].x.ks.length q1.xc)).setCell ⟨g,j*13+8,none⟩ (.slice q1.sa p.ks[j].xs.length q1.sc)).setCell ⟨g,j*13+9,none⟩ (.slice q1.ga p.ks[j].gs.length q1.gc)).setCell ⟨g,j*13+10,none⟩ (.slice q1.ka p.ks[j].ks.length q1.kc)).setCell ⟨g,j*13+11,none⟩ (.slice ca (aA ts p.ks[j]).length cc)).setCell ⟨g,j*13+12,none⟩ (.slice na p.ks[j].ks.length nc)=w7 at *
    clear KT6 ND6 T6 E6 QR6 X6w Q6;clear r0 g0 m0 r1 g1 m1 r2 g2 m2 r3 g3 m3 r4 g4 m4 r5 g5 m5 r6 g6 m6 r7 g7 m7 r8 g8 m8 r9 g9 m9 r10 g10 m10 r11 g11 m11 r12 g12 m12;rw [← eka];go_roundw
    case rel=>exact ⟨j+1,n1,by omega,by go_num,by have:=HN.out; omega,HN.out.2,HE',FX,FT,FE,FQ,FK⟩
    case measure=>simp [intOf]; omega
   ·have er:r=(e1,n1):=by
     rw [← HR.out,vO HW.out (by rw [HE.out,tC hlt (by rw [HY.out]; exact he),HY.out]; exact he),HE.out,tC hlt (by rw [HY.out]; exact he),HY.out]
    subst er;obtain rfl:=hbad he;have HEr:¬ e1=0:=he;have heb:(e1 != 0)=true:=by simpa using he
    have hal6:=aN w5 (.cells #[aD,aD,aD,aD,aD,(),aD,bX,bX,bX,bX,bX,bX] 79);have QR:=iX hal6 QR5;have T6:=hT5.next hal6;have X6:=X5w.trans (aw.of hal6 ag);clear HR he hok hbad HE HY KT5 QR5 hT5 X5w X5 E5;unfold zV;go_upto_region 10 with fail
    generalize w5.alloc (.cells #[aD,aD,aD,aD,aD,(),aD,bX,bX,bX,bX,bX,bX] 79)=w6 at *;have d0:w6.cell? (ah (w+1) 0)=some (.int .i64 0):=cell_of (i:=0) QR rfl;have f0:w6.frozen? (ah (w+1) 0)=false:=MB w6 (w+1) 0 _ _ QR;have d1:w6.cell? (ah (w+1) 1)=some (.int .i64 0):=cell_of (i:=1) QR rfl;have f1:w6.frozen? (ah (w+1) 1)=false:=MB w6 (w+1) 1 _ _ QR
    have d2:w6.cell? (ah (w+1) 2)=some (.int .i64 0):=cell_of (i:=2) QR rfl;have f2:w6.frozen? (ah (w+1) 2)=false:=MB w6 (w+1) 2 _ _ QR;have d3:w6.cell? (ah (w+1) 3)=some (.int .i64 0):=cell_of (i:=3) QR rfl;have f3:w6.frozen? (ah (w+1) 3)=false:=MB w6 (w+1) 3 _ _ QR;have d4:w6.cell? (ah (w+1) 4)=some (.int .i64 0):=cell_of (i:=4) QR rfl;have f4:w6.frozen? (ah (w+1) 4)=false:=MB w6 (w+1) 4 _ _ QR
    have d5:w6.cell? (ah (w+1) 5)=some (.string ⟨#[]⟩):=cell_of (i:=5) QR rfl;have f5:w6.frozen? (ah (w+1) 5)=false:=MB w6 (w+1) 5 _ _ QR;have d6:w6.cell? (ah (w+1) 6)=some (.int .i64 0):=cell_of (i:=6) QR rfl;have f6:w6.frozen? (ah (w+1) 6)=false:=MB w6 (w+1) 6 _ _ QR;have d7:w6.cell? (ah (w+1) 7)=some (.slice none 0 0):=cell_of (i:=7) QR rfl;have f7:w6.frozen? (ah (w+1) 7)=false:=MB w6 (w+1) 7 _ _ QR
    have d8:w6.cell? (ah (w+1) 8)=some (.slice none 0 0):=cell_of (i:=8) QR rfl;have f8:w6.frozen? (ah (w+1) 8)=false:=MB w6 (w+1) 8 _ _ QR;have d9:w6.cell? (ah (w+1) 9)=some (.slice none 0 0):=cell_of (i:=9) QR rfl;have f9:w6.frozen? (ah (w+1) 9)=false:=MB w6 (w+1) 9 _ _ QR;have d10:w6.cell? (ah (w+1) 10)=some (.slice none 0 0):=cell_of (i:=10) QR rfl;have f10:w6.frozen? (ah (w+1) 10)=false:=MB w6 (w+1) 10 _ _ QR
    have d11:w6.cell? (ah (w+1) 11)=some (.slice none 0 0):=cell_of (i:=11) QR rfl;have f11:w6.frozen? (ah (w+1) 11)=false:=MB w6 (w+1) 11 _ _ QR;have d12:w6.cell? (ah (w+1) 12)=some (.slice none 0 0):=cell_of (i:=12) QR rfl;have f12:w6.frozen? (ah (w+1) 12)=false:=MB w6 (w+1) 12 _ _ QR;have XE:=kC (w+1) (NL _) (M5 htw) qX w6 0 X6;have TE:j9 (dI w6 (w+1) 0 qX) t ta ts.length tc _:=j9.all T6 (w+1) ag qX 0;clear QR;go_wp2_with fail
    exact MA (v:=.tuple #[zV,e1]) (by simp [results,results65,go_sem,zV,d0,d1,d2,d3,d4,d5,d6,d7,d8,d9,d10,d11,d12]) rfl ⟨rfl,XE,TE⟩
  ·have e:j=p.ks.length:=by omega
   have hends:bo ts p.ks (m+1) (d+1)=(0,mq):=by rw [HE.out,AQ ag]
   have er:r=(hM ts p.k p.n p.x p.xs p.gs (p.ks.map (aA ts)),mq):=by rw [← HR.out,vd HW.out (by rw [hends]),hends]
   have K8:Hid (∀ r ∈ p.ks,(aA ts r).length≤8):=fun r hr=>by
    obtain ⟨m',hm'⟩:=kW (ts:=ts) (ks:=p.ks) (m:=m+1) (d:=d+1) (by rw [hends]) r hr;exact oF HT.out r m' _ hm'
   subst e;have hns:=hKT.ns (lo':=w.heap.size+2) ag;have con:=Fj ts B (w+2) t ta tc p q (some (ah g 0)) p.ks.length wr hBt ag ag hTy.c0 (hT.next (hX.below hBt) (Mx _)) (hp.next (hX.below hBt) (Mx _)) hns HK.out HL.out K8.out;have HC:Hid (aA ts p=nH ts p.k p.n p.xs p.gs (p.ks.map (aA ts))):=yG ts p;rw [← HC.out] at con;generalize hM ts p.k p.n p.x p.xs p.gs (p.ks.map (aA ts))=en at *;subst er;unfold fw at con;have hE':=hE;obtain ⟨y0,y1,⟨y2,y3,y4,y5,y6,y7⟩,y8,y9,y10⟩:=hE'
   simp only [MG] at y1 y2 y3 y4 y5 y6 y7 y8 y9 y10;clear HR HE hends K8 hKT;go_wp2_with fail
   refine con.mono ?_;rintro e w7 ⟨⟨ca,cc,rfl,IC⟩,hb7⟩;clear con y0 y1 y2 y3 y4 y5 y6 y7 y8 y9 y10;have X7:=hX.trans (aw.of hb7 ag);have T7:=hTy.next hb7;have E7:=hE.next hb7 ag;have QR:=iX hb7 QR;have hns7:=rS.next (Kept.of hb7 ag) hns;have hp7:=(hp.next (hX.below hBt) (Mx _)).next hb7 ag;have hz7:=hb7.size;clear hns hE hTy hX;dsimp only;by_cases hen:en=0;rotate_left
   ·have HEr:¬ en=0:=hen;have heb:(en != 0)=true:=by simpa using hen
    rw [if_neg hen];clear IC hen;have d0:w7.cell? (ah (w+1) 0)=some (.int .i64 0):=cell_of (i:=0) QR rfl;have f0:w7.frozen? (ah (w+1) 0)=false:=MB w7 (w+1) 0 _ _ QR;have d1:w7.cell? (ah (w+1) 1)=some (.int .i64 0):=cell_of (i:=1) QR rfl;have f1:w7.frozen? (ah (w+1) 1)=false:=MB w7 (w+1) 1 _ _ QR;have d2:w7.cell? (ah (w+1) 2)=some (.int .i64 0):=cell_of (i:=2) QR rfl;have f2:w7.frozen? (ah (w+1) 2)=false:=MB w7 (w+1) 2 _ _ QR
    have d3:w7.cell? (ah (w+1) 3)=some (.int .i64 0):=cell_of (i:=3) QR rfl;have f3:w7.frozen? (ah (w+1) 3)=false:=MB w7 (w+1) 3 _ _ QR;have d4:w7.cell? (ah (w+1) 4)=some (.int .i64 0):=cell_of (i:=4) QR rfl;have f4:w7.frozen? (ah (w+1) 4)=false:=MB w7 (w+1) 4 _ _ QR;have d5:w7.cell? (ah (w+1) 5)=some (.string ⟨#[]⟩):=cell_of (i:=5) QR rfl;have f5:w7.frozen? (ah (w+1) 5)=false:=MB w7 (w+1) 5 _ _ QR
    have d6:w7.cell? (ah (w+1) 6)=some (.int .i64 0):=cell_of (i:=6) QR rfl;have f6:w7.frozen? (ah (w+1) 6)=false:=MB w7 (w+1) 6 _ _ QR;have d7:w7.cell? (ah (w+1) 7)=some (.slice none 0 0):=cell_of (i:=7) QR rfl;have f7:w7.frozen? (ah (w+1) 7)=false:=MB w7 (w+1) 7 _ _ QR;have d8:w7.cell? (ah (w+1) 8)=some (.slice none 0 0):=cell_of (i:=8) QR rfl;have f8:w7.frozen? (ah (w+1) 8)=false:=MB w7 (w+1) 8 _ _ QR
    have d9:w7.cell? (ah (w+1) 9)=some (.slice none 0 0):=cell_of (i:=9) QR rfl;have f9:w7.frozen? (ah (w+1) 9)=false:=MB w7 (w+1) 9 _ _ QR;have d10:w7.cell? (ah (w+1) 10)=some (.slice none 0 0):=cell_of (i:=10) QR rfl;have f10:w7.frozen? (ah (w+1) 10)=false:=MB w7 (w+1) 10 _ _ QR;have d11:w7.cell? (ah (w+1) 11)=some (.slice none 0 0):=cell_of (i:=11) QR rfl;have f11:w7.frozen? (ah (w+1) 11)=false:=MB w7 (w+1) 11 _ _ QR
    have d12:w7.cell? (ah (w+1) 12)=some (.slice none 0 0):=cell_of (i:=12) QR rfl;have f12:w7.frozen? (ah (w+1) 12)=false:=MB w7 (w+1) 12 _ _ QR;have XE:=kC (w+1) (NL _) (M5 htw) qX w7 0 X7;have TE:j9 (dI w7 (w+1) 0 qX) t ta ts.length tc _:=j9.all T7 (w+1) ag qX 0;clear QR;go_wp2_with fail
    exact MA (v:=.tuple #[zV,en]) (by simp [results,results65,go_sem,zV,d0,d1,d2,d3,d4,d5,d6,d7,d8,d9,d10,d11,d12]) rfl ⟨rfl,XE,TE⟩
   subst hen;rw [if_pos rfl] at IC ⊢;obtain ⟨y0,y1,⟨y2,y3,y4,y5,y6,y7⟩,y8,y9,y10⟩:=E7;simp only [MG] at y1 y2 y3 y4 y5 y6 y7 y8 y9 y10;have ND7:EM ts B (w+2) w7 p q ca (some (ah g 0)):=⟨hp7,IC,hns7⟩
   have NDE:=(ND7.next (kh (w+1) ag ag (yz p q ca (aA ts p).length cc (some (ah g 0)) p.ks.length) w7 0 (Kept.refl _ _ _))).wide (lo':=w.heap.size) ag;have XE:=kC (w+1) (NL _) (M5 htw) (yz p q ca (aA ts p).length cc (some (ah g 0)) p.ks.length) w7 0 X7;have TE:j9 (dI w7 (w+1) 0 (yz p q ca (aA ts p).length cc (some (ah g 0)) p.ks.length)) t ta ts.length tc _:=j9.all T7 (w+1) ag (yz p q ca (aA ts p).length cc (some (ah g 0)) p.ks.length) 0
   have d0:w7.cell? (ah (w+1) 0)=some (.int .i64 0):=cell_of (i:=0) QR rfl;have f0:w7.frozen? (ah (w+1) 0)=false:=MB w7 (w+1) 0 _ _ QR;have d1:w7.cell? (ah (w+1) 1)=some (.int .i64 0):=cell_of (i:=1) QR rfl;have f1:w7.frozen? (ah (w+1) 1)=false:=MB w7 (w+1) 1 _ _ QR;have d2:w7.cell? (ah (w+1) 2)=some (.int .i64 0):=cell_of (i:=2) QR rfl;have f2:w7.frozen? (ah (w+1) 2)=false:=MB w7 (w+1) 2 _ _ QR
   have d3:w7.cell? (ah (w+1) 3)=some (.int .i64 0):=cell_of (i:=3) QR rfl;have f3:w7.frozen? (ah (w+1) 3)=false:=MB w7 (w+1) 3 _ _ QR;have d4:w7.cell? (ah (w+1) 4)=some (.int .i64 0):=cell_of (i:=4) QR rfl;have f4:w7.frozen? (ah (w+1) 4)=false:=MB w7 (w+1) 4 _ _ QR;have d5:w7.cell? (ah (w+1) 5)=some (.string ⟨#[]⟩):=cell_of (i:=5) QR rfl;have f5:w7.frozen? (ah (w+1) 5)=false:=MB w7 (w+1) 5 _ _ QR
   have d6:w7.cell? (ah (w+1) 6)=some (.int .i64 0):=cell_of (i:=6) QR rfl;have f6:w7.frozen? (ah (w+1) 6)=false:=MB w7 (w+1) 6 _ _ QR;have d7:w7.cell? (ah (w+1) 7)=some (.slice none 0 0):=cell_of (i:=7) QR rfl;have f7:w7.frozen? (ah (w+1) 7)=false:=MB w7 (w+1) 7 _ _ QR;have d8:w7.cell? (ah (w+1) 8)=some (.slice none 0 0):=cell_of (i:=8) QR rfl;have f8:w7.frozen? (ah (w+1) 8)=false:=MB w7 (w+1) 8 _ _ QR
   have d9:w7.cell? (ah (w+1) 9)=some (.slice none 0 0):=cell_of (i:=9) QR rfl;have f9:w7.frozen? (ah (w+1) 9)=false:=MB w7 (w+1) 9 _ _ QR;have d10:w7.cell? (ah (w+1) 10)=some (.slice none 0 0):=cell_of (i:=10) QR rfl;have f10:w7.frozen? (ah (w+1) 10)=false:=MB w7 (w+1) 10 _ _ QR;have d11:w7.cell? (ah (w+1) 11)=some (.slice none 0 0):=cell_of (i:=11) QR rfl;have f11:w7.frozen? (ah (w+1) 11)=false:=MB w7 (w+1) 11 _ _ QR
   have d12:w7.cell? (ah (w+1) 12)=some (.slice none 0 0):=cell_of (i:=12) QR rfl;have f12:w7.frozen? (ah (w+1) 12)=false:=MB w7 (w+1) 12 _ _ QR;clear QR IC hns7 hp7 ND7 T7 X7;go_wp2_with fail
   exact MA (v:=.tuple #[vJ p q ca (aA ts p).length cc (some (ah g 0)) p.ks.length,aD]) (by simp [results,results65,go_sem,vJ,d0,d1,d2,d3,d4,d5,d6,d7,d8,d9,d10,d11,d12]) rfl ⟨⟨_,rfl,ca,cc,some (ah g 0),⟨p.ks.length,rfl⟩,NDE⟩,XE,TE⟩
theorem Hd (ts:List (List Int)) (hts:fg ts=0):∀ p,xe ts p:=Pl.ind fun k n x xs gs ks ih=>Iz ts hts (.mk k n x xs gs ks) ih
end Go.Proofs.YtoefpglknaiaeaaGreat
