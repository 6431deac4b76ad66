/- Together: N6, N7, N8, N9, NA, NB, NC, J14, NG. -/
import Derived.Laws.CopyOwn
import Derived.Test.YtjebpkhkjkjphaaGreatM9
import Derived.Test.YtjebpkhkjkjphaaGreatM7
namespace Go.Proofs.YtjebpkhkjkjphaaGreat
open Go.RowKit Go.Lib Go.Shelf
set_option maxRecDepth 100000
set_option maxHeartbeats 16000000
theorem pb {k:Int} {n:Nat} {m d:Int} (h:60<m∨15<d):dH k n m d=4:=by simp [dH,h]
theorem oO {k:Int} {n:Nat} {m d:Int} (h:¬ 60<m) (h':¬ 15<d) (h2:k<1∨13<k):dH k n m d=1:=by simp [dH,h,h',h2]
theorem vd {k:Int} {n:Nat} {m d:Int} (h:¬ 60<m) (h':¬ 15<d) (h2:¬ k<1) (h3:¬ 13<k) (h4:¬ n=dI k):dH k n m d=5:=by simp [dH,h,h',h2,h3,h4]
theorem Ct {k:Int} {n:Nat} {m d:Int} (h:¬ 60<m) (h':¬ 15<d) (h2:¬ k<1) (h3:¬ 13<k) (h4:n=dI k):dH k n m d=0:=by simp [dH,h,h',h2,h3,h4]
theorem pv (p:Pl) (q:Pw) (m d:Int) (w:World):Calls Tryz.prog 40 #[fp p q,.int .i64 m,.int .i64 d] w fun e w'=>e = .returned (.int .i64 (dH p.k p.ks.length m d))∧Below w.heap.size w w':=by
 unfold fp;by_cases h1:60<m;rw [pb (.inl h1)];rotate_left;by_cases h2:15<d;rw [pb (.inr h2)];rotate_left;by_cases h3:p.k<1;rw [oO h1 h2 (.inl h3)];rotate_left;by_cases h4:13<p.k;rw [oO h1 h2 (.inr h4)];rotate_left;obtain ⟨qb,hq,hn⟩:∃ qb:Bool,((p.ks.length:Int) != ((dI p.k:Nat):Int))=qb∧dH p.k p.ks.length m d=if qb then 5 else 0:=by
  by_cases h5:p.ks.length=dI p.k
  ·exact ⟨false,by simp [h5],by rw [Ct h1 h2 h3 h4 h5]; rfl⟩
  ·exact ⟨true,by simp; omega,by rw [vd h1 h2 h3 h4 h5]; rfl⟩
 rw [hn];clear hn;have hA:Below w.heap.size w (w.alloc (.cells (gq p q) 31)):=((He _ _).alloc (Hd _) _)
 have E:=gQ.new w p q 31;go_enter Tryz.func40,Tryz.ntmps40;go_wp2_with fail
 generalize w.alloc (.cells (gq p q) 31)=wA at *;have p0:=ax E.c0;have p10:=ax E.dW;simp only [Hu] at p10;haveI:Nonempty (du wA):=⟨⟨_,He _ _⟩⟩
 refine aI (by kernel_rfl) (by kernel_rfl) ?_
 repeat (go_big_quiet_step (first | (go_at_call 65; exact cS (wi _ _))))
 refine wpQuiet_nil ?_;rintro w3 ⟨⟨v3,hb3⟩,h3'⟩;obtain rfl:w3=v3:=h3';have hb:=chain hA hb3;clear p0 p10 E hA hb3;cases qb
 ·go_wp2_with fail
  go_ret;exact ⟨rfl,hb⟩
 ·go_wp2_with fail
  go_ret;exact ⟨rfl,hb⟩
 all_goals
  go_enter Tryz.func40,Tryz.ntmps40;go_wp2_with fail
  go_ret;exact ⟨rfl,((He _ _).alloc (Hd _) _)⟩
theorem j3 (w:World):bP w none []:=⟨Hl _,.inl rfl⟩
theorem py (p:Pl) (q:Pw) (af:List Int) (ca:Option Addr) (cc:Nat) (w:World) (hp:ki w.heap.size w p q) (hc:bo w.heap.size w ca af) (hn:-9223372036854775808≤p.n∧p.n≤9223372036854775807) (hs:p.xs.length+p.gs.length≤9223372036854775807) :
  Calls Tryz.prog 98 #[fp p q,.slice ca af.length cc] w fun e w'=>e = .returned (.int .i64 (fm p.k p.n p.x p.xs p.gs af))∧Below w.heap.size w w':=by
 have hA:Below w.heap.size w (w.alloc (.cells (gq p q) 31)):=((He _ _).alloc (Hd _) _)
 have E:=gQ.new w p q 31;have hpA:=(hp.next hA (Hd _)).up hA.size;have hcA:=(hc.next hA (Hd _)).up hA.size;have c2:=zL af p.x ca cc q.xa q.xc none 0 [] _ hcA hpA.x (j3 _);have c3:=E9 af p.xs ca cc q.sa q.sc none 0 [] _ hcA hpA.xs (j3 _);have c12:=Bn af p.xs p.gs (fun g _ _=>yH g.1) hs ca cc q.sa q.sc q.ga q.gc none 0 [] _ hcA hpA.xs hpA.gs (j3 _);have c13:=FL af p.xs p.n hn ca cc q.sa q.sc none 0 [] _ hcA hpA.xs (j3 _)
 have H2:Hid (p.k=2→fm p.k p.n p.x p.xs p.gs af=fR af p.x []):=fun h=>by unfold fm; rw [if_pos h]
 have H3:Hid (p.k=3→fm p.k p.n p.x p.xs p.gs af=j6 af p.xs []):=fun h=>by unfold fm; rw [if_neg (by omega),if_pos h]
 have H12:Hid (p.k=12→fm p.k p.n p.x p.xs p.gs af=dx af p.xs p.gs []):=fun h=>by unfold fm; rw [if_neg (by omega),if_neg (by omega),if_pos h]
 have H13:Hid (p.k=13→fm p.k p.n p.x p.xs p.gs af=j9 af p.xs p.n []):=fun h=>by unfold fm; rw [if_neg (by omega),if_neg (by omega),if_neg (by omega),if_pos h]
 have H0:Hid (¬ p.k=2→¬ p.k=3→¬ p.k=12→¬ p.k=13→fm p.k p.n p.x p.xs p.gs af=0):=fun h1 h2 h3 h4=>by unfold fm; rw [if_neg h1,if_neg h2,if_neg h3,if_neg h4]
 generalize fm p.k p.n p.x p.xs p.gs af=er at *;generalize fR af p.x []=e2 at *;generalize j6 af p.xs []=e3 at *;generalize dx af p.xs p.gs []=e12 at *;generalize j9 af p.xs p.n []=e13 at *;generalize mB af p.x []=z2 at *;generalize vF af p.xs []=z3 at *;generalize iZ af p.xs p.gs []=z12 at *;generalize tJ af p.xs p.n []=z13 at *;obtain ⟨p0,p1,p2,p8,p9,p10⟩:=E;obtain ⟨x0,x1,x2,x3,x4,x5⟩:=p2;simp only [Hu] at p1 x0 x1 x2 x3 x4 x5 p8 p9 p10;unfold iY at c2;unfold fp;go_enter Tryz.func98,Tryz.ntmps98;by_cases k2:p.k=2
 ·have e:=H2.out k2;subst e;have kb:(p.k == 2)=true:=by simpa using k2
  clear H2 H3 H12 H13 H0 c3 c12 c13 k2;go_wp2_with fail
  generalize w.alloc (.cells (gq p q) 31)=wA at *;refine c2.mono ?_;rintro e w5 ⟨v5,rfl,O5,hb5⟩;clear c2 O5;dsimp only;go_wp2
  go_ret;exact ⟨rfl,chain hA hb5⟩
 have b2:(p.k == 2)=false:=by rw [beq_eq_false_iff_ne]; exact k2
 by_cases k3:p.k=3
 ·have e:=H3.out k3;subst e;have kb:(p.k == 3)=true:=by simpa using k3
  clear H2 H3 H12 H13 H0 c2 c12 c13 k3 k2;go_wp2_with fail
  generalize w.alloc (.cells (gq p q) 31)=wA at *;refine c3.mono ?_;rintro e w5 ⟨v5,rfl,O5,hb5⟩;clear c3 O5;dsimp only;go_wp2
  go_ret;exact ⟨rfl,chain hA hb5⟩
 have b3:(p.k == 3)=false:=by rw [beq_eq_false_iff_ne]; exact k3
 by_cases k12:p.k=12
 ·have e:=H12.out k12;subst e;have kb:(p.k == 12)=true:=by simpa using k12
  clear H2 H3 H12 H13 H0 c2 c3 c13 k12 k2 k3;go_wp2_with fail
  generalize w.alloc (.cells (gq p q) 31)=wA at *;refine c12.mono ?_;rintro e w5 ⟨v5,rfl,O5,hb5⟩;clear c12 O5;dsimp only;go_wp2
  go_ret;exact ⟨rfl,chain hA hb5⟩
 have b12:(p.k == 12)=false:=by rw [beq_eq_false_iff_ne]; exact k12
 by_cases k13:p.k=13
 ·have e:=H13.out k13;subst e;have kb:(p.k == 13)=true:=by simpa using k13
  clear H2 H3 H12 H13 H0 c2 c3 c12 k13 k12 k2 k3;go_wp2_with fail
  generalize w.alloc (.cells (gq p q) 31)=wA at *;refine c13.mono ?_;rintro e w5 ⟨v5,rfl,O5,hb5⟩;clear c13 O5;dsimp only;go_wp2
  go_ret;exact ⟨rfl,chain hA hb5⟩
 have b13:(p.k == 13)=false:=by rw [beq_eq_false_iff_ne]; exact k13
 have e:=H0.out k2 k3 k12 k13;subst e;clear H2 H3 H12 H13 H0 c2 c3 c12 c13 k2 k3 k12 k13;go_wp2
 go_ret;exact ⟨rfl,hA⟩
inductive cF:Pl→Prop
 | mk (k n:Int) (x:Ex) (xs:List Ex) (gs:List Ag) (ks:List Pl) (hn:-9223372036854775808≤n∧n≤9223372036854775807) (hx:xs.length≤100000000000000) (hg:gs.length≤100000000000000) (hk:∀ p ∈ ks,cF p):cF (.mk k n x xs gs ks)
theorem cF.n {p:Pl} (h:cF p):-9223372036854775808≤p.n∧p.n≤9223372036854775807:=by cases h with | mk _ _ _ _ _ _ hn _ _ _=>exact hn
theorem cF.sum {p:Pl} (h:cF p):p.xs.length+p.gs.length≤9223372036854775807:=by cases h with | mk _ _ _ _ _ _ _ hx hg _=>simp only [Pl.xs,Pl.gs]; omega
theorem cF.ks {p:Pl} (h:cF p):∀ q ∈ p.ks,cF q:=by cases h with | mk _ _ _ _ _ _ _ _ _ hk=>exact hk
theorem j1 {B lo:Nat} {W:World} {B1 n:Nat} {v:Value} {l:List Int} (ho:W.ownsRow B1 3 1 v n (l.map (Value.int .i64))) (hn:n=l.length) (htB:lo≤B1):∃ a cap,v = .slice a l.length cap∧kX B lo W a l:=by
 subst hn;have ho':=ho;obtain ⟨hx,⟨rfl,h0⟩ | ⟨g,cap,cur,rfl,hg,hh,hn,hc,hs,ht⟩⟩:=ho
 ·have:l = []:=Hs h0;subst this;exact ⟨none,0,rfl,⟨by simp,.inl rfl⟩⟩
 ·refine ⟨_,cap,rfl,⟨by omega,.inr ⟨g,0,rfl,(ho'.lt g rfl).2,by omega,fun i hi=>?_⟩⟩⟩;have:=ho'.cellAt i (by omega);rw [Hu,this];simp [hi]
theorem ft.t {B lo:Nat} {W:World} {g:Nat} {l:List Int} (h:ft W g l) (hl:l.length≤8) (hg:lo≤g):kX B lo W (some ⟨g,0,none⟩) l :=
 ⟨by unfold maxLen; omega,.inr ⟨g,0,rfl,h.lt,by omega,fun i hi=>by simpa using h.c i hi⟩⟩
theorem kX.nil (B lo:Nat) (W:World):kX B lo W none []:=⟨Hl _,.inl rfl⟩
theorem kX.low {B lo:Nat} {W w1:World} {a:Option Addr} {l:List Int} (h:kX B lo W a l) (hb:Below W.heap.size W w1) (hB:B≤W.heap.size):kX B lo w1 a l:=h.next (Kept.of hb hB)
theorem sH {af:List Int} {xs:List Ex} {z:List Zp} (h:j6 af xs z=0):xs.length≤8:=by
 unfold j6 at h;by_cases h0:bj af xs=0
 ·exact (sw h0).1
 ·rw [if_pos h0] at h; exact absurd h h0
theorem oP {af:List Int} {xs:List Ex} {gs:List Ag} {z:List Zp} (h:dx af xs gs z=0):xs.length+gs.length≤8:=by
 unfold dx at h;by_cases h0:8<xs.length+gs.length
 ·rw [if_pos h0] at h; cases h
 ·omega
def AB (B lo:Nat) (w':World) (e:Ending) (er:Int) (C:List Int):Prop:=∃ ca cc,e = .returned (.tuple #[.slice ca (if er=0 then C else []).length cc,.int .i64 er])∧kX B lo w' ca (if er=0 then C else [])
theorem qV (B lo:Nat) (hB:B≤lo) (p:Pl) (q:Pw) (af:List Int) (ca:Option Addr) (cc:Nat) (w:World) (ht:lo≤w.heap.size) (hp:ki w.heap.size w p q) (hc:kX B lo w ca af) (hk:cF p) :
  Calls Tryz.prog 67 #[fp p q,.slice ca af.length cc] w fun e w'=>AB B lo w' e (fm p.k p.n p.x p.xs p.gs af) (jS p.k p.xs p.gs af)∧Below w.heap.size w w':=by
 have hA:Below w.heap.size w (w.alloc (.cells (gq p q) 31)):=((He _ _).alloc (Hd _) _)
 have E:=gQ.new w p q 31;have hpA:=(hp.next hA (Hd _)).up hA.size;have hcA:=hc.low hA (by omega);have hzA:=hA.size;have con:=py p q af ca cc _ hpA hcA.at hk.n hk.sum;have H3:Hid (p.k=3→jS p.k p.xs p.gs af=gH af p.xs):=fun h=>by unfold jS; rw [if_pos h]
 have H12:Hid (p.k=12→jS p.k p.xs p.gs af=gH af p.xs ++ dV af p.gs):=fun h=>by unfold jS dV; rw [if_neg (by omega),if_pos h]
 have H0:Hid (¬ p.k=3→¬ p.k=12→jS p.k p.xs p.gs af=af):=fun h1 h2=>by unfold jS; rw [if_neg h1,if_neg h2]
 have L3:Hid (p.k=3→fm p.k p.n p.x p.xs p.gs af=0→p.xs.length≤8):=fun h e=>by unfold fm at e; rw [if_neg (by omega),if_pos h] at e; exact sH e
 have L12:Hid (p.k=12→fm p.k p.n p.x p.xs p.gs af=0→p.xs.length+p.gs.length≤8):=fun h e=>by unfold fm at e; rw [if_neg (by omega),if_neg (by omega),if_pos h] at e; exact oP e
 generalize fm p.k p.n p.x p.xs p.gs af=er at *;generalize jS p.k p.xs p.gs af=C at *;have E':=E;obtain ⟨p0,p1,p2,p8,p9,p10⟩:=E';obtain ⟨x0,x1,x2,x3,x4,x5⟩:=p2;simp only [Hu] at p1 x0 x1 x2 x3 x4 x5 p8 p9 p10;unfold fp at con ⊢;have lw:=ae (an w (gq p q) 31);go_enter Tryz.func67,Tryz.ntmps67;go_wp2_with fail
 generalize w.alloc (.cells (gq p q) 31)=wA at *;refine con.mono ?_;rintro e w5 ⟨rfl,hb5⟩;clear con p0 p1 x0 x1 x2 x3 x4 x5 p8 p9 p10;have hA5:=chain hA hb5;have E5:=E.next hb5 lw;obtain ⟨p0,p1,p2,p8,p9,p10⟩:=E5;simp only [Hu] at p1 p8 p9 p10;have hp5:=(hpA.next hb5 (Hd _)).up hb5.size;have hc5:=hcA.low hb5 (by omega);have hz5:=hb5.size;dsimp only;by_cases h0:er=0;rotate_left
 ·have hb:(er != 0)=true:=by simpa using h0
  go_wp2_with fail
  exact Hf (v:=.tuple #[.slice none 0 0,.int .i64 er]) (by simp [results,Tryz.results67,go_sem]) rfl ⟨⟨none,0,by rw [if_neg h0]; rfl,by rw [if_neg h0]; exact kX.nil _ _ _⟩,hA5⟩
 subst h0;by_cases k3:p.k=3
 ·have e:=H3.out k3;subst e;have h8:=L3.out k3 rfl;have kb:(p.k == 3)=true:=by simpa using k3
  have con:=nV af p.xs ca cc q.sa q.sc w5 hc5.at hp5.xs h8;clear H3 H12 H0 L3 L12;go_wp2_with fail
  refine con.mono ?_;rintro e w6 ⟨rfl,O6,hb6⟩;clear con;have h8':(gH af p.xs).length≤8:=by rw [ir]; exact h8
  have I6:=O6.t (B:=B) (lo:=lo) h8' (by omega);have HEl:Hid ((gH af p.xs).length=p.xs.length):=ir _ _;dsimp only;clear p0 p1 p2 p8 p9 p10 h8';go_wp2_with fail
  exact Hf (v:=.tuple #[.slice (some ⟨w5.heap.size,0,none⟩) p.xs.length p.xs.length,.int .i64 0]) (by simp [results,Tryz.results67,go_sem]) rfl ⟨⟨some ⟨w5.heap.size,0,none⟩,p.xs.length,by rw [if_pos rfl,HEl.out],by rw [if_pos rfl]; exact I6⟩,chain hA5 hb6⟩
 have b3:(p.k == 3)=false:=by rw [beq_eq_false_iff_ne]; exact k3
 by_cases k12:p.k=12
 ·have e:=H12.out k12;subst e;have h8:=L12.out k12 rfl;have kb:(p.k == 12)=true:=by simpa using k12
  clear H3 H12 H0 L3 L12;go_wp2_with fail
  clear p0 p1 p2 p10;have hCC:∀ W W':World,(W.cell? ⟨w.heap.size,8,none⟩=some (.slice q.sa p.xs.length q.sc)∧W.cell? ⟨w.heap.size,9,none⟩=some (.slice q.ga p.gs.length q.gc)∧w.heap.size<W.heap.size)→Below W.heap.size W W'→(W'.cell? ⟨w.heap.size,8,none⟩=some (.slice q.sa p.xs.length q.sc)∧W'.cell? ⟨w.heap.size,9,none⟩=some (.slice q.ga p.gs.length q.gc)∧w.heap.size<W'.heap.size):=fun W W' h hb=>⟨(hb.cell (p:=⟨w.heap.size,8,none⟩) h.2.2).trans h.1,(hb.cell (p:=⟨w.heap.size,9,none⟩) h.2.2).trans h.2.1,Hi h.2.2 hb.size⟩
  have hd:Below w5.heap.size w5 w5.drew:=(He _ _).drew;have CW:=hCC _ _ ⟨p8,p9,Hi lw hz5⟩ hd;refine aG (fun W=>(W.cell? ⟨w.heap.size,8,none⟩=some (.slice q.sa p.xs.length q.sc)∧W.cell? ⟨w.heap.size,9,none⟩=some (.slice q.ga p.gs.length q.gc)∧w.heap.size<W.heap.size)) (by kernel_rfl) ?_;refine ab hCC 23 (i:=0) (v:=.slice ca af.length cc) (fun n hn=>?_) CW ?_
  ·go_simp
  simp only [Act.put,pA,pB,pC];refine ab hCC 24 (i:=1) (v:=.pointer (some ⟨w.heap.size,8,none⟩)) (fun n hn=>?_) CW ?_
  ·go_simp
  simp only [Act.put,pA,pB,pC];refine ab hCC 25 (i:=2) (v:=.slice q.sa p.xs.length q.sc) (fun n hn=>?_) CW ?_
  ·have hc:=hn.1;go_simp
  simp only [Act.put,pA,pB,pC];refine ab hCC 27 (i:=4) (v:=.slice ca af.length cc) (fun n hn=>?_) CW ?_
  ·go_simp
  simp only [Act.put,pA,pB,pC];refine ab hCC 28 (i:=5) (v:=.pointer (some ⟨w.heap.size,9,none⟩)) (fun n hn=>?_) CW ?_
  ·go_simp
  simp only [Act.put,pA,pB,pC];refine ab hCC 29 (i:=6) (v:=.slice q.ga p.gs.length q.gc) (fun n hn=>?_) CW ?_
  ·have hc:=hn.2.1;go_simp
  simp only [Act.put,pA,pB,pC];refine au (rs:=[3]) (by kernel_rfl) (by simp) ?_;intro w6 hb6 jj hjj;obtain rfl:jj=3:=by simpa using hjj
  clear hjj;have CW6:=hCC _ _ CW hb6;have D6:=chain hd hb6;have con:=nV af p.xs ca cc q.sa q.sc w6 (hc5.low D6 (by omega)).at ((hp5.next D6 (Hd _)).up D6.size).xs (by omega);refine wpOp_step rfl (fun K hK=>?_);go_simp;refine con.mono ?_;rintro e w7 ⟨rfl,O7,hb7⟩;clear con;have CW7:=hCC _ _ CW6 hb7;have D7:=chain D6 hb7;refine hK _ _ ⟨CW7,?_⟩;clear hK K;refine au (rs:=[7]) (by kernel_rfl) (by simp) ?_;intro w8 hb8 jj hjj;obtain rfl:jj=7:=by simpa using hjj
  clear hjj;have CW8:=hCC _ _ CW7 hb8;have D8:=chain D7 hb8;have con:=sh af p.gs ca cc q.ga q.gc w8 (hc5.low D8 (by omega)).at ((hp5.next D8 (Hd _)).up D8.size).gs (by omega);refine wpOp_step rfl (fun K hK=>?_);go_simp;refine con.mono ?_;rintro e w9 ⟨rfl,O9,hb9⟩;clear con;have CW9:=hCC _ _ CW8 hb9;have D9:=chain D8 hb9;refine hK _ _ ⟨CW9,?_⟩;clear hK K;refine au (rs:=[8]) (by kernel_rfl) (by simp) ?_;intro wB hbB jj hjj;obtain rfl:jj=8:=by simpa using hjj
  clear hjj;have CWB:=hCC _ _ CW9 hbB;have DB:=chain D9 hbB;refine wpOp_step rfl (fun K hK=>?_);go_simp;have e1:(gH af p.xs).length=p.xs.length:=ir _ _;have e2:(dV af p.gs).length=p.gs.length:=pI _ _;have R1:=eN ((O7.nx (chain hb8 (chain hb9 hbB))).is (by rw [e1]; unfold maxLen; omega));have R2:=eN ((O9.nx hbB).is (by rw [e2]; unfold maxLen; omega));rw [e1] at R1;rw [e2] at R2;have PC:=hM.new p.xs.length p.gs.length R1 R2 42
  have halB:=aa wB (.cells #[.slice (some ⟨w6.heap.size,0,none⟩) p.xs.length p.xs.length,.slice (some ⟨w8.heap.size,0,none⟩) p.gs.length p.gs.length] 42);have CWC:=hCC _ _ CWB halB;have DC:=chain DB halB;refine hK _ _ ⟨CWC,?_⟩;clear hK K R1 R2;generalize wB.alloc (.cells #[.slice (some ⟨w6.heap.size,0,none⟩) p.xs.length p.xs.length,.slice (some ⟨w8.heap.size,0,none⟩) p.gs.length p.gs.length] 42)=wC at *;refine au (rs:=[9]) (by kernel_rfl) (by simp) ?_;intro wD hbD jj hjj;obtain rfl:jj=9:=by simpa using hjj
  clear hjj;have CWD:=hCC _ _ CWC hbD;have DD:=chain DC hbD;refine wpOp_step rfl (fun K hK=>?_);go_simp;refine (jd _ _ _ _ _ wD (PC.next hbD) (by omega)).mono ?_;rintro e wE ⟨vE,rfl,OE,hbE⟩;rw [← IM] at OE;have hzD:=DD.size;obtain ⟨aE,cE,rfl,IE⟩:=j1 (B:=B) (lo:=lo) OE (by simp [e1,e2]) (by omega);have CWE:=hCC _ _ CWD hbE;have DE:=chain DD hbE;refine hK _ _ ⟨CWE,?_⟩;clear hK K OE PC CW6 CW7 CW8 CW9 CWB CWC CWD CW O7 O9 e1 e2;obtain ⟨tt,htt⟩:∃ tt,tt=gH af p.xs ++ dV af p.gs:=⟨_,rfl⟩
  rw [← htt] at IE ⊢;have HTT:Hid (tt=gH af p.xs ++ dV af p.gs):=htt;clear htt;refine ab hCC 4 (i:=10) (v:=.slice aE tt.length cE) (fun n hn=>?_) CWE ?_
  ·go_simp
  simp only [Act.put,pA,pB,pC];refine ab hCC 5 (i:=11) (v:=.int .i64 0) (fun n hn=>?_) CWE ?_
  ·go_simp
  simp only [Act.put,pA,pB,pC];refine bd (by kernel_rfl) ?_;intro wF hbF;have hAF:=chain hA5 (chain DE hbF);have IF:=IE.low hbF (by have:=DE.size; omega);clear CWE hCC hbF DE IE;go_wp2_with fail
  exact Hf (v:=.tuple #[.slice aE tt.length cE,.int .i64 0]) (by simp [results,Tryz.results67,go_sem]) rfl ⟨⟨aE,cE,by rw [if_pos rfl,← HTT.out],by rw [if_pos rfl,← HTT.out]; exact IF⟩,hAF⟩
 have b12:(p.k == 12)=false:=by rw [beq_eq_false_iff_ne]; exact k12
 have e:=H0.out k3 k12;subst e;clear H3 H12 H0 L3 L12 k3 k12;go_wp2_with fail
 exact Hf (v:=.tuple #[.slice ca C.length cc,.int .i64 0]) (by simp [results,Tryz.results67,go_sem]) rfl ⟨⟨ca,cc,by rw [if_pos rfl],by rw [if_pos rfl]; exact hc5⟩,hA5⟩
theorem re (B lo:Nat) (hB:B≤lo) (p:Pl) (q:Pw) (l r:List Int) (la:Option Addr) (lc:Nat) (ra:Option Addr) (rc:Nat) (w:World) (ht:lo≤w.heap.size) (hp:ki w.heap.size w p q) (hl:kX B lo w la l) (hr:kX B lo w ra r) (hl8:l.length≤8) (hr8:r.length≤8) :
  Calls Tryz.prog 68 #[fp p q,.slice la l.length lc,.slice ra r.length rc] w fun e w'=>AB B lo w' e (ni p.k p.x l r) (nu p.k l r)∧Below w.heap.size w w':=by
 have hA:Below w.heap.size w (w.alloc (.cells (gq p q) 31)):=((He _ _).alloc (Hd _) _)
 have E:=gQ.new w p q 31;have hpA:=(hp.next hA (Hd _)).up hA.size;have hlA:=hl.low hA (by omega);have hrA:=hr.low hA (by omega);have hzA:=hA.size;have lw:=ae (an w (gq p q) 31);have HQ1:Hid (p.k=8∨p.k=9→ni p.k p.x l r=oT l r∧nu p.k l r=dQ l r):=fun h=>by unfold ni nu; rw [if_pos h,if_pos h]; exact ⟨rfl,rfl⟩
 have HQ2:Hid (¬ (p.k=8∨p.k=9)→ni p.k p.x l r=fC 0 l r p.x [] []):=fun h=>by unfold ni; rw [if_neg h]
 have HQ3:Hid (¬ (p.k=8∨p.k=9)→p.k=5∨p.k=6→nu p.k l r=l):=fun h h'=>by unfold nu; rw [if_neg h,if_pos h']
 have HQ4:Hid (¬ (p.k=8∨p.k=9)→¬ (p.k=5∨p.k=6)→nu p.k l r=l ++ r):=fun h h'=>by unfold nu; rw [if_neg h,if_neg h']
 generalize ni p.k p.x l r=er at *;generalize nu p.k l r=C at *;have E':=E;obtain ⟨p0,p1,p2,p8,p9,p10⟩:=E';obtain ⟨x0,x1,x2,x3,x4,x5⟩:=p2;simp only [Hu] at p1 x0 x1 x2 x3 x4 x5 p8 p9 p10;unfold fp;go_enter Tryz.func68,Tryz.ntmps68;by_cases h89:p.k=8∨p.k=9
 ·obtain ⟨e1,e2⟩:=HQ1.out h89;have con:=qR l r la lc ra rc _ hlA.at hrA.at hl8;rw [← e1] at con;have HL:Hid (er=0→(dQ l r).length=l.length):=fun h0=>by
   rw [e1] at h0;unfold oT at h0;by_cases hlr:l.length=r.length
   ·exact l7 hlr
   ·rw [if_pos hlr] at h0; cases h0
  have HC:Hid (C=dQ l r):=e2;clear HQ1 HQ2 HQ3 HQ4 e1 e2;have h2:p.k=8∨(¬ p.k=8∧p.k=9):=by omega
  clear h89;rcases h2 with h2 | ⟨h2,h3⟩
  ·have b8:(p.k == 8)=true:=by simpa using h2
   clear h2;go_wp2_with fail
   generalize w.alloc (.cells (gq p q) 31)=wA at *;refine con.mono ?_;rintro e w5 ⟨v5,rfl,h0,hn0,hb5⟩;clear con;dsimp only;by_cases he:er=0
   ·subst he;obtain ⟨rfl,O5⟩:=h0 rfl;have HLn:Hid ((dQ l r).length=l.length):=HL.out rfl;have I5:=O5.t (B:=B) (lo:=lo) (by rw [HLn.out]; exact hl8) (by omega);clear HL;clear h0 hn0;go_wp2_with fail
    exact Hf (v:=.tuple #[.slice (some ⟨wA.heap.size,0,none⟩) l.length l.length,.int .i64 0]) (by simp [results,Tryz.results68,go_sem]) rfl ⟨⟨_,_,by rw [if_pos rfl,HC.out,HLn.out],by rw [if_pos rfl,HC.out]; exact I5⟩,chain hA hb5⟩
   ·obtain rfl:=hn0 he;clear h0 hn0;go_wp2_with fail
    exact Hf (v:=.tuple #[.slice none 0 0,.int .i64 er]) (by simp [results,Tryz.results68,go_sem]) rfl ⟨⟨none,0,by rw [if_neg he]; rfl,by rw [if_neg he]; exact kX.nil _ _ _⟩,chain hA hb5⟩
  ·have b8:(p.k == 8)=false:=by rw [beq_eq_false_iff_ne]; exact h2
   have b9:(p.k == 9)=true:=by simpa using h3
   clear h2 h3;go_wp2_with fail
   generalize w.alloc (.cells (gq p q) 31)=wA at *;refine con.mono ?_;rintro e w5 ⟨v5,rfl,h0,hn0,hb5⟩;clear con;dsimp only;by_cases he:er=0
   ·subst he;obtain ⟨rfl,O5⟩:=h0 rfl;have HLn:Hid ((dQ l r).length=l.length):=HL.out rfl;have I5:=O5.t (B:=B) (lo:=lo) (by rw [HLn.out]; exact hl8) (by omega);clear HL;clear h0 hn0;go_wp2_with fail
    exact Hf (v:=.tuple #[.slice (some ⟨wA.heap.size,0,none⟩) l.length l.length,.int .i64 0]) (by simp [results,Tryz.results68,go_sem]) rfl ⟨⟨_,_,by rw [if_pos rfl,HC.out,HLn.out],by rw [if_pos rfl,HC.out]; exact I5⟩,chain hA hb5⟩
   ·obtain rfl:=hn0 he;clear h0 hn0;go_wp2_with fail
    exact Hf (v:=.tuple #[.slice none 0 0,.int .i64 er]) (by simp [results,Tryz.results68,go_sem]) rfl ⟨⟨none,0,by rw [if_neg he]; rfl,by rw [if_neg he]; exact kX.nil _ _ _⟩,chain hA hb5⟩
 have b8:(p.k == 8)=false:=by rw [beq_eq_false_iff_ne]; exact fun e=>h89 (.inl e)
 have b9:(p.k == 9)=false:=by rw [beq_eq_false_iff_ne]; exact fun e=>h89 (.inr e)
 have con:=CR l r p.x la lc ra rc q.xa q.xc none 0 [] none 0 [] _ hlA.at hrA.at hpA.x (j3 _) (j3 _) (by omega) (by omega);rw [← HQ2.out h89] at con;have H5:Hid (p.k=5∨p.k=6→C=l):=HQ3.out h89;have H0:Hid (¬ (p.k=5∨p.k=6)→C=l ++ r):=HQ4.out h89;clear HQ1 HQ2 HQ3 HQ4 h89;generalize ng 0 l r p.x [] []=zz at *;unfold iY at con;go_wp2_with fail
 generalize w.alloc (.cells (gq p q) 31)=wA at *;refine con.mono ?_;rintro e w5 ⟨v5,rfl,O5,hb5⟩;clear con O5 p0 p1 x0 x1 x2 x3 x4 x5 p8 p9 p10;have hA5:=chain hA hb5;have p0:=(E.next hb5 lw).c0;have hl5:=hlA.low hb5 (by omega);have hr5:=hrA.low hb5 (by omega);have hz5:=hb5.size;dsimp only;by_cases he:er=0;rotate_left
 ·have hb:(er != 0)=true:=by simpa using he
  go_wp2_with fail
  exact Hf (v:=.tuple #[.slice none 0 0,.int .i64 er]) (by simp [results,Tryz.results68,go_sem]) rfl ⟨⟨none,0,by rw [if_neg he]; rfl,by rw [if_neg he]; exact kX.nil _ _ _⟩,hA5⟩
 subst he;by_cases h56:p.k=5∨p.k=6
 ·have e:=H5.out h56;have HC:Hid (C=l):=e;clear H5 H0 e;have h2:p.k=5∨(¬ p.k=5∧p.k=6):=by omega
  clear h56;rcases h2 with h2 | ⟨h2,h3⟩
  ·have b5:(p.k == 5)=true:=by simpa using h2
   clear h2;go_wp2_with fail
   exact Hf (v:=.tuple #[.slice la l.length lc,.int .i64 0]) (by simp [results,Tryz.results68,go_sem]) rfl ⟨⟨la,lc,by rw [if_pos rfl,HC.out],by rw [if_pos rfl,HC.out]; exact hl5⟩,hA5⟩
  ·have b5:(p.k == 5)=false:=by rw [beq_eq_false_iff_ne]; exact h2
   have b6:(p.k == 6)=true:=by simpa using h3
   clear h2 h3;go_wp2_with fail
   exact Hf (v:=.tuple #[.slice la l.length lc,.int .i64 0]) (by simp [results,Tryz.results68,go_sem]) rfl ⟨⟨la,lc,by rw [if_pos rfl,HC.out],by rw [if_pos rfl,HC.out]; exact hl5⟩,hA5⟩
 have b5:(p.k == 5)=false:=by rw [beq_eq_false_iff_ne]; exact fun e=>h56 (.inl e)
 have b6:(p.k == 6)=false:=by rw [beq_eq_false_iff_ne]; exact fun e=>h56 (.inr e)
 have HC:Hid (C=l ++ r):=H0.out h56;clear H5 H0 h56;have PC:=hM.new lc rc (eN hl5.at) (eN hr5.at) 42;have hal5:=aa w5 (.cells #[.slice la l.length lc,.slice ra r.length rc] 42);go_wp2_with fail
 generalize w5.alloc (.cells #[.slice la l.length lc,.slice ra r.length rc] 42)=w6 at *;refine (jd _ _ _ _ _ w6 PC (by omega)).mono ?_;rintro e w7 ⟨v7,rfl,O7,hb7⟩;rw [← IM,← HC.out] at O7;have hl7:l.length+r.length=C.length:=by rw [HC.out,Ii]
 have hz6:=hal5.size;obtain ⟨a7,c7,rfl,I7⟩:=j1 (B:=B) (lo:=lo) O7 hl7 (by omega);clear PC O7 hl7;dsimp only;go_wp2_with fail
 exact Hf (v:=.tuple #[.slice a7 C.length c7,.int .i64 0]) (by simp [results,Tryz.results68,go_sem]) rfl ⟨⟨a7,c7,by rw [if_pos rfl],by rw [if_pos rfl]; exact I7⟩,chain hA5 (chain hal5 hb7)⟩
theorem xG (ts:List (List Int)) (B lo t:Nat) (ta:Option Addr) (tc:Nat) (p:Pl) (q:Pw) (na:Option Addr) (nc:Nat) (w:World) (hB:B≤t) (htl:t<lo) (hlw:lo≤w.heap.size) (c0:w.cell? ⟨t,0,none⟩=some (.slice ta ts.length tc)) (hT:gP B w ta ts) (hp:ki B w p q) (hN:rJ ts B lo w na p.ks) (hk:cF p) (hlen:p.ks.length=dI p.k) (h8:∀ r ∈ p.ks,(aj ts r).length≤8) :
  Calls Tryz.prog 41 #[.pointer (some ⟨t,0,none⟩),fp p q,.slice na p.ks.length nc] w fun e w'=>AB B lo w' e (ep ts p.k p.n p.x p.xs p.gs (p.ks.map (aj ts))) (fx ts p.k p.n p.xs p.gs (p.ks.map (aj ts)))∧Below w.heap.size w w':=by
 have hA:Below w.heap.size w (w.alloc (.cells (gq p q) 31)):=((He _ _).alloc (Hd _) _)
 have E:=gQ.new w p q 31;have lw:=ae (an w (gq p q) 31);have ht:t<w.heap.size:=by omega
 have hBw:B≤w.heap.size:=by omega
 have h2:=kU p.k;have hc:p.ks = []∨(∃ k0,p.ks = [k0])∨∃ k0 k1,p.ks = [k0,k1]:=by
  match hm:p.ks with
  | []=>exact .inl rfl
  | [k0]=>exact .inr (.inl ⟨k0,rfl⟩)
  | [k0,k1]=>exact .inr (.inr ⟨k0,k1,rfl⟩)
  | _ :: _ :: _ :: _=>rw [hm] at hlen; simp at hlen; omega
 have dA:=(hA.cell (p:=⟨t,0,none⟩) ht).trans c0;generalize hER:ep ts p.k p.n p.x p.xs p.gs (p.ks.map (aj ts))=er;generalize hCR:fx ts p.k p.n p.xs p.gs (p.ks.map (aj ts))=C;have HER:Hid (ep ts p.k p.n p.x p.xs p.gs (p.ks.map (aj ts))=er):=hER;have HCR:Hid (fx ts p.k p.n p.xs p.gs (p.ks.map (aj ts))=C):=hCR;have HK:Hid (cF p):=hk;clear hER hCR hlen h2 hk;unfold fp;go_enter Tryz.func41,Tryz.ntmps41;rcases hc with hks | ⟨k0,hks⟩ | ⟨k0,k1,hks⟩
 ·have hl0:p.ks.length=0:=by rw [hks]; rfl
  have lb:((p.ks.length:Int) == 0)=true:=by simp [hl0]
  have eE:er=if p.n<0∨ts.length≤p.n then 7 else 0:=by rw [← HER.out,hks]; rfl
  have eC:C=ts.getD p.n.toNat []:=by rw [← HCR.out,hks]; rfl
  have HE1:Hid (er=_):=eE;have HC1:Hid (C=_):=eC;clear eE eC;clear HER HCR h8 hks hl0;go_wp2_with fail
  generalize w.alloc (.cells (gq p q) 31)=wA at *;have hCC:∀ W W':World,(gQ W w.heap.size 0 p q∧w.heap.size<W.heap.size∧W.cell? ⟨t,0,none⟩=some (.slice ta ts.length tc)∧t<W.heap.size)→Below W.heap.size W W'→(gQ W' w.heap.size 0 p q∧w.heap.size<W'.heap.size∧W'.cell? ⟨t,0,none⟩=some (.slice ta ts.length tc)∧t<W'.heap.size):=fun W W' h hb=>⟨h.1.next hb h.2.1,Hi h.2.1 hb.size,(hb.cell (p:=⟨t,0,none⟩) h.2.2.2).trans h.2.2.1,Hi h.2.2.2 hb.size⟩
  have hd:Below wA.heap.size wA wA.drew:=(He _ _).drew;have CW:=hCC _ _ ⟨E,lw,dA,Hi ht hA.size⟩ hd;refine aG (fun W=>(gQ W w.heap.size 0 p q∧w.heap.size<W.heap.size∧W.cell? ⟨t,0,none⟩=some (.slice ta ts.length tc)∧t<W.heap.size)) (by kernel_rfl) ?_;refine ab hCC 12 (i:=0) (v:=.pointer (some ⟨t,0,none⟩)) (fun n hn=>?_) CW ?_
  ·go_simp
  simp only [Act.put,pA,pB,pC];refine ab hCC 13 (i:=1) (v:=.pointer (some ⟨t,0,none⟩)) (fun n hn=>?_) CW ?_
  ·go_simp
  simp only [Act.put,pA,pB,pC];refine ab hCC 14 (i:=2) (v:=.pointer (some ⟨t,0,none⟩)) (fun n hn=>?_) CW ?_
  ·go_simp
  simp only [Act.put,pA,pB,pC];refine ab hCC 15 (i:=3) (v:=.slice ta ts.length tc) (fun n hn=>?_) CW ?_
  ·have hc:=hn.2.2.1;go_simp
  simp only [Act.put,pA,pB,pC];refine ab hCC 16 (i:=4) (v:=.pointer (some ⟨w.heap.size,1,none⟩)) (fun n hn=>?_) CW ?_
  ·go_simp
  simp only [Act.put,pA,pB,pC];refine ab hCC 17 (i:=5) (v:=.int .i64 p.n) (fun n hn=>?_) CW ?_
  ·have hc:=hn.1.c1;simp only [Hu] at hc;go_simp
  simp only [Act.put,pA,pB,pC];refine au (rs:=[6]) (by kernel_rfl) (by simp) ?_;intro w6 hb6 jj hjj;obtain rfl:jj=6:=by simpa using hjj
  clear hjj;have CW6:=hCC _ _ CW hb6;have D6:=chain hA (chain hd hb6);have con:=qY ts p.n B ta tc w6 (hT.next D6 hBw);rw [← HE1.out,← HC1.out] at con;refine wpOp_step rfl (fun K hK=>?_);go_simp;refine con.mono ?_;rintro e w7 ⟨⟨a7,c7,rfl,I7⟩,hb7⟩;clear con;have CW7:=hCC _ _ CW6 hb7;have D7:=chain D6 hb7;refine hK _ _ ⟨CW7,?_⟩;clear hK K CW6 CW;have J7:=I7.t (lo:=lo) (by have:=CW7.2.2.2; omega);obtain ⟨cl,hcl⟩:∃ cl,cl=(if er=0 then C else []):=⟨_,rfl⟩
  rw [← hcl] at J7 ⊢;have HCl:Hid (cl=(if er=0 then C else [])):=hcl;clear hcl I7;refine ab hCC 19 (i:=7) (v:=.slice a7 cl.length c7) (fun n hn=>?_) CW7 ?_
  ·go_simp
  simp only [Act.put,pA,pB,pC];refine ab hCC 20 (i:=8) (v:=.int .i64 er) (fun n hn=>?_) CW7 ?_
  ·go_simp
  simp only [Act.put,pA,pB,pC];refine ab hCC 6 (i:=9) (v:=.slice a7 cl.length c7) (fun n hn=>?_) CW7 ?_
  ·go_simp
  simp only [Act.put,pA,pB,pC];refine ab hCC 7 (i:=10) (v:=.int .i64 er) (fun n hn=>?_) CW7 ?_
  ·go_simp
  simp only [Act.put,pA,pB,pC];refine bd (by kernel_rfl) ?_;intro w8 hb8;have J8:=J7.low hb8 (by have:=CW7.2.2.2; omega);have D8:=chain D7 hb8;clear CW7 hCC hb8 D7 J7;go_wp2
  exact Hf (v:=.tuple #[.slice a7 cl.length c7,.int .i64 er]) (by simp [results,Tryz.results41,go_sem]) rfl ⟨⟨a7,c7,by rw [HCl.out],by rw [← HCl.out]; exact J8⟩,D8⟩
 ·have hl0:p.ks.length=1:=by rw [hks]; rfl
  have lb:((p.ks.length:Int) == 0)=false:=by simp [hl0]
  have lb1:((p.ks.length:Int) == 1)=true:=by simp [hl0]
  have lz:0<p.ks.length:=by omega
  have eE:er=fm p.k p.n p.x p.xs p.gs (aj ts k0):=by rw [← HER.out,hks]; rfl
  have eC:C=jS p.k p.xs p.gs (aj ts k0):=by rw [← HCR.out,hks]; rfl
  have HE1:Hid (er=_):=eE;have HC1:Hid (C=_):=eC;clear eE eC;rw [hks] at hN;obtain ⟨b,off,q0,c1,cc1,n1,nc1,rfl,hbl,hbt,_,d11,_,ND⟩:=hN.elem (i:=0) (by simp);simp only [Jg,IY,List.getElem_cons_zero] at d11 ND;have I1:=ND.af;clear HER HCR h8 hks hl0 hN ND;have d11A:=(hA.cell (p:=⟨b,off+11,none⟩) hbl).trans d11;go_wp2_with fail
  generalize w.alloc (.cells (gq p q) 31)=wA at *;have hCC:∀ W W':World,(gQ W w.heap.size 0 p q∧w.heap.size<W.heap.size∧W.cell? ⟨b,off+11,none⟩=some (.slice c1 (aj ts k0).length cc1)∧t<W.heap.size∧b<W.heap.size)→Below W.heap.size W W'→(gQ W' w.heap.size 0 p q∧w.heap.size<W'.heap.size∧W'.cell? ⟨b,off+11,none⟩=some (.slice c1 (aj ts k0).length cc1)∧t<W'.heap.size∧b<W'.heap.size):=fun W W' h hb=>⟨h.1.next hb h.2.1,Hi h.2.1 hb.size,(hb.cell (p:=⟨b,off+11,none⟩) h.2.2.2.2).trans h.2.2.1,Hi h.2.2.2.1 hb.size,Hi h.2.2.2.2 hb.size⟩
  have hd:Below wA.heap.size wA wA.drew:=(He _ _).drew;have CW:=hCC _ _ ⟨E,lw,d11A,Hi ht hA.size,Hi hbl hA.size⟩ hd;refine aG (fun W=>(gQ W w.heap.size 0 p q∧w.heap.size<W.heap.size∧W.cell? ⟨b,off+11,none⟩=some (.slice c1 (aj ts k0).length cc1)∧t<W.heap.size∧b<W.heap.size)) (by kernel_rfl) ?_;refine ab hCC 23 (i:=0) (v:=.agg (gq p q)) (fun n hn=>?_) CW ?_
  ·obtain ⟨⟨n0,n1,⟨n2,n3,n4,n5,n6,n7⟩,n8,n9,n10⟩,_⟩:=hn;simp only [Hu] at n1 n2 n3 n4 n5 n6 n7 n8 n9 n10;go_simp
  simp only [Act.put,pA,pB,pC];refine ab hCC 24 (i:=1) (v:=.slice (some ⟨b,off,none⟩) p.ks.length nc) (fun n hn=>?_) CW ?_
  ·go_simp
  simp only [Act.put,pA,pB,pC];refine ab hCC 25 (i:=2) (v:=.pointer (some ⟨b,off,none⟩)) (fun n hn=>?_) CW ?_
  ·go_simp
  simp only [Act.put,pA,pB,pC];refine ab hCC 26 (i:=3) (v:=.pointer (some ⟨b,off+11,none⟩)) (fun n hn=>?_) CW ?_
  ·go_simp
  simp only [Act.put,pA,pB,pC];refine ab hCC 27 (i:=4) (v:=.slice c1 (aj ts k0).length cc1) (fun n hn=>?_) CW ?_
  ·have hc:=hn.2.2.1;go_simp
  simp only [Act.put,pA,pB,pC];refine au (rs:=[5]) (by kernel_rfl) (by simp) ?_;intro w6 hb6 jj hjj;obtain rfl:jj=5:=by simpa using hjj
  clear hjj;have CW6:=hCC _ _ CW hb6;have D6:=chain hA (chain hd hb6);have con:=qV B lo (by omega) p q (aj ts k0) c1 cc1 w6 (HJ hlw D6.size) ((hp.next D6 hBw).up (HJ hBw D6.size)) (I1.low D6 hBw) HK.out;rw [← HE1.out,← HC1.out] at con;unfold fp at con;refine wpOp_step rfl (fun K hK=>?_);go_simp;refine con.mono ?_;rintro e w7 ⟨⟨a7,c7,rfl,J7⟩,hb7⟩;clear con;have CW7:=hCC _ _ CW6 hb7;have D7:=chain D6 hb7;refine hK _ _ ⟨CW7,?_⟩;clear hK K CW6 CW;obtain ⟨cl,hcl⟩:∃ cl,cl=(if er=0 then C else []):=⟨_,rfl⟩
  rw [← hcl] at J7 ⊢;have HCl:Hid (cl=(if er=0 then C else [])):=hcl;clear hcl;refine ab hCC 29 (i:=6) (v:=.slice a7 cl.length c7) (fun n hn=>?_) CW7 ?_
  ·go_simp
  simp only [Act.put,pA,pB,pC];refine ab hCC 30 (i:=7) (v:=.int .i64 er) (fun n hn=>?_) CW7 ?_
  ·go_simp
  simp only [Act.put,pA,pB,pC];refine ab hCC 6 (i:=8) (v:=.slice a7 cl.length c7) (fun n hn=>?_) CW7 ?_
  ·go_simp
  simp only [Act.put,pA,pB,pC];refine ab hCC 7 (i:=9) (v:=.int .i64 er) (fun n hn=>?_) CW7 ?_
  ·go_simp
  simp only [Act.put,pA,pB,pC];refine bd (by kernel_rfl) ?_;intro w8 hb8;have J8:=J7.low hb8 (by have:=CW7.2.2.2.1; omega);have D8:=chain D7 hb8;clear CW7 hCC hb8 D7 J7;go_wp2
  exact Hf (v:=.tuple #[.slice a7 cl.length c7,.int .i64 er]) (by simp [results,Tryz.results41,go_sem]) rfl ⟨⟨a7,c7,by rw [HCl.out],by rw [← HCl.out]; exact J8⟩,D8⟩
 ·have hl0:p.ks.length=2:=by rw [hks]; rfl
  have lb:((p.ks.length:Int) == 0)=false:=by simp [hl0]
  have lb1:((p.ks.length:Int) == 1)=false:=by simp [hl0]
  have lz:0<p.ks.length:=by omega
  have lz1:(1:Int)<(p.ks.length:Int):=by omega
  have eE:er=ni p.k p.x (aj ts k0) (aj ts k1):=by rw [← HER.out,hks]; rfl
  have eC:C=nu p.k (aj ts k0) (aj ts k1):=by rw [← HCR.out,hks]; rfl
  have HE1:Hid (er=_):=eE;have HC1:Hid (C=_):=eC;clear eE eC;have g0:=h8 k0 (by rw [hks]; simp);have g1:=h8 k1 (by rw [hks]; simp);rw [hks] at hN;obtain ⟨b,off,q0,c1,cc1,n1,nc1,rfl,hbl,hbt,_,d11,_,ND⟩:=hN.elem (i:=0) (by simp);obtain ⟨b',off',q1,c2,cc2,n2,nc2,eb,_,_,_,d24,_,ND1⟩:=hN.elem (i:=1) (by simp);have eb:=It eb;injection eb with eb1 eb2
  subst eb1 eb2;simp only [Jg,Nat.one_mul,IY,List.getElem_cons_zero,List.getElem_cons_succ] at d11 ND d24 ND1;have I1:=ND.af;have I2:=ND1.af;clear HER HCR h8 hks hl0 hN ND ND1;have d11A:=(hA.cell (p:=⟨b,off+11,none⟩) hbl).trans d11;have d24A:=(hA.cell (p:=⟨b,off+13+11,none⟩) hbl).trans d24;go_wp2_with fail
  generalize w.alloc (.cells (gq p q) 31)=wA at *
  have hCC:∀ W W':World,(gQ W w.heap.size 0 p q∧w.heap.size<W.heap.size∧W.cell? ⟨b,off+11,none⟩=some (.slice c1 (aj ts k0).length cc1)∧W.cell? ⟨b,off+13+11,none⟩=some (.slice c2 (aj ts k1).length cc2)∧t<W.heap.size∧b<W.heap.size)→Below W.heap.size W W'→(gQ W' w.heap.size 0 p q∧w.heap.size<W'.heap.size∧W'.cell? ⟨b,off+11,none⟩=some (.slice c1 (aj ts k0).length cc1)∧W'.cell? ⟨b,off+13+11,none⟩=some (.slice c2 (aj ts k1).length cc2)∧t<W'.heap.size∧b<W'.heap.size):=fun W W' h hb=>⟨h.1.next hb h.2.1,Hi h.2.1 hb.size,(hb.cell (p:=⟨b,off+11,none⟩) h.2.2.2.2.2).trans h.2.2.1,(hb.cell (p:=⟨b,off+13+11,none⟩) h.2.2.2.2.2).trans h.2.2.2.1,Hi h.2.2.2.2.1 hb.size,Hi h.2.2.2.2.2 hb.size⟩
  have hd:Below wA.heap.size wA wA.drew:=(He _ _).drew;have CW:=hCC _ _ ⟨E,lw,d11A,d24A,Hi ht hA.size,Hi hbl hA.size⟩ hd;refine aG (fun W=>(gQ W w.heap.size 0 p q∧w.heap.size<W.heap.size∧W.cell? ⟨b,off+11,none⟩=some (.slice c1 (aj ts k0).length cc1)∧W.cell? ⟨b,off+13+11,none⟩=some (.slice c2 (aj ts k1).length cc2)∧t<W.heap.size∧b<W.heap.size)) (by kernel_rfl) ?_;refine ab hCC 31 (i:=0) (v:=.agg (gq p q)) (fun n hn=>?_) CW ?_
  ·obtain ⟨⟨n0,n1,⟨n2,n3,n4,n5,n6,n7⟩,n8,n9,n10⟩,_⟩:=hn;simp only [Hu] at n1 n2 n3 n4 n5 n6 n7 n8 n9 n10;go_simp
  simp only [Act.put,pA,pB,pC];refine ab hCC 32 (i:=1) (v:=.slice (some ⟨b,off,none⟩) p.ks.length nc) (fun n hn=>?_) CW ?_
  ·go_simp
  simp only [Act.put,pA,pB,pC];refine ab hCC 33 (i:=2) (v:=.pointer (some ⟨b,off,none⟩)) (fun n hn=>?_) CW ?_
  ·go_simp
  simp only [Act.put,pA,pB,pC];refine ab hCC 34 (i:=3) (v:=.pointer (some ⟨b,off+11,none⟩)) (fun n hn=>?_) CW ?_
  ·go_simp
  simp only [Act.put,pA,pB,pC];refine ab hCC 35 (i:=4) (v:=.slice c1 (aj ts k0).length cc1) (fun n hn=>?_) CW ?_
  ·have hc:=hn.2.2.1;go_simp
  simp only [Act.put,pA,pB,pC];refine ab hCC 36 (i:=5) (v:=.slice (some ⟨b,off,none⟩) p.ks.length nc) (fun n hn=>?_) CW ?_
  ·go_simp
  simp only [Act.put,pA,pB,pC];refine ab hCC 37 (i:=6) (v:=.pointer (some ⟨b,off+13,none⟩)) (fun n hn=>?_) CW ?_
  ·go_simp
  simp only [Act.put,pA,pB,pC];refine ab hCC 38 (i:=7) (v:=.pointer (some ⟨b,off+13+11,none⟩)) (fun n hn=>?_) CW ?_
  ·go_simp
  simp only [Act.put,pA,pB,pC];refine ab hCC 39 (i:=8) (v:=.slice c2 (aj ts k1).length cc2) (fun n hn=>?_) CW ?_
  ·have hc:=hn.2.2.2.1;go_simp
  simp only [Act.put,pA,pB,pC];refine au (rs:=[9]) (by kernel_rfl) (by simp) ?_;intro w6 hb6 jj hjj;obtain rfl:jj=9:=by simpa using hjj
  clear hjj;have CW6:=hCC _ _ CW hb6;have D6:=chain hA (chain hd hb6);have con:=re B lo (by omega) p q (aj ts k0) (aj ts k1) c1 cc1 c2 cc2 w6 (HJ hlw D6.size) ((hp.next D6 hBw).up (HJ hBw D6.size)) (I1.low D6 hBw) (I2.low D6 hBw) g0 g1;rw [← HE1.out,← HC1.out] at con;unfold fp at con;refine wpOp_step rfl (fun K hK=>?_);go_simp;refine con.mono ?_;rintro e w7 ⟨⟨a7,c7,rfl,J7⟩,hb7⟩;clear con;have CW7:=hCC _ _ CW6 hb7;have D7:=chain D6 hb7;refine hK _ _ ⟨CW7,?_⟩;clear hK K CW6 CW;obtain ⟨cl,hcl⟩:∃ cl,cl=(if er=0 then C else []):=⟨_,rfl⟩
  rw [← hcl] at J7 ⊢;have HCl:Hid (cl=(if er=0 then C else [])):=hcl;clear hcl;refine ab hCC 41 (i:=10) (v:=.slice a7 cl.length c7) (fun n hn=>?_) CW7 ?_
  ·go_simp
  simp only [Act.put,pA,pB,pC];refine ab hCC 42 (i:=11) (v:=.int .i64 er) (fun n hn=>?_) CW7 ?_
  ·go_simp
  simp only [Act.put,pA,pB,pC];refine ab hCC 6 (i:=12) (v:=.slice a7 cl.length c7) (fun n hn=>?_) CW7 ?_
  ·go_simp
  simp only [Act.put,pA,pB,pC];refine ab hCC 7 (i:=13) (v:=.int .i64 er) (fun n hn=>?_) CW7 ?_
  ·go_simp
  simp only [Act.put,pA,pB,pC];refine bd (by kernel_rfl) ?_;intro w8 hb8;have J8:=J7.low hb8 (by have:=CW7.2.2.2.2.1; omega);have D8:=chain D7 hb8;clear CW7 hCC hb8 D7 J7;go_wp2
  exact Hf (v:=.tuple #[.slice a7 cl.length c7,.int .i64 er]) (by simp [results,Tryz.results41,go_sem]) rfl ⟨⟨a7,c7,by rw [HCl.out],by rw [← HCl.out]; exact J8⟩,D8⟩
end Go.Proofs.YtjebpkhkjkjphaaGreat
namespace Go.Proofs.YtjebpkhkjkjphaaGreat
open Go.RowKit
set_option maxRecDepth 100000
set_option maxHeartbeats 16000000
theorem eU {ts:List (List Int)} {k n:Int} {x:Ex} {xs:List Ex} {gs:List Ag} {ks:List Pl} {m d:Int} (h:(aS ts (.mk k n x xs gs ks) m d).1=0):dH k ks.length (m+1) d=0∧(aP ts ks (m+1) (d+1)).1=0∧ep ts k n x xs gs (aU ts ks)=0∧(aS ts (.mk k n x xs gs ks) m d).2=(aP ts ks (m+1) (d+1)).2:=by
 rw [aS] at h ⊢;by_cases h1:dH k ks.length (m+1) d=0
 ·rw [if_neg (by simp [h1])] at h ⊢;by_cases h2:(aP ts ks (m+1) (d+1)).1=0
  ·rw [if_neg (by simp [h2])] at h ⊢;exact ⟨h1,h2,h,rfl⟩
  ·rw [if_pos h2] at h; exact absurd h h2
 ·rw [if_pos h1] at h; exact absurd h h1
theorem gG {k:Int} {n:Nat} {m d:Int} (h:dH k n m d=0):n=dI k∧1≤k∧k≤13∧m≤60∧d≤15:=by
 unfold dH at h;by_cases g1:60<m∨15<d
 ·simp [g1] at h
 by_cases g2:k<1∨13<k
 ·simp [g1,g2] at h
 by_cases g3:n=dI k
 ·exact ⟨g3,by omega⟩
 ·simp [g1,g2,g3] at h
theorem my {ts:List (List Int)} {p:Pl} {r:List Pl} {m d:Int} (h:(aP ts (p :: r) m d).1=0):(aS ts p m d).1=0∧(aP ts r (aS ts p m d).2 d).1=0∧(aP ts (p :: r) m d).2=(aP ts r (aS ts p m d).2 d).2:=by
 rw [aP] at h ⊢;by_cases h1:(aS ts p m d).1=0
 ·rw [if_neg (by simp [h1])] at h ⊢;exact ⟨h1,h,rfl⟩
 ·rw [if_pos h1] at h; exact absurd h h1
theorem gK {ts:List (List Int)}:∀ {ks:List Pl} {m d:Int},(aP ts ks m d).1=0→∀ p ∈ ks,∃ m',(aS ts p m' d).1=0
 | [],_,_,_,p,hp=>by cases hp
 | q :: r,m,d,h,p,hp=>by
  obtain ⟨h1,h2,_⟩:=my h
  rcases List.mem_cons.1 hp with rfl | hp
  ·exact ⟨m,h1⟩
  ·exact gK h2 p hp
theorem wR (ts:List (List Int)):∀ (p:Pl) (m d:Int),(aS ts p m d).1=0→m<(aS ts p m d).2∧(aS ts p m d).2≤60 :=
 Pl.ind fun k n x xs gs ks ih m d h=>by
  obtain ⟨h1,h2,_,e⟩:=eU h
  have hq:=gG h1
  have aux:∀ (l:List Pl),(∀ p ∈ l,∀ (m d:Int),(aS ts p m d).1=0→m<(aS ts p m d).2∧(aS ts p m d).2≤60)→∀ m d,m≤60→(aP ts l m d).1=0→m≤(aP ts l m d).2∧(aP ts l m d).2≤60:=by
   intro l
   induction l with
   | nil=>intro _ m d hm _; rw [aP]; exact ⟨Int.le_refl _,hm⟩
   | cons p r ihl =>
    intro hl m d hm h;obtain ⟨g1,g2,g3⟩:=my h;have a1:=hl p (by simp) m d g1;have a2:=ihl (fun q hq=>hl q (by simp [hq])) _ d a1.2 g2;rw [g3];omega
  have:=aux ks ih (m+1) (d+1) (by omega) h2;rw [e];omega
theorem tK:∀ {l r:List Int},(dQ l r).length≤l.length
 | [],_=>by simp [dQ]
 | a :: l,[]=>by simp [dQ]
 | a :: l,b :: r=>by
  have:=tK (l:=l) (r:=r)
  rw [dQ,Je,Je]
  omega
theorem GB {ts:List (List Int)} (h:fE ts=0):∀ c ∈ ts,c.length≤8:=by
 have aux:∀ (l:List (List Int)),iQ l=0→∀ c ∈ l,c.length≤8:=by
  intro l
  induction l with
  | nil=>intro _ c hc; cases hc
  | cons a r ih =>
   intro h c hc;rw [iQ] at h;by_cases h0:fZ a=0
   ·rw [if_neg (by simp [h0])] at h;rcases List.mem_cons.1 hc with rfl | hc
    ·unfold fZ at h0;by_cases h8:8<c.length
     ·rw [if_pos h8] at h0; cases h0
     ·omega
    ·exact ih h c hc
   ·rw [if_pos h0] at h; exact absurd h h0
 unfold fE at h;by_cases h8:8<ts.length
 ·rw [if_pos h8] at h; cases h
 ·rw [if_neg h8] at h; exact aux ts h
theorem xK {l r:List Int} {x:Ex} {w:Nat} {a b:List Zp} (h:fC w l r x a b=0):l.length+r.length≤8:=by
 unfold fC at h;by_cases h0:ib l r x a b=0
 ·unfold ib at h0;by_cases h8:8<l.length+r.length
  ·rw [if_pos h8] at h0; cases h0
  ·omega
 ·rw [if_pos h0] at h; exact absurd h h0
theorem node8 {ts:List (List Int)} (hts:∀ c ∈ ts,c.length≤8) {k n:Int} {x:Ex} {xs:List Ex} {gs:List Ag} {cs:List (List Int)} (h:ep ts k n x xs gs cs=0) (hc:∀ c ∈ cs,c.length≤8):(fx ts k n xs gs cs).length≤8:=by
 match cs,h,hc with
 | [],h,_ =>
  simp only [ep] at h;simp only [fx];by_cases h0:n<0∨(ts.length:Int)≤n
  ·rw [if_pos h0] at h; cases h
  ·have hn:n.toNat<ts.length:=by omega
   have e:ts.getD n.toNat []=ts[n.toNat]:=by simp [hn]
   rw [e];exact hts _ (Hm hn)
 | [c],h,hc =>
  simp only [ep] at h;simp only [fx,jS];have h8:=hc c (by simp);by_cases k3:k=3
  ·rw [if_pos k3,ir];unfold fm at h;rw [if_neg (by omega),if_pos k3] at h;exact sH h
  ·rw [if_neg k3];by_cases k12:k=12
   ·rw [if_pos k12,Ii,ir,Ik];unfold fm at h;rw [if_neg (by omega),if_neg k3,if_pos k12] at h;exact oP h
   ·rw [if_neg k12]; exact h8
 | l :: r :: _,h,hc =>
  simp only [ep] at h;simp only [fx,nu];have h8:=hc l (by simp);by_cases k8:k=8∨k=9
  ·rw [if_pos k8];exact HJ tK h8
  ·rw [if_neg k8];by_cases k5:k=5∨k=6
   ·rw [if_pos k5]; exact h8
   ·rw [if_neg k5,Ii];unfold ni at h;rw [if_neg k8] at h;exact xK h
theorem qm {ts:List (List Int)} (hts:fE ts=0):∀ (p:Pl) (m d:Int),(aS ts p m d).1=0→(aj ts p).length≤8 :=
 Pl.ind fun k n x xs gs ks ih m d h=>by
  obtain ⟨_,h2,h3,_⟩:=eU h
  rw [aj]
  refine node8 (GB hts) h3 fun c hc=>?_
  rw [cn] at hc
  obtain ⟨p,hp,rfl⟩:=List.mem_map.1 hc
  obtain ⟨m',hm⟩:=gK h2 p hp
  exact ih p hp m' _ hm
end Go.Proofs.YtjebpkhkjkjphaaGreat
namespace Go.Proofs.YtjebpkhkjkjphaaGreat
open Go.RowKit Go.Lib Go.Shelf
set_option maxRecDepth 100000
set_option maxHeartbeats 16000000
def bH (W:World) (g:Nat):Nat→List Value→World
 | _,[]=>W
 | o,v :: r=>bH (W.setCell ⟨g,o,none⟩ v) g (o+1) r
theorem cR (g:Nat):∀ (vs:List Value) (W:World) (o b p:Nat),(b≠g∨p<o∨o+vs.length≤p)→(bH W g o vs).cell? ⟨b,p,none⟩=W.cell? ⟨b,p,none⟩
 | [],_,_,_,_,_=>rfl
 | v :: r,W,o,b,p,h=>by
  rw [bH,cR g r _ (o+1) b p (by simp at h; omega)]
  refine Hq _ _ _ _ (by intro e; injection e with e1 e2; simp at h; omega)
theorem hY (g:Nat):∀ (vs:List Value) (W:World) (o i:Nat) (h:i<vs.length),(∀ k,k<vs.length→∃ u,W.cell? ⟨g,o+k,none⟩=some u)→(bH W g o vs).cell? ⟨g,o+i,none⟩=some vs[i]
 | v :: r,W,o,0,_,hr=>by
  obtain ⟨u,hu⟩:=hr 0 (by simp)
  rw [bH,cR g r _ _ _ _ (by omega)]
  exact ID _ _ _ hu
 | v :: r,W,o,i+1,h,hr=>by
  have:=hY g r (W.setCell ⟨g,o,none⟩ v) (o+1) i (by simpa using h) fun k hk=>by
   obtain ⟨u,hu⟩:=hr (k+1) (by simpa using hk)
   refine ⟨u,?_⟩
   rw [Hq _ _ _ _ (by intro e; injection e with e1 e2; omega)]
   rw [← hu]
   congr 2
   omega
  rw [bH]
  rw [show o+(i+1)=o+1+i by omega,this]
  rfl
theorem iN (g:Nat):∀ (vs:List Value) (W:World) (o b p:Nat),(bH W g o vs).frozen? ⟨b,p,none⟩=W.frozen? ⟨b,p,none⟩
 | [],_,_,_,_=>rfl
 | v :: r,W,o,b,p=>by rw [bH,iN g r,Io]
theorem fO (g:Nat):∀ (vs:List Value) (W:World) (o:Nat),(bH W g o vs).heap.size=W.heap.size
 | [],_,_=>rfl
 | v :: r,W,o=>by rw [bH,fO g r,Ip]
theorem hU {B lo:Nat} {W0:World} (g:Nat) (hB:B≤g) (hg:g<lo):∀ (vs:List Value) (W:World) (o:Nat),Kept B lo W0 W→Kept B lo W0 (bH W g o vs)
 | [],_,_,h=>h
 | v :: r,_,o,h=>hU g hB hg r _ _ (h.set g o v hB hg)
theorem iR {t:Nat} {W0:World} (g:Nat) (hg:W0.heap.size≤g) (ht:t≤W0.heap.size):∀ (vs:List Value) (W:World) (o:Nat),aM t W0 W→aM t W0 (bH W g o vs)
 | [],_,_,h=>h
 | v :: r,_,o,h=>iR g hg ht r _ _ (h.Bw g o v hg ht)
def nw:List Value:=[.int .i64 0,.int .i64 0,.int .i64 0,.int .i64 0,.int .i64 0,.string ⟨#[]⟩,.int .i64 0,.slice none 0 0,.slice none 0 0,.slice none 0 0,.slice none 0 0,.slice none 0 0,.slice none 0 0]
def fX (n:Nat):Array Value:=((List.replicate n nw).flatten).toArray
theorem nN (n:Nat):(fX n).size=n*13:=by
 unfold fX;rw [List.size_toArray,List.length_flatten,List.map_replicate,List.sum_replicate_nat];rfl
theorem uD {n:Nat} (h:n≤2) (w:World):(Instr.makeSlice 54 (.int .i64 n) (.int .i64 n)).run Tryz.prog w = .ok (.slice (some ⟨w.heap.size,0,none⟩) n n) (w.alloc (.cells (fX n) 56)):=by
 obtain rfl | rfl | rfl:n=0∨n=1∨n=2:=by omega
 all_goals kernel_rfl
structure yF (ts:List (List Int)) (B lo g:Nat) (W:World) (l:List Pl) (j:Nat):Prop where
 lt:g<W.heap.size
 gB:B≤g
 gl:g<lo
 room:∀ o,o<l.length*13→∃ u,W.cell? ⟨g,o,none⟩=some u
 fz:∀ o,W.frozen? ⟨g,o,none⟩=false
 laid:∀ (i:Nat) (h:i<l.length),i<j→∃ q ca cc na nc,gQ W g (i*13) l[i] q∧W.cell? ⟨g,i*13+11,none⟩=some (.slice ca (aj ts l[i]).length cc)∧W.cell? ⟨g,i*13+12,none⟩=some (.slice na l[i].ks.length nc)∧Ai ts B lo W l[i] q ca na
theorem yF.new (ts:List (List Int)) {B lo:Nat} (w:World) (l:List Pl) (hB:B≤w.heap.size) (hl:w.heap.size<lo) (T:TypeId):yF ts B lo w.heap.size (w.alloc (.cells (fX l.length) T)) l 0:=by
 have q:=an w (fX l.length) T;refine ⟨ae q,hB,hl,fun o ho=>?_,fun o=>Hh _ w.heap.size o _ _ q,fun i _ h=>absurd h (Iu _)⟩;have hs:o<(fX l.length).size:=by rw [nN]; exact ho
 exact ⟨(fX l.length)[o],cell_of (i:=o) q (by rw [IP hs])⟩
theorem yF.next {ts:List (List Int)} {B lo g t:Nat} {W w1:World} {l:List Pl} {j:Nat} (h:yF ts B lo g W l j) (hb:aM t W w1) (hB:B≤t) (ht:t<g):yF ts B lo g w1 l j:=by
 have hn:g≠t:=by omega
 have gl:=h.gl;refine ⟨Hi h.lt hb.size,h.gB,h.gl,fun o ho=>?_,fun o=>(hb.frozen (p:=⟨g,o,none⟩) h.lt hn).trans (h.fz o),fun i hi hj=>?_⟩
 ·obtain ⟨u,hu⟩:=h.room o ho;exact ⟨u,(hb.cell (p:=⟨g,o,none⟩) h.lt hn).trans hu⟩
 ·obtain ⟨q,ca,cc,na,nc,e,e1,e2,e3⟩:=h.laid i hi hj;exact ⟨q,ca,cc,na,nc,e.mz hb h.lt hn,(hb.cell (p:=⟨g,_,none⟩) h.lt hn).trans e1,(hb.cell (p:=⟨g,_,none⟩) h.lt hn).trans e2,e3.next (Kept.G1 hb hB (by omega))⟩
def tf (p:Pl) (q:Pw) (ca:Option Addr) (n cc:Nat) (na:Option Addr) (nc:Nat):List Value:=[.int .i64 p.k,.int .i64 p.n,.int .i64 p.x.k,.int .i64 p.x.v.1,.int .i64 p.x.v.2.1,.string p.x.v.2.2,.int .i64 p.x.c,.slice q.xa p.x.ks.length q.xc,.slice q.sa p.xs.length q.sc,.slice q.ga p.gs.length q.gc,.slice q.ka p.ks.length q.kc,.slice ca n cc,.slice na p.ks.length nc]
theorem yF.store {ts:List (List Int)} {B lo g:Nat} {W:World} {l:List Pl} {j:Nat} (h:yF ts B lo g W l j) (hj:j<l.length) {q:Pw} {ca:Option Addr} {cc:Nat} {na:Option Addr} {nc:Nat} (hn:Ai ts B lo W l[j] q ca na) :
  yF ts B lo g (bH W g (j*13) (tf l[j] q ca (aj ts l[j]).length cc na nc)) l (j+1):=by
 have hK:=hU g h.gB h.gl (tf l[j] q ca (aj ts l[j]).length cc na nc) W (j*13) (Kept.refl B lo W);have hr:∀ k,k<(tf l[j] q ca (aj ts l[j]).length cc na nc).length→∃ u,W.cell? ⟨g,j*13+k,none⟩=some u:=fun k hk=>h.room _ (by
  have:k<13:=hk;have:(j+1)*13≤l.length*13:=Iw 13 hj;omega)
 have hs:∀ (i:Nat) (hi:i<13),(bH W g (j*13) (tf l[j] q ca (aj ts l[j]).length cc na nc)).cell? ⟨g,j*13+i,none⟩=some ((tf l[j] q ca (aj ts l[j]).length cc na nc)[i]'hi):=fun i hi=>hY g (tf l[j] q ca (aj ts l[j]).length cc na nc) W (j*13) i hi hr
 have ho:∀ o,(o<j*13∨j*13+13≤o)→(bH W g (j*13) (tf l[j] q ca (aj ts l[j]).length cc na nc)).cell? ⟨g,o,none⟩=W.cell? ⟨g,o,none⟩:=fun o h=>cR g _ W _ _ _ (.inr h)
 refine ⟨by rw [fO]; exact h.lt,h.gB,h.gl,fun o hl=>?_,fun o=>by rw [iN]; exact h.fz o,fun i hi hij=>?_⟩
 ·by_cases c:o<j*13∨j*13+13≤o
  ·rw [ho o c]; exact h.room o hl
  ·have:=hs (o - j*13) (by omega);rw [show j*13+(o - j*13)=o by omega] at this;exact ⟨_,this⟩
 ·by_cases e:i=j
  ·subst e;refine ⟨q,ca,cc,na,nc,⟨hs 0 (by decide),hs 1 (by decide),⟨hs 2 (by decide),hs 3 (by decide),hs 4 (by decide),hs 5 (by decide),hs 6 (by decide),hs 7 (by decide)⟩,hs 8 (by decide),hs 9 (by decide),hs 10 (by decide)⟩,hs 11 (by decide),hs 12 (by decide),hn.next hK⟩
  ·obtain ⟨q',ca',cc',na',nc',e0,e1,e2,e3⟩:=h.laid i hi (by omega);have hlt:i*13+13≤j*13:=by
    have:(i+1)*13≤j*13:=Iw 13 (by omega);omega
   exact ⟨q',ca',cc',na',nc',⟨(ho _ (by omega)).trans e0.c0,(ho _ (by omega)).trans e0.c1,⟨(ho _ (by omega)).trans e0.qA.c0,(ho _ (by omega)).trans e0.qA.c1,(ho _ (by omega)).trans e0.qA.c2,(ho _ (by omega)).trans e0.qA.c3,(ho _ (by omega)).trans e0.qA.c4,(ho _ (by omega)).trans e0.qA.c5⟩,(ho _ (by omega)).trans e0.c8,(ho _ (by omega)).trans e0.c9,(ho _ (by omega)).trans e0.dW⟩,(ho _ (by omega)).trans e1,(ho _ (by omega)).trans e2,e3.next hK⟩
theorem yF.ns {ts:List (List Int)} {B lo lo' g:Nat} {W:World} {l:List Pl} (h:yF ts B lo g W l l.length) (hl:lo'≤g):rJ ts B lo' W (some ⟨g,0,none⟩) l:=by
 have gl:=h.gl;have ex:=fun (i:Nat) (hi:i<l.length)=>h.laid i hi hi
 refine .some g 0 l (fun i=>if hi:i<l.length then (ex i hi).choose else ⟨none,0,none,0,none,0,none,0⟩) (fun i=>if hi:i<l.length then (ex i hi).choose_spec.choose else none) (fun i=>if hi:i<l.length then (ex i hi).choose_spec.choose_spec.choose else 0) (fun i=>if hi:i<l.length then (ex i hi).choose_spec.choose_spec.choose_spec.choose else none) (fun i=>if hi:i<l.length then (ex i hi).choose_spec.choose_spec.choose_spec.choose_spec.choose else 0) h.lt hl ?_ ?_ ?_ ?_ ?_ ?_
 all_goals intro i hi
 all_goals simp only [hi,dite_true,Hu]
 all_goals have sp:=(ex i hi).choose_spec.choose_spec.choose_spec.choose_spec.choose_spec
 ·exact sp.1
 ·exact sp.2.1
 ·exact sp.2.2.1
 ·exact sp.2.2.2.pl
 ·exact sp.2.2.2.af.wide (by omega)
 ·exact rJ.wide (by omega) sp.2.2.2.kids
theorem yw {ts:List (List Int)} {p:Pl} {m d:Int} (h:¬ dH p.k p.ks.length (m+1) d=0):aS ts p m d=(dH p.k p.ks.length (m+1) d,m+1):=by
 cases p; simp only [Pl.k,Pl.ks] at h ⊢; rw [aS,if_pos h]
theorem xT {ts:List (List Int)} {p:Pl} {m d:Int} (h:dH p.k p.ks.length (m+1) d=0) (he:¬ (aP ts p.ks (m+1) (d+1)).1=0):aS ts p m d=aP ts p.ks (m+1) (d+1):=by
 cases p; simp only [Pl.k,Pl.ks] at h he; rw [aS,if_neg (by simp [h]),if_pos he]; rfl
theorem xE {ts:List (List Int)} {p:Pl} {m d:Int} (h:dH p.k p.ks.length (m+1) d=0) (he:(aP ts p.ks (m+1) (d+1)).1=0):aS ts p m d=(ep ts p.k p.n p.x p.xs p.gs (p.ks.map (aj ts)),(aP ts p.ks (m+1) (d+1)).2):=by
 cases p; simp only [Pl.k,Pl.ks] at h he; rw [aS,if_neg (by simp [h]),if_neg (by simp [he]),cn]; rfl
theorem Cn (ts:List (List Int)) (p:Pl):aj ts p=fx ts p.k p.n p.xs p.gs (p.ks.map (aj ts)):=by
 cases p; rw [aj,cn]; rfl
theorem kF.all {t:Nat} {ta:Option Addr} {n tc:Nat} {m:Int} {W:World} (h:kF W t ta n tc m) (g:Nat) (hn:g≠t) (vs:List Value) (o:Nat):kF (bH W g o vs) t ta n tc m :=
 ⟨by rw [fO]; exact h.lt,(cR g vs W o t 0 (.inl (Ne.symm hn))).trans h.c0,(cR g vs W o t 1 (.inl (Ne.symm hn))).trans h.c1,(iN g vs W o t 1).trans h.f1⟩
theorem gQ.all {b off:Nat} {p:Pl} {q:Pw} {W:World} (h:gQ W b off p q) (g:Nat) (hn:b≠g) (vs:List Value) (o:Nat):gQ (bH W g o vs) b off p q :=
 have k:=fun x=>cR g vs W o b x (.inl hn)
 ⟨(k _).trans h.c0,(k _).trans h.c1,⟨(k _).trans h.qA.c0,(k _).trans h.qA.c1,(k _).trans h.qA.c2,(k _).trans h.qA.c3,(k _).trans h.qA.c4,(k _).trans h.qA.c5⟩,(k _).trans h.c8,(k _).trans h.c9,(k _).trans h.dW⟩
theorem kZ (g k:Nat) (hn:k≠g):∀ (vs:List Value) (W:World) (o:Nat),k<W.heap.size→(bH W g o vs).heap[k]? = W.heap[k]?
 | [],_,_,_=>rfl
 | v :: r,W,o,hk=>by
  rw [bH,kZ g k hn r _ _ (by rw [Ip]; exact hk)]
  exact ((aM.refl g W).set o v).2 k hk hn
def qU (ts:List (List Int)) (p:Pl):Prop :=
 ∀ (B t:Nat) (ta:Option Addr) (tc:Nat) (q:Pw) (m d:Int) (w:World),ki B w p q→gP B w ta ts→B≤t→kF w t ta ts.length tc m→0≤m→m≤60→0≤d→d≤16→cF p →
  Calls Tryz.prog 28 #[.pointer (some ⟨t,0,none⟩),fp p q,.int .i64 d] w fun e w'=>(∃ v,e = .returned (.tuple #[v,.int .i64 (aS ts p m d).1])∧((aS ts p m d).1=0→∃ ca cc na nc,v=rK p q ca (aj ts p).length cc na nc∧Ai ts B w.heap.size w' p q ca na)∧(¬ (aS ts p m d).1=0→v=jx))∧aM t w w'∧kF w' t ta ts.length tc (aS ts p m d).2
theorem DZ (ts:List (List Int)) (hts:fE ts=0) (p:Pl) (ih:∀ r ∈ p.ks,qU ts r):qU ts p:=by
 intro B t ta tc q m d w hp hT hBt ht hm0 hm hd0 hd hok;have htw:=ht.lt;have HT:Hid (fE ts=0):=hts;have HK:Hid (cF p):=hok;have IH:Hid (∀ r ∈ p.ks,qU ts r):=ih;generalize hr:aS ts p m d=r;have HR:Hid (aS ts p m d=r):=hr;clear hr hts hok ih;have zS:(w.setCell ⟨t,1,none⟩ (.int .i64 (m+1))).heap.size=w.heap.size:=Ip _ _ _;have TS:=ht.count (m+1);have XS:=(aM.refl t w).set 1 (.int .i64 (m+1));have E0:=gQ.new (w.setCell ⟨t,1,none⟩ (.int .i64 (m+1))) p q 31;have l0:=ae (an (w.setCell ⟨t,1,none⟩ (.int .i64 (m+1))) (gq p q) 31)
 have z0:((w.setCell ⟨t,1,none⟩ (.int .i64 (m+1))).alloc (.cells (gq p q) 31)).heap.size=w.heap.size+1:=by simp
 have h0:Below (w.setCell ⟨t,1,none⟩ (.int .i64 (m+1))).heap.size (w.setCell ⟨t,1,none⟩ (.int .i64 (m+1))) ((w.setCell ⟨t,1,none⟩ (.int .i64 (m+1))).alloc (.cells (gq p q) 31)):=(He _ _).alloc (Hd _) _
 have h1:Below ((w.setCell ⟨t,1,none⟩ (.int .i64 (m+1))).alloc (.cells (gq p q) 31)).heap.size ((w.setCell ⟨t,1,none⟩ (.int .i64 (m+1))).alloc (.cells (gq p q) 31)) (((w.setCell ⟨t,1,none⟩ (.int .i64 (m+1))).alloc (.cells (gq p q) 31)).alloc (.cells #[.int .i64 0,.int .i64 0,.int .i64 0,.int .i64 0,.int .i64 0,.string ⟨#[]⟩,.int .i64 0,.slice none 0 0,.slice none 0 0,.slice none 0 0,.slice none 0 0,.slice none 0 0,.slice none 0 0] 56)):=(He _ _).alloc (Hd _) _
 have QR:=an ((w.setCell ⟨t,1,none⟩ (.int .i64 (m+1))).alloc (.cells (gq p q) 31)) #[.int .i64 0,.int .i64 0,.int .i64 0,.int .i64 0,.int .i64 0,.string ⟨#[]⟩,.int .i64 0,.slice none 0 0,.slice none 0 0,.slice none 0 0,.slice none 0 0,.slice none 0 0,.slice none 0 0] 56;rw [z0] at QR;rw [zS] at E0 l0;have h01:=chain h0 h1;have T0:=TS.next h01;have X0:=XS.trans (aM.of h01 (by rw [zS]; exact Jh htw));have EA:=E0.next h1 l0;have H2:=ht.c1;have H3:=ht.f1
 have zA:w.heap.size+1<(((w.setCell ⟨t,1,none⟩ (.int .i64 (m+1))).alloc (.cells (gq p q) 31)).alloc (.cells #[.int .i64 0,.int .i64 0,.int .i64 0,.int .i64 0,.int .i64 0,.string ⟨#[]⟩,.int .i64 0,.slice none 0 0,.slice none 0 0,.slice none 0 0,.slice none 0 0,.slice none 0 0,.slice none 0 0] 56)).heap.size:=ae QR;have hWm:IntKind.i64.wrap (m+1)=m+1:=IntWalk.i64_in _ ⟨by omega,by omega⟩;clear XS E0 TS;unfold fp;go_enter Tryz.func28,Tryz.ntmps28;go_wp2_with fail
 clear H2 H3 h0 h1 h01 l0 z0 zS;generalize ((w.setCell ⟨t,1,none⟩ (.int .i64 (m+1))).alloc (.cells (gq p q) 31)).alloc (.cells #[.int .i64 0,.int .i64 0,.int .i64 0,.int .i64 0,.int .i64 0,.string ⟨#[]⟩,.int .i64 0,.slice none 0 0,.slice none 0 0,.slice none 0 0,.slice none 0 0,.slice none 0 0,.slice none 0 0] 56)=wA at *
 have hCC:∀ W W':World,(gQ W w.heap.size 0 p q∧w.heap.size<W.heap.size∧W.cell? ⟨t,1,none⟩=some (.int .i64 (m+1))∧t<W.heap.size)→Below W.heap.size W W'→(gQ W' w.heap.size 0 p q∧w.heap.size<W'.heap.size∧W'.cell? ⟨t,1,none⟩=some (.int .i64 (m+1))∧t<W'.heap.size):=fun W W' h hb=>⟨h.1.next hb h.2.1,Hi h.2.1 hb.size,(hb.cell (p:=⟨t,1,none⟩) h.2.2.2).trans h.2.2.1,Hi h.2.2.2 hb.size⟩
 have hd:Below wA.heap.size wA wA.drew:=(He _ _).drew;have CW:=hCC _ _ ⟨EA,by omega,T0.c1,by omega⟩ hd;refine aG (fun W=>(gQ W w.heap.size 0 p q∧w.heap.size<W.heap.size∧W.cell? ⟨t,1,none⟩=some (.int .i64 (m+1))∧t<W.heap.size)) (by kernel_rfl) ?_;refine ab hCC 23 (i:=0) (v:=.agg (gq p q)) (fun n hn=>?_) CW ?_
 ·obtain ⟨⟨n0,n1,⟨n2,n3,n4,n5,n6,n7⟩,n8,n9,n10⟩,_⟩:=hn;simp only [Hu] at n1 n2 n3 n4 n5 n6 n7 n8 n9 n10;go_simp
 simp only [Act.put,pA,pB,pC];refine ab hCC 24 (i:=1) (v:=.pointer (some ⟨t,0,none⟩)) (fun n hn=>?_) CW ?_
 ·go_simp
 simp only [Act.put,pA,pB,pC];refine ab hCC 25 (i:=2) (v:=.pointer (some ⟨t,0,none⟩)) (fun n hn=>?_) CW ?_
 ·go_simp
 simp only [Act.put,pA,pB,pC];refine ab hCC 26 (i:=3) (v:=.pointer (some ⟨t,1,none⟩)) (fun n hn=>?_) CW ?_
 ·go_simp
 simp only [Act.put,pA,pB,pC];refine ab hCC 27 (i:=4) (v:=.int .i64 (m+1)) (fun n hn=>?_) CW ?_
 ·have hc:=hn.2.2.1;go_simp
 simp only [Act.put,pA,pB,pC];refine ab hCC 28 (i:=5) (v:=.int .i64 d) (fun n hn=>?_) CW ?_
 ·go_simp
 simp only [Act.put,pA,pB,pC];refine au (rs:=[6]) (by kernel_rfl) (by simp) ?_;intro w1 hb1 jj hjj;obtain rfl:jj=6:=by simpa using hjj
 clear hjj;have CW1:=hCC _ _ CW hb1;have con:=pv p q (m+1) d w1;unfold fp at con;generalize hw0:dH p.k p.ks.length (m+1) d=e0 at *;have HW:Hid (dH p.k p.ks.length (m+1) d=e0):=hw0;clear hw0;refine wpOp_step rfl (fun K hK=>?_);go_simp;refine con.mono ?_;rintro e w2 ⟨rfl,hb2⟩;clear con;have CW2:=hCC _ _ CW1 hb2;refine hK _ _ ⟨CW2,?_⟩;clear hK K CW1 CW;refine ab hCC 8 (i:=7) (v:=.int .i64 e0) (fun n hn=>?_) CW2 ?_
 ·go_simp
 simp only [Act.put,pA,pB,pC];refine bd (by kernel_rfl) ?_;intro w3 hb3';have hb3:=chain hd (chain hb1 (chain hb2 hb3'));clear CW2 hCC hb3' hb2 hb1 hd;have T3:=T0.next hb3;have E3:=EA.next hb3 (by omega);have QR:=(hb3.block _ (by omega)).trans QR;have X3:=X0.trans (aM.of hb3 (by omega));have z3:=hb3.size;clear T0 EA X0;by_cases hw:e0=0;rotate_left
 ·have er:r=(e0,m+1):=by rw [← HR.out,yw (by rw [HW.out]; exact hw),HW.out]
  subst er;have HEr:¬ e0=0:=hw;have hwb:(e0 != 0)=true:=by simpa using hw
  clear HR hw;have d0:w3.cell? ⟨w.heap.size+1,0,none⟩=some (.int .i64 0):=cell_of (i:=0) QR rfl;have f0:w3.frozen? ⟨w.heap.size+1,0,none⟩=false:=Hh w3 (w.heap.size+1) 0 _ _ QR;have d1:w3.cell? ⟨w.heap.size+1,1,none⟩=some (.int .i64 0):=cell_of (i:=1) QR rfl;have f1:w3.frozen? ⟨w.heap.size+1,1,none⟩=false:=Hh w3 (w.heap.size+1) 1 _ _ QR;have d2:w3.cell? ⟨w.heap.size+1,2,none⟩=some (.int .i64 0):=cell_of (i:=2) QR rfl;have f2:w3.frozen? ⟨w.heap.size+1,2,none⟩=false:=Hh w3 (w.heap.size+1) 2 _ _ QR
  have d3:w3.cell? ⟨w.heap.size+1,3,none⟩=some (.int .i64 0):=cell_of (i:=3) QR rfl;have f3:w3.frozen? ⟨w.heap.size+1,3,none⟩=false:=Hh w3 (w.heap.size+1) 3 _ _ QR;have d4:w3.cell? ⟨w.heap.size+1,4,none⟩=some (.int .i64 0):=cell_of (i:=4) QR rfl;have f4:w3.frozen? ⟨w.heap.size+1,4,none⟩=false:=Hh w3 (w.heap.size+1) 4 _ _ QR;have d5:w3.cell? ⟨w.heap.size+1,5,none⟩=some (.string ⟨#[]⟩):=cell_of (i:=5) QR rfl;have f5:w3.frozen? ⟨w.heap.size+1,5,none⟩=false:=Hh w3 (w.heap.size+1) 5 _ _ QR
  have d6:w3.cell? ⟨w.heap.size+1,6,none⟩=some (.int .i64 0):=cell_of (i:=6) QR rfl;have f6:w3.frozen? ⟨w.heap.size+1,6,none⟩=false:=Hh w3 (w.heap.size+1) 6 _ _ QR;have d7:w3.cell? ⟨w.heap.size+1,7,none⟩=some (.slice none 0 0):=cell_of (i:=7) QR rfl;have f7:w3.frozen? ⟨w.heap.size+1,7,none⟩=false:=Hh w3 (w.heap.size+1) 7 _ _ QR;have d8:w3.cell? ⟨w.heap.size+1,8,none⟩=some (.slice none 0 0):=cell_of (i:=8) QR rfl;have f8:w3.frozen? ⟨w.heap.size+1,8,none⟩=false:=Hh w3 (w.heap.size+1) 8 _ _ QR
  have d9:w3.cell? ⟨w.heap.size+1,9,none⟩=some (.slice none 0 0):=cell_of (i:=9) QR rfl;have f9:w3.frozen? ⟨w.heap.size+1,9,none⟩=false:=Hh w3 (w.heap.size+1) 9 _ _ QR;have d10:w3.cell? ⟨w.heap.size+1,10,none⟩=some (.slice none 0 0):=cell_of (i:=10) QR rfl;have f10:w3.frozen? ⟨w.heap.size+1,10,none⟩=false:=Hh w3 (w.heap.size+1) 10 _ _ QR;have d11:w3.cell? ⟨w.heap.size+1,11,none⟩=some (.slice none 0 0):=cell_of (i:=11) QR rfl;have f11:w3.frozen? ⟨w.heap.size+1,11,none⟩=false:=Hh w3 (w.heap.size+1) 11 _ _ QR
  have d12:w3.cell? ⟨w.heap.size+1,12,none⟩=some (.slice none 0 0):=cell_of (i:=12) QR rfl;have f12:w3.frozen? ⟨w.heap.size+1,12,none⟩=false:=Hh w3 (w.heap.size+1) 12 _ _ QR;have XE:=iR (w.heap.size+1) (IT _) (Jh htw) nw w3 0 X3;have TE:kF (bH w3 (w.heap.size+1) 0 nw) t ta ts.length tc _:=kF.all T3 (w.heap.size+1) (by omega) nw 0;clear QR;go_wp2_with fail
  first
   | exact Hf (v:=.tuple #[jx,.int .i64 e0]) (by simp [results,Tryz.results28,go_sem,jx,d0,d1,d2,d3,d4,d5,d6,d7,d8,d9,d10,d11,d12]) rfl ⟨rfl,XE,TE⟩
   | exact Hf (v:=.tuple #[jx,.int .i64 e0]) (by simp [results,Tryz.results28,go_sem,jx,d0,d1,d2,d3,d4,d5,d6,d7,d8,d9,d10,d11,d12]) rfl ⟨⟨_,rfl,rfl⟩,XE,TE⟩
   | exact Hf (v:=.tuple #[jx,.int .i64 e0]) (by simp [results,Tryz.results28,go_sem,jx,d0,d1,d2,d3,d4,d5,d6,d7,d8,d9,d10,d11,d12]) rfl ⟨⟨_,rfl,fun c=>absurd c HEr,fun _=>rfl⟩,XE,TE⟩
   | trace_state
 subst hw;obtain ⟨hln,hk1,hk13,hm1,hd1⟩:=gG HW.out;have hl2:p.ks.length≤2:=by rw [hln]; exact kU _
 have HL:Hid (p.ks.length=dI p.k):=hln;have hmk:=uD hl2;clear hln;have dW:=E3.dW;simp only [Hu] at dW;have zl:w.heap.size<w3.heap.size:=by omega
 go_wp2_with fail
 have hal4:=aa w3 (.cells (fX p.ks.length) 56);have KT:=yF.new ts (B:=B) (lo:=w3.heap.size+1) w3 p.ks (by omega) (Nat.lt_succ_self _) 56;have T4:=T3.next hal4;have E4:=E3.next hal4 (by omega);have QR4:=(hal4.block _ (ae QR)).trans QR;have X4:=X3.trans (aM.of hal4 (by omega));have hgw:w.heap.size+1<w3.heap.size:=by omega
 clear T3 E3 QR X3 hmk dW hal4;generalize w3.alloc (.cells (fX p.ks.length) 56)=w4 at *;generalize w3.heap.size=g at *
 go_loopw [41] (fun i wr=>∃ (j:Nat) (mq:Int),j≤p.ks.length∧i = .int .i64 j∧0≤mq∧mq≤60∧Hid (aP ts p.ks (m+1) (d+1)=aP ts (p.ks.drop j) mq (d+1))∧aM t w wr∧kF wr t ta ts.length tc mq∧gQ wr w.heap.size 0 p q∧wr.heap[w.heap.size+1]? = some (.cells #[.int .i64 0,.int .i64 0,.int .i64 0,.int .i64 0,.int .i64 0,.string ⟨#[]⟩,.int .i64 0,.slice none 0 0,.slice none 0 0,.slice none 0 0,.slice none 0 0,.slice none 0 0,.slice none 0 0] 56 (0,0))∧yF ts B (g+1) g wr p.ks j) (fun i _=>p.ks.length - (intOf i).toNat)
 case atStart=>exact ⟨0,m+1,Hl _,rfl,by omega,hm1,rfl,X4,T4,E4,QR4,KT⟩
 case round =>
  obtain ⟨j,mq,hj,rfl,hq0,hq,HE,hX,hTy,hE,QR,hKT⟩:=hrel;clear X4 T4 E4 QR4 KT;have hz:=hX.size;have hgl:=hKT.lt;by_cases hlt:j<p.ks.length
  ·obtain ⟨b,off,q1,eka,hbl,EL,PB⟩:=(gS.next (hX.below hBt) (Hd _) hp.ks).elem hlt;obtain ⟨y0,y1,⟨y2,y3,y4,y5,y6,y7⟩,y8,y9,y10⟩:=EL;have hjz:(j:Int)<(p.ks.length:Int):=by omega
   have hal:=aa wr (.cells #[.int .i64 p.ks[j].k,.int .i64 p.ks[j].n,.int .i64 p.ks[j].x.k,.int .i64 p.ks[j].x.v.1,.int .i64 p.ks[j].x.v.2.1,.string p.ks[j].x.v.2.2,.int .i64 p.ks[j].x.c,.slice q1.xa p.ks[j].x.ks.length q1.xc,.slice q1.sa p.ks[j].xs.length q1.sc,.slice q1.ga p.ks[j].gs.length q1.gc,.slice q1.ka p.ks[j].ks.length q1.kc] 31)
   have zk:(wr.alloc (.cells #[.int .i64 p.ks[j].k,.int .i64 p.ks[j].n,.int .i64 p.ks[j].x.k,.int .i64 p.ks[j].x.v.1,.int .i64 p.ks[j].x.v.2.1,.string p.ks[j].x.v.2.2,.int .i64 p.ks[j].x.c,.slice q1.xa p.ks[j].x.ks.length q1.xc,.slice q1.sa p.ks[j].xs.length q1.sc,.slice q1.ga p.ks[j].gs.length q1.gc,.slice q1.ka p.ks[j].ks.length q1.kc] 31)).heap.size=wr.heap.size+1:=by simp
   have hBr:B≤wr.heap.size:=by omega
   have con:=IH.out p.ks[j] (Hm hlt) B t ta tc q1 mq (d+1) _ (PB.next hal hBr) ((hT.next (hX.below hBt) (Hd _)).next hal hBr) hBt (hTy.next hal) hq0 hq (by omega) (by omega) (HK.out.ks _ (Hm hlt));unfold fp at con;go_upto_region 9 with fail
   clear y0 y1 y2 y3 y4 y5 y6 y7 y8 y9 y10;have EK:=gQ.new wr p.ks[j] q1 31;generalize wr.alloc (.cells #[.int .i64 p.ks[j].k,.int .i64 p.ks[j].n,.int .i64 p.ks[j].x.k,.int .i64 p.ks[j].x.v.1,.int .i64 p.ks[j].x.v.2.1,.string p.ks[j].x.v.2.2,.int .i64 p.ks[j].x.c,.slice q1.xa p.ks[j].x.ks.length q1.xc,.slice q1.sa p.ks[j].xs.length q1.sc,.slice q1.ga p.ks[j].gs.length q1.gc,.slice q1.ka p.ks[j].ks.length q1.kc] 31)=wk at *;obtain ⟨y0,y1,⟨y2,y3,y4,y5,y6,y7⟩,y8,y9,y10⟩:=EK;simp only [Hu] at y1 y2 y3 y4 y5 y6 y7 y8 y9 y10;go_wp2_with fail
   refine con.mono ?_;rintro e w5 ⟨⟨v5,rfl,hok,hbad⟩,hX5,hT5⟩;clear con y0 y1 y2 y3 y4 y5 y6 y7 y8 y9 y10;have XK:=aM.of (t:=t) hal (by omega);have X5:=XK.trans hX5;have X5w:=hX.trans X5;have KT5:=hKT.next X5 hBt (by omega);have E5:=hE.mz X5 (by omega) (by omega);have QR5:=(X5.2 _ (ae QR) (by omega)).trans QR;have hz5:=hX5.size;generalize hly:aS ts p.ks[j] mq (d+1)=ly at *;have HY:Hid (aS ts p.ks[j] mq (d+1)=ly):=hly;obtain ⟨e1,n1⟩:=ly;clear hly hKT hE QR hTy hX XK hX5;by_cases he:e1=0
   ·subst he;obtain ⟨ca,cc,na,nc,rfl,ND⟩:=hok rfl;have hn1:=wR ts p.ks[j] mq (d+1) (by rw [HY.out]);rw [HY.out] at hn1;have HN:Hid (mq<n1∧n1≤60):=hn1;have HE':Hid (aP ts p.ks (m+1) (d+1)=aP ts (p.ks.drop (j+1)) n1 (d+1)):=by
     show _=_;rw [HE.out,rZ hlt (by rw [HY.out]),HY.out]
    have hal6:=aa w5 (.cells #[.int .i64 p.ks[j].k,.int .i64 p.ks[j].n,.int .i64 p.ks[j].x.k,.int .i64 p.ks[j].x.v.1,.int .i64 p.ks[j].x.v.2.1,.string p.ks[j].x.v.2.2,.int .i64 p.ks[j].x.c,.slice q1.xa p.ks[j].x.ks.length q1.xc,.slice q1.sa p.ks[j].xs.length q1.sc,.slice q1.ga p.ks[j].gs.length q1.gc,.slice q1.ka p.ks[j].ks.length q1.kc,.slice ca (aj ts p.ks[j]).length cc,.slice na p.ks[j].ks.length nc] 56);have X6:=aM.of (t:=t) hal6 (by omega);have KT6:=KT5.next X6 hBt (by omega)
    have ND6:=(ND.wide (lo':=g+1) (by omega)).next (Kept.of hal6 (by omega));have T6:=hT5.next hal6;have E6:=E5.mz X6 (by omega) (by omega);have QR6:=(X6.2 _ (ae QR5) (by omega)).trans QR5;have X6w:=X5w.trans X6;have hz6:=hal6.size
    have Q6:=an w5 #[.int .i64 p.ks[j].k,.int .i64 p.ks[j].n,.int .i64 p.ks[j].x.k,.int .i64 p.ks[j].x.v.1,.int .i64 p.ks[j].x.v.2.1,.string p.ks[j].x.v.2.2,.int .i64 p.ks[j].x.c,.slice q1.xa p.ks[j].x.ks.length q1.xc,.slice q1.sa p.ks[j].xs.length q1.sc,.slice q1.ga p.ks[j].gs.length q1.gc,.slice q1.ka p.ks[j].ks.length q1.kc,.slice ca (aj ts p.ks[j]).length cc,.slice na p.ks[j].ks.length nc] 56;have hj13:j*13+13≤p.ks.length*13:=by
     have:(j+1)*13≤p.ks.length*13:=Iw 13 hlt;omega
    unfold rK;clear hn1 HE HY hok hbad KT5 ND hT5 E5 QR5 X5w X5 X6;go_upto_region 12 with fail
    generalize w5.alloc (.cells #[.int .i64 p.ks[j].k,.int .i64 p.ks[j].n,.int .i64 p.ks[j].x.k,.int .i64 p.ks[j].x.v.1,.int .i64 p.ks[j].x.v.2.1,.string p.ks[j].x.v.2.2,.int .i64 p.ks[j].x.c,.slice q1.xa p.ks[j].x.ks.length q1.xc,.slice q1.sa p.ks[j].xs.length q1.sc,.slice q1.ga p.ks[j].gs.length q1.gc,.slice q1.ka p.ks[j].ks.length q1.kc,.slice ca (aj ts p.ks[j]).length cc,.slice na p.ks[j].ks.length nc] 56)=w6 at *;obtain ⟨u0',r0⟩:=KT6.room (j*13) (by omega);have g0:=KT6.fz (j*13);obtain ⟨u1',r1⟩:=KT6.room (j*13+1) (by omega);have g1:=KT6.fz (j*13+1)
    obtain ⟨u2',r2⟩:=KT6.room (j*13+2) (by omega);have g2:=KT6.fz (j*13+2);obtain ⟨u3',r3⟩:=KT6.room (j*13+3) (by omega);have g3:=KT6.fz (j*13+3);obtain ⟨u4',r4⟩:=KT6.room (j*13+4) (by omega);have g4:=KT6.fz (j*13+4);obtain ⟨u5',r5⟩:=KT6.room (j*13+5) (by omega);have g5:=KT6.fz (j*13+5);obtain ⟨u6',r6⟩:=KT6.room (j*13+6) (by omega);have g6:=KT6.fz (j*13+6);obtain ⟨u7',r7⟩:=KT6.room (j*13+7) (by omega);have g7:=KT6.fz (j*13+7);obtain ⟨u8',r8⟩:=KT6.room (j*13+8) (by omega);have g8:=KT6.fz (j*13+8);obtain ⟨u9',r9⟩:=KT6.room (j*13+9) (by omega);have g9:=KT6.fz (j*13+9)
    obtain ⟨u10',r10⟩:=KT6.room (j*13+10) (by omega);have g10:=KT6.fz (j*13+10);obtain ⟨u11',r11⟩:=KT6.room (j*13+11) (by omega);have g11:=KT6.fz (j*13+11);obtain ⟨u12',r12⟩:=KT6.room (j*13+12) (by omega);have g12:=KT6.fz (j*13+12);have m0:=cell_of (i:=0) Q6 rfl;have m1:=cell_of (i:=1) Q6 rfl;have m2:=cell_of (i:=2) Q6 rfl;have m3:=cell_of (i:=3) Q6 rfl;have m4:=cell_of (i:=4) Q6 rfl;have m5:=cell_of (i:=5) Q6 rfl;have m6:=cell_of (i:=6) Q6 rfl;have m7:=cell_of (i:=7) Q6 rfl;have m8:=cell_of (i:=8) Q6 rfl;have m9:=cell_of (i:=9) Q6 rfl;have m10:=cell_of (i:=10) Q6 rfl
    have m11:=cell_of (i:=11) Q6 rfl;have m12:=cell_of (i:=12) Q6 rfl;go_wp2_with fail
    have FX:aM t w ((((((((((((((w6).setCell ⟨g,j*13,none⟩ (.int .i64 p.ks[j].k)).setCell ⟨g,j*13+1,none⟩ (.int .i64 p.ks[j].n)).setCell ⟨g,j*13+2,none⟩ (.int .i64 p.ks[j].x.k)).setCell ⟨g,j*13+3,none⟩ (.int .i64 p.ks[j].x.v.1)).setCell ⟨g,j*13+4,none⟩ (.int .i64 p.ks[j].x.v.2.1)).setCell ⟨g,j*13+5,none⟩ (.string p.ks[j].x.v.2.2)).setCell ⟨g,j*13+6,none⟩ (.int .i64 p.ks[j].x.c)).setCell ⟨g,j*13+7,none⟩ (.slice q1.xa p.ks[j].x.ks.length q1.xc)).setCell ⟨g,j*13+8,none⟩ (.slice q1.sa p.ks[j].xs.length q1.sc)).setCell ⟨g,j*13+9,none⟩ (.slice q1.ga p.ks[j].gs.length q1.gc)).setCell ⟨g,j*13+10,none⟩ (.slice q1.ka p.ks[j].ks.length q1.kc)).setCell ⟨g,j*13+11,none⟩ (.slice ca (aj ts p.ks[j]).length cc)).setCell ⟨g,j*13+12,none⟩ (.slice na p.ks[j].ks.length nc)):=iR g (by omega) (by omega) (tf p.ks[j] q1 ca (aj ts p.ks[j]).length cc na nc) w6 (j*13) X6w
    have FT:kF ((((((((((((((w6).setCell ⟨g,j*13,none⟩ (.int .i64 p.ks[j].k)).setCell ⟨g,j*13+1,none⟩ (.int .i64 p.ks[j].n)).setCell ⟨g,j*13+2,none⟩ (.int .i64 p.ks[j].x.k)).setCell ⟨g,j*13+3,none⟩ (.int .i64 p.ks[j].x.v.1)).setCell ⟨g,j*13+4,none⟩ (.int .i64 p.ks[j].x.v.2.1)).setCell ⟨g,j*13+5,none⟩ (.string p.ks[j].x.v.2.2)).setCell ⟨g,j*13+6,none⟩ (.int .i64 p.ks[j].x.c)).setCell ⟨g,j*13+7,none⟩ (.slice q1.xa p.ks[j].x.ks.length q1.xc)).setCell ⟨g,j*13+8,none⟩ (.slice q1.sa p.ks[j].xs.length q1.sc)).setCell ⟨g,j*13+9,none⟩ (.slice q1.ga p.ks[j].gs.length q1.gc)).setCell ⟨g,j*13+10,none⟩ (.slice q1.ka p.ks[j].ks.length q1.kc)).setCell ⟨g,j*13+11,none⟩ (.slice ca (aj ts p.ks[j]).length cc)).setCell ⟨g,j*13+12,none⟩ (.slice na p.ks[j].ks.length nc)) t ta ts.length tc n1:=kF.all T6 g (by omega) (tf p.ks[j] q1 ca (aj ts p.ks[j]).length cc na nc) (j*13)
    have FE:gQ ((((((((((((((w6).setCell ⟨g,j*13,none⟩ (.int .i64 p.ks[j].k)).setCell ⟨g,j*13+1,none⟩ (.int .i64 p.ks[j].n)).setCell ⟨g,j*13+2,none⟩ (.int .i64 p.ks[j].x.k)).setCell ⟨g,j*13+3,none⟩ (.int .i64 p.ks[j].x.v.1)).setCell ⟨g,j*13+4,none⟩ (.int .i64 p.ks[j].x.v.2.1)).setCell ⟨g,j*13+5,none⟩ (.string p.ks[j].x.v.2.2)).setCell ⟨g,j*13+6,none⟩ (.int .i64 p.ks[j].x.c)).setCell ⟨g,j*13+7,none⟩ (.slice q1.xa p.ks[j].x.ks.length q1.xc)).setCell ⟨g,j*13+8,none⟩ (.slice q1.sa p.ks[j].xs.length q1.sc)).setCell ⟨g,j*13+9,none⟩ (.slice q1.ga p.ks[j].gs.length q1.gc)).setCell ⟨g,j*13+10,none⟩ (.slice q1.ka p.ks[j].ks.length q1.kc)).setCell ⟨g,j*13+11,none⟩ (.slice ca (aj ts p.ks[j]).length cc)).setCell ⟨g,j*13+12,none⟩ (.slice na p.ks[j].ks.length nc)) w.heap.size 0 p q:=E6.all g (by omega) (tf p.ks[j] q1 ca (aj ts p.ks[j]).length cc na nc) (j*13)
    have FQ:((((((((((((((w6).setCell ⟨g,j*13,none⟩ (.int .i64 p.ks[j].k)).setCell ⟨g,j*13+1,none⟩ (.int .i64 p.ks[j].n)).setCell ⟨g,j*13+2,none⟩ (.int .i64 p.ks[j].x.k)).setCell ⟨g,j*13+3,none⟩ (.int .i64 p.ks[j].x.v.1)).setCell ⟨g,j*13+4,none⟩ (.int .i64 p.ks[j].x.v.2.1)).setCell ⟨g,j*13+5,none⟩ (.string p.ks[j].x.v.2.2)).setCell ⟨g,j*13+6,none⟩ (.int .i64 p.ks[j].x.c)).setCell ⟨g,j*13+7,none⟩ (.slice q1.xa p.ks[j].x.ks.length q1.xc)).setCell ⟨g,j*13+8,none⟩ (.slice q1.sa p.ks[j].xs.length q1.sc)).setCell ⟨g,j*13+9,none⟩ (.slice q1.ga p.ks[j].gs.length q1.gc)).setCell ⟨g,j*13+10,none⟩ (.slice q1.ka p.ks[j].ks.length q1.kc)).setCell ⟨g,j*13+11,none⟩ (.slice ca (aj ts p.ks[j]).length cc)).setCell ⟨g,j*13+12,none⟩ (.slice na p.ks[j].ks.length nc)).heap[w.heap.size+1]? = some (.cells #[.int .i64 0,.int .i64 0,.int .i64 0,.int .i64 0,.int .i64 0,.string ⟨#[]⟩,.int .i64 0,.slice none 0 0,.slice none 0 0,.slice none 0 0,.slice none 0 0,.slice none 0 0,.slice none 0 0] 56 (0,0)):=(kZ g (w.heap.size+1) (by omega) (tf p.ks[j] q1 ca (aj ts p.ks[j]).length cc na nc) w6 (j*13) (ae QR6)).trans QR6
    have FK:yF ts B (g+1) g ((((((((((((((w6).setCell ⟨g,j*13,none⟩ (.int .i64 p.ks[j].k)).setCell ⟨g,j*13+1,none⟩ (.int .i64 p.ks[j].n)).setCell ⟨g,j*13+2,none⟩ (.int .i64 p.ks[j].x.k)).setCell ⟨g,j*13+3,none⟩ (.int .i64 p.ks[j].x.v.1)).setCell ⟨g,j*13+4,none⟩ (.int .i64 p.ks[j].x.v.2.1)).setCell ⟨g,j*13+5,none⟩ (.string p.ks[j].x.v.2.2)).setCell ⟨g,j*13+6,none⟩ (.int .i64 p.ks[j].x.c)).setCell ⟨g,j*13+7,none⟩ (.slice q1.xa p.ks[j].x.ks.length q1.xc)).setCell ⟨g,j*13+8,none⟩ (.slice q1.sa p.ks[j].xs.length q1.sc)).setCell ⟨g,j*13+9,none⟩ (.slice q1.ga p.ks[j].gs.length q1.gc)).setCell ⟨g,j*13+10,none⟩ (.slice q1.ka p.ks[j].ks.length q1.kc)).setCell ⟨g,j*13+11,none⟩ (.slice ca (aj ts p.ks[j]).length cc)).setCell ⟨g,j*13+12,none⟩ (.slice na p.ks[j].ks.length nc)) p.ks (j+1):=KT6.store hlt ND6
    generalize (((((((((((((w6).setCell ⟨g,j*13,none⟩ (.int .i64 p.ks[j].k)).setCell ⟨g,j*13+1,none⟩ (.int .i64 p.ks[j].n)).setCell ⟨g,j*13+2,none⟩ (.int .i64 p.ks[j].x.k)).setCell ⟨g,j*13+3,none⟩ (.int .i64 p.ks[j].x.v.1)).setCell ⟨g,j*13+4,none⟩ (.int .i64 p.ks[j].x.v.2.1)).setCell ⟨g,j*13+5,none⟩ (.string p.ks[j].x.v.2.2)).setCell ⟨g,j*13+6,none⟩ (.int .i64 p.ks[j].x.c)).setCell ⟨g,j*13+7,none⟩ (.slice q1.xa p.ks[j].x.ks.length q1.xc)).setCell ⟨g,j*13+8,none⟩ (.slice q1.sa p.ks[j].xs.length q1.sc)).setCell ⟨g,j*13+9,none⟩ (.slice q1.ga p.ks[j].gs.length q1.gc)).setCell ⟨g,j*13+10,none⟩ (.slice q1.ka p.ks[j].ks.length q1.kc)).setCell ⟨g,j*13+11,none⟩ (.slice ca (aj ts p.ks[j]).length cc)).setCell ⟨g,j*13+12,none⟩ (.slice na p.ks[j].ks.length nc)=w7 at *
    clear KT6 ND6 T6 E6 QR6 X6w Q6;clear r0 g0 m0 r1 g1 m1 r2 g2 m2 r3 g3 m3 r4 g4 m4 r5 g5 m5 r6 g6 m6 r7 g7 m7 r8 g8 m8 r9 g9 m9 r10 g10 m10 r11 g11 m11 r12 g12 m12;rw [← eka];go_roundw
    case rel=>exact ⟨j+1,n1,by omega,by go_num,by have:=HN.out; omega,HN.out.2,HE',FX,FT,FE,FQ,FK⟩
    case measure=>simp [intOf]; omega
   ·have er:r=(e1,n1):=by
     rw [← HR.out,xT HW.out (by rw [HE.out,oW hlt (by rw [HY.out]; exact he),HY.out]; exact he),HE.out,oW hlt (by rw [HY.out]; exact he),HY.out]
    subst er;obtain rfl:=hbad he;have HEr:¬ e1=0:=he;have heb:(e1 != 0)=true:=by simpa using he
    have hal6:=aa w5 (.cells #[.int .i64 0,.int .i64 0,.int .i64 0,.int .i64 0,.int .i64 0,.string ⟨#[]⟩,.int .i64 0,.slice none 0 0,.slice none 0 0,.slice none 0 0,.slice none 0 0,.slice none 0 0,.slice none 0 0] 56);have QR:=(hal6.block _ (ae QR5)).trans QR5;have T6:=hT5.next hal6;have X6:=X5w.trans (aM.of hal6 (by omega));clear HR he hok hbad HE HY KT5 QR5 hT5 X5w X5 E5;unfold jx;go_upto_region 10 with fail
    generalize w5.alloc (.cells #[.int .i64 0,.int .i64 0,.int .i64 0,.int .i64 0,.int .i64 0,.string ⟨#[]⟩,.int .i64 0,.slice none 0 0,.slice none 0 0,.slice none 0 0,.slice none 0 0,.slice none 0 0,.slice none 0 0] 56)=w6 at *;have d0:w6.cell? ⟨w.heap.size+1,0,none⟩=some (.int .i64 0):=cell_of (i:=0) QR rfl;have f0:w6.frozen? ⟨w.heap.size+1,0,none⟩=false:=Hh w6 (w.heap.size+1) 0 _ _ QR;have d1:w6.cell? ⟨w.heap.size+1,1,none⟩=some (.int .i64 0):=cell_of (i:=1) QR rfl;have f1:w6.frozen? ⟨w.heap.size+1,1,none⟩=false:=Hh w6 (w.heap.size+1) 1 _ _ QR
    have d2:w6.cell? ⟨w.heap.size+1,2,none⟩=some (.int .i64 0):=cell_of (i:=2) QR rfl;have f2:w6.frozen? ⟨w.heap.size+1,2,none⟩=false:=Hh w6 (w.heap.size+1) 2 _ _ QR;have d3:w6.cell? ⟨w.heap.size+1,3,none⟩=some (.int .i64 0):=cell_of (i:=3) QR rfl;have f3:w6.frozen? ⟨w.heap.size+1,3,none⟩=false:=Hh w6 (w.heap.size+1) 3 _ _ QR;have d4:w6.cell? ⟨w.heap.size+1,4,none⟩=some (.int .i64 0):=cell_of (i:=4) QR rfl;have f4:w6.frozen? ⟨w.heap.size+1,4,none⟩=false:=Hh w6 (w.heap.size+1) 4 _ _ QR
    have d5:w6.cell? ⟨w.heap.size+1,5,none⟩=some (.string ⟨#[]⟩):=cell_of (i:=5) QR rfl;have f5:w6.frozen? ⟨w.heap.size+1,5,none⟩=false:=Hh w6 (w.heap.size+1) 5 _ _ QR;have d6:w6.cell? ⟨w.heap.size+1,6,none⟩=some (.int .i64 0):=cell_of (i:=6) QR rfl;have f6:w6.frozen? ⟨w.heap.size+1,6,none⟩=false:=Hh w6 (w.heap.size+1) 6 _ _ QR;have d7:w6.cell? ⟨w.heap.size+1,7,none⟩=some (.slice none 0 0):=cell_of (i:=7) QR rfl;have f7:w6.frozen? ⟨w.heap.size+1,7,none⟩=false:=Hh w6 (w.heap.size+1) 7 _ _ QR
    have d8:w6.cell? ⟨w.heap.size+1,8,none⟩=some (.slice none 0 0):=cell_of (i:=8) QR rfl;have f8:w6.frozen? ⟨w.heap.size+1,8,none⟩=false:=Hh w6 (w.heap.size+1) 8 _ _ QR;have d9:w6.cell? ⟨w.heap.size+1,9,none⟩=some (.slice none 0 0):=cell_of (i:=9) QR rfl;have f9:w6.frozen? ⟨w.heap.size+1,9,none⟩=false:=Hh w6 (w.heap.size+1) 9 _ _ QR;have d10:w6.cell? ⟨w.heap.size+1,10,none⟩=some (.slice none 0 0):=cell_of (i:=10) QR rfl;have f10:w6.frozen? ⟨w.heap.size+1,10,none⟩=false:=Hh w6 (w.heap.size+1) 10 _ _ QR
    have d11:w6.cell? ⟨w.heap.size+1,11,none⟩=some (.slice none 0 0):=cell_of (i:=11) QR rfl;have f11:w6.frozen? ⟨w.heap.size+1,11,none⟩=false:=Hh w6 (w.heap.size+1) 11 _ _ QR;have d12:w6.cell? ⟨w.heap.size+1,12,none⟩=some (.slice none 0 0):=cell_of (i:=12) QR rfl;have f12:w6.frozen? ⟨w.heap.size+1,12,none⟩=false:=Hh w6 (w.heap.size+1) 12 _ _ QR;have XE:=iR (w.heap.size+1) (IT _) (Jh htw) nw w6 0 X6;have TE:kF (bH w6 (w.heap.size+1) 0 nw) t ta ts.length tc _:=kF.all T6 (w.heap.size+1) (by omega) nw 0;clear QR;go_wp2_with fail
    first
     | exact Hf (v:=.tuple #[jx,.int .i64 e1]) (by simp [results,Tryz.results28,go_sem,jx,d0,d1,d2,d3,d4,d5,d6,d7,d8,d9,d10,d11,d12]) rfl ⟨rfl,XE,TE⟩
     | exact Hf (v:=.tuple #[jx,.int .i64 e1]) (by simp [results,Tryz.results28,go_sem,jx,d0,d1,d2,d3,d4,d5,d6,d7,d8,d9,d10,d11,d12]) rfl ⟨⟨_,rfl,rfl⟩,XE,TE⟩
     | exact Hf (v:=.tuple #[jx,.int .i64 e1]) (by simp [results,Tryz.results28,go_sem,jx,d0,d1,d2,d3,d4,d5,d6,d7,d8,d9,d10,d11,d12]) rfl ⟨⟨_,rfl,fun c=>absurd c HEr,fun _=>rfl⟩,XE,TE⟩
     | trace_state
  ·have e:j=p.ks.length:=by omega
   have hends:aP ts p.ks (m+1) (d+1)=(0,mq):=by rw [HE.out,tW (by omega)]
   have er:r=(ep ts p.k p.n p.x p.xs p.gs (p.ks.map (aj ts)),mq):=by rw [← HR.out,xE HW.out (by rw [hends]),hends]
   have K8:Hid (∀ r ∈ p.ks,(aj ts r).length≤8):=fun r hr=>by
    obtain ⟨m',hm'⟩:=gK (ts:=ts) (ks:=p.ks) (m:=m+1) (d:=d+1) (by rw [hends]) r hr;exact qm HT.out r m' _ hm'
   subst e;have hns:=hKT.ns (lo':=w.heap.size+2) (by omega);have con:=xG ts B (w.heap.size+2) t ta tc p q (some ⟨g,0,none⟩) p.ks.length wr hBt (by omega) (by omega) hTy.c0 (hT.next (hX.below hBt) (Hd _)) (hp.next (hX.below hBt) (Hd _)) hns HK.out HL.out K8.out;have HC:Hid (aj ts p=fx ts p.k p.n p.xs p.gs (p.ks.map (aj ts))):=Cn ts p;rw [← HC.out] at con;generalize ep ts p.k p.n p.x p.xs p.gs (p.ks.map (aj ts))=en at *;subst er;unfold fp at con;have hE':=hE;obtain ⟨y0,y1,⟨y2,y3,y4,y5,y6,y7⟩,y8,y9,y10⟩:=hE'
   simp only [Hu] at y1 y2 y3 y4 y5 y6 y7 y8 y9 y10;clear HR HE hends K8 hKT;go_wp2_with fail
   refine con.mono ?_;rintro e w7 ⟨⟨ca,cc,rfl,IC⟩,hb7⟩;clear con y0 y1 y2 y3 y4 y5 y6 y7 y8 y9 y10;have X7:=hX.trans (aM.of hb7 (by omega));have T7:=hTy.next hb7;have E7:=hE.next hb7 (by omega);have QR:=(hb7.block _ (ae QR)).trans QR;have hns7:=rJ.next (Kept.of hb7 (by omega)) hns;have hp7:=(hp.next (hX.below hBt) (Hd _)).next hb7 (by omega);have hz7:=hb7.size;clear hns hE hTy hX;dsimp only;by_cases hen:en=0;rotate_left
   ·have HEr:¬ en=0:=hen;have heb:(en != 0)=true:=by simpa using hen
    rw [if_neg hen];clear IC hen;have d0:w7.cell? ⟨w.heap.size+1,0,none⟩=some (.int .i64 0):=cell_of (i:=0) QR rfl;have f0:w7.frozen? ⟨w.heap.size+1,0,none⟩=false:=Hh w7 (w.heap.size+1) 0 _ _ QR;have d1:w7.cell? ⟨w.heap.size+1,1,none⟩=some (.int .i64 0):=cell_of (i:=1) QR rfl;have f1:w7.frozen? ⟨w.heap.size+1,1,none⟩=false:=Hh w7 (w.heap.size+1) 1 _ _ QR;have d2:w7.cell? ⟨w.heap.size+1,2,none⟩=some (.int .i64 0):=cell_of (i:=2) QR rfl;have f2:w7.frozen? ⟨w.heap.size+1,2,none⟩=false:=Hh w7 (w.heap.size+1) 2 _ _ QR
    have d3:w7.cell? ⟨w.heap.size+1,3,none⟩=some (.int .i64 0):=cell_of (i:=3) QR rfl;have f3:w7.frozen? ⟨w.heap.size+1,3,none⟩=false:=Hh w7 (w.heap.size+1) 3 _ _ QR;have d4:w7.cell? ⟨w.heap.size+1,4,none⟩=some (.int .i64 0):=cell_of (i:=4) QR rfl;have f4:w7.frozen? ⟨w.heap.size+1,4,none⟩=false:=Hh w7 (w.heap.size+1) 4 _ _ QR;have d5:w7.cell? ⟨w.heap.size+1,5,none⟩=some (.string ⟨#[]⟩):=cell_of (i:=5) QR rfl;have f5:w7.frozen? ⟨w.heap.size+1,5,none⟩=false:=Hh w7 (w.heap.size+1) 5 _ _ QR
    have d6:w7.cell? ⟨w.heap.size+1,6,none⟩=some (.int .i64 0):=cell_of (i:=6) QR rfl;have f6:w7.frozen? ⟨w.heap.size+1,6,none⟩=false:=Hh w7 (w.heap.size+1) 6 _ _ QR;have d7:w7.cell? ⟨w.heap.size+1,7,none⟩=some (.slice none 0 0):=cell_of (i:=7) QR rfl;have f7:w7.frozen? ⟨w.heap.size+1,7,none⟩=false:=Hh w7 (w.heap.size+1) 7 _ _ QR;have d8:w7.cell? ⟨w.heap.size+1,8,none⟩=some (.slice none 0 0):=cell_of (i:=8) QR rfl;have f8:w7.frozen? ⟨w.heap.size+1,8,none⟩=false:=Hh w7 (w.heap.size+1) 8 _ _ QR
    have d9:w7.cell? ⟨w.heap.size+1,9,none⟩=some (.slice none 0 0):=cell_of (i:=9) QR rfl;have f9:w7.frozen? ⟨w.heap.size+1,9,none⟩=false:=Hh w7 (w.heap.size+1) 9 _ _ QR;have d10:w7.cell? ⟨w.heap.size+1,10,none⟩=some (.slice none 0 0):=cell_of (i:=10) QR rfl;have f10:w7.frozen? ⟨w.heap.size+1,10,none⟩=false:=Hh w7 (w.heap.size+1) 10 _ _ QR;have d11:w7.cell? ⟨w.heap.size+1,11,none⟩=some (.slice none 0 0):=cell_of (i:=11) QR rfl;have f11:w7.frozen? ⟨w.heap.size+1,11,none⟩=false:=Hh w7 (w.heap.size+1) 11 _ _ QR
    have d12:w7.cell? ⟨w.heap.size+1,12,none⟩=some (.slice none 0 0):=cell_of (i:=12) QR rfl;have f12:w7.frozen? ⟨w.heap.size+1,12,none⟩=false:=Hh w7 (w.heap.size+1) 12 _ _ QR;have XE:=iR (w.heap.size+1) (IT _) (Jh htw) nw w7 0 X7;have TE:kF (bH w7 (w.heap.size+1) 0 nw) t ta ts.length tc _:=kF.all T7 (w.heap.size+1) (by omega) nw 0;clear QR;go_wp2_with fail
    first
     | exact Hf (v:=.tuple #[jx,.int .i64 en]) (by simp [results,Tryz.results28,go_sem,jx,d0,d1,d2,d3,d4,d5,d6,d7,d8,d9,d10,d11,d12]) rfl ⟨rfl,XE,TE⟩
     | exact Hf (v:=.tuple #[jx,.int .i64 en]) (by simp [results,Tryz.results28,go_sem,jx,d0,d1,d2,d3,d4,d5,d6,d7,d8,d9,d10,d11,d12]) rfl ⟨⟨_,rfl,rfl⟩,XE,TE⟩
     | exact Hf (v:=.tuple #[jx,.int .i64 en]) (by simp [results,Tryz.results28,go_sem,jx,d0,d1,d2,d3,d4,d5,d6,d7,d8,d9,d10,d11,d12]) rfl ⟨⟨_,rfl,fun c=>absurd c HEr,fun _=>rfl⟩,XE,TE⟩
     | trace_state
   subst hen;rw [if_pos rfl] at IC ⊢;obtain ⟨y0,y1,⟨y2,y3,y4,y5,y6,y7⟩,y8,y9,y10⟩:=E7;simp only [Hu] at y1 y2 y3 y4 y5 y6 y7 y8 y9 y10;have ND7:Ai ts B (w.heap.size+2) w7 p q ca (some ⟨g,0,none⟩):=⟨hp7,IC,hns7⟩
   have NDE:=(ND7.next (hU (w.heap.size+1) (by omega) (by omega) (tf p q ca (aj ts p).length cc (some ⟨g,0,none⟩) p.ks.length) w7 0 (Kept.refl _ _ _))).wide (lo':=w.heap.size) (by omega);have XE:=iR (w.heap.size+1) (IT _) (Jh htw) (tf p q ca (aj ts p).length cc (some ⟨g,0,none⟩) p.ks.length) w7 0 X7;have TE:kF (bH w7 (w.heap.size+1) 0 (tf p q ca (aj ts p).length cc (some ⟨g,0,none⟩) p.ks.length)) t ta ts.length tc _:=kF.all T7 (w.heap.size+1) (by omega) (tf p q ca (aj ts p).length cc (some ⟨g,0,none⟩) p.ks.length) 0
   have d0:w7.cell? ⟨w.heap.size+1,0,none⟩=some (.int .i64 0):=cell_of (i:=0) QR rfl;have f0:w7.frozen? ⟨w.heap.size+1,0,none⟩=false:=Hh w7 (w.heap.size+1) 0 _ _ QR;have d1:w7.cell? ⟨w.heap.size+1,1,none⟩=some (.int .i64 0):=cell_of (i:=1) QR rfl;have f1:w7.frozen? ⟨w.heap.size+1,1,none⟩=false:=Hh w7 (w.heap.size+1) 1 _ _ QR;have d2:w7.cell? ⟨w.heap.size+1,2,none⟩=some (.int .i64 0):=cell_of (i:=2) QR rfl;have f2:w7.frozen? ⟨w.heap.size+1,2,none⟩=false:=Hh w7 (w.heap.size+1) 2 _ _ QR
   have d3:w7.cell? ⟨w.heap.size+1,3,none⟩=some (.int .i64 0):=cell_of (i:=3) QR rfl;have f3:w7.frozen? ⟨w.heap.size+1,3,none⟩=false:=Hh w7 (w.heap.size+1) 3 _ _ QR;have d4:w7.cell? ⟨w.heap.size+1,4,none⟩=some (.int .i64 0):=cell_of (i:=4) QR rfl;have f4:w7.frozen? ⟨w.heap.size+1,4,none⟩=false:=Hh w7 (w.heap.size+1) 4 _ _ QR;have d5:w7.cell? ⟨w.heap.size+1,5,none⟩=some (.string ⟨#[]⟩):=cell_of (i:=5) QR rfl;have f5:w7.frozen? ⟨w.heap.size+1,5,none⟩=false:=Hh w7 (w.heap.size+1) 5 _ _ QR
   have d6:w7.cell? ⟨w.heap.size+1,6,none⟩=some (.int .i64 0):=cell_of (i:=6) QR rfl;have f6:w7.frozen? ⟨w.heap.size+1,6,none⟩=false:=Hh w7 (w.heap.size+1) 6 _ _ QR;have d7:w7.cell? ⟨w.heap.size+1,7,none⟩=some (.slice none 0 0):=cell_of (i:=7) QR rfl;have f7:w7.frozen? ⟨w.heap.size+1,7,none⟩=false:=Hh w7 (w.heap.size+1) 7 _ _ QR;have d8:w7.cell? ⟨w.heap.size+1,8,none⟩=some (.slice none 0 0):=cell_of (i:=8) QR rfl;have f8:w7.frozen? ⟨w.heap.size+1,8,none⟩=false:=Hh w7 (w.heap.size+1) 8 _ _ QR
   have d9:w7.cell? ⟨w.heap.size+1,9,none⟩=some (.slice none 0 0):=cell_of (i:=9) QR rfl;have f9:w7.frozen? ⟨w.heap.size+1,9,none⟩=false:=Hh w7 (w.heap.size+1) 9 _ _ QR;have d10:w7.cell? ⟨w.heap.size+1,10,none⟩=some (.slice none 0 0):=cell_of (i:=10) QR rfl;have f10:w7.frozen? ⟨w.heap.size+1,10,none⟩=false:=Hh w7 (w.heap.size+1) 10 _ _ QR;have d11:w7.cell? ⟨w.heap.size+1,11,none⟩=some (.slice none 0 0):=cell_of (i:=11) QR rfl;have f11:w7.frozen? ⟨w.heap.size+1,11,none⟩=false:=Hh w7 (w.heap.size+1) 11 _ _ QR
   have d12:w7.cell? ⟨w.heap.size+1,12,none⟩=some (.slice none 0 0):=cell_of (i:=12) QR rfl;have f12:w7.frozen? ⟨w.heap.size+1,12,none⟩=false:=Hh w7 (w.heap.size+1) 12 _ _ QR;clear QR IC hns7 hp7 ND7 T7 X7;go_wp2_with fail
   first
    | exact Hf (v:=.tuple #[rK p q ca (aj ts p).length cc (some ⟨g,0,none⟩) p.ks.length,.int .i64 0]) (by simp [results,Tryz.results28,go_sem,rK,d0,d1,d2,d3,d4,d5,d6,d7,d8,d9,d10,d11,d12]) rfl ⟨⟨_,rfl,ca,cc,some ⟨g,0,none⟩,⟨p.ks.length,rfl⟩,NDE⟩,XE,TE⟩
    | exact Hf (v:=.tuple #[rK p q ca (aj ts p).length cc (some ⟨g,0,none⟩) p.ks.length,.int .i64 0]) (by simp [results,Tryz.results28,go_sem,rK,d0,d1,d2,d3,d4,d5,d6,d7,d8,d9,d10,d11,d12]) rfl ⟨⟨ca,cc,some ⟨g,0,none⟩,p.ks.length,rfl,NDE⟩,XE,TE⟩
    | exact Hf (v:=.tuple #[rK p q ca (aj ts p).length cc (some ⟨g,0,none⟩) p.ks.length,.int .i64 0]) (by simp [results,Tryz.results28,go_sem,rK,d0,d1,d2,d3,d4,d5,d6,d7,d8,d9,d10,d11,d12]) rfl ⟨⟨_,rfl,⟨ca,cc,some ⟨g,0,none⟩,p.ks.length,rfl,NDE⟩⟩,XE,TE⟩
    | exact Hf (v:=.tuple #[rK p q ca (aj ts p).length cc (some ⟨g,0,none⟩) p.ks.length,.int .i64 0]) (by simp [results,Tryz.results28,go_sem,rK,d0,d1,d2,d3,d4,d5,d6,d7,d8,d9,d10,d11,d12]) rfl ⟨⟨_,rfl,fun _=>⟨ca,cc,some ⟨g,0,none⟩,p.ks.length,rfl,NDE⟩,fun c=>absurd rfl c⟩,XE,TE⟩
    | trace_state
theorem CK (ts:List (List Int)) (hts:fE ts=0):∀ p,qU ts p:=Pl.ind fun k n x xs gs ks ih=>DZ ts hts (.mk k n x xs gs ks) ih
theorem i4 {B:Nat} {W0:World} (g:Nat) (hg:B≤g):∀ (vs:List Value) (W:World) (o:Nat),Below B W0 W→Below B W0 (bH W g o vs)
 | [],_,_,h=>h
 | v :: r,_,o,h=>i4 g hg r _ _ (h.setCell (p:=⟨g,o,none⟩) hg v)
def bu (ts:List (List Int)) (p:Pl):Int:=if fE ts≠0 then fE ts else (aS ts p 0 1).1
theorem qc (ts:List (List Int)) (p:Pl) (q:Pw) (ta:Option Addr) (tc:Nat) (w:World) (hT:gP w.heap.size w ta ts) (hp:ki w.heap.size w p q) (hk:cF p) :
  Calls Tryz.prog 15 #[.slice ta ts.length tc,fp p q] w fun e w'=>(∃ v,e = .returned (.tuple #[v,.int .i64 (bu ts p)])∧(bu ts p=0→∃ ca cc na nc,v=rK p q ca (aj ts p).length cc na nc∧Ai ts w.heap.size w.heap.size w' p q ca na)∧(¬ bu ts p=0→v=jx))∧Below w.heap.size w w':=by
 have E0:=gQ.new w p q 31;have l0:=ae (an w (gq p q) 31);have z0:(w.alloc (.cells (gq p q) 31)).heap.size=w.heap.size+1:=by simp
 have h0:=aa w (.cells (gq p q) 31);have h1:Below (w.alloc (.cells (gq p q) 31)).heap.size (w.alloc (.cells (gq p q) 31)) ((w.alloc (.cells (gq p q) 31)).alloc (.cells #[.int .i64 0,.int .i64 0,.int .i64 0,.int .i64 0,.int .i64 0,.string ⟨#[]⟩,.int .i64 0,.slice none 0 0,.slice none 0 0,.slice none 0 0,.slice none 0 0,.slice none 0 0,.slice none 0 0] 56)):=(He _ _).alloc (Hd _) _
 have QR:=an (w.alloc (.cells (gq p q) 31)) #[.int .i64 0,.int .i64 0,.int .i64 0,.int .i64 0,.int .i64 0,.string ⟨#[]⟩,.int .i64 0,.slice none 0 0,.slice none 0 0,.slice none 0 0,.slice none 0 0,.slice none 0 0,.slice none 0 0] 56;rw [z0] at QR;have h01:=chain h0 h1;have EA:=E0.next h1 l0;have zA:w.heap.size+1<((w.alloc (.cells (gq p q) 31)).alloc (.cells #[.int .i64 0,.int .i64 0,.int .i64 0,.int .i64 0,.int .i64 0,.string ⟨#[]⟩,.int .i64 0,.slice none 0 0,.slice none 0 0,.slice none 0 0,.slice none 0 0,.slice none 0 0,.slice none 0 0] 56)).heap.size:=ae QR
 have con:=oZ ts ta tc ((w.alloc (.cells (gq p q) 31)).alloc (.cells #[.int .i64 0,.int .i64 0,.int .i64 0,.int .i64 0,.int .i64 0,.string ⟨#[]⟩,.int .i64 0,.slice none 0 0,.slice none 0 0,.slice none 0 0,.slice none 0 0,.slice none 0 0,.slice none 0 0] 56)) ((hT.next h01 (Hd _)).up h01.size);have HK:Hid (cF p):=hk;generalize hle:bu ts p=le;have HLe:Hid (bu ts p=le):=hle;generalize hte:fE ts=te at con;have HTe:Hid (fE ts=te):=hte;clear hle hte hk E0;unfold fp;go_enter Tryz.func15,Tryz.ntmps15;go_wp2_with fail
 clear h0 h1 l0 z0;generalize (w.alloc (.cells (gq p q) 31)).alloc (.cells #[.int .i64 0,.int .i64 0,.int .i64 0,.int .i64 0,.int .i64 0,.string ⟨#[]⟩,.int .i64 0,.slice none 0 0,.slice none 0 0,.slice none 0 0,.slice none 0 0,.slice none 0 0,.slice none 0 0] 56)=wA at *;refine con.mono ?_;rintro e w3 ⟨rfl,hb3⟩;clear con;have hA3:=chain h01 hb3;have E3:=EA.next hb3 (by omega);have QR:=(hb3.block _ (by omega)).trans QR;have z3:=hb3.size;clear EA;dsimp only;by_cases ht:te=0;rotate_left
 ·have el:le=te:=by rw [← HLe.out]; unfold bu; rw [HTe.out,if_pos ht]
  subst el;have HEr:¬ le=0:=ht;have htb:(le != 0)=true:=by simpa using ht
  clear ht HLe HTe;have d0:w3.cell? ⟨w.heap.size+1,0,none⟩=some (.int .i64 0):=cell_of (i:=0) QR rfl;have f0:w3.frozen? ⟨w.heap.size+1,0,none⟩=false:=Hh w3 (w.heap.size+1) 0 _ _ QR;have d1:w3.cell? ⟨w.heap.size+1,1,none⟩=some (.int .i64 0):=cell_of (i:=1) QR rfl;have f1:w3.frozen? ⟨w.heap.size+1,1,none⟩=false:=Hh w3 (w.heap.size+1) 1 _ _ QR;have d2:w3.cell? ⟨w.heap.size+1,2,none⟩=some (.int .i64 0):=cell_of (i:=2) QR rfl;have f2:w3.frozen? ⟨w.heap.size+1,2,none⟩=false:=Hh w3 (w.heap.size+1) 2 _ _ QR
  have d3:w3.cell? ⟨w.heap.size+1,3,none⟩=some (.int .i64 0):=cell_of (i:=3) QR rfl;have f3:w3.frozen? ⟨w.heap.size+1,3,none⟩=false:=Hh w3 (w.heap.size+1) 3 _ _ QR;have d4:w3.cell? ⟨w.heap.size+1,4,none⟩=some (.int .i64 0):=cell_of (i:=4) QR rfl;have f4:w3.frozen? ⟨w.heap.size+1,4,none⟩=false:=Hh w3 (w.heap.size+1) 4 _ _ QR;have d5:w3.cell? ⟨w.heap.size+1,5,none⟩=some (.string ⟨#[]⟩):=cell_of (i:=5) QR rfl;have f5:w3.frozen? ⟨w.heap.size+1,5,none⟩=false:=Hh w3 (w.heap.size+1) 5 _ _ QR
  have d6:w3.cell? ⟨w.heap.size+1,6,none⟩=some (.int .i64 0):=cell_of (i:=6) QR rfl;have f6:w3.frozen? ⟨w.heap.size+1,6,none⟩=false:=Hh w3 (w.heap.size+1) 6 _ _ QR;have d7:w3.cell? ⟨w.heap.size+1,7,none⟩=some (.slice none 0 0):=cell_of (i:=7) QR rfl;have f7:w3.frozen? ⟨w.heap.size+1,7,none⟩=false:=Hh w3 (w.heap.size+1) 7 _ _ QR;have d8:w3.cell? ⟨w.heap.size+1,8,none⟩=some (.slice none 0 0):=cell_of (i:=8) QR rfl;have f8:w3.frozen? ⟨w.heap.size+1,8,none⟩=false:=Hh w3 (w.heap.size+1) 8 _ _ QR
  have d9:w3.cell? ⟨w.heap.size+1,9,none⟩=some (.slice none 0 0):=cell_of (i:=9) QR rfl;have f9:w3.frozen? ⟨w.heap.size+1,9,none⟩=false:=Hh w3 (w.heap.size+1) 9 _ _ QR;have d10:w3.cell? ⟨w.heap.size+1,10,none⟩=some (.slice none 0 0):=cell_of (i:=10) QR rfl;have f10:w3.frozen? ⟨w.heap.size+1,10,none⟩=false:=Hh w3 (w.heap.size+1) 10 _ _ QR;have d11:w3.cell? ⟨w.heap.size+1,11,none⟩=some (.slice none 0 0):=cell_of (i:=11) QR rfl;have f11:w3.frozen? ⟨w.heap.size+1,11,none⟩=false:=Hh w3 (w.heap.size+1) 11 _ _ QR
  have d12:w3.cell? ⟨w.heap.size+1,12,none⟩=some (.slice none 0 0):=cell_of (i:=12) QR rfl;have f12:w3.frozen? ⟨w.heap.size+1,12,none⟩=false:=Hh w3 (w.heap.size+1) 12 _ _ QR;have XE:=i4 (w.heap.size+1) (IT _) nw w3 0 hA3;clear QR;go_wp2_with fail
  first
   | exact Hf (v:=.tuple #[jx,.int .i64 le]) (by simp [results,Tryz.results15,go_sem,jx,d0,d1,d2,d3,d4,d5,d6,d7,d8,d9,d10,d11,d12]) rfl ⟨rfl,XE⟩
   | exact Hf (v:=.tuple #[jx,.int .i64 le]) (by simp [results,Tryz.results15,go_sem,jx,d0,d1,d2,d3,d4,d5,d6,d7,d8,d9,d10,d11,d12]) rfl ⟨⟨_,rfl,rfl⟩,XE⟩
   | exact Hf (v:=.tuple #[jx,.int .i64 le]) (by simp [results,Tryz.results15,go_sem,jx,d0,d1,d2,d3,d4,d5,d6,d7,d8,d9,d10,d11,d12]) rfl ⟨⟨_,rfl,fun c=>absurd c HEr,fun _=>rfl⟩,XE⟩
   | trace_state
 subst ht;have HL2:Hid (le=(aS ts p 0 1).1):=by show _=_; rw [← HLe.out]; unfold bu; rw [HTe.out,if_neg (by simp)]
 have hal4:=aa w3 (.cells #[.slice ta ts.length tc,.int .i64 0] 76);have Q4:=an w3 #[.slice ta ts.length tc,.int .i64 0] 76;have TY:kF (w3.alloc (.cells #[.slice ta ts.length tc,.int .i64 0] 76)) w3.heap.size ta ts.length tc 0:=⟨ae Q4,cell_of (i:=0) Q4 rfl,cell_of (i:=1) Q4 rfl,Hh _ w3.heap.size 1 _ _ Q4⟩
 have hA4:=chain hA3 hal4;have con:=CK ts HTe.out p w.heap.size w3.heap.size ta tc q 0 1 _ (hp.next hA4 (Hd _)) (hT.next hA4 (Hd _)) (by omega) TY (by omega) (by omega) (by omega) (by omega) HK.out;rw [← HL2.out] at con;have E4:=E3.next hal4 (by omega);have QR:=(hal4.block _ (by omega)).trans QR;have z4:(w3.alloc (.cells #[.slice ta ts.length tc,.int .i64 0] 76)).heap.size=w3.heap.size+1:=by simp
 obtain ⟨y0,y1,⟨y2,y3,y4,y5,y6,y7⟩,y8,y9,y10⟩:=E4;simp only [Hu] at y1 y2 y3 y4 y5 y6 y7 y8 y9 y10;unfold fp at con;clear HL2 HLe HTe E3;go_upto_region 5 with fail
 generalize w3.alloc (.cells #[.slice ta ts.length tc,.int .i64 0] 76)=w4 at *;go_wp2_with fail
 refine con.mono ?_;rintro e w5 ⟨⟨v5,rfl,hok,hbad⟩,hX5,_⟩;clear con y0 y1 y2 y3 y4 y5 y6 y7 y8 y9 y10;have QR:=(hX5.2 _ (by omega) (by omega)).trans QR;have hA5:Below w.heap.size w w5:=hA4.trans (hX5.below (by omega));dsimp only;by_cases he:le=0;rotate_left
 ·obtain rfl:=hbad he;have HEr:¬ le=0:=he;clear hok hbad he;unfold jx;have d0:w5.cell? ⟨w.heap.size+1,0,none⟩=some (.int .i64 0):=cell_of (i:=0) QR rfl;have f0:w5.frozen? ⟨w.heap.size+1,0,none⟩=false:=Hh w5 (w.heap.size+1) 0 _ _ QR;have d1:w5.cell? ⟨w.heap.size+1,1,none⟩=some (.int .i64 0):=cell_of (i:=1) QR rfl;have f1:w5.frozen? ⟨w.heap.size+1,1,none⟩=false:=Hh w5 (w.heap.size+1) 1 _ _ QR;have d2:w5.cell? ⟨w.heap.size+1,2,none⟩=some (.int .i64 0):=cell_of (i:=2) QR rfl;have f2:w5.frozen? ⟨w.heap.size+1,2,none⟩=false:=Hh w5 (w.heap.size+1) 2 _ _ QR
  have d3:w5.cell? ⟨w.heap.size+1,3,none⟩=some (.int .i64 0):=cell_of (i:=3) QR rfl;have f3:w5.frozen? ⟨w.heap.size+1,3,none⟩=false:=Hh w5 (w.heap.size+1) 3 _ _ QR;have d4:w5.cell? ⟨w.heap.size+1,4,none⟩=some (.int .i64 0):=cell_of (i:=4) QR rfl;have f4:w5.frozen? ⟨w.heap.size+1,4,none⟩=false:=Hh w5 (w.heap.size+1) 4 _ _ QR;have d5:w5.cell? ⟨w.heap.size+1,5,none⟩=some (.string ⟨#[]⟩):=cell_of (i:=5) QR rfl;have f5:w5.frozen? ⟨w.heap.size+1,5,none⟩=false:=Hh w5 (w.heap.size+1) 5 _ _ QR
  have d6:w5.cell? ⟨w.heap.size+1,6,none⟩=some (.int .i64 0):=cell_of (i:=6) QR rfl;have f6:w5.frozen? ⟨w.heap.size+1,6,none⟩=false:=Hh w5 (w.heap.size+1) 6 _ _ QR;have d7:w5.cell? ⟨w.heap.size+1,7,none⟩=some (.slice none 0 0):=cell_of (i:=7) QR rfl;have f7:w5.frozen? ⟨w.heap.size+1,7,none⟩=false:=Hh w5 (w.heap.size+1) 7 _ _ QR;have d8:w5.cell? ⟨w.heap.size+1,8,none⟩=some (.slice none 0 0):=cell_of (i:=8) QR rfl;have f8:w5.frozen? ⟨w.heap.size+1,8,none⟩=false:=Hh w5 (w.heap.size+1) 8 _ _ QR
  have d9:w5.cell? ⟨w.heap.size+1,9,none⟩=some (.slice none 0 0):=cell_of (i:=9) QR rfl;have f9:w5.frozen? ⟨w.heap.size+1,9,none⟩=false:=Hh w5 (w.heap.size+1) 9 _ _ QR;have d10:w5.cell? ⟨w.heap.size+1,10,none⟩=some (.slice none 0 0):=cell_of (i:=10) QR rfl;have f10:w5.frozen? ⟨w.heap.size+1,10,none⟩=false:=Hh w5 (w.heap.size+1) 10 _ _ QR;have d11:w5.cell? ⟨w.heap.size+1,11,none⟩=some (.slice none 0 0):=cell_of (i:=11) QR rfl;have f11:w5.frozen? ⟨w.heap.size+1,11,none⟩=false:=Hh w5 (w.heap.size+1) 11 _ _ QR
  have d12:w5.cell? ⟨w.heap.size+1,12,none⟩=some (.slice none 0 0):=cell_of (i:=12) QR rfl;have f12:w5.frozen? ⟨w.heap.size+1,12,none⟩=false:=Hh w5 (w.heap.size+1) 12 _ _ QR;have XE:=i4 (w.heap.size+1) (IT _) nw w5 0 hA5;clear QR;go_wp2_with fail
  first
   | exact Hf (v:=.tuple #[jx,.int .i64 le]) (by simp [results,Tryz.results15,go_sem,jx,d0,d1,d2,d3,d4,d5,d6,d7,d8,d9,d10,d11,d12]) rfl ⟨rfl,XE⟩
   | exact Hf (v:=.tuple #[jx,.int .i64 le]) (by simp [results,Tryz.results15,go_sem,jx,d0,d1,d2,d3,d4,d5,d6,d7,d8,d9,d10,d11,d12]) rfl ⟨⟨_,rfl,rfl⟩,XE⟩
   | exact Hf (v:=.tuple #[jx,.int .i64 le]) (by simp [results,Tryz.results15,go_sem,jx,d0,d1,d2,d3,d4,d5,d6,d7,d8,d9,d10,d11,d12]) rfl ⟨⟨_,rfl,fun c=>absurd c HEr,fun _=>rfl⟩,XE⟩
   | trace_state
 subst he;obtain ⟨ca,cc,na,nc,rfl,ND⟩:=hok rfl;clear hok hbad;have NDE:=(ND.next (hU (w.heap.size+1) (by omega) (by omega) (tf p q ca (aj ts p).length cc na nc) w5 0 (Kept.refl _ _ _))).wide (lo':=w.heap.size) (by omega);have XE:=i4 (w.heap.size+1) (IT _) (tf p q ca (aj ts p).length cc na nc) w5 0 hA5;have d0:w5.cell? ⟨w.heap.size+1,0,none⟩=some (.int .i64 0):=cell_of (i:=0) QR rfl;have f0:w5.frozen? ⟨w.heap.size+1,0,none⟩=false:=Hh w5 (w.heap.size+1) 0 _ _ QR;have d1:w5.cell? ⟨w.heap.size+1,1,none⟩=some (.int .i64 0):=cell_of (i:=1) QR rfl
 have f1:w5.frozen? ⟨w.heap.size+1,1,none⟩=false:=Hh w5 (w.heap.size+1) 1 _ _ QR;have d2:w5.cell? ⟨w.heap.size+1,2,none⟩=some (.int .i64 0):=cell_of (i:=2) QR rfl;have f2:w5.frozen? ⟨w.heap.size+1,2,none⟩=false:=Hh w5 (w.heap.size+1) 2 _ _ QR;have d3:w5.cell? ⟨w.heap.size+1,3,none⟩=some (.int .i64 0):=cell_of (i:=3) QR rfl;have f3:w5.frozen? ⟨w.heap.size+1,3,none⟩=false:=Hh w5 (w.heap.size+1) 3 _ _ QR;have d4:w5.cell? ⟨w.heap.size+1,4,none⟩=some (.int .i64 0):=cell_of (i:=4) QR rfl
 have f4:w5.frozen? ⟨w.heap.size+1,4,none⟩=false:=Hh w5 (w.heap.size+1) 4 _ _ QR;have d5:w5.cell? ⟨w.heap.size+1,5,none⟩=some (.string ⟨#[]⟩):=cell_of (i:=5) QR rfl;have f5:w5.frozen? ⟨w.heap.size+1,5,none⟩=false:=Hh w5 (w.heap.size+1) 5 _ _ QR;have d6:w5.cell? ⟨w.heap.size+1,6,none⟩=some (.int .i64 0):=cell_of (i:=6) QR rfl;have f6:w5.frozen? ⟨w.heap.size+1,6,none⟩=false:=Hh w5 (w.heap.size+1) 6 _ _ QR;have d7:w5.cell? ⟨w.heap.size+1,7,none⟩=some (.slice none 0 0):=cell_of (i:=7) QR rfl
 have f7:w5.frozen? ⟨w.heap.size+1,7,none⟩=false:=Hh w5 (w.heap.size+1) 7 _ _ QR;have d8:w5.cell? ⟨w.heap.size+1,8,none⟩=some (.slice none 0 0):=cell_of (i:=8) QR rfl;have f8:w5.frozen? ⟨w.heap.size+1,8,none⟩=false:=Hh w5 (w.heap.size+1) 8 _ _ QR;have d9:w5.cell? ⟨w.heap.size+1,9,none⟩=some (.slice none 0 0):=cell_of (i:=9) QR rfl;have f9:w5.frozen? ⟨w.heap.size+1,9,none⟩=false:=Hh w5 (w.heap.size+1) 9 _ _ QR;have d10:w5.cell? ⟨w.heap.size+1,10,none⟩=some (.slice none 0 0):=cell_of (i:=10) QR rfl
 have f10:w5.frozen? ⟨w.heap.size+1,10,none⟩=false:=Hh w5 (w.heap.size+1) 10 _ _ QR;have d11:w5.cell? ⟨w.heap.size+1,11,none⟩=some (.slice none 0 0):=cell_of (i:=11) QR rfl;have f11:w5.frozen? ⟨w.heap.size+1,11,none⟩=false:=Hh w5 (w.heap.size+1) 11 _ _ QR;have d12:w5.cell? ⟨w.heap.size+1,12,none⟩=some (.slice none 0 0):=cell_of (i:=12) QR rfl;have f12:w5.frozen? ⟨w.heap.size+1,12,none⟩=false:=Hh w5 (w.heap.size+1) 12 _ _ QR;clear QR ND;unfold rK;go_wp2_with fail
 first
  | exact Hf (v:=.tuple #[rK p q ca (aj ts p).length cc na nc,.int .i64 0]) (by simp [results,Tryz.results15,go_sem,rK,d0,d1,d2,d3,d4,d5,d6,d7,d8,d9,d10,d11,d12]) rfl ⟨⟨_,rfl,ca,cc,na,⟨nc,rfl⟩,NDE⟩,XE⟩
  | exact Hf (v:=.tuple #[rK p q ca (aj ts p).length cc na nc,.int .i64 0]) (by simp [results,Tryz.results15,go_sem,rK,d0,d1,d2,d3,d4,d5,d6,d7,d8,d9,d10,d11,d12]) rfl ⟨⟨_,rfl,fun _=>⟨ca,cc,na,nc,rfl,NDE⟩,fun c=>absurd rfl c⟩,XE⟩
  | trace_state
theorem Bv.Gi {w:World} {a b:Option Addr} {ca cb:Nat} {l l':List Zp} (h:bP w a l) (n:a=none→ca=0) (h':bP w b l') (n':b=none→cb=0) (T:TypeId):Bv (w.alloc (.cells #[.slice a l.length ca,.slice b l'.length cb] T)) w.heap.size l l':=by
 have hal:=aa w (.cells #[.slice a l.length ca,.slice b l'.length cb] T);refine ⟨by simp,fun k hk=>?_⟩
 match k,hk with
 | 0,_=>exact ⟨a,ca,l,by simp,h.next hal,n,by simp [xh]⟩
 | 1,_=>exact ⟨b,cb,l',by simp,h'.next hal,n',by simp [xh]⟩
theorem dZ.step {af:List Int} {x:Ex} {w0 wp W:World} {a b:Option Addr} {ca cb:Nat} {l r:List Zp} {v:Value} {R rv:Nat} (h:dZ af x w0 wp a b ca cb l r v R rv) (hI:eR wp R rv W):dZ af x w0 W a b ca cb l r v R rv∧eR W R rv W:=by
 obtain ⟨lo,wc,hv,u,e,hn,h2,h3,h4,h5,h6,h7,h8⟩:=h;have hr:=hn.r;have hrv:=hn.v;have hb:=hI.below hn;have z:=hI.size;refine ⟨⟨lo,wc,hv,u,e,⟨hr,by omega⟩,h2,(hb.cell (p:=⟨hv,0,none⟩) h2).trans h3,h4,h5,⟨by have:=h6.1; omega,fun k h1 h2'=>?_⟩,h7,h8.trans (hb.mono h7)⟩,⟨rfl,rfl,rfl,Hd _,fun _ _ _ _=>rfl,hI.var,hI.AS,hI.room⟩⟩;exact (hb.block k (by omega)).trans (h6.2 k h1 h2')
theorem CP {W w1:World} {base e size n g:Nat} {v:Value} {xs:List Value} (h:W.ownsRow base e size v n xs) (hb:aM g W w1) (hg:g<base):w1.ownsRow base e size v n xs:=by
 obtain ⟨h0,⟨h1,h2⟩ | ⟨k,cap,cur,h1,h2,h3,h4⟩⟩:=h
 ·exact ⟨h0,.inl ⟨h1,h2⟩⟩
 ·exact ⟨h0,.inr ⟨k,cap,cur,h1,h2,(hb.2 k (ae h3) (by omega)).trans h3,h4⟩⟩
theorem FC {W w1:World} {g:Nat} {c:Array Value} {T:TypeId} {y:Nat × Nat} (hq:W.heap[g]? = some (.cells c T y)) (hT:T≠24) (hb:aM g W w1) {a:Option Addr} {r:List Vl} (h:aY W a r) (ht:fQ W a):aY w1 a r∧fQ w1 a:=by
 have key:∀ b off,a=some ⟨b,off,none⟩→w1.heap[b]? = W.heap[b]?:=by
  intro b off e;obtain ⟨c',z,h1⟩:=ht b off e;refine hb.2 b (ae h1) ?_;intro e';subst e';rw [hq] at h1;have:=It h1;injection this with _ e2
  exact hT e2
 refine ⟨⟨h.1,?_⟩,?_⟩
 ·rcases h.2 with h | ⟨b,off,e,hr,hlt⟩
  ·exact .inl h
  ·refine .inr ⟨b,off,e,fun i hi=>?_,Hi hlt hb.size⟩;have k:=key b off e;obtain ⟨c0,c1,c2⟩:=hr i hi;exact ⟨(Hz (a:=⟨b,_,none⟩) k).trans c0,(Hz (a:=⟨b,_,none⟩) k).trans c1,(Hz (a:=⟨b,_,none⟩) k).trans c2⟩
 ·intro b off e;obtain ⟨c',z,h1⟩:=ht b off e;exact ⟨c',z,(key b off e).trans h1⟩
theorem fN.CL {W w1:World} {base g:Nat} {v:Value} {l:List Zp} {c:Array Value} {T:TypeId} {y:Nat × Nat} (h:fN base W v l) (hq:W.heap[g]? = some (.cells c T y)) (hT:T≠24) (hb:aM g W w1) (hg:g<base):fN base w1 v l:=by
 obtain ⟨xs,h1,h2,h3⟩:=h;refine ⟨xs,CP h1 hb hg,h2,fun i hi=>?_⟩;obtain ⟨a,cap,e0,e1,e2,e3⟩:=h3 i hi;have:=FC hq hT hb e2 e3;exact ⟨a,cap,e0,e1,this.1,this.2⟩
structure CM (W:World) (g n:Nat) (zs:List (List Zp)):Prop where
 ty:∃ c y,W.heap[g]? = some (.cells c 37 y)
 room:∀ o,o<n→∃ u,W.cell? ⟨g,o,none⟩=some u
 fz:∀ o,W.frozen? ⟨g,o,none⟩=false
 laid:∀ (i:Nat) (h:i<zs.length),∃ v base,g<base∧W.cell? ⟨g,i,none⟩=some v∧fN base W v zs[i]
theorem CM.lt {W:World} {g n:Nat} {zs:List (List Zp)} (h:CM W g n zs):g<W.heap.size:=by obtain ⟨_,_,h⟩:=h.ty; exact ae h
theorem CM.new (w:World) (n:Nat):CM (w.alloc (.cells (Array.replicate n (.slice none 0 0)) 37)) w.heap.size n []:=by
 have q:=an w (Array.replicate n (.slice none 0 0)) 37;exact ⟨⟨_,_,q⟩,fun o ho=>⟨.slice none 0 0,cell_of (i:=o) q (by simp [ho])⟩,fun o=>Hh _ w.heap.size o _ _ q,fun i hi=>by cases hi⟩
theorem CM.next {W w1:World} {g n:Nat} {zs:List (List Zp)} (h:CM W g n zs) (hb:Below W.heap.size W w1):CM w1 g n zs:=by
 have hl:=h.lt;refine ⟨?_,fun o ho=>?_,fun o=>(hb.frozen (p:=⟨g,o,none⟩) hl).trans (h.fz o),fun i hi=>?_⟩
 ·obtain ⟨c,y,q⟩:=h.ty;exact ⟨c,y,(hb.block _ hl).trans q⟩
 ·obtain ⟨u,hu⟩:=h.room o ho;exact ⟨u,(hb.cell (p:=⟨g,o,none⟩) hl).trans hu⟩
 ·obtain ⟨v,base,h1,h2,h3⟩:=h.laid i hi;exact ⟨v,base,h1,(hb.cell (p:=⟨g,i,none⟩) hl).trans h2,h3.next hb⟩
theorem CM.store {W:World} {g n base:Nat} {zs:List (List Zp)} (h:CM W g n zs) (hn:zs.length<n) {v:Value} {z:List Zp} (hv:fN base W v z) (hg:g<base):CM (W.setCell ⟨g,zs.length,none⟩ v) g n (zs ++ [z]):=by
 obtain ⟨c,y,q⟩:=h.ty;have X:=(aM.refl g W).set zs.length v;have hT:37≠24:=by decide
 refine ⟨?_,fun o ho=>?_,fun o=>by rw [Io]; exact h.fz o,fun i hi=>?_⟩
 ·have hlt:=ae q;have q':W.heap[g] = .cells c 37 y:=by simpa [IP hlt] using q
  refine ⟨c.setIfInBounds zs.length v,y,?_⟩;show (W.heap.modify g _)[g]? = _;rw [IP (by simpa using hlt),Array.getElem_modify_self,q'];rfl
 ·by_cases e:o=zs.length
  ·subst e;obtain ⟨u,hu⟩:=h.room zs.length hn;exact ⟨v,ID _ _ _ hu⟩
  ·obtain ⟨u,hu⟩:=h.room o ho;exact ⟨u,by rw [Hq _ _ _ _ (by intro e'; injection e' with _ e'; exact e e'.symm)]; exact hu⟩
 ·by_cases e:i<zs.length
  ·obtain ⟨v',base',h1,h2,h3⟩:=h.laid i e;rw [H7 e];exact ⟨v',base',h1,by rw [Hq _ _ _ _ (by intro e'; injection e' with _ e'; omega)]; exact h2,h3.CL q hT X h1⟩
  ·have e:i=zs.length:=by simp at hi; omega
   subst e;obtain ⟨u,hu⟩:=h.room zs.length hn;exact ⟨v,base,hg,ID _ _ _ hu,by simpa using hv.CL q hT X hg⟩
end Go.Proofs.YtjebpkhkjkjphaaGreat
