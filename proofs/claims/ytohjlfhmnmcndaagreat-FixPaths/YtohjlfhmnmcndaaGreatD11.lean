/- Together: N7, N8, N9, NA, NB, NC, ND, NP, Q3. -/
import Derived.Test.YtohjlfhmnmcndaaGreatD10
import Derived.Test.YtohjlfhmnmcndaaGreatD7
/- query's colsOfOne, colsOfTwo. -/
namespace Go.Proofs.YtohjlfhmnmcndaaGreat
open Go.RowKit Go.Lib Go.Shelf

/-- All nodes of a plan bear numbers and lists that a program may bear. -/
inductive PlOk:Pl→Prop
 | mk (k n:Int) (x:Ex) (xs:List Ex) (gs:List Ag) (ks:List Pl) (hn:-9223372036854775808≤n∧n≤9223372036854775807) (hx:xs.length≤100000000000000) (hg:gs.length≤100000000000000) (hk:∀ p ∈ ks,PlOk p):PlOk (.mk k n x xs gs ks)
theorem PlOk.n {p:Pl} (h:PlOk p):-9223372036854775808≤p.n∧p.n≤9223372036854775807:=by cases h with | mk _ _ _ _ _ _ hn _ _ _=>exact hn
theorem PlOk.sum {p:Pl} (h:PlOk p):p.xs.length+p.gs.length≤9223372036854775807:=by cases h with | mk _ _ _ _ _ _ _ hx hg _=>simp only [Pl.xs,Pl.gs]; omega
theorem PlOk.ks {p:Pl} (h:PlOk p):∀ q ∈ p.ks,PlOk q:=by cases h with | mk _ _ _ _ _ _ _ _ _ hk=>exact hk
theorem own_intsT {B lo:Nat} {W:World} {B1 n:Nat} {v:Value} {l:List Int} (ho:W.ownsRow B1 3 1 v n (l.map (Value.int .i64))) (hn:n=l.length) (htB:lo≤B1):∃ a cap,v = .slice a l.length cap∧IsT B lo W a l:=by
 subst hn;have ho':=ho;obtain ⟨hx,⟨rfl,h0⟩ | ⟨g,cap,cur,rfl,hg,hh,hn,hc,hs,ht⟩⟩:=ho
 ·have:l = []:=List.eq_nil_of_length_eq_zero h0;subst this;exact ⟨none,0,rfl,⟨by simp,.inl rfl⟩⟩
 ·refine ⟨_,cap,rfl,⟨by omega,.inr ⟨g,0,rfl,(ho'.lt g rfl).2,by omega,fun i hi=>?_⟩⟩⟩;have:=ho'.cellAt i (by omega);rw [Nat.zero_add,this];simp [hi]
theorem Own1.t {B lo:Nat} {W:World} {g:Nat} {l:List Int} (h:Own1 W g l) (hl:l.length≤8) (hg:lo≤g):IsT B lo W (some ⟨g,0,none⟩) l :=
 ⟨by unfold maxLen; omega,.inr ⟨g,0,rfl,h.lt,by omega,fun i hi=>by simpa using h.c i hi⟩⟩
theorem IsT.nil (B lo:Nat) (W:World):IsT B lo W none []:=⟨Nat.zero_le _,.inl rfl⟩
theorem IsT.low {B lo:Nat} {W w1:World} {a:Option Addr} {l:List Int} (h:IsT B lo W a l) (hb:Below W.heap.size W w1) (hB:B≤W.heap.size):IsT B lo w1 a l:=h.next (Kept.of hb hB)
theorem map_len8 {cols:List Int} {xs:List Ex} {z:List Zp} (h:mapE cols xs z=0):xs.length≤8:=by
 unfold mapE at h;by_cases h0:listE cols xs=0
 ·exact (listE_ok h0).1
 ·rw [if_pos h0] at h; exact absurd h h0
theorem group_len8 {cols:List Int} {xs:List Ex} {gs:List Ag} {z:List Zp} (h:groupE cols xs gs z=0):xs.length+gs.length≤8:=by
 unfold groupE at h;by_cases h0:8<xs.length+gs.length
 ·rw [if_pos h0] at h; cases h
 ·omega
/-- Columns come back, or what is wrong. -/
def ColsT (B lo:Nat) (w':World) (e:Ending) (er:Int) (C:List Int):Prop:=∃ ca cc,e = .returned (.tuple #[.slice ca (if er=0 then C else []).length cc,.int .i64 er])∧IsT B lo w' ca (if er=0 then C else [])

set_option maxRecDepth 100000 in
set_option maxHeartbeats 8000000 in
theorem colsOfOne_at (B lo:Nat) (hB:B≤lo) (p:Pl) (q:Pw) (cols:List Int) (ca:Option Addr) (cc:Nat) (w:World) (ht:lo≤w.heap.size) (hp:PlB w.heap.size w p q) (hc:IsT B lo w ca cols) (hk:PlOk p) :
  Calls Tryz.prog 112 #[plV p q,.slice ca cols.length cc] w fun e w'=>ColsT B lo w' e (oneE p.k p.n p.x p.xs p.gs cols) (oneC p.k p.xs p.gs cols)∧Below w.heap.size w w':=by
 have hA:Below w.heap.size w (w.alloc (.cells (pvA p q) 31)):=((Below.refl _ _).alloc (Nat.le_refl _) _)
 have E:=Elv.new w p q 31;have hpA:=(hp.next hA (Nat.le_refl _)).up hA.size;have hcA:=hc.low hA (by omega);have hzA:=hA.size;have con:=wrongOfOne_at p q cols ca cc _ hpA hcA.at hk.n hk.sum;have H3:Hid (p.k=3→oneC p.k p.xs p.gs cols=typs cols p.xs):=fun h=>by unfold oneC; rw [if_pos h]
 have H12:Hid (p.k=12→oneC p.k p.xs p.gs cols=typs cols p.xs ++ aggTs cols p.gs):=fun h=>by unfold oneC aggTs; rw [if_neg (by omega),if_pos h]
 have H0:Hid (¬ p.k=3→¬ p.k=12→oneC p.k p.xs p.gs cols=cols):=fun h1 h2=>by unfold oneC; rw [if_neg h1,if_neg h2]
 have L3:Hid (p.k=3→oneE p.k p.n p.x p.xs p.gs cols=0→p.xs.length≤8):=fun h e=>by unfold oneE at e; rw [if_neg (by omega),if_pos h] at e; exact map_len8 e
 have L12:Hid (p.k=12→oneE p.k p.n p.x p.xs p.gs cols=0→p.xs.length+p.gs.length≤8):=fun h e=>by unfold oneE at e; rw [if_neg (by omega),if_neg (by omega),if_pos h] at e; exact group_len8 e
 generalize oneE p.k p.n p.x p.xs p.gs cols=er at *;generalize oneC p.k p.xs p.gs cols=C at *;have E':=E;obtain ⟨p0,p1,p2,p8,p9,p10⟩:=E';obtain ⟨x0,x1,x2,x3,x4,x5⟩:=p2;simp only [Nat.zero_add] at p1 x0 x1 x2 x3 x4 x5 p8 p9 p10;unfold plV at con ⊢;have lw:=lt_of_heap (heap_new w (pvA p q) 31);go_enter Tryz.func112,Tryz.ntmps112;go_wp2_with fail
 generalize w.alloc (.cells (pvA p q) 31)=wA at *;refine con.mono ?_;rintro e w5 ⟨rfl,hb5⟩;clear con p0 p1 x0 x1 x2 x3 x4 x5 p8 p9 p10;have hA5:=chain hA hb5;have E5:=E.next hb5 lw;obtain ⟨p0,p1,p2,p8,p9,p10⟩:=E5;simp only [Nat.zero_add] at p1 p8 p9 p10;have hp5:=(hpA.next hb5 (Nat.le_refl _)).up hb5.size;have hc5:=hcA.low hb5 (by omega);have hz5:=hb5.size;dsimp only;by_cases h0:er=0;rotate_left
 ·have hb:(er != 0)=true:=by simpa using h0
  go_wp2_with fail
  exact bodyPost_ret (v:=.tuple #[.slice none 0 0,.int .i64 er]) (by simp [results,Tryz.results112,go_sem]) rfl ⟨⟨none,0,by rw [if_neg h0]; rfl,by rw [if_neg h0]; exact IsT.nil _ _ _⟩,hA5⟩
 subst h0;by_cases k3:p.k=3
 ·have e:=H3.out k3;subst e;have h8:=L3.out k3 rfl;have kb:(p.k == 3)=true:=by simpa using k3
  have con:=typesOf_at cols p.xs ca cc q.sa q.sc w5 hc5.at hp5.xs h8;clear H3 H12 H0 L3 L12;go_wp2_with fail
  refine con.mono ?_;rintro e w6 ⟨rfl,O6,hb6⟩;clear con;have h8':(typs cols p.xs).length≤8:=by rw [typs_len]; exact h8
  have I6:=O6.t (B:=B) (lo:=lo) h8' (by omega);have HEl:Hid ((typs cols p.xs).length=p.xs.length):=typs_len _ _;dsimp only;clear p0 p1 p2 p8 p9 p10 h8';go_wp2_with fail
  exact bodyPost_ret (v:=.tuple #[.slice (some ⟨w5.heap.size,0,none⟩) p.xs.length p.xs.length,.int .i64 0]) (by simp [results,Tryz.results112,go_sem]) rfl ⟨⟨some ⟨w5.heap.size,0,none⟩,p.xs.length,by rw [if_pos rfl,HEl.out],by rw [if_pos rfl]; exact I6⟩,chain hA5 hb6⟩
 have b3:(p.k == 3)=false:=by rw [beq_eq_false_iff_ne]; exact k3
 by_cases k12:p.k=12
 ·have e:=H12.out k12;subst e;have h8:=L12.out k12 rfl;have kb:(p.k == 12)=true:=by simpa using k12
  clear H3 H12 H0 L3 L12;go_wp2_with fail
  clear p0 p1 p2 p10;have hCC:∀ W W':World,(W.cell? ⟨w.heap.size,8,none⟩=some (.slice q.sa p.xs.length q.sc)∧W.cell? ⟨w.heap.size,9,none⟩=some (.slice q.ga p.gs.length q.gc)∧w.heap.size<W.heap.size)→Below W.heap.size W W'→(W'.cell? ⟨w.heap.size,8,none⟩=some (.slice q.sa p.xs.length q.sc)∧W'.cell? ⟨w.heap.size,9,none⟩=some (.slice q.ga p.gs.length q.gc)∧w.heap.size<W'.heap.size):=fun W W' h hb=>⟨(hb.cell (p:=⟨w.heap.size,8,none⟩) h.2.2).trans h.1,(hb.cell (p:=⟨w.heap.size,9,none⟩) h.2.2).trans h.2.1,Nat.lt_of_lt_of_le h.2.2 hb.size⟩
  have hd:Below w5.heap.size w5 w5.drew:=(Below.refl _ _).drew;have CW:=hCC _ _ ⟨p8,p9,Nat.lt_of_lt_of_le lw hz5⟩ hd;refine wp_region_cls (fun W=>(W.cell? ⟨w.heap.size,8,none⟩=some (.slice q.sa p.xs.length q.sc)∧W.cell? ⟨w.heap.size,9,none⟩=some (.slice q.ga p.gs.length q.gc)∧w.heap.size<W.heap.size)) (by kernel_rfl) ?_;refine wpY_take hCC (some 23) (i:=0) (v:=.slice ca cols.length cc) rfl rfl (by kernel_rfl) (by kernel_rfl) (by kernel_rfl) (fun _ _ _ h=>h) (Or.inl ⟨rfl,fun n hn=>?_⟩) CW ?_
  ·go_simp
  simp only [Act.put,pA,pB,pC];refine wpY_take hCC (some 24) (i:=1) (v:=.pointer (some ⟨w.heap.size,8,none⟩)) rfl rfl (by kernel_rfl) (by kernel_rfl) (by kernel_rfl) (fun _ _ _ h=>h) (Or.inl ⟨rfl,fun n hn=>?_⟩) CW ?_
  ·go_simp
  simp only [Act.put,pA,pB,pC];refine wpY_take hCC (some 25) (i:=2) (v:=.slice q.sa p.xs.length q.sc) rfl rfl (by kernel_rfl) (by kernel_rfl) (by kernel_rfl) (fun _ _ _ h=>h) (Or.inl ⟨rfl,fun n hn=>?_⟩) CW ?_
  ·have hc:=hn.1;go_simp
  simp only [Act.put,pA,pB,pC];refine wpY_take hCC (some 27) (i:=4) (v:=.slice ca cols.length cc) rfl rfl (by kernel_rfl) (by kernel_rfl) (by kernel_rfl) (fun _ _ _ h=>h) (Or.inl ⟨rfl,fun n hn=>?_⟩) CW ?_
  ·go_simp
  simp only [Act.put,pA,pB,pC];refine wpY_take hCC (some 28) (i:=5) (v:=.pointer (some ⟨w.heap.size,9,none⟩)) rfl rfl (by kernel_rfl) (by kernel_rfl) (by kernel_rfl) (fun _ _ _ h=>h) (Or.inl ⟨rfl,fun n hn=>?_⟩) CW ?_
  ·go_simp
  simp only [Act.put,pA,pB,pC];refine wpY_take hCC (some 29) (i:=6) (v:=.slice q.ga p.gs.length q.gc) rfl rfl (by kernel_rfl) (by kernel_rfl) (by kernel_rfl) (fun _ _ _ h=>h) (Or.inl ⟨rfl,fun n hn=>?_⟩) CW ?_
  ·have hc:=hn.2.1;go_simp
  simp only [Act.put,pA,pB,pC];refine wpY_step (rs:=[3]) (by kernel_rfl) (by simp) ?_;intro w6 hb6 jj hjj;obtain rfl:jj=3:=by simpa using hjj
  clear hjj;have CW6:=hCC _ _ CW hb6;have D6:=chain hd hb6;have con:=typesOf_at cols p.xs ca cc q.sa q.sc w6 (hc5.low D6 (by omega)).at ((hp5.next D6 (Nat.le_refl _)).up D6.size).xs (by omega);refine wpOp_step rfl (fun K hK=>?_);go_simp;refine con.mono ?_;rintro e w7 ⟨rfl,O7,hb7⟩;clear con;have CW7:=hCC _ _ CW6 hb7;have D7:=chain D6 hb7;refine hK _ _ ⟨CW7,?_⟩;clear hK K;refine wpY_step (rs:=[7]) (by kernel_rfl) (by simp) ?_;intro w8 hb8 jj hjj;obtain rfl:jj=7:=by simpa using hjj
  clear hjj;have CW8:=hCC _ _ CW7 hb8;have D8:=chain D7 hb8;have con:=totalsOf_at cols p.gs ca cc q.ga q.gc w8 (hc5.low D8 (by omega)).at ((hp5.next D8 (Nat.le_refl _)).up D8.size).gs (by omega);refine wpOp_step rfl (fun K hK=>?_);go_simp;refine con.mono ?_;rintro e w9 ⟨rfl,O9,hb9⟩;clear con;have CW9:=hCC _ _ CW8 hb9;have D9:=chain D8 hb9;refine hK _ _ ⟨CW9,?_⟩;clear hK K;refine wpY_step (rs:=[8]) (by kernel_rfl) (by simp) ?_;intro wB hbB jj hjj;obtain rfl:jj=8:=by simpa using hjj
  clear hjj;have CWB:=hCC _ _ CW9 hbB;have DB:=chain D9 hbB;refine wpOp_step rfl (fun K hK=>?_);go_simp;have e1:(typs cols p.xs).length=p.xs.length:=typs_len _ _;have e2:(aggTs cols p.gs).length=p.gs.length:=aggTs_len _ _;have R1:=raw_ints ((O7.nx (chain hb8 (chain hb9 hbB))).is (by rw [e1]; unfold maxLen; omega));have R2:=raw_ints ((O9.nx hbB).is (by rw [e2]; unfold maxLen; omega));rw [e1] at R1;rw [e2] at R2;have PC:=PairC.new p.xs.length p.gs.length R1 R2 45
  have halB:Below wB.heap.size wB (wB.alloc (.cells #[.slice (some ⟨w6.heap.size,0,none⟩) p.xs.length p.xs.length,.slice (some ⟨w8.heap.size,0,none⟩) p.gs.length p.gs.length] 45)):=(Below.refl _ _).alloc (Nat.le_refl _) _;have CWC:=hCC _ _ CWB halB;have DC:=chain DB halB;refine hK _ _ ⟨CWC,?_⟩;clear hK K R1 R2;generalize wB.alloc (.cells #[.slice (some ⟨w6.heap.size,0,none⟩) p.xs.length p.xs.length,.slice (some ⟨w8.heap.size,0,none⟩) p.gs.length p.gs.length] 45)=wC at *;refine wpY_step (rs:=[9]) (by kernel_rfl) (by simp) ?_;intro wD hbD jj hjj;obtain rfl:jj=9:=by simpa using hjj
  clear hjj;have CWD:=hCC _ _ CWC hbD;have DD:=chain DC hbD;refine wpOp_step rfl (fun K hK=>?_);go_simp;refine (concatI_at _ _ _ _ _ wD (PC.next hbD) (by omega)).mono ?_;rintro e wE ⟨vE,rfl,OE,hbE⟩;rw [← List.map_append] at OE;have hzD:=DD.size;obtain ⟨aE,cE,rfl,IE⟩:=own_intsT (B:=B) (lo:=lo) OE (by simp [e1,e2]) (by omega);have CWE:=hCC _ _ CWD hbE;have DE:=chain DD hbE;refine hK _ _ ⟨CWE,?_⟩;clear hK K OE PC CW6 CW7 CW8 CW9 CWB CWC CWD CW O7 O9 e1 e2;obtain ⟨tt,htt⟩:∃ tt,tt=typs cols p.xs ++ aggTs cols p.gs:=⟨_,rfl⟩
  rw [← htt] at IE ⊢;have HTT:Hid (tt=typs cols p.xs ++ aggTs cols p.gs):=htt;clear htt;refine wpY_take hCC (some 4) (i:=10) (v:=.slice aE tt.length cE) rfl rfl (by kernel_rfl) (by kernel_rfl) (by kernel_rfl) (fun _ _ _ h=>h) (Or.inl ⟨rfl,fun n hn=>?_⟩) CWE ?_
  ·go_simp
  simp only [Act.put,pA,pB,pC];refine wpY_take hCC (some 5) (i:=11) (v:=.int .i64 0) rfl rfl (by kernel_rfl) (by kernel_rfl) (by kernel_rfl) (fun _ _ _ h=>h) (Or.inl ⟨rfl,fun n hn=>?_⟩) CWE ?_
  ·go_simp
  simp only [Act.put,pA,pB,pC];refine wpY_done (by kernel_rfl) ?_;intro wF hbF;have hAF:=chain hA5 (chain DE hbF);have IF:=IE.low hbF (by have:=DE.size; omega);clear CWE hCC hbF DE IE;go_wp2_with fail
  exact bodyPost_ret (v:=.tuple #[.slice aE tt.length cE,.int .i64 0]) (by simp [results,Tryz.results112,go_sem]) rfl ⟨⟨aE,cE,by rw [if_pos rfl,← HTT.out],by rw [if_pos rfl,← HTT.out]; exact IF⟩,hAF⟩
 have b12:(p.k == 12)=false:=by rw [beq_eq_false_iff_ne]; exact k12
 have e:=H0.out k3 k12;subst e;clear H3 H12 H0 L3 L12 k3 k12;go_wp2_with fail
 exact bodyPost_ret (v:=.tuple #[.slice ca C.length cc,.int .i64 0]) (by simp [results,Tryz.results112,go_sem]) rfl ⟨⟨ca,cc,by rw [if_pos rfl],by rw [if_pos rfl]; exact hc5⟩,hA5⟩

set_option maxRecDepth 100000 in
set_option maxHeartbeats 8000000 in
theorem colsOfTwo_at (B lo:Nat) (hB:B≤lo) (p:Pl) (q:Pw) (l r:List Int) (la:Option Addr) (lc:Nat) (ra:Option Addr) (rc:Nat) (w:World) (ht:lo≤w.heap.size) (hp:PlB w.heap.size w p q) (hl:IsT B lo w la l) (hr:IsT B lo w ra r) (hl8:l.length≤8) (hr8:r.length≤8) :
  Calls Tryz.prog 113 #[plV p q,.slice la l.length lc,.slice ra r.length rc] w fun e w'=>ColsT B lo w' e (twoQ p.k p.x l r) (twoC p.k l r)∧Below w.heap.size w w':=by
 have hA:Below w.heap.size w (w.alloc (.cells (pvA p q) 31)):=((Below.refl _ _).alloc (Nat.le_refl _) _)
 have E:=Elv.new w p q 31;have hpA:=(hp.next hA (Nat.le_refl _)).up hA.size;have hlA:=hl.low hA (by omega);have hrA:=hr.low hA (by omega);have hzA:=hA.size;have lw:=lt_of_heap (heap_new w (pvA p q) 31);have HQ1:Hid (p.k=8∨p.k=9→twoQ p.k p.x l r=togE l r∧twoC p.k l r=togsL l r):=fun h=>by unfold twoQ twoC; rw [if_pos h,if_pos h]; exact ⟨rfl,rfl⟩
 have HQ2:Hid (¬ (p.k=8∨p.k=9)→twoQ p.k p.x l r=pairE 0 l r p.x [] []):=fun h=>by unfold twoQ; rw [if_neg h]
 have HQ3:Hid (¬ (p.k=8∨p.k=9)→p.k=5∨p.k=6→twoC p.k l r=l):=fun h h'=>by unfold twoC; rw [if_neg h,if_pos h']
 have HQ4:Hid (¬ (p.k=8∨p.k=9)→¬ (p.k=5∨p.k=6)→twoC p.k l r=l ++ r):=fun h h'=>by unfold twoC; rw [if_neg h,if_neg h']
 generalize twoQ p.k p.x l r=er at *;generalize twoC p.k l r=C at *;have E':=E;obtain ⟨p0,p1,p2,p8,p9,p10⟩:=E';obtain ⟨x0,x1,x2,x3,x4,x5⟩:=p2;simp only [Nat.zero_add] at p1 x0 x1 x2 x3 x4 x5 p8 p9 p10;unfold plV;go_enter Tryz.func113,Tryz.ntmps113;by_cases h89:p.k=8∨p.k=9
 ·obtain ⟨e1,e2⟩:=HQ1.out h89;have con:=togetherQ_at l r la lc ra rc _ hlA.at hrA.at hl8;rw [← e1] at con;have HL:Hid (er=0→(togsL l r).length=l.length):=fun h0=>by
   rw [e1] at h0;unfold togE at h0;by_cases hlr:l.length=r.length
   ·exact togsL_len hlr
   ·rw [if_pos hlr] at h0; cases h0
  have HC:Hid (C=togsL l r):=e2;clear HQ1 HQ2 HQ3 HQ4 e1 e2;have h2:p.k=8∨(¬ p.k=8∧p.k=9):=by omega
  clear h89;rcases h2 with h2 | ⟨h2,h3⟩
  ·have b8:(p.k == 8)=true:=by simpa using h2
   clear h2;go_wp2_with fail
   generalize w.alloc (.cells (pvA p q) 31)=wA at *;refine con.mono ?_;rintro e w5 ⟨v5,rfl,h0,hn0,hb5⟩;clear con;dsimp only;by_cases he:er=0
   ·subst he;obtain ⟨rfl,O5⟩:=h0 rfl;have HLn:Hid ((togsL l r).length=l.length):=HL.out rfl;have I5:=O5.t (B:=B) (lo:=lo) (by rw [HLn.out]; exact hl8) (by omega);clear HL;clear h0 hn0;go_wp2_with fail
    exact bodyPost_ret (v:=.tuple #[.slice (some ⟨wA.heap.size,0,none⟩) l.length l.length,.int .i64 0]) (by simp [results,Tryz.results113,go_sem]) rfl ⟨⟨_,_,by rw [if_pos rfl,HC.out,HLn.out],by rw [if_pos rfl,HC.out]; exact I5⟩,chain hA hb5⟩
   ·obtain rfl:=hn0 he;clear h0 hn0;go_wp2_with fail
    exact bodyPost_ret (v:=.tuple #[.slice none 0 0,.int .i64 er]) (by simp [results,Tryz.results113,go_sem]) rfl ⟨⟨none,0,by rw [if_neg he]; rfl,by rw [if_neg he]; exact IsT.nil _ _ _⟩,chain hA hb5⟩
  ·have b8:(p.k == 8)=false:=by rw [beq_eq_false_iff_ne]; exact h2
   have b9:(p.k == 9)=true:=by simpa using h3
   clear h2 h3;go_wp2_with fail
   generalize w.alloc (.cells (pvA p q) 31)=wA at *;refine con.mono ?_;rintro e w5 ⟨v5,rfl,h0,hn0,hb5⟩;clear con;dsimp only;by_cases he:er=0
   ·subst he;obtain ⟨rfl,O5⟩:=h0 rfl;have HLn:Hid ((togsL l r).length=l.length):=HL.out rfl;have I5:=O5.t (B:=B) (lo:=lo) (by rw [HLn.out]; exact hl8) (by omega);clear HL;clear h0 hn0;go_wp2_with fail
    exact bodyPost_ret (v:=.tuple #[.slice (some ⟨wA.heap.size,0,none⟩) l.length l.length,.int .i64 0]) (by simp [results,Tryz.results113,go_sem]) rfl ⟨⟨_,_,by rw [if_pos rfl,HC.out,HLn.out],by rw [if_pos rfl,HC.out]; exact I5⟩,chain hA hb5⟩
   ·obtain rfl:=hn0 he;clear h0 hn0;go_wp2_with fail
    exact bodyPost_ret (v:=.tuple #[.slice none 0 0,.int .i64 er]) (by simp [results,Tryz.results113,go_sem]) rfl ⟨⟨none,0,by rw [if_neg he]; rfl,by rw [if_neg he]; exact IsT.nil _ _ _⟩,chain hA hb5⟩
 have b8:(p.k == 8)=false:=by rw [beq_eq_false_iff_ne]; exact fun e=>h89 (.inl e)
 have b9:(p.k == 9)=false:=by rw [beq_eq_false_iff_ne]; exact fun e=>h89 (.inr e)
 have con:=join_at l r p.x la lc ra rc q.xa q.xc none 0 [] none 0 [] _ hlA.at hrA.at hpA.x (zs_none _) (zs_none _) (by omega) (by omega);rw [← HQ2.out h89] at con;have H5:Hid (p.k=5∨p.k=6→C=l):=HQ3.out h89;have H0:Hid (¬ (p.k=5∨p.k=6)→C=l ++ r):=HQ4.out h89;clear HQ1 HQ2 HQ3 HQ4 h89;generalize pairZ 0 l r p.x [] []=zz at *;unfold exV at con;go_wp2_with fail
 generalize w.alloc (.cells (pvA p q) 31)=wA at *;refine con.mono ?_;rintro e w5 ⟨v5,rfl,O5,hb5⟩;clear con O5 p0 p1 x0 x1 x2 x3 x4 x5 p8 p9 p10;have hA5:=chain hA hb5;have p0:=(E.next hb5 lw).c0;have hl5:=hlA.low hb5 (by omega);have hr5:=hrA.low hb5 (by omega);have hz5:=hb5.size;dsimp only;by_cases he:er=0;rotate_left
 ·have hb:(er != 0)=true:=by simpa using he
  go_wp2_with fail
  exact bodyPost_ret (v:=.tuple #[.slice none 0 0,.int .i64 er]) (by simp [results,Tryz.results113,go_sem]) rfl ⟨⟨none,0,by rw [if_neg he]; rfl,by rw [if_neg he]; exact IsT.nil _ _ _⟩,hA5⟩
 subst he;by_cases h56:p.k=5∨p.k=6
 ·have e:=H5.out h56;have HC:Hid (C=l):=e;clear H5 H0 e;have h2:p.k=5∨(¬ p.k=5∧p.k=6):=by omega
  clear h56;rcases h2 with h2 | ⟨h2,h3⟩
  ·have b5:(p.k == 5)=true:=by simpa using h2
   clear h2;go_wp2_with fail
   exact bodyPost_ret (v:=.tuple #[.slice la l.length lc,.int .i64 0]) (by simp [results,Tryz.results113,go_sem]) rfl ⟨⟨la,lc,by rw [if_pos rfl,HC.out],by rw [if_pos rfl,HC.out]; exact hl5⟩,hA5⟩
  ·have b5:(p.k == 5)=false:=by rw [beq_eq_false_iff_ne]; exact h2
   have b6:(p.k == 6)=true:=by simpa using h3
   clear h2 h3;go_wp2_with fail
   exact bodyPost_ret (v:=.tuple #[.slice la l.length lc,.int .i64 0]) (by simp [results,Tryz.results113,go_sem]) rfl ⟨⟨la,lc,by rw [if_pos rfl,HC.out],by rw [if_pos rfl,HC.out]; exact hl5⟩,hA5⟩
 have b5:(p.k == 5)=false:=by rw [beq_eq_false_iff_ne]; exact fun e=>h56 (.inl e)
 have b6:(p.k == 6)=false:=by rw [beq_eq_false_iff_ne]; exact fun e=>h56 (.inr e)
 have HC:Hid (C=l ++ r):=H0.out h56;clear H5 H0 h56;have PC:=PairC.new lc rc (raw_ints hl5.at) (raw_ints hr5.at) 45;have hal5:Below w5.heap.size w5 (w5.alloc (.cells #[.slice la l.length lc,.slice ra r.length rc] 45)):=(Below.refl _ _).alloc (Nat.le_refl _) _;go_wp2_with fail
 generalize w5.alloc (.cells #[.slice la l.length lc,.slice ra r.length rc] 45)=w6 at *;refine (concatI_at _ _ _ _ _ w6 PC (by omega)).mono ?_;rintro e w7 ⟨v7,rfl,O7,hb7⟩;rw [← List.map_append,← HC.out] at O7;have hl7:l.length+r.length=C.length:=by rw [HC.out,List.length_append]
 have hz6:=hal5.size;obtain ⟨a7,c7,rfl,I7⟩:=own_intsT (B:=B) (lo:=lo) O7 hl7 (by omega);clear PC O7 hl7;dsimp only;go_wp2_with fail
 exact bodyPost_ret (v:=.tuple #[.slice a7 C.length c7,.int .i64 0]) (by simp [results,Tryz.results113,go_sem]) rfl ⟨⟨a7,c7,by rw [if_pos rfl],by rw [if_pos rfl]; exact I7⟩,chain hA5 (chain hal5 hb7)⟩
set_option maxRecDepth 100000 in
set_option maxHeartbeats 8000000 in
theorem colsOf_at (ts:List (List Int)) (B lo t:Nat) (ta:Option Addr) (tc:Nat) (p:Pl) (q:Pw) (na:Option Addr) (nc:Nat) (w:World) (hB:B≤t) (htl:t<lo) (hlw:lo≤w.heap.size) (c0:w.cell? ⟨t,0,none⟩=some (.slice ta ts.length tc)) (hT:TbAt B w ta ts) (hp:PlB B w p q) (hN:NsT ts B lo w na p.ks) (hk:PlOk p) (hlen:p.ks.length=kidsQ p.k) (h8:∀ r ∈ p.ks,(colsP ts r).length≤8) :
  Calls Tryz.prog 89 #[.pointer (some ⟨t,0,none⟩),plV p q,.slice na p.ks.length nc] w fun e w'=>ColsT B lo w' e (nodeE ts p.k p.n p.x p.xs p.gs (p.ks.map (colsP ts))) (nodeC ts p.k p.n p.xs p.gs (p.ks.map (colsP ts)))∧Below w.heap.size w w':=by
 have hA:Below w.heap.size w (w.alloc (.cells (pvA p q) 31)):=((Below.refl _ _).alloc (Nat.le_refl _) _)
 have E:=Elv.new w p q 31;have lw:=lt_of_heap (heap_new w (pvA p q) 31);have ht:t<w.heap.size:=by omega
 have hBw:B≤w.heap.size:=by omega
 have h2:=kidsQ_le p.k;have hc:p.ks = []∨(∃ k0,p.ks = [k0])∨∃ k0 k1,p.ks = [k0,k1]:=by
  match hm:p.ks with
  | []=>exact .inl rfl
  | [k0]=>exact .inr (.inl ⟨k0,rfl⟩)
  | [k0,k1]=>exact .inr (.inr ⟨k0,k1,rfl⟩)
  | _ :: _ :: _ :: _=>rw [hm] at hlen; simp at hlen; omega
 have dA:=(hA.cell (p:=⟨t,0,none⟩) ht).trans c0;generalize hER:nodeE ts p.k p.n p.x p.xs p.gs (p.ks.map (colsP ts))=er;generalize hCR:nodeC ts p.k p.n p.xs p.gs (p.ks.map (colsP ts))=C;have HER:Hid (nodeE ts p.k p.n p.x p.xs p.gs (p.ks.map (colsP ts))=er):=hER;have HCR:Hid (nodeC ts p.k p.n p.xs p.gs (p.ks.map (colsP ts))=C):=hCR;have HK:Hid (PlOk p):=hk;clear hER hCR hlen h2 hk;unfold plV;go_enter Tryz.func89,Tryz.ntmps89;rcases hc with hks | ⟨k0,hks⟩ | ⟨k0,k1,hks⟩
 ·have hl0:p.ks.length=0:=by rw [hks]; rfl
  have lb:((p.ks.length:Int) == 0)=true:=by simp [hl0]
  have eE:er=if p.n<0∨ts.length≤p.n then 7 else 0:=by rw [← HER.out,hks]; rfl
  have eC:C=ts.getD p.n.toNat []:=by rw [← HCR.out,hks]; rfl
  have HE1:Hid (er=_):=eE;have HC1:Hid (C=_):=eC;clear eE eC;clear HER HCR h8 hks hl0;go_wp2_with fail
  generalize w.alloc (.cells (pvA p q) 31)=wA at *;have hCC:∀ W W':World,(Elv W w.heap.size 0 p q∧w.heap.size<W.heap.size∧W.cell? ⟨t,0,none⟩=some (.slice ta ts.length tc)∧t<W.heap.size)→Below W.heap.size W W'→(Elv W' w.heap.size 0 p q∧w.heap.size<W'.heap.size∧W'.cell? ⟨t,0,none⟩=some (.slice ta ts.length tc)∧t<W'.heap.size):=fun W W' h hb=>⟨h.1.next hb h.2.1,Nat.lt_of_lt_of_le h.2.1 hb.size,(hb.cell (p:=⟨t,0,none⟩) h.2.2.2).trans h.2.2.1,Nat.lt_of_lt_of_le h.2.2.2 hb.size⟩
  have hd:Below wA.heap.size wA wA.drew:=(Below.refl _ _).drew;have CW:=hCC _ _ ⟨E,lw,dA,Nat.lt_of_lt_of_le ht hA.size⟩ hd;refine wp_region_cls (fun W=>(Elv W w.heap.size 0 p q∧w.heap.size<W.heap.size∧W.cell? ⟨t,0,none⟩=some (.slice ta ts.length tc)∧t<W.heap.size)) (by kernel_rfl) ?_;refine wpY_take hCC (some 12) (i:=0) (v:=.pointer (some ⟨t,0,none⟩)) rfl rfl (by kernel_rfl) (by kernel_rfl) (by kernel_rfl) (fun _ _ _ h=>h) (Or.inl ⟨rfl,fun n hn=>?_⟩) CW ?_
  ·go_simp
  simp only [Act.put,pA,pB,pC];refine wpY_take hCC (some 13) (i:=1) (v:=.pointer (some ⟨t,0,none⟩)) rfl rfl (by kernel_rfl) (by kernel_rfl) (by kernel_rfl) (fun _ _ _ h=>h) (Or.inl ⟨rfl,fun n hn=>?_⟩) CW ?_
  ·go_simp
  simp only [Act.put,pA,pB,pC];refine wpY_take hCC (some 14) (i:=2) (v:=.pointer (some ⟨t,0,none⟩)) rfl rfl (by kernel_rfl) (by kernel_rfl) (by kernel_rfl) (fun _ _ _ h=>h) (Or.inl ⟨rfl,fun n hn=>?_⟩) CW ?_
  ·go_simp
  simp only [Act.put,pA,pB,pC];refine wpY_take hCC (some 15) (i:=3) (v:=.slice ta ts.length tc) rfl rfl (by kernel_rfl) (by kernel_rfl) (by kernel_rfl) (fun _ _ _ h=>h) (Or.inl ⟨rfl,fun n hn=>?_⟩) CW ?_
  ·have hc:=hn.2.2.1;go_simp
  simp only [Act.put,pA,pB,pC];refine wpY_take hCC (some 16) (i:=4) (v:=.pointer (some ⟨w.heap.size,1,none⟩)) rfl rfl (by kernel_rfl) (by kernel_rfl) (by kernel_rfl) (fun _ _ _ h=>h) (Or.inl ⟨rfl,fun n hn=>?_⟩) CW ?_
  ·go_simp
  simp only [Act.put,pA,pB,pC];refine wpY_take hCC (some 17) (i:=5) (v:=.int .i64 p.n) rfl rfl (by kernel_rfl) (by kernel_rfl) (by kernel_rfl) (fun _ _ _ h=>h) (Or.inl ⟨rfl,fun n hn=>?_⟩) CW ?_
  ·have hc:=hn.1.c1;simp only [Nat.zero_add] at hc;go_simp
  simp only [Act.put,pA,pB,pC];refine wpY_step (rs:=[6]) (by kernel_rfl) (by simp) ?_;intro w6 hb6 jj hjj;obtain rfl:jj=6:=by simpa using hjj
  clear hjj;have CW6:=hCC _ _ CW hb6;have D6:=chain hA (chain hd hb6);have con:=tableCols_at ts p.n B ta tc w6 (hT.next D6 hBw);rw [← HE1.out,← HC1.out] at con;refine wpOp_step rfl (fun K hK=>?_);go_simp;refine con.mono ?_;rintro e w7 ⟨⟨a7,c7,rfl,I7⟩,hb7⟩;clear con;have CW7:=hCC _ _ CW6 hb7;have D7:=chain D6 hb7;refine hK _ _ ⟨CW7,?_⟩;clear hK K CW6 CW;have J7:=I7.t (lo:=lo) (by have:=CW7.2.2.2; omega);obtain ⟨cl,hcl⟩:∃ cl,cl=(if er=0 then C else []):=⟨_,rfl⟩
  rw [← hcl] at J7 ⊢;have HCl:Hid (cl=(if er=0 then C else [])):=hcl;clear hcl I7;refine wpY_take hCC (some 19) (i:=7) (v:=.slice a7 cl.length c7) rfl rfl (by kernel_rfl) (by kernel_rfl) (by kernel_rfl) (fun _ _ _ h=>h) (Or.inl ⟨rfl,fun n hn=>?_⟩) CW7 ?_
  ·go_simp
  simp only [Act.put,pA,pB,pC];refine wpY_take hCC (some 20) (i:=8) (v:=.int .i64 er) rfl rfl (by kernel_rfl) (by kernel_rfl) (by kernel_rfl) (fun _ _ _ h=>h) (Or.inl ⟨rfl,fun n hn=>?_⟩) CW7 ?_
  ·go_simp
  simp only [Act.put,pA,pB,pC];refine wpY_take hCC (some 6) (i:=9) (v:=.slice a7 cl.length c7) rfl rfl (by kernel_rfl) (by kernel_rfl) (by kernel_rfl) (fun _ _ _ h=>h) (Or.inl ⟨rfl,fun n hn=>?_⟩) CW7 ?_
  ·go_simp
  simp only [Act.put,pA,pB,pC];refine wpY_take hCC (some 7) (i:=10) (v:=.int .i64 er) rfl rfl (by kernel_rfl) (by kernel_rfl) (by kernel_rfl) (fun _ _ _ h=>h) (Or.inl ⟨rfl,fun n hn=>?_⟩) CW7 ?_
  ·go_simp
  simp only [Act.put,pA,pB,pC];refine wpY_done (by kernel_rfl) ?_;intro w8 hb8;have J8:=J7.low hb8 (by have:=CW7.2.2.2; omega);have D8:=chain D7 hb8;clear CW7 hCC hb8 D7 J7;go_wp2
  exact bodyPost_ret (v:=.tuple #[.slice a7 cl.length c7,.int .i64 er]) (by simp [results,Tryz.results89,go_sem]) rfl ⟨⟨a7,c7,by rw [HCl.out],by rw [← HCl.out]; exact J8⟩,D8⟩
 ·have hl0:p.ks.length=1:=by rw [hks]; rfl
  have lb:((p.ks.length:Int) == 0)=false:=by simp [hl0]
  have lb1:((p.ks.length:Int) == 1)=true:=by simp [hl0]
  have lz:0<p.ks.length:=by omega
  have eE:er=oneE p.k p.n p.x p.xs p.gs (colsP ts k0):=by rw [← HER.out,hks]; rfl
  have eC:C=oneC p.k p.xs p.gs (colsP ts k0):=by rw [← HCR.out,hks]; rfl
  have HE1:Hid (er=_):=eE;have HC1:Hid (C=_):=eC;clear eE eC;rw [hks] at hN;obtain ⟨b,off,q0,c1,cc1,n1,nc1,rfl,hbl,hbt,_,d11,_,ND⟩:=hN.elem (i:=0) (by simp);simp only [Nat.zero_mul,Nat.add_zero,List.getElem_cons_zero] at d11 ND;have I1:=ND.cols;clear HER HCR h8 hks hl0 hN ND;have d11A:=(hA.cell (p:=⟨b,off+11,none⟩) hbl).trans d11;go_wp2_with fail
  generalize w.alloc (.cells (pvA p q) 31)=wA at *;have hCC:∀ W W':World,(Elv W w.heap.size 0 p q∧w.heap.size<W.heap.size∧W.cell? ⟨b,off+11,none⟩=some (.slice c1 (colsP ts k0).length cc1)∧t<W.heap.size∧b<W.heap.size)→Below W.heap.size W W'→(Elv W' w.heap.size 0 p q∧w.heap.size<W'.heap.size∧W'.cell? ⟨b,off+11,none⟩=some (.slice c1 (colsP ts k0).length cc1)∧t<W'.heap.size∧b<W'.heap.size):=fun W W' h hb=>⟨h.1.next hb h.2.1,Nat.lt_of_lt_of_le h.2.1 hb.size,(hb.cell (p:=⟨b,off+11,none⟩) h.2.2.2.2).trans h.2.2.1,Nat.lt_of_lt_of_le h.2.2.2.1 hb.size,Nat.lt_of_lt_of_le h.2.2.2.2 hb.size⟩
  have hd:Below wA.heap.size wA wA.drew:=(Below.refl _ _).drew;have CW:=hCC _ _ ⟨E,lw,d11A,Nat.lt_of_lt_of_le ht hA.size,Nat.lt_of_lt_of_le hbl hA.size⟩ hd;refine wp_region_cls (fun W=>(Elv W w.heap.size 0 p q∧w.heap.size<W.heap.size∧W.cell? ⟨b,off+11,none⟩=some (.slice c1 (colsP ts k0).length cc1)∧t<W.heap.size∧b<W.heap.size)) (by kernel_rfl) ?_;refine wpY_take hCC (some 23) (i:=0) (v:=.agg (pvA p q)) rfl rfl (by kernel_rfl) (by kernel_rfl) (by kernel_rfl) (fun _ _ _ h=>h) (Or.inl ⟨rfl,fun n hn=>?_⟩) CW ?_
  ·obtain ⟨⟨n0,n1,⟨n2,n3,n4,n5,n6,n7⟩,n8,n9,n10⟩,_⟩:=hn;simp only [Nat.zero_add] at n1 n2 n3 n4 n5 n6 n7 n8 n9 n10;go_simp
  simp only [Act.put,pA,pB,pC];refine wpY_take hCC (some 24) (i:=1) (v:=.slice (some ⟨b,off,none⟩) p.ks.length nc) rfl rfl (by kernel_rfl) (by kernel_rfl) (by kernel_rfl) (fun _ _ _ h=>h) (Or.inl ⟨rfl,fun n hn=>?_⟩) CW ?_
  ·go_simp
  simp only [Act.put,pA,pB,pC];refine wpY_take hCC (some 25) (i:=2) (v:=.pointer (some ⟨b,off,none⟩)) rfl rfl (by kernel_rfl) (by kernel_rfl) (by kernel_rfl) (fun _ _ _ h=>h) (Or.inl ⟨rfl,fun n hn=>?_⟩) CW ?_
  ·go_simp
  simp only [Act.put,pA,pB,pC];refine wpY_take hCC (some 26) (i:=3) (v:=.pointer (some ⟨b,off+11,none⟩)) rfl rfl (by kernel_rfl) (by kernel_rfl) (by kernel_rfl) (fun _ _ _ h=>h) (Or.inl ⟨rfl,fun n hn=>?_⟩) CW ?_
  ·go_simp
  simp only [Act.put,pA,pB,pC];refine wpY_take hCC (some 27) (i:=4) (v:=.slice c1 (colsP ts k0).length cc1) rfl rfl (by kernel_rfl) (by kernel_rfl) (by kernel_rfl) (fun _ _ _ h=>h) (Or.inl ⟨rfl,fun n hn=>?_⟩) CW ?_
  ·have hc:=hn.2.2.1;go_simp
  simp only [Act.put,pA,pB,pC];refine wpY_step (rs:=[5]) (by kernel_rfl) (by simp) ?_;intro w6 hb6 jj hjj;obtain rfl:jj=5:=by simpa using hjj
  clear hjj;have CW6:=hCC _ _ CW hb6;have D6:=chain hA (chain hd hb6);have con:=colsOfOne_at B lo (by omega) p q (colsP ts k0) c1 cc1 w6 (Nat.le_trans hlw D6.size) ((hp.next D6 hBw).up (Nat.le_trans hBw D6.size)) (I1.low D6 hBw) HK.out;rw [← HE1.out,← HC1.out] at con;unfold plV at con;refine wpOp_step rfl (fun K hK=>?_);go_simp;refine con.mono ?_;rintro e w7 ⟨⟨a7,c7,rfl,J7⟩,hb7⟩;clear con;have CW7:=hCC _ _ CW6 hb7;have D7:=chain D6 hb7;refine hK _ _ ⟨CW7,?_⟩;clear hK K CW6 CW;obtain ⟨cl,hcl⟩:∃ cl,cl=(if er=0 then C else []):=⟨_,rfl⟩
  rw [← hcl] at J7 ⊢;have HCl:Hid (cl=(if er=0 then C else [])):=hcl;clear hcl;refine wpY_take hCC (some 29) (i:=6) (v:=.slice a7 cl.length c7) rfl rfl (by kernel_rfl) (by kernel_rfl) (by kernel_rfl) (fun _ _ _ h=>h) (Or.inl ⟨rfl,fun n hn=>?_⟩) CW7 ?_
  ·go_simp
  simp only [Act.put,pA,pB,pC];refine wpY_take hCC (some 30) (i:=7) (v:=.int .i64 er) rfl rfl (by kernel_rfl) (by kernel_rfl) (by kernel_rfl) (fun _ _ _ h=>h) (Or.inl ⟨rfl,fun n hn=>?_⟩) CW7 ?_
  ·go_simp
  simp only [Act.put,pA,pB,pC];refine wpY_take hCC (some 6) (i:=8) (v:=.slice a7 cl.length c7) rfl rfl (by kernel_rfl) (by kernel_rfl) (by kernel_rfl) (fun _ _ _ h=>h) (Or.inl ⟨rfl,fun n hn=>?_⟩) CW7 ?_
  ·go_simp
  simp only [Act.put,pA,pB,pC];refine wpY_take hCC (some 7) (i:=9) (v:=.int .i64 er) rfl rfl (by kernel_rfl) (by kernel_rfl) (by kernel_rfl) (fun _ _ _ h=>h) (Or.inl ⟨rfl,fun n hn=>?_⟩) CW7 ?_
  ·go_simp
  simp only [Act.put,pA,pB,pC];refine wpY_done (by kernel_rfl) ?_;intro w8 hb8;have J8:=J7.low hb8 (by have:=CW7.2.2.2.1; omega);have D8:=chain D7 hb8;clear CW7 hCC hb8 D7 J7;go_wp2
  exact bodyPost_ret (v:=.tuple #[.slice a7 cl.length c7,.int .i64 er]) (by simp [results,Tryz.results89,go_sem]) rfl ⟨⟨a7,c7,by rw [HCl.out],by rw [← HCl.out]; exact J8⟩,D8⟩
 ·have hl0:p.ks.length=2:=by rw [hks]; rfl
  have lb:((p.ks.length:Int) == 0)=false:=by simp [hl0]
  have lb1:((p.ks.length:Int) == 1)=false:=by simp [hl0]
  have lz:0<p.ks.length:=by omega
  have lz1:(1:Int)<(p.ks.length:Int):=by omega
  have eE:er=twoQ p.k p.x (colsP ts k0) (colsP ts k1):=by rw [← HER.out,hks]; rfl
  have eC:C=twoC p.k (colsP ts k0) (colsP ts k1):=by rw [← HCR.out,hks]; rfl
  have HE1:Hid (er=_):=eE;have HC1:Hid (C=_):=eC;clear eE eC;have g0:=h8 k0 (by rw [hks]; simp);have g1:=h8 k1 (by rw [hks]; simp);rw [hks] at hN;obtain ⟨b,off,q0,c1,cc1,n1,nc1,rfl,hbl,hbt,_,d11,_,ND⟩:=hN.elem (i:=0) (by simp);obtain ⟨b',off',q1,c2,cc2,n2,nc2,eb,_,_,_,d24,_,ND1⟩:=hN.elem (i:=1) (by simp);have eb:=Option.some.inj eb;injection eb with eb1 eb2
  subst eb1 eb2;simp only [Nat.zero_mul,Nat.one_mul,Nat.add_zero,List.getElem_cons_zero,List.getElem_cons_succ] at d11 ND d24 ND1;have I1:=ND.cols;have I2:=ND1.cols;clear HER HCR h8 hks hl0 hN ND ND1;have d11A:=(hA.cell (p:=⟨b,off+11,none⟩) hbl).trans d11;have d24A:=(hA.cell (p:=⟨b,off+13+11,none⟩) hbl).trans d24;go_wp2_with fail
  generalize w.alloc (.cells (pvA p q) 31)=wA at *
  have hCC:∀ W W':World,(Elv W w.heap.size 0 p q∧w.heap.size<W.heap.size∧W.cell? ⟨b,off+11,none⟩=some (.slice c1 (colsP ts k0).length cc1)∧W.cell? ⟨b,off+13+11,none⟩=some (.slice c2 (colsP ts k1).length cc2)∧t<W.heap.size∧b<W.heap.size)→Below W.heap.size W W'→(Elv W' w.heap.size 0 p q∧w.heap.size<W'.heap.size∧W'.cell? ⟨b,off+11,none⟩=some (.slice c1 (colsP ts k0).length cc1)∧W'.cell? ⟨b,off+13+11,none⟩=some (.slice c2 (colsP ts k1).length cc2)∧t<W'.heap.size∧b<W'.heap.size):=fun W W' h hb=>⟨h.1.next hb h.2.1,Nat.lt_of_lt_of_le h.2.1 hb.size,(hb.cell (p:=⟨b,off+11,none⟩) h.2.2.2.2.2).trans h.2.2.1,(hb.cell (p:=⟨b,off+13+11,none⟩) h.2.2.2.2.2).trans h.2.2.2.1,Nat.lt_of_lt_of_le h.2.2.2.2.1 hb.size,Nat.lt_of_lt_of_le h.2.2.2.2.2 hb.size⟩
  have hd:Below wA.heap.size wA wA.drew:=(Below.refl _ _).drew;have CW:=hCC _ _ ⟨E,lw,d11A,d24A,Nat.lt_of_lt_of_le ht hA.size,Nat.lt_of_lt_of_le hbl hA.size⟩ hd;refine wp_region_cls (fun W=>(Elv W w.heap.size 0 p q∧w.heap.size<W.heap.size∧W.cell? ⟨b,off+11,none⟩=some (.slice c1 (colsP ts k0).length cc1)∧W.cell? ⟨b,off+13+11,none⟩=some (.slice c2 (colsP ts k1).length cc2)∧t<W.heap.size∧b<W.heap.size)) (by kernel_rfl) ?_;refine wpY_take hCC (some 31) (i:=0) (v:=.agg (pvA p q)) rfl rfl (by kernel_rfl) (by kernel_rfl) (by kernel_rfl) (fun _ _ _ h=>h) (Or.inl ⟨rfl,fun n hn=>?_⟩) CW ?_
  ·obtain ⟨⟨n0,n1,⟨n2,n3,n4,n5,n6,n7⟩,n8,n9,n10⟩,_⟩:=hn;simp only [Nat.zero_add] at n1 n2 n3 n4 n5 n6 n7 n8 n9 n10;go_simp
  simp only [Act.put,pA,pB,pC];refine wpY_take hCC (some 32) (i:=1) (v:=.slice (some ⟨b,off,none⟩) p.ks.length nc) rfl rfl (by kernel_rfl) (by kernel_rfl) (by kernel_rfl) (fun _ _ _ h=>h) (Or.inl ⟨rfl,fun n hn=>?_⟩) CW ?_
  ·go_simp
  simp only [Act.put,pA,pB,pC];refine wpY_take hCC (some 33) (i:=2) (v:=.pointer (some ⟨b,off,none⟩)) rfl rfl (by kernel_rfl) (by kernel_rfl) (by kernel_rfl) (fun _ _ _ h=>h) (Or.inl ⟨rfl,fun n hn=>?_⟩) CW ?_
  ·go_simp
  simp only [Act.put,pA,pB,pC];refine wpY_take hCC (some 34) (i:=3) (v:=.pointer (some ⟨b,off+11,none⟩)) rfl rfl (by kernel_rfl) (by kernel_rfl) (by kernel_rfl) (fun _ _ _ h=>h) (Or.inl ⟨rfl,fun n hn=>?_⟩) CW ?_
  ·go_simp
  simp only [Act.put,pA,pB,pC];refine wpY_take hCC (some 35) (i:=4) (v:=.slice c1 (colsP ts k0).length cc1) rfl rfl (by kernel_rfl) (by kernel_rfl) (by kernel_rfl) (fun _ _ _ h=>h) (Or.inl ⟨rfl,fun n hn=>?_⟩) CW ?_
  ·have hc:=hn.2.2.1;go_simp
  simp only [Act.put,pA,pB,pC];refine wpY_take hCC (some 36) (i:=5) (v:=.slice (some ⟨b,off,none⟩) p.ks.length nc) rfl rfl (by kernel_rfl) (by kernel_rfl) (by kernel_rfl) (fun _ _ _ h=>h) (Or.inl ⟨rfl,fun n hn=>?_⟩) CW ?_
  ·go_simp
  simp only [Act.put,pA,pB,pC];refine wpY_take hCC (some 37) (i:=6) (v:=.pointer (some ⟨b,off+13,none⟩)) rfl rfl (by kernel_rfl) (by kernel_rfl) (by kernel_rfl) (fun _ _ _ h=>h) (Or.inl ⟨rfl,fun n hn=>?_⟩) CW ?_
  ·go_simp
  simp only [Act.put,pA,pB,pC];refine wpY_take hCC (some 38) (i:=7) (v:=.pointer (some ⟨b,off+13+11,none⟩)) rfl rfl (by kernel_rfl) (by kernel_rfl) (by kernel_rfl) (fun _ _ _ h=>h) (Or.inl ⟨rfl,fun n hn=>?_⟩) CW ?_
  ·go_simp
  simp only [Act.put,pA,pB,pC];refine wpY_take hCC (some 39) (i:=8) (v:=.slice c2 (colsP ts k1).length cc2) rfl rfl (by kernel_rfl) (by kernel_rfl) (by kernel_rfl) (fun _ _ _ h=>h) (Or.inl ⟨rfl,fun n hn=>?_⟩) CW ?_
  ·have hc:=hn.2.2.2.1;go_simp
  simp only [Act.put,pA,pB,pC];refine wpY_step (rs:=[9]) (by kernel_rfl) (by simp) ?_;intro w6 hb6 jj hjj;obtain rfl:jj=9:=by simpa using hjj
  clear hjj;have CW6:=hCC _ _ CW hb6;have D6:=chain hA (chain hd hb6);have con:=colsOfTwo_at B lo (by omega) p q (colsP ts k0) (colsP ts k1) c1 cc1 c2 cc2 w6 (Nat.le_trans hlw D6.size) ((hp.next D6 hBw).up (Nat.le_trans hBw D6.size)) (I1.low D6 hBw) (I2.low D6 hBw) g0 g1;rw [← HE1.out,← HC1.out] at con;unfold plV at con;refine wpOp_step rfl (fun K hK=>?_);go_simp;refine con.mono ?_;rintro e w7 ⟨⟨a7,c7,rfl,J7⟩,hb7⟩;clear con;have CW7:=hCC _ _ CW6 hb7;have D7:=chain D6 hb7;refine hK _ _ ⟨CW7,?_⟩;clear hK K CW6 CW;obtain ⟨cl,hcl⟩:∃ cl,cl=(if er=0 then C else []):=⟨_,rfl⟩
  rw [← hcl] at J7 ⊢;have HCl:Hid (cl=(if er=0 then C else [])):=hcl;clear hcl;refine wpY_take hCC (some 41) (i:=10) (v:=.slice a7 cl.length c7) rfl rfl (by kernel_rfl) (by kernel_rfl) (by kernel_rfl) (fun _ _ _ h=>h) (Or.inl ⟨rfl,fun n hn=>?_⟩) CW7 ?_
  ·go_simp
  simp only [Act.put,pA,pB,pC];refine wpY_take hCC (some 42) (i:=11) (v:=.int .i64 er) rfl rfl (by kernel_rfl) (by kernel_rfl) (by kernel_rfl) (fun _ _ _ h=>h) (Or.inl ⟨rfl,fun n hn=>?_⟩) CW7 ?_
  ·go_simp
  simp only [Act.put,pA,pB,pC];refine wpY_take hCC (some 6) (i:=12) (v:=.slice a7 cl.length c7) rfl rfl (by kernel_rfl) (by kernel_rfl) (by kernel_rfl) (fun _ _ _ h=>h) (Or.inl ⟨rfl,fun n hn=>?_⟩) CW7 ?_
  ·go_simp
  simp only [Act.put,pA,pB,pC];refine wpY_take hCC (some 7) (i:=13) (v:=.int .i64 er) rfl rfl (by kernel_rfl) (by kernel_rfl) (by kernel_rfl) (fun _ _ _ h=>h) (Or.inl ⟨rfl,fun n hn=>?_⟩) CW7 ?_
  ·go_simp
  simp only [Act.put,pA,pB,pC];refine wpY_done (by kernel_rfl) ?_;intro w8 hb8;have J8:=J7.low hb8 (by have:=CW7.2.2.2.2.1; omega);have D8:=chain D7 hb8;clear CW7 hCC hb8 D7 J7;go_wp2
  exact bodyPost_ret (v:=.tuple #[.slice a7 cl.length c7,.int .i64 er]) (by simp [results,Tryz.results89,go_sem]) rfl ⟨⟨a7,c7,by rw [HCl.out],by rw [← HCl.out]; exact J8⟩,D8⟩
end Go.Proofs.YtohjlfhmnmcndaaGreat
namespace Go.Proofs.YtohjlfhmnmcndaaGreat
open Go.RowKit

theorem lookX_node {ts:List (List Int)} {k n:Int} {x:Ex} {xs:List Ex} {gs:List Ag} {ks:List Pl} {m d:Int} (h:(lookX ts (.mk k n x xs gs ks) m d).1=0):nodeQ k ks.length (m+1) d=0∧(looksX ts ks (m+1) (d+1)).1=0∧nodeE ts k n x xs gs (colsPs ts ks)=0∧(lookX ts (.mk k n x xs gs ks) m d).2=(looksX ts ks (m+1) (d+1)).2:=by
 rw [lookX] at h ⊢;by_cases h1:nodeQ k ks.length (m+1) d=0
 ·rw [if_neg (by simp [h1])] at h ⊢;by_cases h2:(looksX ts ks (m+1) (d+1)).1=0
  ·rw [if_neg (by simp [h2])] at h ⊢;exact ⟨h1,h2,h,rfl⟩
  ·rw [if_pos h2] at h; exact absurd h h2
 ·rw [if_pos h1] at h; exact absurd h h1
theorem nodeQ_zero {k:Int} {n:Nat} {m d:Int} (h:nodeQ k n m d=0):n=kidsQ k∧1≤k∧k≤13∧m≤60∧d≤15:=by
 unfold nodeQ at h;by_cases g1:60<m∨15<d
 ·simp [g1] at h
 by_cases g2:k<1∨13<k
 ·simp [g1,g2] at h
 by_cases g3:n=kidsQ k
 ·exact ⟨g3,by omega⟩
 ·simp [g1,g2,g3] at h
theorem looksX_cons {ts:List (List Int)} {p:Pl} {r:List Pl} {m d:Int} (h:(looksX ts (p :: r) m d).1=0):(lookX ts p m d).1=0∧(looksX ts r (lookX ts p m d).2 d).1=0∧(looksX ts (p :: r) m d).2=(looksX ts r (lookX ts p m d).2 d).2:=by
 rw [looksX] at h ⊢;by_cases h1:(lookX ts p m d).1=0
 ·rw [if_neg (by simp [h1])] at h ⊢;exact ⟨h1,h,rfl⟩
 ·rw [if_pos h1] at h; exact absurd h h1
theorem looksX_all {ts:List (List Int)}:∀ {ks:List Pl} {m d:Int},(looksX ts ks m d).1=0→∀ p ∈ ks,∃ m',(lookX ts p m' d).1=0
 | [],_,_,_,p,hp=>by cases hp
 | q :: r,m,d,h,p,hp=>by
  obtain ⟨h1,h2,_⟩:=looksX_cons h
  rcases List.mem_cons.1 hp with rfl | hp
  ·exact ⟨m,h1⟩
  ·exact looksX_all h2 p hp
theorem lookX_n (ts:List (List Int)):∀ (p:Pl) (m d:Int),(lookX ts p m d).1=0→m<(lookX ts p m d).2∧(lookX ts p m d).2≤60 :=
 Pl.ind fun k n x xs gs ks ih m d h=>by
  obtain ⟨h1,h2,_,e⟩:=lookX_node h
  have hq:=nodeQ_zero h1
  have aux:∀ (l:List Pl),(∀ p ∈ l,∀ (m d:Int),(lookX ts p m d).1=0→m<(lookX ts p m d).2∧(lookX ts p m d).2≤60)→∀ m d,m≤60→(looksX ts l m d).1=0→m≤(looksX ts l m d).2∧(looksX ts l m d).2≤60:=by
   intro l
   induction l with
   | nil=>intro _ m d hm _; rw [looksX]; exact ⟨Int.le_refl _,hm⟩
   | cons p r ihl =>
    intro hl m d hm h;obtain ⟨g1,g2,g3⟩:=looksX_cons h;have a1:=hl p (by simp) m d g1;have a2:=ihl (fun q hq=>hl q (by simp [hq])) _ d a1.2 g2;rw [g3];omega
  have:=aux ks ih (m+1) (d+1) (by omega) h2;rw [e];omega
theorem togsL_le:∀ {l r:List Int},(togsL l r).length≤l.length
 | [],_=>by simp [togsL]
 | a :: l,[]=>by simp [togsL]
 | a :: l,b :: r=>by
  have:=togsL_le (l:=l) (r:=r)
  rw [togsL,List.length_cons,List.length_cons]
  omega
theorem tabs8 {ts:List (List Int)} (h:tabsE ts=0):∀ c ∈ ts,c.length≤8:=by
 have aux:∀ (l:List (List Int)),tabsW l=0→∀ c ∈ l,c.length≤8:=by
  intro l
  induction l with
  | nil=>intro _ c hc; cases hc
  | cons a r ih =>
   intro h c hc;rw [tabsW] at h;by_cases h0:colsW a=0
   ·rw [if_neg (by simp [h0])] at h;rcases List.mem_cons.1 hc with rfl | hc
    ·unfold colsW at h0;by_cases h8:8<c.length
     ·rw [if_pos h8] at h0; cases h0
     ·omega
    ·exact ih h c hc
   ·rw [if_pos h0] at h; exact absurd h h0
 unfold tabsE at h;by_cases h8:8<ts.length
 ·rw [if_pos h8] at h; cases h
 ·rw [if_neg h8] at h; exact aux ts h
theorem pair_len8 {l r:List Int} {x:Ex} {w:Nat} {a b:List Zp} (h:pairE w l r x a b=0):l.length+r.length≤8:=by
 unfold pairE at h;by_cases h0:twoE l r x a b=0
 ·unfold twoE at h0;by_cases h8:8<l.length+r.length
  ·rw [if_pos h8] at h0; cases h0
  ·omega
 ·rw [if_pos h0] at h; exact absurd h h0
theorem node8 {ts:List (List Int)} (hts:∀ c ∈ ts,c.length≤8) {k n:Int} {x:Ex} {xs:List Ex} {gs:List Ag} {cs:List (List Int)} (h:nodeE ts k n x xs gs cs=0) (hc:∀ c ∈ cs,c.length≤8):(nodeC ts k n xs gs cs).length≤8:=by
 match cs,h,hc with
 | [],h,_ =>
  simp only [nodeE] at h;simp only [nodeC];by_cases h0:n<0∨(ts.length:Int)≤n
  ·rw [if_pos h0] at h; cases h
  ·have hn:n.toNat<ts.length:=by omega
   have e:ts.getD n.toNat []=ts[n.toNat]:=by simp [hn]
   rw [e];exact hts _ (List.getElem_mem hn)
 | [c],h,hc =>
  simp only [nodeE] at h;simp only [nodeC,oneC];have h8:=hc c (by simp);by_cases k3:k=3
  ·rw [if_pos k3,typs_len];unfold oneE at h;rw [if_neg (by omega),if_pos k3] at h;exact map_len8 h
  ·rw [if_neg k3];by_cases k12:k=12
   ·rw [if_pos k12,List.length_append,typs_len,List.length_map];unfold oneE at h;rw [if_neg (by omega),if_neg k3,if_pos k12] at h;exact group_len8 h
   ·rw [if_neg k12]; exact h8
 | l :: r :: _,h,hc =>
  simp only [nodeE] at h;simp only [nodeC,twoC];have h8:=hc l (by simp);by_cases k8:k=8∨k=9
  ·rw [if_pos k8];exact Nat.le_trans togsL_le h8
  ·rw [if_neg k8];by_cases k5:k=5∨k=6
   ·rw [if_pos k5]; exact h8
   ·rw [if_neg k5,List.length_append];unfold twoQ at h;rw [if_neg k8] at h;exact pair_len8 h
theorem cols8 {ts:List (List Int)} (hts:tabsE ts=0):∀ (p:Pl) (m d:Int),(lookX ts p m d).1=0→(colsP ts p).length≤8 :=
 Pl.ind fun k n x xs gs ks ih m d h=>by
  obtain ⟨_,h2,h3,_⟩:=lookX_node h
  rw [colsP]
  refine node8 (tabs8 hts) h3 fun c hc=>?_
  rw [colsPs_map] at hc
  obtain ⟨p,hp,rfl⟩:=List.mem_map.1 hc
  obtain ⟨m',hm⟩:=looksX_all h2 p hp
  exact ih p hp m' _ hm
end Go.Proofs.YtohjlfhmnmcndaaGreat
namespace Go.Proofs.YtohjlfhmnmcndaaGreat
open Go.RowKit Go.Lib Go.Shelf

/-- Values, one cell behind the other. -/
def putAll (W:World) (g:Nat):Nat→List Value→World
 | _,[]=>W
 | o,v :: r=>putAll (W.setCell ⟨g,o,none⟩ v) g (o+1) r
theorem putAll_other (g:Nat):∀ (vs:List Value) (W:World) (o b p:Nat),(b≠g∨p<o∨o+vs.length≤p)→(putAll W g o vs).cell? ⟨b,p,none⟩=W.cell? ⟨b,p,none⟩
 | [],_,_,_,_,_=>rfl
 | v :: r,W,o,b,p,h=>by
  rw [putAll,putAll_other g r _ (o+1) b p (by simp at h; omega)]
  refine World.cell?_setCell_other _ _ _ _ (by intro e; injection e with e1 e2; simp at h; omega)
theorem putAll_same (g:Nat):∀ (vs:List Value) (W:World) (o i:Nat) (h:i<vs.length),(∀ k,k<vs.length→∃ u,W.cell? ⟨g,o+k,none⟩=some u)→(putAll W g o vs).cell? ⟨g,o+i,none⟩=some vs[i]
 | v :: r,W,o,0,_,hr=>by
  obtain ⟨u,hu⟩:=hr 0 (by simp)
  rw [putAll,putAll_other g r _ _ _ _ (by omega)]
  exact World.cell?_setCell_same _ _ _ hu
 | v :: r,W,o,i+1,h,hr=>by
  have:=putAll_same g r (W.setCell ⟨g,o,none⟩ v) (o+1) i (by simpa using h) fun k hk=>by
   obtain ⟨u,hu⟩:=hr (k+1) (by simpa using hk)
   refine ⟨u,?_⟩
   rw [World.cell?_setCell_other _ _ _ _ (by intro e; injection e with e1 e2; omega)]
   rw [← hu]
   congr 2
   omega
  rw [putAll]
  rw [show o+(i+1)=o+1+i by omega,this]
  rfl
theorem putAll_fz (g:Nat):∀ (vs:List Value) (W:World) (o b p:Nat),(putAll W g o vs).frozen? ⟨b,p,none⟩=W.frozen? ⟨b,p,none⟩
 | [],_,_,_,_=>rfl
 | v :: r,W,o,b,p=>by rw [putAll,putAll_fz g r,World.frozen?_setCell]
theorem putAll_size (g:Nat):∀ (vs:List Value) (W:World) (o:Nat),(putAll W g o vs).heap.size=W.heap.size
 | [],_,_=>rfl
 | v :: r,W,o=>by rw [putAll,putAll_size g r,World.size_setCell]
theorem putAll_kept {B lo:Nat} {W0:World} (g:Nat) (hB:B≤g) (hg:g<lo):∀ (vs:List Value) (W:World) (o:Nat),Kept B lo W0 W→Kept B lo W0 (putAll W g o vs)
 | [],_,_,h=>h
 | v :: r,_,o,h=>putAll_kept g hB hg r _ _ (h.set g o v hB hg)
theorem putAll_X {t:Nat} {W0:World} (g:Nat) (hg:W0.heap.size≤g) (ht:t≤W0.heap.size):∀ (vs:List Value) (W:World) (o:Nat),BelowX t W0 W→BelowX t W0 (putAll W g o vs)
 | [],_,_,h=>h
 | v :: r,_,o,h=>putAll_X g hg ht r _ _ (h.setNew g o v hg ht)

def nd0L:List Value:=[.int .i64 0,.int .i64 0,.int .i64 0,.int .i64 0,.int .i64 0,.string ⟨#[]⟩,.int .i64 0,.slice none 0 0,.slice none 0 0,.slice none 0 0,.slice none 0 0,.slice none 0 0,.slice none 0 0]
def zeroN (n:Nat):Array Value:=((List.replicate n nd0L).flatten).toArray
theorem zeroN_size (n:Nat):(zeroN n).size=n*13:=by
 unfold zeroN;rw [List.size_toArray,List.length_flatten,List.map_replicate,List.sum_replicate_nat];rfl
theorem make_nodes {n:Nat} (h:n≤2) (w:World):(Instr.makeSlice 71 (.int .i64 n) (.int .i64 n)).run Tryz.prog w = .ok (.slice (some ⟨w.heap.size,0,none⟩) n n) (w.alloc (.cells (zeroN n) 73)):=by
 obtain rfl | rfl | rfl:n=0∨n=1∨n=2:=by omega
 all_goals kernel_rfl
/-- Nodes that are laid, up to j. -/
structure KTo (ts:List (List Int)) (B lo g:Nat) (W:World) (l:List Pl) (j:Nat):Prop where
 lt:g<W.heap.size
 gB:B≤g
 gl:g<lo
 room:∀ o,o<l.length*13→∃ u,W.cell? ⟨g,o,none⟩=some u
 fz:∀ o,W.frozen? ⟨g,o,none⟩=false
 laid:∀ (i:Nat) (h:i<l.length),i<j→∃ q ca cc na nc,Elv W g (i*13) l[i] q∧W.cell? ⟨g,i*13+11,none⟩=some (.slice ca (colsP ts l[i]).length cc)∧W.cell? ⟨g,i*13+12,none⟩=some (.slice na l[i].ks.length nc)∧NdB ts B lo W l[i] q ca na
theorem KTo.new (ts:List (List Int)) {B lo:Nat} (w:World) (l:List Pl) (hB:B≤w.heap.size) (hl:w.heap.size<lo) (T:TypeId):KTo ts B lo w.heap.size (w.alloc (.cells (zeroN l.length) T)) l 0:=by
 have q:=heap_new w (zeroN l.length) T;refine ⟨lt_of_heap q,hB,hl,fun o ho=>?_,fun o=>frozen_of_row _ w.heap.size o _ _ q,fun i _ h=>absurd h (Nat.not_lt_zero _)⟩;have hs:o<(zeroN l.length).size:=by rw [zeroN_size]; exact ho
 exact ⟨(zeroN l.length)[o],cell_of (i:=o) q (by rw [Array.getElem?_eq_getElem hs])⟩
theorem KTo.next {ts:List (List Int)} {B lo g t:Nat} {W w1:World} {l:List Pl} {j:Nat} (h:KTo ts B lo g W l j) (hb:BelowX t W w1) (hB:B≤t) (ht:t<g):KTo ts B lo g w1 l j:=by
 have hn:g≠t:=by omega
 have gl:=h.gl;refine ⟨Nat.lt_of_lt_of_le h.lt hb.size,h.gB,h.gl,fun o ho=>?_,fun o=>(hb.frozen (p:=⟨g,o,none⟩) h.lt hn).trans (h.fz o),fun i hi hj=>?_⟩
 ·obtain ⟨u,hu⟩:=h.room o ho;exact ⟨u,(hb.cell (p:=⟨g,o,none⟩) h.lt hn).trans hu⟩
 ·obtain ⟨q,ca,cc,na,nc,e,e1,e2,e3⟩:=h.laid i hi hj;exact ⟨q,ca,cc,na,nc,e.nextX hb h.lt hn,(hb.cell (p:=⟨g,_,none⟩) h.lt hn).trans e1,(hb.cell (p:=⟨g,_,none⟩) h.lt hn).trans e2,e3.next (Kept.ofX hb hB (by omega))⟩
def ndL (p:Pl) (q:Pw) (ca:Option Addr) (n cc:Nat) (na:Option Addr) (nc:Nat):List Value:=[.int .i64 p.k,.int .i64 p.n,.int .i64 p.x.k,.int .i64 p.x.v.1,.int .i64 p.x.v.2.1,.string p.x.v.2.2,.int .i64 p.x.c,.slice q.xa p.x.ks.length q.xc,.slice q.sa p.xs.length q.sc,.slice q.ga p.gs.length q.gc,.slice q.ka p.ks.length q.kc,.slice ca n cc,.slice na p.ks.length nc]
theorem KTo.store {ts:List (List Int)} {B lo g:Nat} {W:World} {l:List Pl} {j:Nat} (h:KTo ts B lo g W l j) (hj:j<l.length) {q:Pw} {ca:Option Addr} {cc:Nat} {na:Option Addr} {nc:Nat} (hn:NdB ts B lo W l[j] q ca na) :
  KTo ts B lo g (putAll W g (j*13) (ndL l[j] q ca (colsP ts l[j]).length cc na nc)) l (j+1):=by
 have hK:=putAll_kept g h.gB h.gl (ndL l[j] q ca (colsP ts l[j]).length cc na nc) W (j*13) (Kept.refl B lo W);have hr:∀ k,k<(ndL l[j] q ca (colsP ts l[j]).length cc na nc).length→∃ u,W.cell? ⟨g,j*13+k,none⟩=some u:=fun k hk=>h.room _ (by
  have:k<13:=hk;have:(j+1)*13≤l.length*13:=Nat.mul_le_mul_right 13 hj;omega)
 have hs:∀ (i:Nat) (hi:i<13),(putAll W g (j*13) (ndL l[j] q ca (colsP ts l[j]).length cc na nc)).cell? ⟨g,j*13+i,none⟩=some ((ndL l[j] q ca (colsP ts l[j]).length cc na nc)[i]'hi):=fun i hi=>putAll_same g (ndL l[j] q ca (colsP ts l[j]).length cc na nc) W (j*13) i hi hr
 have ho:∀ o,(o<j*13∨j*13+13≤o)→(putAll W g (j*13) (ndL l[j] q ca (colsP ts l[j]).length cc na nc)).cell? ⟨g,o,none⟩=W.cell? ⟨g,o,none⟩:=fun o h=>putAll_other g _ W _ _ _ (.inr h)
 refine ⟨by rw [putAll_size]; exact h.lt,h.gB,h.gl,fun o hl=>?_,fun o=>by rw [putAll_fz]; exact h.fz o,fun i hi hij=>?_⟩
 ·by_cases c:o<j*13∨j*13+13≤o
  ·rw [ho o c]; exact h.room o hl
  ·have:=hs (o - j*13) (by omega);rw [show j*13+(o - j*13)=o by omega] at this;exact ⟨_,this⟩
 ·by_cases e:i=j
  ·subst e;refine ⟨q,ca,cc,na,nc,⟨hs 0 (by decide),hs 1 (by decide),⟨hs 2 (by decide),hs 3 (by decide),hs 4 (by decide),hs 5 (by decide),hs 6 (by decide),hs 7 (by decide)⟩,hs 8 (by decide),hs 9 (by decide),hs 10 (by decide)⟩,hs 11 (by decide),hs 12 (by decide),hn.next hK⟩
  ·obtain ⟨q',ca',cc',na',nc',e0,e1,e2,e3⟩:=h.laid i hi (by omega);have hlt:i*13+13≤j*13:=by
    have:(i+1)*13≤j*13:=Nat.mul_le_mul_right 13 (by omega);omega
   exact ⟨q',ca',cc',na',nc',⟨(ho _ (by omega)).trans e0.c0,(ho _ (by omega)).trans e0.c1,⟨(ho _ (by omega)).trans e0.six.c0,(ho _ (by omega)).trans e0.six.c1,(ho _ (by omega)).trans e0.six.c2,(ho _ (by omega)).trans e0.six.c3,(ho _ (by omega)).trans e0.six.c4,(ho _ (by omega)).trans e0.six.c5⟩,(ho _ (by omega)).trans e0.c8,(ho _ (by omega)).trans e0.c9,(ho _ (by omega)).trans e0.c10⟩,(ho _ (by omega)).trans e1,(ho _ (by omega)).trans e2,e3.next hK⟩
theorem KTo.ns {ts:List (List Int)} {B lo lo' g:Nat} {W:World} {l:List Pl} (h:KTo ts B lo g W l l.length) (hl:lo'≤g):NsT ts B lo' W (some ⟨g,0,none⟩) l:=by
 have gl:=h.gl;have ex:=fun (i:Nat) (hi:i<l.length)=>h.laid i hi hi
 refine .some g 0 l (fun i=>if hi:i<l.length then (ex i hi).choose else ⟨none,0,none,0,none,0,none,0⟩) (fun i=>if hi:i<l.length then (ex i hi).choose_spec.choose else none) (fun i=>if hi:i<l.length then (ex i hi).choose_spec.choose_spec.choose else 0) (fun i=>if hi:i<l.length then (ex i hi).choose_spec.choose_spec.choose_spec.choose else none) (fun i=>if hi:i<l.length then (ex i hi).choose_spec.choose_spec.choose_spec.choose_spec.choose else 0) h.lt hl ?_ ?_ ?_ ?_ ?_ ?_
 all_goals intro i hi
 all_goals simp only [hi,dite_true,Nat.zero_add]
 all_goals have sp:=(ex i hi).choose_spec.choose_spec.choose_spec.choose_spec.choose_spec
 ·exact sp.1
 ·exact sp.2.1
 ·exact sp.2.2.1
 ·exact sp.2.2.2.pl
 ·exact sp.2.2.2.cols.wide (by omega)
 ·exact NsT.wide (by omega) sp.2.2.2.kids

theorem lookP_bad {ts:List (List Int)} {p:Pl} {m d:Int} (h:¬ nodeQ p.k p.ks.length (m+1) d=0):lookX ts p m d=(nodeQ p.k p.ks.length (m+1) d,m+1):=by
 cases p; simp only [Pl.k,Pl.ks] at h ⊢; rw [lookX,if_pos h]
theorem lookP_kid {ts:List (List Int)} {p:Pl} {m d:Int} (h:nodeQ p.k p.ks.length (m+1) d=0) (he:¬ (looksX ts p.ks (m+1) (d+1)).1=0):lookX ts p m d=looksX ts p.ks (m+1) (d+1):=by
 cases p; simp only [Pl.k,Pl.ks] at h he; rw [lookX,if_neg (by simp [h]),if_pos he]; rfl
theorem lookP_own {ts:List (List Int)} {p:Pl} {m d:Int} (h:nodeQ p.k p.ks.length (m+1) d=0) (he:(looksX ts p.ks (m+1) (d+1)).1=0):lookX ts p m d=(nodeE ts p.k p.n p.x p.xs p.gs (p.ks.map (colsP ts)),(looksX ts p.ks (m+1) (d+1)).2):=by
 cases p; simp only [Pl.k,Pl.ks] at h he; rw [lookX,if_neg (by simp [h]),if_neg (by simp [he]),colsPs_map]; rfl
theorem colsP_eq (ts:List (List Int)) (p:Pl):colsP ts p=nodeC ts p.k p.n p.xs p.gs (p.ks.map (colsP ts)):=by
 cases p; rw [colsP,colsPs_map]; rfl
theorem TyC.all {t:Nat} {ta:Option Addr} {n tc:Nat} {m:Int} {W:World} (h:TyC W t ta n tc m) (g:Nat) (hn:g≠t) (vs:List Value) (o:Nat):TyC (putAll W g o vs) t ta n tc m :=
 ⟨by rw [putAll_size]; exact h.lt,(putAll_other g vs W o t 0 (.inl (Ne.symm hn))).trans h.c0,(putAll_other g vs W o t 1 (.inl (Ne.symm hn))).trans h.c1,(putAll_fz g vs W o t 1).trans h.f1⟩
theorem Elv.all {b off:Nat} {p:Pl} {q:Pw} {W:World} (h:Elv W b off p q) (g:Nat) (hn:b≠g) (vs:List Value) (o:Nat):Elv (putAll W g o vs) b off p q :=
 have k:=fun x=>putAll_other g vs W o b x (.inl hn)
 ⟨(k _).trans h.c0,(k _).trans h.c1,⟨(k _).trans h.six.c0,(k _).trans h.six.c1,(k _).trans h.six.c2,(k _).trans h.six.c3,(k _).trans h.six.c4,(k _).trans h.six.c5⟩,(k _).trans h.c8,(k _).trans h.c9,(k _).trans h.c10⟩
theorem putAll_block (g k:Nat) (hn:k≠g):∀ (vs:List Value) (W:World) (o:Nat),k<W.heap.size→(putAll W g o vs).heap[k]? = W.heap[k]?
 | [],_,_,_=>rfl
 | v :: r,W,o,hk=>by
  rw [putAll,putAll_block g k hn r _ _ (by rw [World.size_setCell]; exact hk)]
  exact ((BelowX.refl g W).set o v).2 k hk hn
/-- What look is asked for. -/
def LookAt (ts:List (List Int)) (p:Pl):Prop :=
 ∀ (B t:Nat) (ta:Option Addr) (tc:Nat) (q:Pw) (m d:Int) (w:World),PlB B w p q→TbAt B w ta ts→B≤t→TyC w t ta ts.length tc m→0≤m→m≤60→0≤d→d≤16→PlOk p →
  Calls Tryz.prog 64 #[.pointer (some ⟨t,0,none⟩),plV p q,.int .i64 d] w fun e w'=>(∃ v,e = .returned (.tuple #[v,.int .i64 (lookX ts p m d).1])∧((lookX ts p m d).1=0→∃ ca cc na nc,v=ndV p q ca (colsP ts p).length cc na nc∧NdB ts B w.heap.size w' p q ca na)∧(¬ (lookX ts p m d).1=0→v=nd0))∧BelowX t w w'∧TyC w' t ta ts.length tc (lookX ts p m d).2

set_option maxRecDepth 100000 in
set_option maxHeartbeats 16000000 in
theorem look_at (ts:List (List Int)) (hts:tabsE ts=0) (p:Pl) (ih:∀ r ∈ p.ks,LookAt ts r):LookAt ts p:=by
 intro B t ta tc q m d w hp hT hBt ht hm0 hm hd0 hd hok;have htw:=ht.lt;have HT:Hid (tabsE ts=0):=hts;have HK:Hid (PlOk p):=hok;have IH:Hid (∀ r ∈ p.ks,LookAt ts r):=ih;generalize hr:lookX ts p m d=r;have HR:Hid (lookX ts p m d=r):=hr;clear hr hts hok ih;have zS:(w.setCell ⟨t,1,none⟩ (.int .i64 (m+1))).heap.size=w.heap.size:=World.size_setCell _ _ _;have TS:=ht.count (m+1);have XS:=(BelowX.refl t w).set 1 (.int .i64 (m+1));have E0:=Elv.new (w.setCell ⟨t,1,none⟩ (.int .i64 (m+1))) p q 31;have l0:=lt_of_heap (heap_new (w.setCell ⟨t,1,none⟩ (.int .i64 (m+1))) (pvA p q) 31)
 have z0:((w.setCell ⟨t,1,none⟩ (.int .i64 (m+1))).alloc (.cells (pvA p q) 31)).heap.size=w.heap.size+1:=by simp
 have h0:Below (w.setCell ⟨t,1,none⟩ (.int .i64 (m+1))).heap.size (w.setCell ⟨t,1,none⟩ (.int .i64 (m+1))) ((w.setCell ⟨t,1,none⟩ (.int .i64 (m+1))).alloc (.cells (pvA p q) 31)):=(Below.refl _ _).alloc (Nat.le_refl _) _
 have h1:Below ((w.setCell ⟨t,1,none⟩ (.int .i64 (m+1))).alloc (.cells (pvA p q) 31)).heap.size ((w.setCell ⟨t,1,none⟩ (.int .i64 (m+1))).alloc (.cells (pvA p q) 31)) (((w.setCell ⟨t,1,none⟩ (.int .i64 (m+1))).alloc (.cells (pvA p q) 31)).alloc (.cells #[.int .i64 0,.int .i64 0,.int .i64 0,.int .i64 0,.int .i64 0,.string ⟨#[]⟩,.int .i64 0,.slice none 0 0,.slice none 0 0,.slice none 0 0,.slice none 0 0,.slice none 0 0,.slice none 0 0] 73)):=(Below.refl _ _).alloc (Nat.le_refl _) _
 have QR:=heap_new ((w.setCell ⟨t,1,none⟩ (.int .i64 (m+1))).alloc (.cells (pvA p q) 31)) #[.int .i64 0,.int .i64 0,.int .i64 0,.int .i64 0,.int .i64 0,.string ⟨#[]⟩,.int .i64 0,.slice none 0 0,.slice none 0 0,.slice none 0 0,.slice none 0 0,.slice none 0 0,.slice none 0 0] 73;rw [z0] at QR;rw [zS] at E0 l0;have h01:=chain h0 h1;have T0:=TS.next h01;have X0:=XS.trans (BelowX.of h01 (by rw [zS]; exact Nat.le_of_lt htw));have EA:=E0.next h1 l0;have H2:=ht.c1;have H3:=ht.f1
 have zA:w.heap.size+1<(((w.setCell ⟨t,1,none⟩ (.int .i64 (m+1))).alloc (.cells (pvA p q) 31)).alloc (.cells #[.int .i64 0,.int .i64 0,.int .i64 0,.int .i64 0,.int .i64 0,.string ⟨#[]⟩,.int .i64 0,.slice none 0 0,.slice none 0 0,.slice none 0 0,.slice none 0 0,.slice none 0 0,.slice none 0 0] 73)).heap.size:=lt_of_heap QR;have hWm:IntKind.i64.wrap (m+1)=m+1:=IntWalk.i64_in _ ⟨by omega,by omega⟩;clear XS E0 TS;unfold plV;go_enter Tryz.func64,Tryz.ntmps64;go_wp2_with fail
 clear H2 H3 h0 h1 h01 l0 z0 zS;generalize ((w.setCell ⟨t,1,none⟩ (.int .i64 (m+1))).alloc (.cells (pvA p q) 31)).alloc (.cells #[.int .i64 0,.int .i64 0,.int .i64 0,.int .i64 0,.int .i64 0,.string ⟨#[]⟩,.int .i64 0,.slice none 0 0,.slice none 0 0,.slice none 0 0,.slice none 0 0,.slice none 0 0,.slice none 0 0] 73)=wA at *
 have hCC:∀ W W':World,(Elv W w.heap.size 0 p q∧w.heap.size<W.heap.size∧W.cell? ⟨t,1,none⟩=some (.int .i64 (m+1))∧t<W.heap.size)→Below W.heap.size W W'→(Elv W' w.heap.size 0 p q∧w.heap.size<W'.heap.size∧W'.cell? ⟨t,1,none⟩=some (.int .i64 (m+1))∧t<W'.heap.size):=fun W W' h hb=>⟨h.1.next hb h.2.1,Nat.lt_of_lt_of_le h.2.1 hb.size,(hb.cell (p:=⟨t,1,none⟩) h.2.2.2).trans h.2.2.1,Nat.lt_of_lt_of_le h.2.2.2 hb.size⟩
 have hd:Below wA.heap.size wA wA.drew:=(Below.refl _ _).drew;have CW:=hCC _ _ ⟨EA,by omega,T0.c1,by omega⟩ hd;refine wp_region_cls (fun W=>(Elv W w.heap.size 0 p q∧w.heap.size<W.heap.size∧W.cell? ⟨t,1,none⟩=some (.int .i64 (m+1))∧t<W.heap.size)) (by kernel_rfl) ?_;refine wpY_take hCC (some 23) (i:=0) (v:=.agg (pvA p q)) rfl rfl (by kernel_rfl) (by kernel_rfl) (by kernel_rfl) (fun _ _ _ h=>h) (Or.inl ⟨rfl,fun n hn=>?_⟩) CW ?_
 ·obtain ⟨⟨n0,n1,⟨n2,n3,n4,n5,n6,n7⟩,n8,n9,n10⟩,_⟩:=hn;simp only [Nat.zero_add] at n1 n2 n3 n4 n5 n6 n7 n8 n9 n10;go_simp
 simp only [Act.put,pA,pB,pC];refine wpY_take hCC (some 24) (i:=1) (v:=.pointer (some ⟨t,0,none⟩)) rfl rfl (by kernel_rfl) (by kernel_rfl) (by kernel_rfl) (fun _ _ _ h=>h) (Or.inl ⟨rfl,fun n hn=>?_⟩) CW ?_
 ·go_simp
 simp only [Act.put,pA,pB,pC];refine wpY_take hCC (some 25) (i:=2) (v:=.pointer (some ⟨t,0,none⟩)) rfl rfl (by kernel_rfl) (by kernel_rfl) (by kernel_rfl) (fun _ _ _ h=>h) (Or.inl ⟨rfl,fun n hn=>?_⟩) CW ?_
 ·go_simp
 simp only [Act.put,pA,pB,pC];refine wpY_take hCC (some 26) (i:=3) (v:=.pointer (some ⟨t,1,none⟩)) rfl rfl (by kernel_rfl) (by kernel_rfl) (by kernel_rfl) (fun _ _ _ h=>h) (Or.inl ⟨rfl,fun n hn=>?_⟩) CW ?_
 ·go_simp
 simp only [Act.put,pA,pB,pC];refine wpY_take hCC (some 27) (i:=4) (v:=.int .i64 (m+1)) rfl rfl (by kernel_rfl) (by kernel_rfl) (by kernel_rfl) (fun _ _ _ h=>h) (Or.inl ⟨rfl,fun n hn=>?_⟩) CW ?_
 ·have hc:=hn.2.2.1;go_simp
 simp only [Act.put,pA,pB,pC];refine wpY_take hCC (some 28) (i:=5) (v:=.int .i64 d) rfl rfl (by kernel_rfl) (by kernel_rfl) (by kernel_rfl) (fun _ _ _ h=>h) (Or.inl ⟨rfl,fun n hn=>?_⟩) CW ?_
 ·go_simp
 simp only [Act.put,pA,pB,pC];refine wpY_step (rs:=[6]) (by kernel_rfl) (by simp) ?_;intro w1 hb1 jj hjj;obtain rfl:jj=6:=by simpa using hjj
 clear hjj;have CW1:=hCC _ _ CW hb1;have con:=wrongNodeQ_at p q (m+1) d w1;unfold plV at con;generalize hw0:nodeQ p.k p.ks.length (m+1) d=e0 at *;have HW:Hid (nodeQ p.k p.ks.length (m+1) d=e0):=hw0;clear hw0;refine wpOp_step rfl (fun K hK=>?_);go_simp;refine con.mono ?_;rintro e w2 ⟨rfl,hb2⟩;clear con;have CW2:=hCC _ _ CW1 hb2;refine hK _ _ ⟨CW2,?_⟩;clear hK K CW1 CW;refine wpY_take hCC (some 8) (i:=7) (v:=.int .i64 e0) rfl rfl (by kernel_rfl) (by kernel_rfl) (by kernel_rfl) (fun _ _ _ h=>h) (Or.inl ⟨rfl,fun n hn=>?_⟩) CW2 ?_
 ·go_simp
 simp only [Act.put,pA,pB,pC];refine wpY_done (by kernel_rfl) ?_;intro w3 hb3';have hb3:=chain hd (chain hb1 (chain hb2 hb3'));clear CW2 hCC hb3' hb2 hb1 hd;have T3:=T0.next hb3;have E3:=EA.next hb3 (by omega);have QR:=(hb3.block _ (by omega)).trans QR;have X3:=X0.trans (BelowX.of hb3 (by omega));have z3:=hb3.size;clear T0 EA X0;by_cases hw:e0=0;rotate_left
 ·have er:r=(e0,m+1):=by rw [← HR.out,lookP_bad (by rw [HW.out]; exact hw),HW.out]
  subst er;have HEr:¬ e0=0:=hw;have hwb:(e0 != 0)=true:=by simpa using hw
  clear HR hw;have d0:w3.cell? ⟨w.heap.size+1,0,none⟩=some (.int .i64 0):=cell_of (i:=0) QR rfl;have f0:w3.frozen? ⟨w.heap.size+1,0,none⟩=false:=frozen_of_row w3 (w.heap.size+1) 0 _ _ QR;have d1:w3.cell? ⟨w.heap.size+1,1,none⟩=some (.int .i64 0):=cell_of (i:=1) QR rfl;have f1:w3.frozen? ⟨w.heap.size+1,1,none⟩=false:=frozen_of_row w3 (w.heap.size+1) 1 _ _ QR;have d2:w3.cell? ⟨w.heap.size+1,2,none⟩=some (.int .i64 0):=cell_of (i:=2) QR rfl;have f2:w3.frozen? ⟨w.heap.size+1,2,none⟩=false:=frozen_of_row w3 (w.heap.size+1) 2 _ _ QR
  have d3:w3.cell? ⟨w.heap.size+1,3,none⟩=some (.int .i64 0):=cell_of (i:=3) QR rfl;have f3:w3.frozen? ⟨w.heap.size+1,3,none⟩=false:=frozen_of_row w3 (w.heap.size+1) 3 _ _ QR;have d4:w3.cell? ⟨w.heap.size+1,4,none⟩=some (.int .i64 0):=cell_of (i:=4) QR rfl;have f4:w3.frozen? ⟨w.heap.size+1,4,none⟩=false:=frozen_of_row w3 (w.heap.size+1) 4 _ _ QR;have d5:w3.cell? ⟨w.heap.size+1,5,none⟩=some (.string ⟨#[]⟩):=cell_of (i:=5) QR rfl;have f5:w3.frozen? ⟨w.heap.size+1,5,none⟩=false:=frozen_of_row w3 (w.heap.size+1) 5 _ _ QR
  have d6:w3.cell? ⟨w.heap.size+1,6,none⟩=some (.int .i64 0):=cell_of (i:=6) QR rfl;have f6:w3.frozen? ⟨w.heap.size+1,6,none⟩=false:=frozen_of_row w3 (w.heap.size+1) 6 _ _ QR;have d7:w3.cell? ⟨w.heap.size+1,7,none⟩=some (.slice none 0 0):=cell_of (i:=7) QR rfl;have f7:w3.frozen? ⟨w.heap.size+1,7,none⟩=false:=frozen_of_row w3 (w.heap.size+1) 7 _ _ QR;have d8:w3.cell? ⟨w.heap.size+1,8,none⟩=some (.slice none 0 0):=cell_of (i:=8) QR rfl;have f8:w3.frozen? ⟨w.heap.size+1,8,none⟩=false:=frozen_of_row w3 (w.heap.size+1) 8 _ _ QR
  have d9:w3.cell? ⟨w.heap.size+1,9,none⟩=some (.slice none 0 0):=cell_of (i:=9) QR rfl;have f9:w3.frozen? ⟨w.heap.size+1,9,none⟩=false:=frozen_of_row w3 (w.heap.size+1) 9 _ _ QR;have d10:w3.cell? ⟨w.heap.size+1,10,none⟩=some (.slice none 0 0):=cell_of (i:=10) QR rfl;have f10:w3.frozen? ⟨w.heap.size+1,10,none⟩=false:=frozen_of_row w3 (w.heap.size+1) 10 _ _ QR;have d11:w3.cell? ⟨w.heap.size+1,11,none⟩=some (.slice none 0 0):=cell_of (i:=11) QR rfl;have f11:w3.frozen? ⟨w.heap.size+1,11,none⟩=false:=frozen_of_row w3 (w.heap.size+1) 11 _ _ QR
  have d12:w3.cell? ⟨w.heap.size+1,12,none⟩=some (.slice none 0 0):=cell_of (i:=12) QR rfl;have f12:w3.frozen? ⟨w.heap.size+1,12,none⟩=false:=frozen_of_row w3 (w.heap.size+1) 12 _ _ QR;have XE:=putAll_X (w.heap.size+1) (Nat.le_succ _) (Nat.le_of_lt htw) nd0L w3 0 X3;have TE:TyC (putAll w3 (w.heap.size+1) 0 nd0L) t ta ts.length tc _:=TyC.all T3 (w.heap.size+1) (by omega) nd0L 0;clear QR;go_wp2_with fail
  first
   | exact bodyPost_ret (v:=.tuple #[nd0,.int .i64 e0]) (by simp [results,Tryz.results64,go_sem,nd0,d0,d1,d2,d3,d4,d5,d6,d7,d8,d9,d10,d11,d12]) rfl ⟨rfl,XE,TE⟩
   | exact bodyPost_ret (v:=.tuple #[nd0,.int .i64 e0]) (by simp [results,Tryz.results64,go_sem,nd0,d0,d1,d2,d3,d4,d5,d6,d7,d8,d9,d10,d11,d12]) rfl ⟨⟨_,rfl,rfl⟩,XE,TE⟩
   | exact bodyPost_ret (v:=.tuple #[nd0,.int .i64 e0]) (by simp [results,Tryz.results64,go_sem,nd0,d0,d1,d2,d3,d4,d5,d6,d7,d8,d9,d10,d11,d12]) rfl ⟨⟨_,rfl,fun c=>absurd c HEr,fun _=>rfl⟩,XE,TE⟩
   | trace_state
 subst hw;obtain ⟨hln,hk1,hk13,hm1,hd1⟩:=nodeQ_zero HW.out;have hl2:p.ks.length≤2:=by rw [hln]; exact kidsQ_le _
 have HL:Hid (p.ks.length=kidsQ p.k):=hln;have hmk:=make_nodes hl2;clear hln;have c10:=E3.c10;simp only [Nat.zero_add] at c10;have zl:w.heap.size<w3.heap.size:=by omega
 go_wp2_with fail
 have hal4:Below w3.heap.size w3 (w3.alloc (.cells (zeroN p.ks.length) 73)):=(Below.refl _ _).alloc (Nat.le_refl _) _;have KT:=KTo.new ts (B:=B) (lo:=w3.heap.size+1) w3 p.ks (by omega) (Nat.lt_succ_self _) 73;have T4:=T3.next hal4;have E4:=E3.next hal4 (by omega);have QR4:=(hal4.block _ (lt_of_heap QR)).trans QR;have X4:=X3.trans (BelowX.of hal4 (by omega));have hgw:w.heap.size+1<w3.heap.size:=by omega
 clear T3 E3 QR X3 hmk c10 hal4;generalize w3.alloc (.cells (zeroN p.ks.length) 73)=w4 at *;generalize w3.heap.size=g at *
 go_loopw [41] (fun i wr=>∃ (j:Nat) (mq:Int),j≤p.ks.length∧i = .int .i64 j∧0≤mq∧mq≤60∧Hid (looksX ts p.ks (m+1) (d+1)=looksX ts (p.ks.drop j) mq (d+1))∧BelowX t w wr∧TyC wr t ta ts.length tc mq∧Elv wr w.heap.size 0 p q∧wr.heap[w.heap.size+1]? = some (.cells #[.int .i64 0,.int .i64 0,.int .i64 0,.int .i64 0,.int .i64 0,.string ⟨#[]⟩,.int .i64 0,.slice none 0 0,.slice none 0 0,.slice none 0 0,.slice none 0 0,.slice none 0 0,.slice none 0 0] 73 (0,0))∧KTo ts B (g+1) g wr p.ks j) (fun i _=>p.ks.length - (intOf i).toNat)
 case atStart=>exact ⟨0,m+1,Nat.zero_le _,rfl,by omega,hm1,rfl,X4,T4,E4,QR4,KT⟩
 case round =>
  obtain ⟨j,mq,hj,rfl,hq0,hq,HE,hX,hTy,hE,QR,hKT⟩:=hrel;clear X4 T4 E4 QR4 KT;have hz:=hX.size;have hgl:=hKT.lt;by_cases hlt:j<p.ks.length
  ·obtain ⟨b,off,q1,eka,hbl,EL,PB⟩:=(PlAt.next (hX.below hBt) (Nat.le_refl _) hp.ks).elem hlt;obtain ⟨y0,y1,⟨y2,y3,y4,y5,y6,y7⟩,y8,y9,y10⟩:=EL;have hjz:(j:Int)<(p.ks.length:Int):=by omega
   have hal:Below wr.heap.size wr (wr.alloc (.cells #[.int .i64 p.ks[j].k,.int .i64 p.ks[j].n,.int .i64 p.ks[j].x.k,.int .i64 p.ks[j].x.v.1,.int .i64 p.ks[j].x.v.2.1,.string p.ks[j].x.v.2.2,.int .i64 p.ks[j].x.c,.slice q1.xa p.ks[j].x.ks.length q1.xc,.slice q1.sa p.ks[j].xs.length q1.sc,.slice q1.ga p.ks[j].gs.length q1.gc,.slice q1.ka p.ks[j].ks.length q1.kc] 31)):=(Below.refl _ _).alloc (Nat.le_refl _) _
   have zk:(wr.alloc (.cells #[.int .i64 p.ks[j].k,.int .i64 p.ks[j].n,.int .i64 p.ks[j].x.k,.int .i64 p.ks[j].x.v.1,.int .i64 p.ks[j].x.v.2.1,.string p.ks[j].x.v.2.2,.int .i64 p.ks[j].x.c,.slice q1.xa p.ks[j].x.ks.length q1.xc,.slice q1.sa p.ks[j].xs.length q1.sc,.slice q1.ga p.ks[j].gs.length q1.gc,.slice q1.ka p.ks[j].ks.length q1.kc] 31)).heap.size=wr.heap.size+1:=by simp
   have hBr:B≤wr.heap.size:=by omega
   have con:=IH.out p.ks[j] (List.getElem_mem hlt) B t ta tc q1 mq (d+1) _ (PB.next hal hBr) ((hT.next (hX.below hBt) (Nat.le_refl _)).next hal hBr) hBt (hTy.next hal) hq0 hq (by omega) (by omega) (HK.out.ks _ (List.getElem_mem hlt));unfold plV at con;go_upto_region 9 with fail
   clear y0 y1 y2 y3 y4 y5 y6 y7 y8 y9 y10;have EK:=Elv.new wr p.ks[j] q1 31;generalize wr.alloc (.cells #[.int .i64 p.ks[j].k,.int .i64 p.ks[j].n,.int .i64 p.ks[j].x.k,.int .i64 p.ks[j].x.v.1,.int .i64 p.ks[j].x.v.2.1,.string p.ks[j].x.v.2.2,.int .i64 p.ks[j].x.c,.slice q1.xa p.ks[j].x.ks.length q1.xc,.slice q1.sa p.ks[j].xs.length q1.sc,.slice q1.ga p.ks[j].gs.length q1.gc,.slice q1.ka p.ks[j].ks.length q1.kc] 31)=wk at *;obtain ⟨y0,y1,⟨y2,y3,y4,y5,y6,y7⟩,y8,y9,y10⟩:=EK;simp only [Nat.zero_add] at y1 y2 y3 y4 y5 y6 y7 y8 y9 y10;go_wp2_with fail
   refine con.mono ?_;rintro e w5 ⟨⟨v5,rfl,hok,hbad⟩,hX5,hT5⟩;clear con y0 y1 y2 y3 y4 y5 y6 y7 y8 y9 y10;have XK:=BelowX.of (t:=t) hal (by omega);have X5:=XK.trans hX5;have X5w:=hX.trans X5;have KT5:=hKT.next X5 hBt (by omega);have E5:=hE.nextX X5 (by omega) (by omega);have QR5:=(X5.2 _ (lt_of_heap QR) (by omega)).trans QR;have hz5:=hX5.size;generalize hly:lookX ts p.ks[j] mq (d+1)=ly at *;have HY:Hid (lookX ts p.ks[j] mq (d+1)=ly):=hly;obtain ⟨e1,n1⟩:=ly;clear hly hKT hE QR hTy hX XK hX5;by_cases he:e1=0
   ·subst he;obtain ⟨ca,cc,na,nc,rfl,ND⟩:=hok rfl;have hn1:=lookX_n ts p.ks[j] mq (d+1) (by rw [HY.out]);rw [HY.out] at hn1;have HN:Hid (mq<n1∧n1≤60):=hn1;have HE':Hid (looksX ts p.ks (m+1) (d+1)=looksX ts (p.ks.drop (j+1)) n1 (d+1)):=by
     show _=_;rw [HE.out,looksX_next hlt (by rw [HY.out]),HY.out]
    have hal6:Below w5.heap.size w5 (w5.alloc (.cells #[.int .i64 p.ks[j].k,.int .i64 p.ks[j].n,.int .i64 p.ks[j].x.k,.int .i64 p.ks[j].x.v.1,.int .i64 p.ks[j].x.v.2.1,.string p.ks[j].x.v.2.2,.int .i64 p.ks[j].x.c,.slice q1.xa p.ks[j].x.ks.length q1.xc,.slice q1.sa p.ks[j].xs.length q1.sc,.slice q1.ga p.ks[j].gs.length q1.gc,.slice q1.ka p.ks[j].ks.length q1.kc,.slice ca (colsP ts p.ks[j]).length cc,.slice na p.ks[j].ks.length nc] 73)):=(Below.refl _ _).alloc (Nat.le_refl _) _;have X6:=BelowX.of (t:=t) hal6 (by omega);have KT6:=KT5.next X6 hBt (by omega)
    have ND6:=(ND.wide (lo':=g+1) (by omega)).next (Kept.of hal6 (by omega));have T6:=hT5.next hal6;have E6:=E5.nextX X6 (by omega) (by omega);have QR6:=(X6.2 _ (lt_of_heap QR5) (by omega)).trans QR5;have X6w:=X5w.trans X6;have hz6:=hal6.size
    have Q6:=heap_new w5 #[.int .i64 p.ks[j].k,.int .i64 p.ks[j].n,.int .i64 p.ks[j].x.k,.int .i64 p.ks[j].x.v.1,.int .i64 p.ks[j].x.v.2.1,.string p.ks[j].x.v.2.2,.int .i64 p.ks[j].x.c,.slice q1.xa p.ks[j].x.ks.length q1.xc,.slice q1.sa p.ks[j].xs.length q1.sc,.slice q1.ga p.ks[j].gs.length q1.gc,.slice q1.ka p.ks[j].ks.length q1.kc,.slice ca (colsP ts p.ks[j]).length cc,.slice na p.ks[j].ks.length nc] 73;have hj13:j*13+13≤p.ks.length*13:=by
     have:(j+1)*13≤p.ks.length*13:=Nat.mul_le_mul_right 13 hlt;omega
    unfold ndV;clear hn1 HE HY hok hbad KT5 ND hT5 E5 QR5 X5w X5 X6;go_upto_region 12 with fail
    generalize w5.alloc (.cells #[.int .i64 p.ks[j].k,.int .i64 p.ks[j].n,.int .i64 p.ks[j].x.k,.int .i64 p.ks[j].x.v.1,.int .i64 p.ks[j].x.v.2.1,.string p.ks[j].x.v.2.2,.int .i64 p.ks[j].x.c,.slice q1.xa p.ks[j].x.ks.length q1.xc,.slice q1.sa p.ks[j].xs.length q1.sc,.slice q1.ga p.ks[j].gs.length q1.gc,.slice q1.ka p.ks[j].ks.length q1.kc,.slice ca (colsP ts p.ks[j]).length cc,.slice na p.ks[j].ks.length nc] 73)=w6 at *;obtain ⟨u0',r0⟩:=KT6.room (j*13) (by omega);have g0:=KT6.fz (j*13);obtain ⟨u1',r1⟩:=KT6.room (j*13+1) (by omega);have g1:=KT6.fz (j*13+1)
    obtain ⟨u2',r2⟩:=KT6.room (j*13+2) (by omega);have g2:=KT6.fz (j*13+2);obtain ⟨u3',r3⟩:=KT6.room (j*13+3) (by omega);have g3:=KT6.fz (j*13+3);obtain ⟨u4',r4⟩:=KT6.room (j*13+4) (by omega);have g4:=KT6.fz (j*13+4);obtain ⟨u5',r5⟩:=KT6.room (j*13+5) (by omega);have g5:=KT6.fz (j*13+5);obtain ⟨u6',r6⟩:=KT6.room (j*13+6) (by omega);have g6:=KT6.fz (j*13+6);obtain ⟨u7',r7⟩:=KT6.room (j*13+7) (by omega);have g7:=KT6.fz (j*13+7);obtain ⟨u8',r8⟩:=KT6.room (j*13+8) (by omega);have g8:=KT6.fz (j*13+8);obtain ⟨u9',r9⟩:=KT6.room (j*13+9) (by omega);have g9:=KT6.fz (j*13+9)
    obtain ⟨u10',r10⟩:=KT6.room (j*13+10) (by omega);have g10:=KT6.fz (j*13+10);obtain ⟨u11',r11⟩:=KT6.room (j*13+11) (by omega);have g11:=KT6.fz (j*13+11);obtain ⟨u12',r12⟩:=KT6.room (j*13+12) (by omega);have g12:=KT6.fz (j*13+12);have m0:=cell_of (i:=0) Q6 rfl;have m1:=cell_of (i:=1) Q6 rfl;have m2:=cell_of (i:=2) Q6 rfl;have m3:=cell_of (i:=3) Q6 rfl;have m4:=cell_of (i:=4) Q6 rfl;have m5:=cell_of (i:=5) Q6 rfl;have m6:=cell_of (i:=6) Q6 rfl;have m7:=cell_of (i:=7) Q6 rfl;have m8:=cell_of (i:=8) Q6 rfl;have m9:=cell_of (i:=9) Q6 rfl;have m10:=cell_of (i:=10) Q6 rfl
    have m11:=cell_of (i:=11) Q6 rfl;have m12:=cell_of (i:=12) Q6 rfl;go_wp2_with fail
    have FX:BelowX t w ((((((((((((((w6).setCell ⟨g,j*13,none⟩ (.int .i64 p.ks[j].k)).setCell ⟨g,j*13+1,none⟩ (.int .i64 p.ks[j].n)).setCell ⟨g,j*13+2,none⟩ (.int .i64 p.ks[j].x.k)).setCell ⟨g,j*13+3,none⟩ (.int .i64 p.ks[j].x.v.1)).setCell ⟨g,j*13+4,none⟩ (.int .i64 p.ks[j].x.v.2.1)).setCell ⟨g,j*13+5,none⟩ (.string p.ks[j].x.v.2.2)).setCell ⟨g,j*13+6,none⟩ (.int .i64 p.ks[j].x.c)).setCell ⟨g,j*13+7,none⟩ (.slice q1.xa p.ks[j].x.ks.length q1.xc)).setCell ⟨g,j*13+8,none⟩ (.slice q1.sa p.ks[j].xs.length q1.sc)).setCell ⟨g,j*13+9,none⟩ (.slice q1.ga p.ks[j].gs.length q1.gc)).setCell ⟨g,j*13+10,none⟩ (.slice q1.ka p.ks[j].ks.length q1.kc)).setCell ⟨g,j*13+11,none⟩ (.slice ca (colsP ts p.ks[j]).length cc)).setCell ⟨g,j*13+12,none⟩ (.slice na p.ks[j].ks.length nc)):=putAll_X g (by omega) (by omega) (ndL p.ks[j] q1 ca (colsP ts p.ks[j]).length cc na nc) w6 (j*13) X6w
    have FT:TyC ((((((((((((((w6).setCell ⟨g,j*13,none⟩ (.int .i64 p.ks[j].k)).setCell ⟨g,j*13+1,none⟩ (.int .i64 p.ks[j].n)).setCell ⟨g,j*13+2,none⟩ (.int .i64 p.ks[j].x.k)).setCell ⟨g,j*13+3,none⟩ (.int .i64 p.ks[j].x.v.1)).setCell ⟨g,j*13+4,none⟩ (.int .i64 p.ks[j].x.v.2.1)).setCell ⟨g,j*13+5,none⟩ (.string p.ks[j].x.v.2.2)).setCell ⟨g,j*13+6,none⟩ (.int .i64 p.ks[j].x.c)).setCell ⟨g,j*13+7,none⟩ (.slice q1.xa p.ks[j].x.ks.length q1.xc)).setCell ⟨g,j*13+8,none⟩ (.slice q1.sa p.ks[j].xs.length q1.sc)).setCell ⟨g,j*13+9,none⟩ (.slice q1.ga p.ks[j].gs.length q1.gc)).setCell ⟨g,j*13+10,none⟩ (.slice q1.ka p.ks[j].ks.length q1.kc)).setCell ⟨g,j*13+11,none⟩ (.slice ca (colsP ts p.ks[j]).length cc)).setCell ⟨g,j*13+12,none⟩ (.slice na p.ks[j].ks.length nc)) t ta ts.length tc n1:=TyC.all T6 g (by omega) (ndL p.ks[j] q1 ca (colsP ts p.ks[j]).length cc na nc) (j*13)
    have FE:Elv ((((((((((((((w6).setCell ⟨g,j*13,none⟩ (.int .i64 p.ks[j].k)).setCell ⟨g,j*13+1,none⟩ (.int .i64 p.ks[j].n)).setCell ⟨g,j*13+2,none⟩ (.int .i64 p.ks[j].x.k)).setCell ⟨g,j*13+3,none⟩ (.int .i64 p.ks[j].x.v.1)).setCell ⟨g,j*13+4,none⟩ (.int .i64 p.ks[j].x.v.2.1)).setCell ⟨g,j*13+5,none⟩ (.string p.ks[j].x.v.2.2)).setCell ⟨g,j*13+6,none⟩ (.int .i64 p.ks[j].x.c)).setCell ⟨g,j*13+7,none⟩ (.slice q1.xa p.ks[j].x.ks.length q1.xc)).setCell ⟨g,j*13+8,none⟩ (.slice q1.sa p.ks[j].xs.length q1.sc)).setCell ⟨g,j*13+9,none⟩ (.slice q1.ga p.ks[j].gs.length q1.gc)).setCell ⟨g,j*13+10,none⟩ (.slice q1.ka p.ks[j].ks.length q1.kc)).setCell ⟨g,j*13+11,none⟩ (.slice ca (colsP ts p.ks[j]).length cc)).setCell ⟨g,j*13+12,none⟩ (.slice na p.ks[j].ks.length nc)) w.heap.size 0 p q:=E6.all g (by omega) (ndL p.ks[j] q1 ca (colsP ts p.ks[j]).length cc na nc) (j*13)
    have FQ:((((((((((((((w6).setCell ⟨g,j*13,none⟩ (.int .i64 p.ks[j].k)).setCell ⟨g,j*13+1,none⟩ (.int .i64 p.ks[j].n)).setCell ⟨g,j*13+2,none⟩ (.int .i64 p.ks[j].x.k)).setCell ⟨g,j*13+3,none⟩ (.int .i64 p.ks[j].x.v.1)).setCell ⟨g,j*13+4,none⟩ (.int .i64 p.ks[j].x.v.2.1)).setCell ⟨g,j*13+5,none⟩ (.string p.ks[j].x.v.2.2)).setCell ⟨g,j*13+6,none⟩ (.int .i64 p.ks[j].x.c)).setCell ⟨g,j*13+7,none⟩ (.slice q1.xa p.ks[j].x.ks.length q1.xc)).setCell ⟨g,j*13+8,none⟩ (.slice q1.sa p.ks[j].xs.length q1.sc)).setCell ⟨g,j*13+9,none⟩ (.slice q1.ga p.ks[j].gs.length q1.gc)).setCell ⟨g,j*13+10,none⟩ (.slice q1.ka p.ks[j].ks.length q1.kc)).setCell ⟨g,j*13+11,none⟩ (.slice ca (colsP ts p.ks[j]).length cc)).setCell ⟨g,j*13+12,none⟩ (.slice na p.ks[j].ks.length nc)).heap[w.heap.size+1]? = some (.cells #[.int .i64 0,.int .i64 0,.int .i64 0,.int .i64 0,.int .i64 0,.string ⟨#[]⟩,.int .i64 0,.slice none 0 0,.slice none 0 0,.slice none 0 0,.slice none 0 0,.slice none 0 0,.slice none 0 0] 73 (0,0)):=(putAll_block g (w.heap.size+1) (by omega) (ndL p.ks[j] q1 ca (colsP ts p.ks[j]).length cc na nc) w6 (j*13) (lt_of_heap QR6)).trans QR6
    have FK:KTo ts B (g+1) g ((((((((((((((w6).setCell ⟨g,j*13,none⟩ (.int .i64 p.ks[j].k)).setCell ⟨g,j*13+1,none⟩ (.int .i64 p.ks[j].n)).setCell ⟨g,j*13+2,none⟩ (.int .i64 p.ks[j].x.k)).setCell ⟨g,j*13+3,none⟩ (.int .i64 p.ks[j].x.v.1)).setCell ⟨g,j*13+4,none⟩ (.int .i64 p.ks[j].x.v.2.1)).setCell ⟨g,j*13+5,none⟩ (.string p.ks[j].x.v.2.2)).setCell ⟨g,j*13+6,none⟩ (.int .i64 p.ks[j].x.c)).setCell ⟨g,j*13+7,none⟩ (.slice q1.xa p.ks[j].x.ks.length q1.xc)).setCell ⟨g,j*13+8,none⟩ (.slice q1.sa p.ks[j].xs.length q1.sc)).setCell ⟨g,j*13+9,none⟩ (.slice q1.ga p.ks[j].gs.length q1.gc)).setCell ⟨g,j*13+10,none⟩ (.slice q1.ka p.ks[j].ks.length q1.kc)).setCell ⟨g,j*13+11,none⟩ (.slice ca (colsP ts p.ks[j]).length cc)).setCell ⟨g,j*13+12,none⟩ (.slice na p.ks[j].ks.length nc)) p.ks (j+1):=KT6.store hlt ND6
    generalize (((((((((((((w6).setCell ⟨g,j*13,none⟩ (.int .i64 p.ks[j].k)).setCell ⟨g,j*13+1,none⟩ (.int .i64 p.ks[j].n)).setCell ⟨g,j*13+2,none⟩ (.int .i64 p.ks[j].x.k)).setCell ⟨g,j*13+3,none⟩ (.int .i64 p.ks[j].x.v.1)).setCell ⟨g,j*13+4,none⟩ (.int .i64 p.ks[j].x.v.2.1)).setCell ⟨g,j*13+5,none⟩ (.string p.ks[j].x.v.2.2)).setCell ⟨g,j*13+6,none⟩ (.int .i64 p.ks[j].x.c)).setCell ⟨g,j*13+7,none⟩ (.slice q1.xa p.ks[j].x.ks.length q1.xc)).setCell ⟨g,j*13+8,none⟩ (.slice q1.sa p.ks[j].xs.length q1.sc)).setCell ⟨g,j*13+9,none⟩ (.slice q1.ga p.ks[j].gs.length q1.gc)).setCell ⟨g,j*13+10,none⟩ (.slice q1.ka p.ks[j].ks.length q1.kc)).setCell ⟨g,j*13+11,none⟩ (.slice ca (colsP ts p.ks[j]).length cc)).setCell ⟨g,j*13+12,none⟩ (.slice na p.ks[j].ks.length nc)=w7 at *
    clear KT6 ND6 T6 E6 QR6 X6w Q6;clear r0 g0 m0 r1 g1 m1 r2 g2 m2 r3 g3 m3 r4 g4 m4 r5 g5 m5 r6 g6 m6 r7 g7 m7 r8 g8 m8 r9 g9 m9 r10 g10 m10 r11 g11 m11 r12 g12 m12;rw [← eka];go_roundw
    case rel=>exact ⟨j+1,n1,by omega,by go_num,by have:=HN.out; omega,HN.out.2,HE',FX,FT,FE,FQ,FK⟩
    case measure=>simp [intOf]; omega
   ·have er:r=(e1,n1):=by
     rw [← HR.out,lookP_kid HW.out (by rw [HE.out,looksX_bad hlt (by rw [HY.out]; exact he),HY.out]; exact he),HE.out,looksX_bad hlt (by rw [HY.out]; exact he),HY.out]
    subst er;obtain rfl:=hbad he;have HEr:¬ e1=0:=he;have heb:(e1 != 0)=true:=by simpa using he
    have hal6:Below w5.heap.size w5 (w5.alloc (.cells #[.int .i64 0,.int .i64 0,.int .i64 0,.int .i64 0,.int .i64 0,.string ⟨#[]⟩,.int .i64 0,.slice none 0 0,.slice none 0 0,.slice none 0 0,.slice none 0 0,.slice none 0 0,.slice none 0 0] 73)):=(Below.refl _ _).alloc (Nat.le_refl _) _;have QR:=(hal6.block _ (lt_of_heap QR5)).trans QR5;have T6:=hT5.next hal6;have X6:=X5w.trans (BelowX.of hal6 (by omega));clear HR he hok hbad HE HY KT5 QR5 hT5 X5w X5 E5;unfold nd0;go_upto_region 10 with fail
    generalize w5.alloc (.cells #[.int .i64 0,.int .i64 0,.int .i64 0,.int .i64 0,.int .i64 0,.string ⟨#[]⟩,.int .i64 0,.slice none 0 0,.slice none 0 0,.slice none 0 0,.slice none 0 0,.slice none 0 0,.slice none 0 0] 73)=w6 at *;have d0:w6.cell? ⟨w.heap.size+1,0,none⟩=some (.int .i64 0):=cell_of (i:=0) QR rfl;have f0:w6.frozen? ⟨w.heap.size+1,0,none⟩=false:=frozen_of_row w6 (w.heap.size+1) 0 _ _ QR;have d1:w6.cell? ⟨w.heap.size+1,1,none⟩=some (.int .i64 0):=cell_of (i:=1) QR rfl;have f1:w6.frozen? ⟨w.heap.size+1,1,none⟩=false:=frozen_of_row w6 (w.heap.size+1) 1 _ _ QR
    have d2:w6.cell? ⟨w.heap.size+1,2,none⟩=some (.int .i64 0):=cell_of (i:=2) QR rfl;have f2:w6.frozen? ⟨w.heap.size+1,2,none⟩=false:=frozen_of_row w6 (w.heap.size+1) 2 _ _ QR;have d3:w6.cell? ⟨w.heap.size+1,3,none⟩=some (.int .i64 0):=cell_of (i:=3) QR rfl;have f3:w6.frozen? ⟨w.heap.size+1,3,none⟩=false:=frozen_of_row w6 (w.heap.size+1) 3 _ _ QR;have d4:w6.cell? ⟨w.heap.size+1,4,none⟩=some (.int .i64 0):=cell_of (i:=4) QR rfl;have f4:w6.frozen? ⟨w.heap.size+1,4,none⟩=false:=frozen_of_row w6 (w.heap.size+1) 4 _ _ QR
    have d5:w6.cell? ⟨w.heap.size+1,5,none⟩=some (.string ⟨#[]⟩):=cell_of (i:=5) QR rfl;have f5:w6.frozen? ⟨w.heap.size+1,5,none⟩=false:=frozen_of_row w6 (w.heap.size+1) 5 _ _ QR;have d6:w6.cell? ⟨w.heap.size+1,6,none⟩=some (.int .i64 0):=cell_of (i:=6) QR rfl;have f6:w6.frozen? ⟨w.heap.size+1,6,none⟩=false:=frozen_of_row w6 (w.heap.size+1) 6 _ _ QR;have d7:w6.cell? ⟨w.heap.size+1,7,none⟩=some (.slice none 0 0):=cell_of (i:=7) QR rfl;have f7:w6.frozen? ⟨w.heap.size+1,7,none⟩=false:=frozen_of_row w6 (w.heap.size+1) 7 _ _ QR
    have d8:w6.cell? ⟨w.heap.size+1,8,none⟩=some (.slice none 0 0):=cell_of (i:=8) QR rfl;have f8:w6.frozen? ⟨w.heap.size+1,8,none⟩=false:=frozen_of_row w6 (w.heap.size+1) 8 _ _ QR;have d9:w6.cell? ⟨w.heap.size+1,9,none⟩=some (.slice none 0 0):=cell_of (i:=9) QR rfl;have f9:w6.frozen? ⟨w.heap.size+1,9,none⟩=false:=frozen_of_row w6 (w.heap.size+1) 9 _ _ QR;have d10:w6.cell? ⟨w.heap.size+1,10,none⟩=some (.slice none 0 0):=cell_of (i:=10) QR rfl;have f10:w6.frozen? ⟨w.heap.size+1,10,none⟩=false:=frozen_of_row w6 (w.heap.size+1) 10 _ _ QR
    have d11:w6.cell? ⟨w.heap.size+1,11,none⟩=some (.slice none 0 0):=cell_of (i:=11) QR rfl;have f11:w6.frozen? ⟨w.heap.size+1,11,none⟩=false:=frozen_of_row w6 (w.heap.size+1) 11 _ _ QR;have d12:w6.cell? ⟨w.heap.size+1,12,none⟩=some (.slice none 0 0):=cell_of (i:=12) QR rfl;have f12:w6.frozen? ⟨w.heap.size+1,12,none⟩=false:=frozen_of_row w6 (w.heap.size+1) 12 _ _ QR;have XE:=putAll_X (w.heap.size+1) (Nat.le_succ _) (Nat.le_of_lt htw) nd0L w6 0 X6;have TE:TyC (putAll w6 (w.heap.size+1) 0 nd0L) t ta ts.length tc _:=TyC.all T6 (w.heap.size+1) (by omega) nd0L 0;clear QR;go_wp2_with fail
    first
     | exact bodyPost_ret (v:=.tuple #[nd0,.int .i64 e1]) (by simp [results,Tryz.results64,go_sem,nd0,d0,d1,d2,d3,d4,d5,d6,d7,d8,d9,d10,d11,d12]) rfl ⟨rfl,XE,TE⟩
     | exact bodyPost_ret (v:=.tuple #[nd0,.int .i64 e1]) (by simp [results,Tryz.results64,go_sem,nd0,d0,d1,d2,d3,d4,d5,d6,d7,d8,d9,d10,d11,d12]) rfl ⟨⟨_,rfl,rfl⟩,XE,TE⟩
     | exact bodyPost_ret (v:=.tuple #[nd0,.int .i64 e1]) (by simp [results,Tryz.results64,go_sem,nd0,d0,d1,d2,d3,d4,d5,d6,d7,d8,d9,d10,d11,d12]) rfl ⟨⟨_,rfl,fun c=>absurd c HEr,fun _=>rfl⟩,XE,TE⟩
     | trace_state
  ·have e:j=p.ks.length:=by omega
   have hends:looksX ts p.ks (m+1) (d+1)=(0,mq):=by rw [HE.out,looksX_end (by omega)]
   have er:r=(nodeE ts p.k p.n p.x p.xs p.gs (p.ks.map (colsP ts)),mq):=by rw [← HR.out,lookP_own HW.out (by rw [hends]),hends]
   have K8:Hid (∀ r ∈ p.ks,(colsP ts r).length≤8):=fun r hr=>by
    obtain ⟨m',hm'⟩:=looksX_all (ts:=ts) (ks:=p.ks) (m:=m+1) (d:=d+1) (by rw [hends]) r hr;exact cols8 HT.out r m' _ hm'
   subst e;have hns:=hKT.ns (lo':=w.heap.size+2) (by omega);have con:=colsOf_at ts B (w.heap.size+2) t ta tc p q (some ⟨g,0,none⟩) p.ks.length wr hBt (by omega) (by omega) hTy.c0 (hT.next (hX.below hBt) (Nat.le_refl _)) (hp.next (hX.below hBt) (Nat.le_refl _)) hns HK.out HL.out K8.out;have HC:Hid (colsP ts p=nodeC ts p.k p.n p.xs p.gs (p.ks.map (colsP ts))):=colsP_eq ts p;rw [← HC.out] at con;generalize nodeE ts p.k p.n p.x p.xs p.gs (p.ks.map (colsP ts))=en at *;subst er;unfold plV at con;have hE':=hE;obtain ⟨y0,y1,⟨y2,y3,y4,y5,y6,y7⟩,y8,y9,y10⟩:=hE'
   simp only [Nat.zero_add] at y1 y2 y3 y4 y5 y6 y7 y8 y9 y10;clear HR HE hends K8 hKT;go_wp2_with fail
   refine con.mono ?_;rintro e w7 ⟨⟨ca,cc,rfl,IC⟩,hb7⟩;clear con y0 y1 y2 y3 y4 y5 y6 y7 y8 y9 y10;have X7:=hX.trans (BelowX.of hb7 (by omega));have T7:=hTy.next hb7;have E7:=hE.next hb7 (by omega);have QR:=(hb7.block _ (lt_of_heap QR)).trans QR;have hns7:=NsT.next (Kept.of hb7 (by omega)) hns;have hp7:=(hp.next (hX.below hBt) (Nat.le_refl _)).next hb7 (by omega);have hz7:=hb7.size;clear hns hE hTy hX;dsimp only;by_cases hen:en=0;rotate_left
   ·have HEr:¬ en=0:=hen;have heb:(en != 0)=true:=by simpa using hen
    rw [if_neg hen];clear IC hen;have d0:w7.cell? ⟨w.heap.size+1,0,none⟩=some (.int .i64 0):=cell_of (i:=0) QR rfl;have f0:w7.frozen? ⟨w.heap.size+1,0,none⟩=false:=frozen_of_row w7 (w.heap.size+1) 0 _ _ QR;have d1:w7.cell? ⟨w.heap.size+1,1,none⟩=some (.int .i64 0):=cell_of (i:=1) QR rfl;have f1:w7.frozen? ⟨w.heap.size+1,1,none⟩=false:=frozen_of_row w7 (w.heap.size+1) 1 _ _ QR;have d2:w7.cell? ⟨w.heap.size+1,2,none⟩=some (.int .i64 0):=cell_of (i:=2) QR rfl;have f2:w7.frozen? ⟨w.heap.size+1,2,none⟩=false:=frozen_of_row w7 (w.heap.size+1) 2 _ _ QR
    have d3:w7.cell? ⟨w.heap.size+1,3,none⟩=some (.int .i64 0):=cell_of (i:=3) QR rfl;have f3:w7.frozen? ⟨w.heap.size+1,3,none⟩=false:=frozen_of_row w7 (w.heap.size+1) 3 _ _ QR;have d4:w7.cell? ⟨w.heap.size+1,4,none⟩=some (.int .i64 0):=cell_of (i:=4) QR rfl;have f4:w7.frozen? ⟨w.heap.size+1,4,none⟩=false:=frozen_of_row w7 (w.heap.size+1) 4 _ _ QR;have d5:w7.cell? ⟨w.heap.size+1,5,none⟩=some (.string ⟨#[]⟩):=cell_of (i:=5) QR rfl;have f5:w7.frozen? ⟨w.heap.size+1,5,none⟩=false:=frozen_of_row w7 (w.heap.size+1) 5 _ _ QR
    have d6:w7.cell? ⟨w.heap.size+1,6,none⟩=some (.int .i64 0):=cell_of (i:=6) QR rfl;have f6:w7.frozen? ⟨w.heap.size+1,6,none⟩=false:=frozen_of_row w7 (w.heap.size+1) 6 _ _ QR;have d7:w7.cell? ⟨w.heap.size+1,7,none⟩=some (.slice none 0 0):=cell_of (i:=7) QR rfl;have f7:w7.frozen? ⟨w.heap.size+1,7,none⟩=false:=frozen_of_row w7 (w.heap.size+1) 7 _ _ QR;have d8:w7.cell? ⟨w.heap.size+1,8,none⟩=some (.slice none 0 0):=cell_of (i:=8) QR rfl;have f8:w7.frozen? ⟨w.heap.size+1,8,none⟩=false:=frozen_of_row w7 (w.heap.size+1) 8 _ _ QR
    have d9:w7.cell? ⟨w.heap.size+1,9,none⟩=some (.slice none 0 0):=cell_of (i:=9) QR rfl;have f9:w7.frozen? ⟨w.heap.size+1,9,none⟩=false:=frozen_of_row w7 (w.heap.size+1) 9 _ _ QR;have d10:w7.cell? ⟨w.heap.size+1,10,none⟩=some (.slice none 0 0):=cell_of (i:=10) QR rfl;have f10:w7.frozen? ⟨w.heap.size+1,10,none⟩=false:=frozen_of_row w7 (w.heap.size+1) 10 _ _ QR;have d11:w7.cell? ⟨w.heap.size+1,11,none⟩=some (.slice none 0 0):=cell_of (i:=11) QR rfl;have f11:w7.frozen? ⟨w.heap.size+1,11,none⟩=false:=frozen_of_row w7 (w.heap.size+1) 11 _ _ QR
    have d12:w7.cell? ⟨w.heap.size+1,12,none⟩=some (.slice none 0 0):=cell_of (i:=12) QR rfl;have f12:w7.frozen? ⟨w.heap.size+1,12,none⟩=false:=frozen_of_row w7 (w.heap.size+1) 12 _ _ QR;have XE:=putAll_X (w.heap.size+1) (Nat.le_succ _) (Nat.le_of_lt htw) nd0L w7 0 X7;have TE:TyC (putAll w7 (w.heap.size+1) 0 nd0L) t ta ts.length tc _:=TyC.all T7 (w.heap.size+1) (by omega) nd0L 0;clear QR;go_wp2_with fail
    first
     | exact bodyPost_ret (v:=.tuple #[nd0,.int .i64 en]) (by simp [results,Tryz.results64,go_sem,nd0,d0,d1,d2,d3,d4,d5,d6,d7,d8,d9,d10,d11,d12]) rfl ⟨rfl,XE,TE⟩
     | exact bodyPost_ret (v:=.tuple #[nd0,.int .i64 en]) (by simp [results,Tryz.results64,go_sem,nd0,d0,d1,d2,d3,d4,d5,d6,d7,d8,d9,d10,d11,d12]) rfl ⟨⟨_,rfl,rfl⟩,XE,TE⟩
     | exact bodyPost_ret (v:=.tuple #[nd0,.int .i64 en]) (by simp [results,Tryz.results64,go_sem,nd0,d0,d1,d2,d3,d4,d5,d6,d7,d8,d9,d10,d11,d12]) rfl ⟨⟨_,rfl,fun c=>absurd c HEr,fun _=>rfl⟩,XE,TE⟩
     | trace_state
   subst hen;rw [if_pos rfl] at IC ⊢;obtain ⟨y0,y1,⟨y2,y3,y4,y5,y6,y7⟩,y8,y9,y10⟩:=E7;simp only [Nat.zero_add] at y1 y2 y3 y4 y5 y6 y7 y8 y9 y10;have ND7:NdB ts B (w.heap.size+2) w7 p q ca (some ⟨g,0,none⟩):=⟨hp7,IC,hns7⟩
   have NDE:=(ND7.next (putAll_kept (w.heap.size+1) (by omega) (by omega) (ndL p q ca (colsP ts p).length cc (some ⟨g,0,none⟩) p.ks.length) w7 0 (Kept.refl _ _ _))).wide (lo':=w.heap.size) (by omega);have XE:=putAll_X (w.heap.size+1) (Nat.le_succ _) (Nat.le_of_lt htw) (ndL p q ca (colsP ts p).length cc (some ⟨g,0,none⟩) p.ks.length) w7 0 X7;have TE:TyC (putAll w7 (w.heap.size+1) 0 (ndL p q ca (colsP ts p).length cc (some ⟨g,0,none⟩) p.ks.length)) t ta ts.length tc _:=TyC.all T7 (w.heap.size+1) (by omega) (ndL p q ca (colsP ts p).length cc (some ⟨g,0,none⟩) p.ks.length) 0
   have d0:w7.cell? ⟨w.heap.size+1,0,none⟩=some (.int .i64 0):=cell_of (i:=0) QR rfl;have f0:w7.frozen? ⟨w.heap.size+1,0,none⟩=false:=frozen_of_row w7 (w.heap.size+1) 0 _ _ QR;have d1:w7.cell? ⟨w.heap.size+1,1,none⟩=some (.int .i64 0):=cell_of (i:=1) QR rfl;have f1:w7.frozen? ⟨w.heap.size+1,1,none⟩=false:=frozen_of_row w7 (w.heap.size+1) 1 _ _ QR;have d2:w7.cell? ⟨w.heap.size+1,2,none⟩=some (.int .i64 0):=cell_of (i:=2) QR rfl;have f2:w7.frozen? ⟨w.heap.size+1,2,none⟩=false:=frozen_of_row w7 (w.heap.size+1) 2 _ _ QR
   have d3:w7.cell? ⟨w.heap.size+1,3,none⟩=some (.int .i64 0):=cell_of (i:=3) QR rfl;have f3:w7.frozen? ⟨w.heap.size+1,3,none⟩=false:=frozen_of_row w7 (w.heap.size+1) 3 _ _ QR;have d4:w7.cell? ⟨w.heap.size+1,4,none⟩=some (.int .i64 0):=cell_of (i:=4) QR rfl;have f4:w7.frozen? ⟨w.heap.size+1,4,none⟩=false:=frozen_of_row w7 (w.heap.size+1) 4 _ _ QR;have d5:w7.cell? ⟨w.heap.size+1,5,none⟩=some (.string ⟨#[]⟩):=cell_of (i:=5) QR rfl;have f5:w7.frozen? ⟨w.heap.size+1,5,none⟩=false:=frozen_of_row w7 (w.heap.size+1) 5 _ _ QR
   have d6:w7.cell? ⟨w.heap.size+1,6,none⟩=some (.int .i64 0):=cell_of (i:=6) QR rfl;have f6:w7.frozen? ⟨w.heap.size+1,6,none⟩=false:=frozen_of_row w7 (w.heap.size+1) 6 _ _ QR;have d7:w7.cell? ⟨w.heap.size+1,7,none⟩=some (.slice none 0 0):=cell_of (i:=7) QR rfl;have f7:w7.frozen? ⟨w.heap.size+1,7,none⟩=false:=frozen_of_row w7 (w.heap.size+1) 7 _ _ QR;have d8:w7.cell? ⟨w.heap.size+1,8,none⟩=some (.slice none 0 0):=cell_of (i:=8) QR rfl;have f8:w7.frozen? ⟨w.heap.size+1,8,none⟩=false:=frozen_of_row w7 (w.heap.size+1) 8 _ _ QR
   have d9:w7.cell? ⟨w.heap.size+1,9,none⟩=some (.slice none 0 0):=cell_of (i:=9) QR rfl;have f9:w7.frozen? ⟨w.heap.size+1,9,none⟩=false:=frozen_of_row w7 (w.heap.size+1) 9 _ _ QR;have d10:w7.cell? ⟨w.heap.size+1,10,none⟩=some (.slice none 0 0):=cell_of (i:=10) QR rfl;have f10:w7.frozen? ⟨w.heap.size+1,10,none⟩=false:=frozen_of_row w7 (w.heap.size+1) 10 _ _ QR;have d11:w7.cell? ⟨w.heap.size+1,11,none⟩=some (.slice none 0 0):=cell_of (i:=11) QR rfl;have f11:w7.frozen? ⟨w.heap.size+1,11,none⟩=false:=frozen_of_row w7 (w.heap.size+1) 11 _ _ QR
   have d12:w7.cell? ⟨w.heap.size+1,12,none⟩=some (.slice none 0 0):=cell_of (i:=12) QR rfl;have f12:w7.frozen? ⟨w.heap.size+1,12,none⟩=false:=frozen_of_row w7 (w.heap.size+1) 12 _ _ QR;clear QR IC hns7 hp7 ND7 T7 X7;go_wp2_with fail
   first
    | exact bodyPost_ret (v:=.tuple #[ndV p q ca (colsP ts p).length cc (some ⟨g,0,none⟩) p.ks.length,.int .i64 0]) (by simp [results,Tryz.results64,go_sem,ndV,d0,d1,d2,d3,d4,d5,d6,d7,d8,d9,d10,d11,d12]) rfl ⟨⟨_,rfl,ca,cc,some ⟨g,0,none⟩,⟨p.ks.length,rfl⟩,NDE⟩,XE,TE⟩
    | exact bodyPost_ret (v:=.tuple #[ndV p q ca (colsP ts p).length cc (some ⟨g,0,none⟩) p.ks.length,.int .i64 0]) (by simp [results,Tryz.results64,go_sem,ndV,d0,d1,d2,d3,d4,d5,d6,d7,d8,d9,d10,d11,d12]) rfl ⟨⟨ca,cc,some ⟨g,0,none⟩,p.ks.length,rfl,NDE⟩,XE,TE⟩
    | exact bodyPost_ret (v:=.tuple #[ndV p q ca (colsP ts p).length cc (some ⟨g,0,none⟩) p.ks.length,.int .i64 0]) (by simp [results,Tryz.results64,go_sem,ndV,d0,d1,d2,d3,d4,d5,d6,d7,d8,d9,d10,d11,d12]) rfl ⟨⟨_,rfl,⟨ca,cc,some ⟨g,0,none⟩,p.ks.length,rfl,NDE⟩⟩,XE,TE⟩
    | exact bodyPost_ret (v:=.tuple #[ndV p q ca (colsP ts p).length cc (some ⟨g,0,none⟩) p.ks.length,.int .i64 0]) (by simp [results,Tryz.results64,go_sem,ndV,d0,d1,d2,d3,d4,d5,d6,d7,d8,d9,d10,d11,d12]) rfl ⟨⟨_,rfl,fun _=>⟨ca,cc,some ⟨g,0,none⟩,p.ks.length,rfl,NDE⟩,fun c=>absurd rfl c⟩,XE,TE⟩
    | trace_state
theorem look_all (ts:List (List Int)) (hts:tabsE ts=0):∀ p,LookAt ts p:=Pl.ind fun k n x xs gs ks ih=>look_at ts hts (.mk k n x xs gs ks) ih

theorem putAll_low {B:Nat} {W0:World} (g:Nat) (hg:B≤g):∀ (vs:List Value) (W:World) (o:Nat),Below B W0 W→Below B W0 (putAll W g o vs)
 | [],_,_,h=>h
 | v :: r,_,o,h=>putAll_low g hg r _ _ (h.setCell (p:=⟨g,o,none⟩) hg v)
/-- What is wrong with tables, or a plan over them. -/
def lookE (ts:List (List Int)) (p:Pl):Int:=if tabsE ts≠0 then tabsE ts else (lookX ts p 0 1).1

set_option maxRecDepth 100000 in
set_option maxHeartbeats 16000000 in
theorem looked_at (ts:List (List Int)) (p:Pl) (q:Pw) (ta:Option Addr) (tc:Nat) (w:World) (hT:TbAt w.heap.size w ta ts) (hp:PlB w.heap.size w p q) (hk:PlOk p) :
  Calls Tryz.prog 38 #[.slice ta ts.length tc,plV p q] w fun e w'=>(∃ v,e = .returned (.tuple #[v,.int .i64 (lookE ts p)])∧(lookE ts p=0→∃ ca cc na nc,v=ndV p q ca (colsP ts p).length cc na nc∧NdB ts w.heap.size w.heap.size w' p q ca na)∧(¬ lookE ts p=0→v=nd0))∧Below w.heap.size w w':=by
 have E0:=Elv.new w p q 31;have l0:=lt_of_heap (heap_new w (pvA p q) 31);have z0:(w.alloc (.cells (pvA p q) 31)).heap.size=w.heap.size+1:=by simp
 have h0:Below w.heap.size w (w.alloc (.cells (pvA p q) 31)):=(Below.refl _ _).alloc (Nat.le_refl _) _;have h1:Below (w.alloc (.cells (pvA p q) 31)).heap.size (w.alloc (.cells (pvA p q) 31)) ((w.alloc (.cells (pvA p q) 31)).alloc (.cells #[.int .i64 0,.int .i64 0,.int .i64 0,.int .i64 0,.int .i64 0,.string ⟨#[]⟩,.int .i64 0,.slice none 0 0,.slice none 0 0,.slice none 0 0,.slice none 0 0,.slice none 0 0,.slice none 0 0] 73)):=(Below.refl _ _).alloc (Nat.le_refl _) _
 have QR:=heap_new (w.alloc (.cells (pvA p q) 31)) #[.int .i64 0,.int .i64 0,.int .i64 0,.int .i64 0,.int .i64 0,.string ⟨#[]⟩,.int .i64 0,.slice none 0 0,.slice none 0 0,.slice none 0 0,.slice none 0 0,.slice none 0 0,.slice none 0 0] 73;rw [z0] at QR;have h01:=chain h0 h1;have EA:=E0.next h1 l0;have zA:w.heap.size+1<((w.alloc (.cells (pvA p q) 31)).alloc (.cells #[.int .i64 0,.int .i64 0,.int .i64 0,.int .i64 0,.int .i64 0,.string ⟨#[]⟩,.int .i64 0,.slice none 0 0,.slice none 0 0,.slice none 0 0,.slice none 0 0,.slice none 0 0,.slice none 0 0] 73)).heap.size:=lt_of_heap QR
 have con:=wrongTables_at ts ta tc ((w.alloc (.cells (pvA p q) 31)).alloc (.cells #[.int .i64 0,.int .i64 0,.int .i64 0,.int .i64 0,.int .i64 0,.string ⟨#[]⟩,.int .i64 0,.slice none 0 0,.slice none 0 0,.slice none 0 0,.slice none 0 0,.slice none 0 0,.slice none 0 0] 73)) ((hT.next h01 (Nat.le_refl _)).up h01.size);have HK:Hid (PlOk p):=hk;generalize hle:lookE ts p=le;have HLe:Hid (lookE ts p=le):=hle;generalize hte:tabsE ts=te at con;have HTe:Hid (tabsE ts=te):=hte;clear hle hte hk E0;unfold plV;go_enter Tryz.func38,Tryz.ntmps38;go_wp2_with fail
 clear h0 h1 l0 z0;generalize (w.alloc (.cells (pvA p q) 31)).alloc (.cells #[.int .i64 0,.int .i64 0,.int .i64 0,.int .i64 0,.int .i64 0,.string ⟨#[]⟩,.int .i64 0,.slice none 0 0,.slice none 0 0,.slice none 0 0,.slice none 0 0,.slice none 0 0,.slice none 0 0] 73)=wA at *;refine con.mono ?_;rintro e w3 ⟨rfl,hb3⟩;clear con;have hA3:=chain h01 hb3;have E3:=EA.next hb3 (by omega);have QR:=(hb3.block _ (by omega)).trans QR;have z3:=hb3.size;clear EA;dsimp only;by_cases ht:te=0;rotate_left
 ·have el:le=te:=by rw [← HLe.out]; unfold lookE; rw [HTe.out,if_pos ht]
  subst el;have HEr:¬ le=0:=ht;have htb:(le != 0)=true:=by simpa using ht
  clear ht HLe HTe;have d0:w3.cell? ⟨w.heap.size+1,0,none⟩=some (.int .i64 0):=cell_of (i:=0) QR rfl;have f0:w3.frozen? ⟨w.heap.size+1,0,none⟩=false:=frozen_of_row w3 (w.heap.size+1) 0 _ _ QR;have d1:w3.cell? ⟨w.heap.size+1,1,none⟩=some (.int .i64 0):=cell_of (i:=1) QR rfl;have f1:w3.frozen? ⟨w.heap.size+1,1,none⟩=false:=frozen_of_row w3 (w.heap.size+1) 1 _ _ QR;have d2:w3.cell? ⟨w.heap.size+1,2,none⟩=some (.int .i64 0):=cell_of (i:=2) QR rfl;have f2:w3.frozen? ⟨w.heap.size+1,2,none⟩=false:=frozen_of_row w3 (w.heap.size+1) 2 _ _ QR
  have d3:w3.cell? ⟨w.heap.size+1,3,none⟩=some (.int .i64 0):=cell_of (i:=3) QR rfl;have f3:w3.frozen? ⟨w.heap.size+1,3,none⟩=false:=frozen_of_row w3 (w.heap.size+1) 3 _ _ QR;have d4:w3.cell? ⟨w.heap.size+1,4,none⟩=some (.int .i64 0):=cell_of (i:=4) QR rfl;have f4:w3.frozen? ⟨w.heap.size+1,4,none⟩=false:=frozen_of_row w3 (w.heap.size+1) 4 _ _ QR;have d5:w3.cell? ⟨w.heap.size+1,5,none⟩=some (.string ⟨#[]⟩):=cell_of (i:=5) QR rfl;have f5:w3.frozen? ⟨w.heap.size+1,5,none⟩=false:=frozen_of_row w3 (w.heap.size+1) 5 _ _ QR
  have d6:w3.cell? ⟨w.heap.size+1,6,none⟩=some (.int .i64 0):=cell_of (i:=6) QR rfl;have f6:w3.frozen? ⟨w.heap.size+1,6,none⟩=false:=frozen_of_row w3 (w.heap.size+1) 6 _ _ QR;have d7:w3.cell? ⟨w.heap.size+1,7,none⟩=some (.slice none 0 0):=cell_of (i:=7) QR rfl;have f7:w3.frozen? ⟨w.heap.size+1,7,none⟩=false:=frozen_of_row w3 (w.heap.size+1) 7 _ _ QR;have d8:w3.cell? ⟨w.heap.size+1,8,none⟩=some (.slice none 0 0):=cell_of (i:=8) QR rfl;have f8:w3.frozen? ⟨w.heap.size+1,8,none⟩=false:=frozen_of_row w3 (w.heap.size+1) 8 _ _ QR
  have d9:w3.cell? ⟨w.heap.size+1,9,none⟩=some (.slice none 0 0):=cell_of (i:=9) QR rfl;have f9:w3.frozen? ⟨w.heap.size+1,9,none⟩=false:=frozen_of_row w3 (w.heap.size+1) 9 _ _ QR;have d10:w3.cell? ⟨w.heap.size+1,10,none⟩=some (.slice none 0 0):=cell_of (i:=10) QR rfl;have f10:w3.frozen? ⟨w.heap.size+1,10,none⟩=false:=frozen_of_row w3 (w.heap.size+1) 10 _ _ QR;have d11:w3.cell? ⟨w.heap.size+1,11,none⟩=some (.slice none 0 0):=cell_of (i:=11) QR rfl;have f11:w3.frozen? ⟨w.heap.size+1,11,none⟩=false:=frozen_of_row w3 (w.heap.size+1) 11 _ _ QR
  have d12:w3.cell? ⟨w.heap.size+1,12,none⟩=some (.slice none 0 0):=cell_of (i:=12) QR rfl;have f12:w3.frozen? ⟨w.heap.size+1,12,none⟩=false:=frozen_of_row w3 (w.heap.size+1) 12 _ _ QR;have XE:=putAll_low (w.heap.size+1) (Nat.le_succ _) nd0L w3 0 hA3;clear QR;go_wp2_with fail
  first
   | exact bodyPost_ret (v:=.tuple #[nd0,.int .i64 le]) (by simp [results,Tryz.results38,go_sem,nd0,d0,d1,d2,d3,d4,d5,d6,d7,d8,d9,d10,d11,d12]) rfl ⟨rfl,XE⟩
   | exact bodyPost_ret (v:=.tuple #[nd0,.int .i64 le]) (by simp [results,Tryz.results38,go_sem,nd0,d0,d1,d2,d3,d4,d5,d6,d7,d8,d9,d10,d11,d12]) rfl ⟨⟨_,rfl,rfl⟩,XE⟩
   | exact bodyPost_ret (v:=.tuple #[nd0,.int .i64 le]) (by simp [results,Tryz.results38,go_sem,nd0,d0,d1,d2,d3,d4,d5,d6,d7,d8,d9,d10,d11,d12]) rfl ⟨⟨_,rfl,fun c=>absurd c HEr,fun _=>rfl⟩,XE⟩
   | trace_state
 subst ht;have HL2:Hid (le=(lookX ts p 0 1).1):=by show _=_; rw [← HLe.out]; unfold lookE; rw [HTe.out,if_neg (by simp)]
 have hal4:Below w3.heap.size w3 (w3.alloc (.cells #[.slice ta ts.length tc,.int .i64 0] 97)):=(Below.refl _ _).alloc (Nat.le_refl _) _;have Q4:=heap_new w3 #[.slice ta ts.length tc,.int .i64 0] 97;have TY:TyC (w3.alloc (.cells #[.slice ta ts.length tc,.int .i64 0] 97)) w3.heap.size ta ts.length tc 0:=⟨lt_of_heap Q4,cell_of (i:=0) Q4 rfl,cell_of (i:=1) Q4 rfl,frozen_of_row _ w3.heap.size 1 _ _ Q4⟩
 have hA4:=chain hA3 hal4;have con:=look_all ts HTe.out p w.heap.size w3.heap.size ta tc q 0 1 _ (hp.next hA4 (Nat.le_refl _)) (hT.next hA4 (Nat.le_refl _)) (by omega) TY (by omega) (by omega) (by omega) (by omega) HK.out;rw [← HL2.out] at con;have E4:=E3.next hal4 (by omega);have QR:=(hal4.block _ (by omega)).trans QR;have z4:(w3.alloc (.cells #[.slice ta ts.length tc,.int .i64 0] 97)).heap.size=w3.heap.size+1:=by simp
 obtain ⟨y0,y1,⟨y2,y3,y4,y5,y6,y7⟩,y8,y9,y10⟩:=E4;simp only [Nat.zero_add] at y1 y2 y3 y4 y5 y6 y7 y8 y9 y10;unfold plV at con;clear HL2 HLe HTe E3;go_upto_region 5 with fail
 generalize w3.alloc (.cells #[.slice ta ts.length tc,.int .i64 0] 97)=w4 at *;go_wp2_with fail
 refine con.mono ?_;rintro e w5 ⟨⟨v5,rfl,hok,hbad⟩,hX5,_⟩;clear con y0 y1 y2 y3 y4 y5 y6 y7 y8 y9 y10;have QR:=(hX5.2 _ (by omega) (by omega)).trans QR;have hA5:Below w.heap.size w w5:=hA4.trans (hX5.below (by omega));dsimp only;by_cases he:le=0;rotate_left
 ·obtain rfl:=hbad he;have HEr:¬ le=0:=he;clear hok hbad he;unfold nd0;have d0:w5.cell? ⟨w.heap.size+1,0,none⟩=some (.int .i64 0):=cell_of (i:=0) QR rfl;have f0:w5.frozen? ⟨w.heap.size+1,0,none⟩=false:=frozen_of_row w5 (w.heap.size+1) 0 _ _ QR;have d1:w5.cell? ⟨w.heap.size+1,1,none⟩=some (.int .i64 0):=cell_of (i:=1) QR rfl;have f1:w5.frozen? ⟨w.heap.size+1,1,none⟩=false:=frozen_of_row w5 (w.heap.size+1) 1 _ _ QR;have d2:w5.cell? ⟨w.heap.size+1,2,none⟩=some (.int .i64 0):=cell_of (i:=2) QR rfl;have f2:w5.frozen? ⟨w.heap.size+1,2,none⟩=false:=frozen_of_row w5 (w.heap.size+1) 2 _ _ QR
  have d3:w5.cell? ⟨w.heap.size+1,3,none⟩=some (.int .i64 0):=cell_of (i:=3) QR rfl;have f3:w5.frozen? ⟨w.heap.size+1,3,none⟩=false:=frozen_of_row w5 (w.heap.size+1) 3 _ _ QR;have d4:w5.cell? ⟨w.heap.size+1,4,none⟩=some (.int .i64 0):=cell_of (i:=4) QR rfl;have f4:w5.frozen? ⟨w.heap.size+1,4,none⟩=false:=frozen_of_row w5 (w.heap.size+1) 4 _ _ QR;have d5:w5.cell? ⟨w.heap.size+1,5,none⟩=some (.string ⟨#[]⟩):=cell_of (i:=5) QR rfl;have f5:w5.frozen? ⟨w.heap.size+1,5,none⟩=false:=frozen_of_row w5 (w.heap.size+1) 5 _ _ QR
  have d6:w5.cell? ⟨w.heap.size+1,6,none⟩=some (.int .i64 0):=cell_of (i:=6) QR rfl;have f6:w5.frozen? ⟨w.heap.size+1,6,none⟩=false:=frozen_of_row w5 (w.heap.size+1) 6 _ _ QR;have d7:w5.cell? ⟨w.heap.size+1,7,none⟩=some (.slice none 0 0):=cell_of (i:=7) QR rfl;have f7:w5.frozen? ⟨w.heap.size+1,7,none⟩=false:=frozen_of_row w5 (w.heap.size+1) 7 _ _ QR;have d8:w5.cell? ⟨w.heap.size+1,8,none⟩=some (.slice none 0 0):=cell_of (i:=8) QR rfl;have f8:w5.frozen? ⟨w.heap.size+1,8,none⟩=false:=frozen_of_row w5 (w.heap.size+1) 8 _ _ QR
  have d9:w5.cell? ⟨w.heap.size+1,9,none⟩=some (.slice none 0 0):=cell_of (i:=9) QR rfl;have f9:w5.frozen? ⟨w.heap.size+1,9,none⟩=false:=frozen_of_row w5 (w.heap.size+1) 9 _ _ QR;have d10:w5.cell? ⟨w.heap.size+1,10,none⟩=some (.slice none 0 0):=cell_of (i:=10) QR rfl;have f10:w5.frozen? ⟨w.heap.size+1,10,none⟩=false:=frozen_of_row w5 (w.heap.size+1) 10 _ _ QR;have d11:w5.cell? ⟨w.heap.size+1,11,none⟩=some (.slice none 0 0):=cell_of (i:=11) QR rfl;have f11:w5.frozen? ⟨w.heap.size+1,11,none⟩=false:=frozen_of_row w5 (w.heap.size+1) 11 _ _ QR
  have d12:w5.cell? ⟨w.heap.size+1,12,none⟩=some (.slice none 0 0):=cell_of (i:=12) QR rfl;have f12:w5.frozen? ⟨w.heap.size+1,12,none⟩=false:=frozen_of_row w5 (w.heap.size+1) 12 _ _ QR;have XE:=putAll_low (w.heap.size+1) (Nat.le_succ _) nd0L w5 0 hA5;clear QR;go_wp2_with fail
  first
   | exact bodyPost_ret (v:=.tuple #[nd0,.int .i64 le]) (by simp [results,Tryz.results38,go_sem,nd0,d0,d1,d2,d3,d4,d5,d6,d7,d8,d9,d10,d11,d12]) rfl ⟨rfl,XE⟩
   | exact bodyPost_ret (v:=.tuple #[nd0,.int .i64 le]) (by simp [results,Tryz.results38,go_sem,nd0,d0,d1,d2,d3,d4,d5,d6,d7,d8,d9,d10,d11,d12]) rfl ⟨⟨_,rfl,rfl⟩,XE⟩
   | exact bodyPost_ret (v:=.tuple #[nd0,.int .i64 le]) (by simp [results,Tryz.results38,go_sem,nd0,d0,d1,d2,d3,d4,d5,d6,d7,d8,d9,d10,d11,d12]) rfl ⟨⟨_,rfl,fun c=>absurd c HEr,fun _=>rfl⟩,XE⟩
   | trace_state
 subst he;obtain ⟨ca,cc,na,nc,rfl,ND⟩:=hok rfl;clear hok hbad;have NDE:=(ND.next (putAll_kept (w.heap.size+1) (by omega) (by omega) (ndL p q ca (colsP ts p).length cc na nc) w5 0 (Kept.refl _ _ _))).wide (lo':=w.heap.size) (by omega);have XE:=putAll_low (w.heap.size+1) (Nat.le_succ _) (ndL p q ca (colsP ts p).length cc na nc) w5 0 hA5;have d0:w5.cell? ⟨w.heap.size+1,0,none⟩=some (.int .i64 0):=cell_of (i:=0) QR rfl;have f0:w5.frozen? ⟨w.heap.size+1,0,none⟩=false:=frozen_of_row w5 (w.heap.size+1) 0 _ _ QR;have d1:w5.cell? ⟨w.heap.size+1,1,none⟩=some (.int .i64 0):=cell_of (i:=1) QR rfl
 have f1:w5.frozen? ⟨w.heap.size+1,1,none⟩=false:=frozen_of_row w5 (w.heap.size+1) 1 _ _ QR;have d2:w5.cell? ⟨w.heap.size+1,2,none⟩=some (.int .i64 0):=cell_of (i:=2) QR rfl;have f2:w5.frozen? ⟨w.heap.size+1,2,none⟩=false:=frozen_of_row w5 (w.heap.size+1) 2 _ _ QR;have d3:w5.cell? ⟨w.heap.size+1,3,none⟩=some (.int .i64 0):=cell_of (i:=3) QR rfl;have f3:w5.frozen? ⟨w.heap.size+1,3,none⟩=false:=frozen_of_row w5 (w.heap.size+1) 3 _ _ QR;have d4:w5.cell? ⟨w.heap.size+1,4,none⟩=some (.int .i64 0):=cell_of (i:=4) QR rfl
 have f4:w5.frozen? ⟨w.heap.size+1,4,none⟩=false:=frozen_of_row w5 (w.heap.size+1) 4 _ _ QR;have d5:w5.cell? ⟨w.heap.size+1,5,none⟩=some (.string ⟨#[]⟩):=cell_of (i:=5) QR rfl;have f5:w5.frozen? ⟨w.heap.size+1,5,none⟩=false:=frozen_of_row w5 (w.heap.size+1) 5 _ _ QR;have d6:w5.cell? ⟨w.heap.size+1,6,none⟩=some (.int .i64 0):=cell_of (i:=6) QR rfl;have f6:w5.frozen? ⟨w.heap.size+1,6,none⟩=false:=frozen_of_row w5 (w.heap.size+1) 6 _ _ QR;have d7:w5.cell? ⟨w.heap.size+1,7,none⟩=some (.slice none 0 0):=cell_of (i:=7) QR rfl
 have f7:w5.frozen? ⟨w.heap.size+1,7,none⟩=false:=frozen_of_row w5 (w.heap.size+1) 7 _ _ QR;have d8:w5.cell? ⟨w.heap.size+1,8,none⟩=some (.slice none 0 0):=cell_of (i:=8) QR rfl;have f8:w5.frozen? ⟨w.heap.size+1,8,none⟩=false:=frozen_of_row w5 (w.heap.size+1) 8 _ _ QR;have d9:w5.cell? ⟨w.heap.size+1,9,none⟩=some (.slice none 0 0):=cell_of (i:=9) QR rfl;have f9:w5.frozen? ⟨w.heap.size+1,9,none⟩=false:=frozen_of_row w5 (w.heap.size+1) 9 _ _ QR;have d10:w5.cell? ⟨w.heap.size+1,10,none⟩=some (.slice none 0 0):=cell_of (i:=10) QR rfl
 have f10:w5.frozen? ⟨w.heap.size+1,10,none⟩=false:=frozen_of_row w5 (w.heap.size+1) 10 _ _ QR;have d11:w5.cell? ⟨w.heap.size+1,11,none⟩=some (.slice none 0 0):=cell_of (i:=11) QR rfl;have f11:w5.frozen? ⟨w.heap.size+1,11,none⟩=false:=frozen_of_row w5 (w.heap.size+1) 11 _ _ QR;have d12:w5.cell? ⟨w.heap.size+1,12,none⟩=some (.slice none 0 0):=cell_of (i:=12) QR rfl;have f12:w5.frozen? ⟨w.heap.size+1,12,none⟩=false:=frozen_of_row w5 (w.heap.size+1) 12 _ _ QR;clear QR ND;unfold ndV;go_wp2_with fail
 first
  | exact bodyPost_ret (v:=.tuple #[ndV p q ca (colsP ts p).length cc na nc,.int .i64 0]) (by simp [results,Tryz.results38,go_sem,ndV,d0,d1,d2,d3,d4,d5,d6,d7,d8,d9,d10,d11,d12]) rfl ⟨⟨_,rfl,ca,cc,na,⟨nc,rfl⟩,NDE⟩,XE⟩
  | exact bodyPost_ret (v:=.tuple #[ndV p q ca (colsP ts p).length cc na nc,.int .i64 0]) (by simp [results,Tryz.results38,go_sem,ndV,d0,d1,d2,d3,d4,d5,d6,d7,d8,d9,d10,d11,d12]) rfl ⟨⟨_,rfl,fun _=>⟨ca,cc,na,nc,rfl,NDE⟩,fun c=>absurd rfl c⟩,XE⟩
  | trace_state

/-- What is wrong with the rows of tables. -/
def datasE:List (List Int)→List (List Zp)→Int
 | c :: l,z :: r=>if inpE c z≠0 then inpE c z else datasE l r
 | _,_=>0
def dataE (ts:List (List Int)) (data:List (List Zp)):Int:=if data.length≠ts.length then 8 else datasE ts data
theorem datasE_bad {l:List (List Int)} {r:List (List Zp)} {j:Nat} (h:j<l.length) (h':j<r.length) (he:¬ inpE l[j] r[j]=0):datasE (l.drop j) (r.drop j)=inpE l[j] r[j]:=by
 rw [List.drop_eq_getElem_cons h,List.drop_eq_getElem_cons h',datasE,if_pos he]
theorem datasE_next {l:List (List Int)} {r:List (List Zp)} {j:Nat} (h:j<l.length) (h':j<r.length) (he:inpE l[j] r[j]=0):datasE (l.drop j) (r.drop j)=datasE (l.drop (j+1)) (r.drop (j+1)):=by
 rw [List.drop_eq_getElem_cons h,List.drop_eq_getElem_cons h',datasE,if_neg (by simp [he])]
theorem datasE_end {l:List (List Int)} {r:List (List Zp)} {j:Nat} (h:l.length≤j):datasE (l.drop j) (r.drop j)=0:=by
 rw [List.drop_eq_nil_of_le h,datasE];intro a l b r h; cases h
set_option maxRecDepth 100000 in
set_option maxHeartbeats 2000000 in
theorem wrongQ_at (ts:List (List Int)) (data:List (List Zp)) (ta:Option Addr) (tc:Nat) (a:Option Addr) (cap:Nat) (w:World) (hT:TbAt w.heap.size w ta ts) (hD:DtAt w a data) (h8:ts.length≤8) :
  Calls Tryz.prog 40 #[.slice ta ts.length tc,.slice a data.length cap] w fun e w'=>e = .returned (.int .i64 (dataE ts data))∧Below w.heap.size w w':=by
 generalize hr:dataE ts data=r;have HR:Hid (dataE ts data=r):=hr;clear hr;go_enter Tryz.func40,Tryz.ntmps40;by_cases hl:data.length=ts.length;rotate_left
 ·have hne:((data.length:Int) != (ts.length:Int))=true:=by simp; omega
  have e:r=8:=by rw [← HR.out]; unfold dataE; rw [if_pos hl]
  subst e;go_wp2_with fail
  go_ret;exact ⟨rfl,Below.refl _ _⟩
 have hne:((data.length:Int) != (ts.length:Int))=false:=by simp; omega
 have HR':Hid (r=datasE (ts.drop 0) (data.drop 0)):=by show _=_; rw [← HR.out]; unfold dataE; rw [if_neg (by simpa using hl)]; rfl
 have hl1:data.length≤ts.length:=by omega
 have hl2:ts.length≤data.length:=by omega
 clear HR hl;go_wp2_with fail
 clear hne;go_loopw [15] (fun i wr=>∃ j:Nat,j≤data.length∧i = .int .i64 j∧Hid (r=datasE (ts.drop j) (data.drop j))∧Below w.heap.size w wr) (fun i _=>data.length - (intOf i).toNat)
 case atStart=>exact ⟨0,Nat.zero_le _,rfl,HR',Below.refl _ _⟩
 case round =>
  obtain ⟨j,hj,rfl,HT,hb⟩:=hrel;by_cases hlt:j<data.length
  ·have hlt':j<ts.length:=by omega
   obtain ⟨b1,o1,ai,ci,rfl,hb1,c1,hi⟩:=(hT.next hb (Nat.le_refl _)).elem hlt';obtain ⟨b2,o2,zi,zc,rfl,hb2,c2,hz,_⟩:=(hD.next hb).elem hlt;have hjz:(j:Int)<(data.length:Int):=by omega
   have hjt:(j:Int)<(ts.length:Int):=by omega
   have hj0:(0:Int)≤(j:Int):=by omega
   have HBad:Hid (¬ inpE ts[j] data[j]=0→r=inpE ts[j] data[j]):=fun c=>HT.out.trans (datasE_bad hlt' hlt c)
   have HOk:Hid (inpE ts[j] data[j]=0→r=datasE (ts.drop (j+1)) (data.drop (j+1))):=fun c=>HT.out.trans (datasE_next hlt' hlt c)
   have con:=wrongS_at ts[j] ai ci zi zc data[j] wr (hi.up hb.size) hz;clear HT;generalize inpE ts[j] data[j]=er at *;go_wp2_with fail
   refine con.mono ?_;rintro e w5 ⟨rfl,hb5⟩;clear con c1 c2;dsimp only;by_cases h0:er=0
   ·have HT':Hid (r=datasE (ts.drop (j+1)) (data.drop (j+1))):=HOk.out h0;subst h0;clear HBad HOk;go_wp2_with fail
    go_roundw
    case rel=>exact ⟨j+1,by omega,by go_num,HT',chain hb hb5⟩
    case measure=>simp [intOf]; omega
   ·have e:r=er:=HBad.out h0;have h0b:(er != 0)=true:=by simpa using h0
    subst e;clear HBad HOk;go_wp2_with fail
    go_ret;exact ⟨rfl,chain hb hb5⟩
  ·have e:r=0:=by rw [HT.out,datasE_end (by omega)]
   have hjn:¬ (j:Int)<(data.length:Int):=by omega
   subst e;clear HT;go_wp2_with fail
   go_ret;exact ⟨rfl,hb⟩
end Go.Proofs.YtohjlfhmnmcndaaGreat
namespace Go.Proofs.YtohjlfhmnmcndaaGreat
open Go.RowKit

/-- Tables' rows that are right. -/
structure DOk (ts:List (List Int)) (data:List (List Zp)):Prop where
 len:data.length=ts.length
 ok:∀ z ∈ data,wrongZ z=0
theorem row_len {r:List Vl} (h:wrongRowF r=0):r.length≤8:=by
 unfold wrongRowF at h;by_cases h8:8<r.length
 ·rw [if_pos h8] at h; cases h
 ·omega
theorem evalsQ_bad {ts:List (List Int)} {data:List (List Zp)}:∀ {l:List Pl} {j:Nat} (h:j<l.length),(∀ i (hi:i<l.length),i<j→(evalQ ts data l[i]).1=0)→¬ (evalQ ts data l[j]).1=0→(evalsQ ts data l).1=(evalQ ts data l[j]).1
 | p :: r,0,_,_,he=>by
  simp only [List.getElem_cons_zero] at he ⊢
  rw [evalsQ,if_pos he]
 | p :: r,j+1,h,hb,he=>by
  have h0:(evalQ ts data p).1=0:=hb 0 (by simp) (by omega)
  rw [evalsQ,if_neg (by simp [h0])]
  exact evalsQ_bad (l:=r) (by simpa using h) (fun i hi hj=>hb (i+1) (by simpa using hi) (by omega)) he
theorem evalsQ_all {ts:List (List Int)} {data:List (List Zp)}:∀ {l:List Pl},(∀ r ∈ l,(evalQ ts data r).1=0)→evalsQ ts data l=(0,l.map fun r=>(evalQ ts data r).2)
 | [],_=>by rw [evalsQ]; rfl
 | p :: r,h=>by
  rw [evalsQ,if_neg (by simp [h p (by simp)]),evalsQ_all fun q hq=>h q (by simp [hq])]
  rfl
theorem evalQ_bad {ts:List (List Int)} {data:List (List Zp)} {p:Pl} {e:Int} (h:(evalsQ ts data p.ks).1=e) (he:¬ e=0):evalQ ts data p=(e,[]):=by
 cases p; simp only [Pl.ks] at h; rw [evalQ,h,if_pos he]
theorem evalQ_own {ts:List (List Int)} {data:List (List Zp)} {p:Pl} (h:∀ r ∈ p.ks,(evalQ ts data r).1=0):evalQ ts data p=nodeZ data p.k p.n p.x p.xs p.gs (p.ks.map (colsP ts)) (p.ks.map fun r=>(evalQ ts data r).2):=by
 cases p; simp only [Pl.ks] at h; rw [evalQ,evalsQ_all h,if_neg (by simp),colsPs_map]; rfl
/-- What Eval tells. -/
def evE (ts:List (List Int)) (data:List (List Zp)) (p:Pl):Int:=if lookE ts p≠0 then lookE ts p else if dataE ts data≠0 then dataE ts data else (evalQ ts data p).1
def evZ (ts:List (List Int)) (data:List (List Zp)) (p:Pl):List Zp:=if lookE ts p≠0∨dataE ts data≠0 then [] else (evalQ ts data p).2
theorem datasE_all:∀ {l:List (List Int)} {r:List (List Zp)},l.length=r.length→datasE l r=0→∀ (i:Nat) (h:i<l.length) (h':i<r.length),inpE l[i] r[i]=0
 | c :: l,z :: r,hl,h,0,_,_=>by
  rw [datasE] at h
  by_cases c0:inpE c z=0
  ·exact c0
  ·rw [if_pos c0] at h; exact absurd h c0
 | c :: l,z :: r,hl,h,i+1,h1,h2=>by
  rw [datasE] at h
  by_cases c0:inpE c z=0
  ·rw [if_neg (by simp [c0])] at h
   exact datasE_all (l:=l) (r:=r) (by simpa using hl) h i (by simpa using h1) (by simpa using h2)
  ·rw [if_pos c0] at h; exact absurd h c0
 | [],_,_,_,i,h1,_=>by simp at h1
 | _ :: _,[],hl,_,_,_,_=>by simp at hl
theorem dataE_ok {ts:List (List Int)} {data:List (List Zp)} (h:dataE ts data=0):data.length=ts.length∧∀ (i:Nat) (h:i<ts.length) (h':i<data.length),inpE ts[i] data[i]=0:=by
 unfold dataE at h;by_cases c:data.length=ts.length
 ·rw [if_neg (by simp [c])] at h;exact ⟨c,datasE_all c.symm h⟩
 ·rw [if_pos c] at h; cases h
theorem dataE_dok {ts:List (List Int)} {data:List (List Zp)} (h:dataE ts data=0):DOk ts data:=by
 obtain ⟨h1,h2⟩:=dataE_ok h;refine ⟨h1,fun z hz=>?_⟩;obtain ⟨i,hi,rfl⟩:=List.getElem_of_mem hz;exact ((inpE_ok _ _).1 (h2 i (by omega) hi)).set
theorem tabsL {ts:List (List Int)} (h:tabsE ts=0):ts.length≤8:=by
 unfold tabsE at h;by_cases c:8<ts.length
 ·rw [if_pos c] at h; cases h
 ·omega
theorem lookE_ok {ts:List (List Int)} {p:Pl} (h:lookE ts p=0):tabsE ts=0∧(lookX ts p 0 1).1=0:=by
 unfold lookE at h;by_cases c:tabsE ts=0
 ·rw [if_neg (by simp [c])] at h;exact ⟨c,h⟩
 ·rw [if_pos c] at h; exact absurd h c
theorem evE_look {ts:List (List Int)} {data:List (List Zp)} {p:Pl} (h:¬ lookE ts p=0):evE ts data p=lookE ts p∧evZ ts data p = []:=by
 unfold evE evZ; rw [if_pos h,if_pos (.inl h)]; exact ⟨rfl,rfl⟩
theorem evE_data {ts:List (List Int)} {data:List (List Zp)} {p:Pl} (h:lookE ts p=0) (h':¬ dataE ts data=0):evE ts data p=dataE ts data∧evZ ts data p = []:=by
 unfold evE evZ; rw [if_neg (by simp [h]),if_pos h',if_pos (.inr h')]; exact ⟨rfl,rfl⟩
theorem evE_own {ts:List (List Int)} {data:List (List Zp)} {p:Pl} (h:lookE ts p=0) (h':dataE ts data=0):evE ts data p=(evalQ ts data p).1∧evZ ts data p=(evalQ ts data p).2:=by
 unfold evE evZ; rw [if_neg (by simp [h]),if_neg (by simp [h']),if_neg (by simp [h,h'])]; exact ⟨rfl,rfl⟩

theorem pairZ_wt {what:Nat} {l r:List Int} {x:Ex} {a b:List Zp} (h:pairE what l r x a b=0) (q:List Vl):wt (pairZ what l r x a b) q=wt (nameL what r.length x a b) q:=by unfold pairZ; rw [if_pos h,canon_wt]
end Go.Proofs.YtohjlfhmnmcndaaGreat
