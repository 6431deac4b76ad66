/- Together: S8, S9, G1, G3, G4, G5, N1, G2, G6. -/
import Derived.Test.YtjebpkhkjkjphaaGreatM7
import Derived.Test.YtjebpkhkjkjphaaGreatM4
namespace Go.Proofs.YtjebpkhkjkjphaaGreat
open Go.RowKit Go.Lib Go.Shelf
set_option maxRecDepth 100000
set_option maxHeartbeats 16000000
theorem l6.arr {w0 W:World} {base:Nat} {v:Value} {l:List Kp} (h:l6 w0 base W v l) (hb:Below w0.heap.size w0 W) (hbs:w0.heap.size≤base):(l = []∧v = .slice none 0 0)∨∃ (g cap:Nat) (d:Array (Kg W g)),v = .slice (some ⟨g,0,none⟩) l.length cap∧base≤g∧g<W.heap.size∧d.size=l.length∧d.toList.map (FA W g)=l∧Go.Sort.HoldsK (kn W g) 3 W g 0 d:=by
 obtain ⟨xs,h1,h2,h3⟩:=h;have h1':=h1;obtain ⟨hx,⟨rfl,h0⟩ | ⟨g,cap,cur,rfl,hg,hh,hn,hc,hs,ht⟩⟩:=h1
 ·exact .inl ⟨Hs h0,rfl⟩
 ·right;have offK:∀ a r,fQ W a→Gn g a r:=fun a r ha=>.inr fun b off e hbg=>by
   obtain ⟨c,z,h1⟩:=ha b off e;rw [hbg,hh] at h1;simp at h1
  have offR:∀ a r,aY w0 a r→Gn g a r:=fun a r ha=>by
   rcases ha.2 with e | ⟨b,o,e,hr,hlt⟩
   ·exact .inl e
   ·exact .inr fun b' o' e' hbg=>by
     rw [e] at e';have e':=It e';injection e' with e1
     have:=(h1'.lt g rfl).1;omega
  obtain ⟨f,hf⟩:=Go.Deep.choose_lt (α:=Kg W g) (n:=l.length) (p:=fun i x=>∀ hi:i<l.length,FA W g x=l[i]∧xs[i*3]? = some (.slice x.1.ka x.1.keys.length x.1.kc)∧xs[i*3+1]? = some (.slice x.1.ra x.1.row.length x.1.rc)∧xs[i*3+2]? = some (.int .i64 x.1.w)) (fun i hi=>by
   obtain ⟨ka,kc,ra,rc,e0,e1,e2,⟨e3,e4⟩,e5⟩:=h3 i hi;exact ⟨⟨⟨ka,kc,l[i].1,ra,rc,l[i].2.1,l[i].2.2⟩,⟨e3,offK _ _ e4⟩,e5.next hb,offR _ _ e5⟩,fun _=>⟨rfl,e0,e1,e2⟩⟩)
  have hd:∀ i,i<l.length→((Array.range l.length).map f)[i]! = f i:=fun i hi=>by simp [hi]
  refine ⟨g,cap,(Array.range l.length).map f,rfl,(h1'.lt g rfl).1,(h1'.lt g rfl).2,by simp,?_,?_⟩
  ·apply List.ext_getElem
   ·simp
   ·intro i g1 g2;have:=(hf i g2 g2).1
    simpa using this
  ·intro j hj;have hj':j<l.length*3:=by simpa using hj
   refine ⟨?_,by rw [Hu]; exact h1'.frozenAt j⟩;have hi:j / 3<l.length:=by omega
   obtain ⟨_,g0,g1,g2⟩:=hf (j / 3) hi hi;rw [Hu,h1'.cellAt j hj'];show _=some (Go.Sort.flatK (kn W g) 3 ((Array.range l.length).map f))[j]!;rw [Go.Sort.get_flatK _ _ _ _ (by simpa using hj'),hd _ hi];have h3':j % 3=0∨j % 3=1∨j % 3=2:=by omega
   rcases h3' with e | e | e
   ·rw [e]; rw [show j / 3*3=j by omega] at g0; rw [g0]; rfl
   ·rw [e]; rw [show j / 3*3+1=j by omega] at g1; rw [g1]; rfl
   ·rw [e]; rw [show j / 3*3+2=j by omega] at g2; rw [g2]; rfl
theorem yQ {w W:World} {g:Nat} {d:Array (Kg w g)} (hS:SWK (kn w g) 3 w g 0 d W) (hH:Go.Sort.HoldsK (kn w g) 3 W g 0 d) (hlt:g<W.heap.size):pr W (some ⟨g,0,none⟩) (d.toList.map (FA w g)):=by
 refine .inr ⟨g,0,rfl,hlt,fun i hi=>?_⟩;have hi':i<d.size:=by simpa using hi
 have e:d[i]! = d[i]:=getElem!_pos d i hi';have h0:=(hH (i*3) (by simp; omega)).1;have h1:=(hH (i*3+1) (by simp; omega)).1;have h2:=(hH (i*3+2) (by simp; omega)).1;show Gh W g (0+i*3) _;rw [Go.Sort.get_flatK _ _ _ _ (by omega),show i*3 / 3=i by omega,show i*3 % 3=0 by omega,e] at h0;rw [Go.Sort.get_flatK _ _ _ _ (by omega),show (i*3+1) / 3=i by omega,show (i*3+1) % 3=1 by omega,e,← IZ] at h1;rw [Go.Sort.get_flatK _ _ _ _ (by omega),show (i*3+2) / 3=i by omega,show (i*3+2) % 3=2 by omega,e,← IZ] at h2;simp only [IJ,IU]
 exact ⟨h2,⟨d[i].1.ra,d[i].1.rc,h1,jU d[i].2.2.1 d[i].2.2.2 hS⟩,d[i].1.ka,d[i].1.kc,h0,jU d[i].2.1.1 d[i].2.1.2 hS⟩
theorem DY {W:World} {g:Nat} {d:Array (Kg W g)} (hH:Go.Sort.HoldsK (kn W g) 3 W g 0 d) (hlt:g<W.heap.size):RowK (kn W g) 3 W g 0 d where
 hk _:=rfl
 h1 x v hv:=by simp [kn] at hv; rcases hv with rfl | rfl | rfl <;> rfl
 hH:=hH
 hblk:=hlt
theorem ordered {W:World} {g:Nat} {d d':Array (Kg W g)} {xs:List Ex} {z:List Zp} (hz:gd z) (hd:d.toList.map (FA W g)=gX xs z) (hp:Go.Sort.PermIn 0 d.size d d') (hs:aK (EP W g) (Bf W g) 0 d.size d'):d'.toList.map (FA W g)=bc xs z:=by
 have hl:d'.size=d.size:=hp.1;refine nd _ _ ?_ ?_ (rb hz)
 ·refine List.Perm.trans ?_ ((jb xs z).symm);rw [← hd];refine List.Perm.map _ ?_;have:=hp.2.2;rw [Array.extract_eq_self_of_le (by omega),Array.extract_eq_self_of_le (by omega)] at this;exact this
 ·rw [List.pairwise_map,List.pairwise_iff_getElem];intro i j hi hj hij;have hi':i<d'.size:=by simpa using hi
  have hj':j<d'.size:=by simpa using hj
  have:=hs i j (Hl _) hij (by omega);rw [getElem!_pos d' i hi',getElem!_pos d' j hj'] at this;exact this
theorem Da {W:World} {g:Nat} {d:Array (Kg W g)} {xs:List Ex} {z:List Zp} (hz:gd z) (hd:d.toList.map (FA W g)=gX xs z):sT (Bf W g) 0 d.size d:=fun i j _ hij hj=>by
 have hr:=oD (xs:=xs) hz
 rw [← hd,List.pairwise_map,List.pairwise_iff_getElem] at hr
 have:=hr i j (by simpa using (by omega:i<d.size)) (by simpa using hj) hij
 rw [getElem!_pos d i (by omega),getElem!_pos d j hj]
 exact this
theorem yj (W:World) (g cap:Nat) (d:Array (Kg W g)) (xs:List Ex) (z:List Zp) (hz:gd z) (hl:d.size≤1000000) (hlt:g<W.heap.size) (hd:d.toList.map (FA W g)=gX xs z) (hH:Go.Sort.HoldsK (kn W g) 3 W g 0 d) (w0:World) (hw:w0.heap.size≤g) (hb:Below w0.heap.size w0 W) :
  Calls Tryz.prog 117 #[.slice (some ⟨g,0,none⟩) d.size cap,.func (.func 118) #[] #[]] W fun e w'=>e = .returned (.tuple #[])∧pr w' (some ⟨g,0,none⟩) (bc xs z)∧Below w0.heap.size w0 w':=by
 have R:=DY hH hlt;have eg:∀ args w,(callFunc 118 args).run Tryz.prog w = .ok (.enter 118 args) w:=enters_of Tryz.func118 (by kernel_rfl) rfl
 have eSw:∀ args w,(callFunc 209 args).run Tryz.prog w = .ok (.enter 209 args) w:=enters_of Tryz.func209 (by kernel_rfl) rfl
 have eRo:∀ args w,(callFunc 203 args).run Tryz.prog w = .ok (.enter 203 args) w:=enters_of Tryz.func203 (by kernel_rfl) rfl
 have eSy:∀ args w,(callFunc 184 args).run Tryz.prog w = .ok (.enter 184 args) w:=enters_of Tryz.func184 (by kernel_rfl) rfl
 have eIn:∀ args w,(callFunc 183 args).run Tryz.prog w = .ok (.enter 183 args) w:=enters_of Tryz.func183 (by kernel_rfl) rfl
 have eSt:∀ args w,(callFunc 154 args).run Tryz.prog w = .ok (.enter 154 args) w:=enters_of Tryz.func154 (by kernel_rfl) rfl
 refine (po 3 Tryz.Gr (kn W g) (wU W g) 118 #[] g 0 cap d W hl (SWK.start hH) (Da hz hd) eIn eSy eSt (Fq W g 0 cap d R hl) (Cy 3 Tryz.Gr (kn W g) (EP W g) (Bf W g) (wU W g) 118 #[] g 0 cap d W (by omega) eg (An W g 0 d.size) R eSw eRo eSy)).mono ?_;rintro e w' ⟨rfl,d',hp,hs,S⟩;refine ⟨rfl,?_,uf hb hw S⟩;rw [← ordered hz hd hp hs];exact yQ S (S.holds hlt hH hp.1) (S.lt hlt)
theorem wy (cap:Nat) (w:World):Calls Tryz.prog 183 #[.slice none 0 cap,.int .i64 0,.int .i64 0,.func (.func 118) #[] #[]] w fun e w'=>e = .returned (.tuple #[])∧w'=w:=by
 go_enter Tryz.func183,Tryz.ntmps183;go_wp2
 refine wp_loop_rounds 1 ?_;rw [rounds_succ];go_wp2
 go_end0
 exact ⟨rfl,rfl⟩
theorem pz (cap:Nat) (w:World):Calls Tryz.prog 154 #[.slice none 0 cap,.int .i64 0,.func (.func 118) #[] #[]] w fun e w'=>e = .returned (.tuple #[])∧w'=w:=by
 go_enter Tryz.func154,Tryz.ntmps154;go_wp2
 refine wp_loop_rounds 1 ?_;rw [rounds_succ];go_wp2_with fail
 refine (wy cap w).mono ?_;rintro e w1 ⟨rfl,rfl⟩;dsimp only;go_wp2
 refine wp_loop_rounds 1 ?_;rw [rounds_succ];go_wp2
 go_end0
 exact ⟨rfl,rfl⟩
theorem s9 (cap:Nat) (w:World):Calls Tryz.prog 117 #[.slice none 0 cap,.func (.func 118) #[] #[]] w fun e w'=>e = .returned (.tuple #[])∧Below w.heap.size w w':=by
 go_enter Tryz.func117,Tryz.ntmps117;go_wp2_with fail
 refine (pz cap w).mono ?_;rintro e w1 ⟨rfl,rfl⟩;dsimp only;go_wp2
 go_end0
 exact ⟨rfl,He _ _⟩
theorem nZ (af:List Int) (xs:List Ex) (u:Value) (lo:Nat) (a:Option Addr) (cap:Nat) (l:List Zp) (w:World) (hu:iB af lo u xs w) (hz:iv af l) (h:bP w a l) :
  Calls Tryz.prog 85 #[.slice a l.length cap,u] w fun e w'=>∃ a' c',e = .returned (.slice a' (bc xs l).length c')∧pr w' a' (bc xs l)∧Below w.heap.size w w':=by
 obtain ⟨i0,hi,hj0,hj1,hj2⟩:=info_parts Gy;have hl:=gf hz;have hR:gd l:=((i9 l).1 hz.set).2.2;obtain ⟨g,cb,rfl,eg,hd⟩:=hu;have HD:Hid (∀ (row:List Vl) (a:Option Addr) (cap:Nat) (W:World),et af row→aY W a row→Since lo w W→Calls Tryz.prog g (#[.slice a row.length cap] ++ cb) W fun e w'=>e = .returned (.slice (some ⟨W.heap.size,0,none⟩) xs.length xs.length)∧kt W.heap.size w' (dU xs row)∧Below W.heap.size W w'):=hd;have HO:Hid (iv af l):=hz;have HR:Hid (gd l):=hR;clear hd hz hR
 have con:=qn 116 #[] (fun p=>decide (0<p.2)) a cap l w w (fun W=>Below w.heap.size w W) h (by omega) (enters_of Tryz.func116 (by kernel_rfl) rfl) (He _ _) (fun _ hW=>hW) (fun W W' hW hb=>hW.trans hb) (fun x _ ra rc W hW _ _=>by
  refine (uJ ra x.1.length rc x.2 W).mono ?_;rintro e w' ⟨rfl,hb⟩;exact ⟨rfl,chain hW hb,(Since.of hb)⟩)
 generalize hm:(l.filter fun p=>decide (0<p.2))=m at con;have HM:Hid ((l.filter fun p=>decide (0<p.2))=m):=hm;have hml:m.length≤l.length:=by rw [← hm]; exact IL _ _
 have HF:Hid (∀ p ∈ m,et af p.1):=fun p hp=>by
  rw [← HM.out] at hp;exact HO.out.fit p (List.mem_filter.1 hp).1
 clear hm;go_enter Tryz.func85,Tryz.ntmps85;go_wp2_with fail
 refine con.mono ?_;rintro e w1 ⟨v1,rfl,O1,hb1,z1⟩;clear con;obtain ⟨a1,c1,rfl,zs1,_⟩:=O1.zs hb1;clear O1;dsimp only;go_wp2_with fail
 go_loopw [5,11] (fun v i wr=>∃ k:Nat,k≤m.length∧i = .int .i64 k∧l6 w1 w1.heap.size wr v ((m.take k).map fun p=>(dU xs p.1,p))∧Below w1.heap.size w1 wr) (fun _ i _=>m.length - (intOf i).toNat)
 case atStart=>exact ⟨0,Hl _,rfl,l6.nil _ _ _,He _ _⟩
 case round =>
  obtain ⟨k,hk,rfl,HK,hb⟩:=hrel;have hzr:=hb.size;by_cases hlt:k<m.length
  ·obtain ⟨b,off,rfl,hbl,d1,ar,cr,d0,sr⟩:=zs1.elem hlt;have c1':=(hb.cell (p:=⟨b,_,none⟩) hbl).trans d1;have c0':=(hb.cell (p:=⟨b,_,none⟩) hbl).trans d0;have hbl':b<wr.heap.size:=Hi hbl hzr;have HS:Hid (aY w1 ar m[k].1):=sr;have hal:=aa wr (.cells #[.slice ar m[k].1.length cr,.int .i64 m[k].2] 63);have q0:=an wr #[.slice ar m[k].1.length cr,.int .i64 m[k].2] 63;have HT:Hid (((m.take (k+1)).map fun p=>(dU xs p.1,p))=((m.take k).map fun p=>(dU xs p.1,p)) ++ [(dU xs m[k].1,m[k])]):=vA hlt
   have hfit:=HF.out m[k] (Hm hlt);have HFk:Hid (et af m[k].1):=hfit;have hrl:xs.length=(dU xs m[k].1).length:=by simp [dU]
   have HRL:Hid (xs.length=(dU xs m[k].1).length):=hrl;clear d0 d1 sr hfit hrl;go_wp2_with fail
   generalize hwa:wr.alloc (.cells #[.slice ar m[k].1.length cr,.int .i64 m[k].2] 63)=wa at *;clear hwa;have hCC:∀ W W':World,W.heap[wr.heap.size]? = some (.cells #[.slice ar m[k].1.length cr,.int .i64 m[k].2] 63 (0,0))→Below W.heap.size W W'→W'.heap[wr.heap.size]? = some (.cells #[.slice ar m[k].1.length cr,.int .i64 m[k].2] 63 (0,0)):=fun W W' h hb=>(hb.block _ (ae h)).trans h
   have hdr:Below wa.heap.size wa wa.drew:=(He _ _).drew;have CW:wa.drew.heap[wr.heap.size]? = some (.cells #[.slice ar m[k].1.length cr,.int .i64 m[k].2] 63 (0,0)):=hCC _ _ q0 hdr;refine aG (fun W=>W.heap[wr.heap.size]? = some (.cells #[.slice ar m[k].1.length cr,.int .i64 m[k].2] 63 (0,0))) (by kernel_rfl) ?_;refine ab hCC 15 (i:=0) (v:=u5) (fun n hn=>?_) CW ?_
   ·go_simp
   simp only [Act.put,pA,pB,pC];refine ab hCC 16 (i:=1) (v:=.func (.func g) #[] cb) (fun n hn=>?_) CW ?_
   ·go_simp
   simp only [Act.put,pA,pB,pC];refine ab hCC 17 (i:=2) (v:=.pointer (some ⟨wr.heap.size,0,none⟩)) (fun n hn=>?_) CW ?_
   ·go_simp
   simp only [Act.put,pA,pB,pC];refine ab hCC 18 (i:=3) (v:=.slice ar m[k].1.length cr) (fun n hn=>?_) CW ?_
   ·have hcell:n.cell? ⟨wr.heap.size,0,none⟩=some (.slice ar m[k].1.length cr):=cell_of (i:=0) hn rfl;go_simp
   simp only [Act.put,pA,pB,pC];refine ab hCC 20 (i:=5) (v:=.agg #[.slice ar m[k].1.length cr,.int .i64 m[k].2]) (fun n hn=>?_) CW ?_
   ·have hcell:n.cell? ⟨wr.heap.size,0,none⟩=some (.slice ar m[k].1.length cr):=cell_of (i:=0) hn rfl;have hcell1:n.cell? ⟨wr.heap.size,1,none⟩=some (.int .i64 m[k].2):=cell_of (i:=1) hn rfl;go_simp
   simp only [Act.put,pA,pB,pC];refine au (rs:=[4]) (by kernel_rfl) (by simp) ?_;intro w3 hb3 jj hj;obtain rfl:jj=4:=by simpa using hj
   clear hj;have D3:=chain (chain hal hdr) hb3;have B3:=chain hb D3;have CW3:=hCC _ _ CW hb3;have con:=HD.out m[k].1 ar cr w3 HFk.out (HS.out.next B3) (Since.of (chain hb1 B3));refine wpOp_step rfl (fun K hK=>?_);go_simp
   first | (refine con.mono ?_) | (go_at_fn g; refine con.mono ?_)
   rintro e w4 ⟨rfl,hRN,hb4⟩;have D4:=chain D3 hb4;have CW4:=hCC _ _ CW3 hb4;refine hK _ _ ⟨CW4,?_⟩;clear hK K con CW3;refine ab hCC 21 (i:=6) (v:=.agg #[.slice (some ⟨w3.heap.size,0,none⟩) xs.length xs.length,.slice ar m[k].1.length cr,.int .i64 m[k].2]) (fun n hn=>?_) CW4 ?_
   ·go_simp
   simp only [Act.put,pA,pB,pC];refine au (rs:=[7]) (by kernel_rfl) (by simp) ?_;intro w5 hb5 jj hj;obtain rfl:jj=7:=by simpa using hj
   clear hj;refine wpOp_step rfl (fun K hK=>?_);go_simp;have D5:=chain D4 hb5;have CW5:=hCC _ _ CW4 hb5;have hal5:=aa w5 (.cells #[.slice (some ⟨w3.heap.size,0,none⟩) xs.length xs.length,.slice ar m[k].1.length cr,.int .i64 m[k].2] 132);have q6:=an w5 #[.slice (some ⟨w3.heap.size,0,none⟩) xs.length xs.length,.slice ar m[k].1.length cr,.int .i64 m[k].2] 132;have D6:=chain D5 hal5;have CW6:=hCC _ _ CW5 hal5;have S6:=(hRN.1.next hb5).next hal5;have T6:=(hRN.2.next hb5).next hal5;refine hK _ _ ⟨CW6,?_⟩
   clear hK K CW5 CW4 hRN;generalize hw6:w5.alloc (.cells #[.slice (some ⟨w3.heap.size,0,none⟩) xs.length xs.length,.slice ar m[k].1.length cr,.int .i64 m[k].2] 132)=w6 at *;clear hw6;refine au (rs:=[8]) (by kernel_rfl) (by simp) ?_;intro w7 hb7 jj hj;obtain rfl:jj=8:=by simpa using hj
   clear hj;have D7:=chain D6 hb7;have CW7:=hCC _ _ CW6 hb7;have S7:=S6.next hb7;have T7:=T6.next hb7;have q7:=(hb7.block _ (ae q6)).trans q6;obtain ⟨ys,o7,EO⟩:=HK.next D7;have zz:=D7.size;have hnb:∀ g',u5.ownBlock=some g'→g'<wr.heap.size∧w1.heap.size≤g':=fun g' hg'=>by
    obtain ⟨ys0,o0,_⟩:=HK;exact ⟨(o0.lt g' hg').2,(o0.lt g' hg').1⟩
   refine wpOp_step rfl (fun K hK=>?_);refine Eq.mpr (if_pos (by kernel_rfl)) ?_;refine bM (some 23) rfl (Operand.tmp 15) (Operand.tmp 22) 126 rfl w1.heap.size 132 i0 _ 3 56 Tryz.underlying126 hi hj0 hj1 hj2 rfl (by decide) u5 _ ys rfl o7 ⟨w5.heap.size,0,none⟩ 1 1 [.slice (some ⟨w3.heap.size,0,none⟩) xs.length xs.length,.slice ar m[k].1.length cr,.int .i64 m[k].2] rfl rfl ?Ac1 ?Ac2 ?Ac3 ?Ac4 ?Ac5 ?_
   case Ac1 =>
    intro j u hj
    match j,hj with
    | 0,hj=>simp at hj; subst hj; exact cell_of (i:=0) q7 rfl
    | 1,hj=>simp at hj; subst hj; exact cell_of (i:=1) q7 rfl
    | 2,hj=>simp at hj; subst hj; exact cell_of (i:=2) q7 rfl
   case Ac2=>intro u hu; simp at hu; rcases hu with rfl | rfl | rfl <;> rfl
   case Ac3=>simp only [Ik,Ij]; unfold maxLen; omega
   case Ac4=>simp only [Ik,Ij]; omega
   case Ac5=>omega
   intro v' w8 o8 g8 _;have CW8:w8.heap[wr.heap.size]? = some (.cells #[.slice ar m[k].1.length cr,.int .i64 m[k].2] 63 (0,0)):=(g8.block _ (ae CW7) (fun e=>by have:=(hnb _ e.symm).1; omega)).trans CW7;have OK8:l6 w1 w1.heap.size w8 v' (((m.take k).map fun p=>(dU xs p.1,p)) ++ [(dU xs m[k].1,m[k])]):=l6.push (kc:=xs.length) (rc:=cr) o7 EO S7 T7 HS.out (by have:=HRL.out; rw [← this]; exact o8) g8;have b8:Below w1.heap.size w1 w8:=(hb.trans (D7.mono hzr)).trans ((He _ _).grown g8 (by omega) (fun q hq=>(hnb q hq).2));refine hK _ _ ⟨CW8,?_⟩
   clear hK K CW7 CW6 S7 T7 S6 T6 o7 EO o8 D7 D6 D5 D4 D3 q6 q7 g8 HK;simp only [Act.put,pA,pB,pC];refine ab hCC 5 (i:=9) (v:=v') (fun n hn=>?_) CW8 ?_
   ·go_simp
   simp only [Act.put,pA,pB,pC];refine bd (by kernel_rfl) ?_;intro w9 hb9;have OK9:=OK8.next hb9;have b9:=chain b8 hb9;clear OK8 b8 CW8 hb9;go_wp2
   go_roundw
   case rel=>exact ⟨k+1,by omega,by go_num,by rw [HT.out]; exact OK9,b9⟩
   case measure=>simp [intOf]; omega
  ·have e:k=m.length:=by omega
   subst e;rw [Ib] at HK;have hwk:(m.map fun p=>(dU xs p.1,p))=gX xs l:=by unfold gX; rw [HM.out]
   rw [hwk] at HK;have hb':=chain hb1 hb;have hil:(bc xs l).length=(gX xs l).length:=(jb xs l).length_eq;have hwl:=pN xs l;rcases HK.arr hb (Hd _) with ⟨hn,rfl⟩ | ⟨gb,kc,dd,rfl,hg1,hg2,hds,hdm,hH⟩
   ·have hio:bc xs l = []:=Hs (by rw [hil,hn]; rfl);have con:=s9 0 wr;clear HK;go_wp2_with fail
    refine con.mono ?_;rintro e w2 ⟨rfl,hb2⟩;clear con;dsimp only;go_wp2
    go_ret;exact ⟨none,0,by rw [hio]; rfl,.inl hio,chain hb' hb2⟩
   ·have con:=yj wr gb kc dd xs l HR.out (by omega) hg2 hdm hH w1 hg1 hb;rw [hds,← hil] at con;rw [← hil];clear HK hH hdm hil hwk hds;go_wp2_with fail
    refine con.mono ?_;rintro e w2 ⟨rfl,kd,hb2⟩;clear con;dsimp only;have HKD:Hid (pr w2 (some ⟨gb,0,none⟩) (bc xs l)):=kd;have hA:=hb1.trans (hb2.mono hb1.size);clear kd;go_wp2
    go_ret;exact ⟨_,_,rfl,HKD.out,hA⟩
abbrev Pt:Type:=List Vl × List Zp
def cQ (ps:List Pt) (x:Kp):List Pt:=if h:ps.length=0 then ps ++ [(x.1,[])] else if aL (ps[ps.length - 1]'(by omega)).1 x.1=0 then ps else ps ++ [(x.1,[])]
def jC (ps:List Pt) (r:Zp):List Pt:=if h:ps.length=0 then ps else ps.set (ps.length - 1) ((ps[ps.length - 1]'(by omega)).1,(ps[ps.length - 1]'(by omega)).2 ++ [r])
def cI (L:List Kp):List Pt:=L.foldl (fun ps x=>jC (cQ ps x) x.2) []
theorem wv {L:List Kp} {k:Nat} (h:k<L.length):cI (L.take (k+1))=jC (cQ (cI (L.take k)) L[k]) L[k].2:=by
 unfold cI;rw [Ht h,List.foldl_append];rfl
theorem zJ (ps:List Pt) (x:Kp):(cQ ps x).length≤ps.length+1∧0<(cQ ps x).length:=by
 unfold cQ
 split
 ·simp
 ·split
  ·omega
  ·simp
theorem Ar (ps:List Pt) (r:Zp):(jC ps r).length=ps.length:=by
 unfold jC
 split
 ·rfl
 ·simp
theorem El {ps:List Pt} {m:Nat} (h:ps.length=m+1) (r:Zp):jC ps r=ps.set m ((ps[m]'(by omega)).1,(ps[m]'(by omega)).2 ++ [r]):=by
 unfold jC;rw [dif_neg (by omega)];simp only [h,Nat.add_sub_cancel]
theorem xV {ps:List Pt} (h:ps.length=0) (x:Kp):cQ ps x=ps ++ [(x.1,[])]:=by unfold cQ; rw [dif_pos h]
theorem vf {ps:List Pt} {m:Nat} (h:ps.length=m+1) {x:Kp} (hc:aL (ps[m]'(by omega)).1 x.1=0):cQ ps x=ps:=by
 unfold cQ;rw [dif_neg (by omega)];simp only [h,Nat.add_sub_cancel];rw [if_pos hc]
theorem sn {ps:List Pt} {m:Nat} (h:ps.length=m+1) {x:Kp} (hc:¬ aL (ps[m]'(by omega)).1 x.1=0):cQ ps x=ps ++ [(x.1,[])]:=by
 unfold cQ;rw [dif_neg (by omega)];simp only [h,Nat.add_sub_cancel];rw [if_neg hc]
theorem mL (L:List Kp):(cI L).length≤L.length∧∀ p ∈ cI L,p.2.length≤L.length:=by
 have aux:∀ (L:List Kp) (ps:List Pt) (n:Nat),ps.length≤n→(∀ p ∈ ps,p.2.length≤n)→(L.foldl (fun ps x=>jC (cQ ps x) x.2) ps).length≤n+L.length∧∀ p ∈ L.foldl (fun ps x=>jC (cQ ps x) x.2) ps,p.2.length≤n+L.length:=by
  intro L
  induction L with
  | nil=>intro ps n h1 h2; exact ⟨h1,h2⟩
  | cons x r ih =>
   intro ps n h1 h2;have ho:∀ p ∈ cQ ps x,p.2.length≤n:=fun p hp=>by
    unfold cQ at hp
    split at hp
    ·rcases List.mem_append.1 hp with hp | hp
     ·exact h2 p hp
     ·rw [List.mem_singleton.1 hp]; exact Hl _
    ·split at hp
     ·exact h2 p hp
     ·rcases List.mem_append.1 hp with hp | hp
      ·exact h2 p hp
      ·rw [List.mem_singleton.1 hp]; exact Hl _
   have:=ih (jC (cQ ps x) x.2) (n+1) (by rw [Ar]; have:=(zJ ps x).1; omega) (fun p hp=>by
    unfold jC at hp
    split at hp
    ·have:=ho p hp; omega
    ·rcases List.mem_or_eq_of_mem_set hp with hp | rfl
     ·have:=ho p hp; omega
     ·have:=ho _ (Hm (l:=cQ ps x) (n:=(cQ ps x).length - 1) (by omega));simp only [Ii,List.length_singleton]; omega)
   simp only [IV,Je];refine ⟨by have:=this.1; omega,fun p hp=>by have:=this.2 p hp; omega⟩
 have:=aux L [] 0 (Hd _) (fun p hp=>by simp at hp);unfold cI
 simpa using this
theorem kD {W:World} {b b':Nat} {e e':TypeId} {s s' n n':Nat} {v v':Value} {xs xs':List Value} (hne:e≠e') (h:W.ownsRow b e s v n xs) (h':W.ownsRow b' e' s' v' n' xs'):v.ownBlock=none∨v.ownBlock≠v'.ownBlock:=by
 rcases h.2 with ⟨rfl,_⟩ | ⟨g,cap,cur,rfl,_,hg,_⟩
 ·exact .inl rfl
 ·refine .inr fun e0=>?_
  rcases h'.2 with ⟨rfl,_⟩ | ⟨g',cap',cur',rfl,_,hg',_⟩
  ·simp [Value.ownBlock] at e0
  ·have e1:g=g':=by simpa [Value.ownBlock] using e0
   subst e1;rw [hg] at hg';injection hg' with hg'
   injection hg' with _ he _
   exact hne he
theorem gY {W:World} {B:Nat} {e:TypeId} {s n:Nat} {v:Value} {xs:List Value} (h:W.ownsRow B e s v n xs) {q:Nat} {cs:Array Value} {T:TypeId} {f:Nat × Nat} (hq:W.heap[q]? = some (.cells cs T f)) (hne:T≠e):v.ownBlock≠some q:=by
 intro e0;rcases h.2 with ⟨rfl,_⟩ | ⟨g,cap,cur,rfl,_,hg,_⟩
 ·simp [Value.ownBlock] at e0
 ·have e1:g=q:=by simpa [Value.ownBlock] using e0
  subst e1;rw [hg] at hq;injection hq with hq
  injection hq with _ he _
  exact hne he.symm
theorem Cw {W:World} {b b':Nat} {e:TypeId} {s n:Nat} {v:Value} {xs:List Value} (h:W.ownsRow b e s v n xs) (hb:b'≤b):W.ownsRow b' e s v n xs:=by
 obtain ⟨h0,h1⟩:=h;refine ⟨h0,?_⟩;rcases h1 with h1 | ⟨g,cap,cur,e,hg,h3⟩
 ·exact .inl h1
 ·exact .inr ⟨g,cap,cur,e,HJ hb hg,h3⟩
theorem dy {W:World} {base e size n:Nat} {v:Value} {xs:List Value} (h:W.ownsRow base e size v n xs):∃ a c,v = .slice a n c:=by
 obtain ⟨_,⟨rfl,h0⟩ | ⟨g,c1,cur,rfl,_⟩⟩:=h
 ·exact ⟨none,0,by rw [h0]⟩
 ·exact ⟨_,c1,rfl⟩
structure jo (w0:World) (B:Nat) (W:World) (v:Value) (ps:List Pt) (xs:List Value) (Bl:Nat) (rv:Nat→Value) (zs:Nat→List Value):Prop where
 own:W.ownsRow B 129 2 v ps.length xs
 lo:B≤Bl
 hi:Bl≤W.heap.size
 key:∀ i (h:i<ps.length),∃ ka kc,xs[i*2]? = some (.slice ka ps[i].1.length kc)∧aY w0 ka ps[i].1
 cell:∀ i (_:i<ps.length),xs[i*2+1]? = some (rv i)
 row:∀ i (h:i<ps.length),W.ownsRow (if i+1=ps.length then Bl else B) 63 2 (rv i) ps[i].2.length (zs i)∧ku w0 (zs i) ps[i].2
 low:∀ i,i+1<ps.length→∀ g,(rv i).ownBlock=some g→g<Bl
def jq (w0:World) (B:Nat) (W:World) (v:Value) (ps:List Pt):Prop:=∃ xs Bl rv zs,jo w0 B W v ps xs Bl rv zs
theorem jo.next {w0:World} {B:Nat} {W w1:World} {v:Value} {ps:List Pt} {xs:List Value} {Bl:Nat} {rv:Nat→Value} {zs:Nat→List Value} (h:jo w0 B W v ps xs Bl rv zs) (hb:Below W.heap.size W w1):jo w0 B w1 v ps xs Bl rv zs :=
 ⟨bg h.own hb,h.lo,HJ h.hi hb.size,h.key,h.cell,fun i hi=>⟨bg (h.row i hi).1 hb,(h.row i hi).2⟩,h.low⟩
theorem jq.next {w0:World} {B:Nat} {W w1:World} {v:Value} {ps:List Pt} (h:jq w0 B W v ps) (hb:Below W.heap.size W w1):jq w0 B w1 v ps:=by
 obtain ⟨xs,Bl,rv,zs,h⟩:=h;exact ⟨xs,Bl,rv,zs,h.next hb⟩
theorem jq.nil (w0:World) (B:Nat) (W:World) (hB:B≤W.heap.size):jq w0 B W (.slice none 0 0) [] :=
 ⟨[],B,fun _=>.slice none 0 0,fun _=>[],Iq _ _ _ _,Hd _,hB,fun _ hi=>absurd hi (Iu _),fun _ hi=>absurd hi (Iu _),fun _ hi=>absurd hi (Iu _),fun _ hi=>absurd hi (Iu _)⟩
theorem jo.AM {w0:World} {B:Nat} {W:World} {v:Value} {ps:List Pt} {xs:List Value} {Bl:Nat} {rv:Nat→Value} {zs:Nat→List Value} (h:jo w0 B W v ps xs Bl rv zs) {i:Nat} (hi:i<ps.length):W.ownsRow B 63 2 (rv i) ps[i].2.length (zs i):=by
 refine Cw (h.row i hi).1 ?_
 split
 ·exact h.lo
 ·exact Hd _
theorem jo.push {w0:World} {B:Nat} {W w1:World} {v v':Value} {ps:List Pt} {xs:List Value} {Bl:Nat} {rv:Nat→Value} {zs:Nat→List Value} (h:jo w0 B W v ps xs Bl rv zs) {ka:Option Addr} {kc:Nat} {k:List Vl} (hs:aY w0 ka k) (hg:W.grownBy w1 v.ownBlock)
  (ho:w1.ownsRow B 129 2 v' (ps.length+1) (xs ++ [.slice ka k.length kc,.slice none 0 0])):jq w0 B w1 v' (ps ++ [(k,[])]):=by
 have lx:=h.own.1;refine ⟨_,w1.heap.size,fun i=>if i=ps.length then .slice none 0 0 else rv i,fun i=>if i=ps.length then [] else zs i,by simpa using ho,HJ h.lo (HJ h.hi hg.size),Hd _,fun i hi=>?_,fun i hi=>?_,fun i hi=>?_,fun i hi g hgi=>?_⟩
 ·by_cases hi':i<ps.length
  ·obtain ⟨ka',kc',e0,s0⟩:=h.key i hi';rw [H7 hi'];exact ⟨ka',kc',by rw [Ia (by omega)]; exact e0,s0⟩
  ·have e:i=ps.length:=by simp at hi; omega
   subst e;refine ⟨ka,kc,?_,?_⟩
   ·rw [H9 (by omega)]; simp [lx]
   ·simpa using hs
 ·by_cases hi':i<ps.length
  ·rw [if_neg (by omega),Ia (by omega)]; exact h.cell i hi'
  ·have e:i=ps.length:=by simp at hi; omega
   subst e;rw [if_pos rfl,H9 (by omega)]; simp [lx]
 ·by_cases hi':i<ps.length
  ·rw [H7 hi',if_neg (by simp; omega),if_neg (by omega),if_neg (by omega)];exact ⟨(h.AM hi').kept hg (kD (by decide) (h.AM hi') h.own),(h.row i hi').2⟩
  ·have e:i=ps.length:=by simp at hi; omega
   subst e;simp only [Ii,List.length_singleton,if_true,List.getElem_concat_length];exact ⟨Iq _ _ _ _,rfl,fun j hj=>absurd hj (Iu _)⟩
 ·have hi':i<ps.length:=by simp at hi; omega
  rw [if_neg (by omega)] at hgi;exact Hi ((h.AM hi').lt g hgi).2 hg.size
theorem jo.put {w0:World} {B:Nat} {W w8 w9:World} {g c m:Nat} {ps:List Pt} {xs:List Value} {Bl:Nat} {rv:Nat→Value} {zs:Nat→List Value} (h:jo w0 B W (.slice (some ⟨g,0,none⟩) (m+1) c) ps xs Bl rv zs) (hm:ps.length=m+1) {ra:Option Addr} {rc:Nat} {r:Zp} {v8:Value}
  (sr:aY w0 ra r.1) (g8:W.grownBy w8 (rv m).ownBlock) (o8:w8.ownsRow Bl 63 2 v8 ((ps[m]'(by omega)).2.length+1) (zs m ++ [.slice ra r.1.length rc,.int .i64 r.2])) (hb:Below w8.heap.size w8 w9) :
  jq w0 B (w9.setCell ⟨g,m*2+1,none⟩ v8) (.slice (some ⟨g,0,none⟩) (m+1) c) (jC ps r):=by
 have hmlt:m<ps.length:=by omega
 have lx:=h.own.1;have ho:=h.own;rw [hm] at ho;have rl:W.ownsRow Bl 63 2 (rv m) (ps[m]'hmlt).2.length (zs m):=by
  have:=(h.row m hmlt).1
  rwa [if_pos hm.symm] at this
 have og:∀ {b e s n v ys},e≠129→w9.ownsRow b e s v n ys→(w9.setCell ⟨g,m*2+1,none⟩ v8).ownsRow b e s v n ys:=fun {b e s n v ys} hne hr=>by
  have o9:w9.ownsRow B 129 2 (.slice (some ⟨g,0,none⟩) (m+1) c) (m+1) xs:=bg (ho.kept g8 (kD (by decide) ho (rl))) hb;rcases kD hne hr o9 with e0 | e0
  ·exact ownsRow_setCell_other hr (by rw [e0]; simp) _
  ·exact ownsRow_setCell_other hr (by simpa [Value.ownBlock] using e0) _
 have o9:w9.ownsRow B 129 2 (.slice (some ⟨g,0,none⟩) (m+1) c) (m+1) xs:=bg (ho.kept g8 (kD (by decide) ho rl)) hb;have hsz:(w9.setCell ⟨g,m*2+1,none⟩ v8).heap.size=w9.heap.size:=by simp [World.setCell]
 rw [El hm];refine ⟨xs.set (m*2+1) v8,Bl,fun i=>if i=m then v8 else rv i,fun i=>if i=m then zs m ++ [.slice ra r.1.length rc,.int .i64 r.2] else zs i,?_,h.lo,?_,fun i hi=>?_,fun i hi=>?_,fun i hi=>?_,fun i hi g' hgi=>?_⟩
 ·rw [List.length_set,hm];exact (o9.stored (m*2+1) v8).1
 ·rw [hsz]; exact HJ h.hi (HJ g8.size hb.size)
 ·have hi0:i<ps.length:=by simpa using hi
  obtain ⟨ka',kc',e0,s0⟩:=h.key i hi0;rw [Hv (by omega),List.getElem_set]
  split
  ·rename_i e; subst e; exact ⟨ka',kc',e0,s0⟩
  ·exact ⟨ka',kc',e0,s0⟩
 ·have hi0:i<ps.length:=by simpa using hi
  by_cases e:i=m
  ·subst e;rw [if_pos rfl,List.getElem?_set_self (by omega)]
  ·rw [if_neg e,Hv (by omega)]; exact h.cell i hi0
 ·have hi0:i<ps.length:=by simpa using hi
  by_cases e:i=m
  ·subst e;simp only [List.length_set,if_true,List.getElem_set_self,Ii,List.length_singleton];rw [if_pos hm.symm];refine ⟨og (by decide) (bg o8 hb),?_⟩;exact ku.push (h.row i hi0).2 (x:=r) sr
  ·simp only [List.length_set];rw [if_neg e,if_neg e,if_neg (by omega),List.getElem_set_ne (fun e'=>e e'.symm)];have ri:=h.AM hi0;refine ⟨og (by decide) (bg (ri.kept g8 ?_) hb),(h.row i hi0).2⟩;by_cases e0:(rv i).ownBlock=none
   ·exact .inl e0
   ·obtain ⟨gi,hgi⟩:=Option.ne_none_iff_exists'.1 e0;refine .inr fun e1=>?_
    have h1:=h.low i (by omega) gi hgi;have h2:=(rl.lt gi (e1 ▸ hgi)).1;omega
 ·have hi0:i+1<ps.length:=by simpa using hi
  rw [if_neg (by omega)] at hgi;exact h.low i hi0 g' hgi
abbrev Wp:Type:=Vl × Int
def gW:List Wp→List Value
 | []=>[]
 | p :: r=>.int .i64 p.1.1 :: .int .i64 p.1.2.1 :: .string p.1.2.2 :: .int .i64 p.2 :: gW r
theorem lC:∀ l r:List Wp,gW (l ++ r)=gW l ++ gW r
 | [],_=>rfl
 | p :: t,r=>by rw [Iz,gW,gW,lC t r]; rfl
theorem sO:∀ (l:List Wp) (i:Nat) (h:i<l.length),(gW l)[i*4]? = some (.int .i64 l[i].1.1)∧(gW l)[i*4+1]? = some (.int .i64 l[i].1.2.1)∧(gW l)[i*4+2]? = some (.string l[i].1.2.2)∧(gW l)[i*4+3]? = some (.int .i64 l[i].2)
 | p :: r,0,_=>⟨rfl,rfl,rfl,rfl⟩
 | p :: r,i+1,h=>by
  have ih:=sO r i (by simpa using h)
  have e:(i+1)*4=i*4+4:=by omega
  rw [e]
  exact ih
def cK (f:List Vl→Vl) (rows:List Zp):List Wp:=rows.filterMap fun r=>if (f r.1).1=1 then none else some (f r.1,r.2)
theorem sZ (f:List Vl→Vl) {rows:List Zp} {k:Nat} (h:k<rows.length):cK f (rows.take (k+1))=cK f (rows.take k) ++ (if (f rows[k].1).1=1 then [] else [(f rows[k].1,rows[k].2)]):=by
 unfold cK;rw [Ht h,List.filterMap_append]
 congr 1
 by_cases c:(f rows[k].1).1=1
 ·simp [c]
 ·simp [c]
theorem oX (f:List Vl→Vl) (rows:List Zp):(cK f rows).length≤rows.length:=List.length_filterMap_le _ _
theorem Gm:(Tryz.prog.info? 202).map (fun i=>(i.zero,i.size,i.bytes))=some (some (.agg #[.int .i64 0,.int .i64 0,.string ⟨#[]⟩,.int .i64 0]),4,40):=by kernel_rfl
theorem Ch (af:List Int) (lo:Nat) (u:Value) (f:List Vl→Vl) (a:Option Addr) (cap:Nat) (rows:List Zp) (w:World) (hA:fc af lo u f w) (h:bP w a rows) (hf:∀ p ∈ rows,et af p.1) (hl:rows.length≤400) :
  Calls Tryz.prog 114 #[.slice a rows.length cap,u] w fun e w'=>∃ v,e = .returned v∧w'.ownsRow w.heap.size 202 4 v (cK f rows).length (gW (cK f rows))∧Below w.heap.size w w':=by
 obtain ⟨iw,hi,hj0,hj1,hj2⟩:=info_parts Gm;obtain ⟨g,cb,rfl,eg,hd⟩:=hA;have HD:Hid (∀ (row:List Vl) (a:Option Addr) (cap:Nat) (W:World),et af row→aY W a row→Since lo w W→Calls Tryz.prog g (#[.slice a row.length cap] ++ cb) W fun e w'=>e = .returned (fg (f row))∧Below W.heap.size W w'):=hd;have HF:Hid (∀ p ∈ rows,et af p.1):=hf;clear hd hf;go_enter Tryz.func114,Tryz.ntmps114;go_wp2_with fail
 go_loopw [5,11] (fun v i wr=>∃ k:Nat,k≤rows.length∧i = .int .i64 k∧wr.ownsRow w.heap.size 202 4 v (cK f (rows.take k)).length (gW (cK f (rows.take k)))∧Below w.heap.size w wr) (fun _ i _=>rows.length - (intOf i).toNat)
 case atStart=>exact ⟨0,Hl _,rfl,Iq _ _ _ _,He _ _⟩
 case round =>
  obtain ⟨k,hk,rfl,HO,hb⟩:=hrel;have hz:=hb.size;by_cases hlt:k<rows.length
  ·obtain ⟨b,off,rfl,hbl,c1,ar,cr,c0,sr⟩:=(h.next hb).elem hlt;have hal:=aa wr (.cells #[.slice ar rows[k].1.length cr,.int .i64 rows[k].2] 63);have q0:=an wr #[.slice ar rows[k].1.length cr,.int .i64 rows[k].2] 63;have hal':=chain hb hal;have con:=HD.out rows[k].1 ar cr _ (HF.out _ (Hm hlt)) (sr.next hal) (Since.of hal');have HT:Hid (cK f (rows.take (k+1))=cK f (rows.take k) ++ (if (f rows[k].1).1=1 then [] else [(f rows[k].1,rows[k].2)])):=sZ f hlt;have hkl:=oX f (rows.take k)
   rw [Ij] at hkl;have O1:=bg HO hal;generalize f rows[k].1=fv at *;generalize cK f (rows.take k)=acc at *;unfold fg at con;go_upto_region 5 with fail
   clear c0 c1 sr HO;generalize wr.alloc (.cells #[.slice ar rows[k].1.length cr,.int .i64 rows[k].2] 63)=wk at *;have p0:wk.cell? ⟨wr.heap.size,0,none⟩=some (.slice ar rows[k].1.length cr):=cell_of (i:=0) q0 rfl;go_upto_region 6 with (go_at_fn g; refine con.mono ?_; rintro e w2 ⟨rfl,hb2⟩)
   clear con p0;have q2:=(hb2.block _ (ae q0)).trans q0;have O2:=bg O1 hb2;have hal2:=aa w2 (.cells #[.int .i64 fv.1,.int .i64 fv.2.1,.string fv.2.2] 24);have q3:=an w2 #[.int .i64 fv.1,.int .i64 fv.2.1,.string fv.2.2] 24;have q2:=(hal2.block _ (ae q2)).trans q2;have O3:=bg O2 hal2;have hA3:=chain (chain hal' hb2) hal2;have hz3:=hA3.size;generalize w2.alloc (.cells #[.int .i64 fv.1,.int .i64 fv.2.1,.string fv.2.2] 24)=w3 at *
   have c0:w3.cell? ⟨w2.heap.size,0,none⟩=some (.int .i64 fv.1):=cell_of (i:=0) q3 rfl;have c1:w3.cell? ⟨w2.heap.size,1,none⟩=some (.int .i64 fv.2.1):=cell_of (i:=1) q3 rfl;have c2:w3.cell? ⟨w2.heap.size,2,none⟩=some (.string fv.2.2):=cell_of (i:=2) q3 rfl;have c3:w3.cell? ⟨wr.heap.size,1,none⟩=some (.int .i64 rows[k].2):=cell_of (i:=1) q2 rfl;by_cases hn:fv.1=1
   ·have hnb:(fv.1 != 1)=false:=by simp [hn]
    have HT':Hid (cK f (rows.take (k+1))=acc):=by show _=_; rw [HT.out,if_pos hn,Jc]
    clear hn;go_wp2
    go_roundw
    case rel=>exact ⟨k+1,by omega,by go_num,by rw [HT'.out]; exact O3,hA3⟩
    case measure=>simp [intOf]; omega
   ·have hnb:(fv.1 != 1)=true:=by simp [hn]
    have HT':Hid (cK f (rows.take (k+1))=acc ++ [(fv,rows[k].2)]):=by show _=_; rw [HT.out,if_neg hn]
    clear hn;go_wp2_with (first | (at_builtin; refine IK _ rfl _ _ 165 rfl w.heap.size 202 iw _ 4 40 Tryz.underlying165 hi hj0 hj1 hj2 rfl (by decide) _ _ _ rfl (O3.alloc _) ⟨w3.heap.size,0,none⟩ 1 1 [.int .i64 fv.1,.int .i64 fv.2.1,.string fv.2.2,.int .i64 rows[k].2] rfl rfl ?Ac1 ?Ac2 ?Ac3 ?Ac4 ?Ac5 ?_))
    case Ac1 =>
     intro i u hu
     match i,hu with
     | 0,hu=>simp at hu; subst hu; simp [Addr.add]
     | 1,hu=>simp at hu; subst hu; simp [Addr.add]
     | 2,hu=>simp at hu; subst hu; simp [Addr.add]
     | 3,hu=>simp at hu; subst hu; simp [Addr.add]
    case Ac2=>intro u hu; simp at hu; rcases hu with rfl | rfl | rfl | rfl <;> rfl
    case Ac3=>unfold maxLen; omega
    case Ac4=>omega
    case Ac5=>simp; omega
    intro v' w4 o4 g4 _;have hb4:Below w.heap.size w w4:=hA3.trans (((He _ _).alloc (by omega) _).grown g4 (by simp; omega) (fun q hq=>((O3.alloc (.cells #[.int .i64 fv.1,.int .i64 fv.2.1,.string fv.2.2,.int .i64 rows[k].2] 202)).lt q hq).1));have o4':w4.ownsRow w.heap.size 202 4 v' (acc ++ [(fv,rows[k].2)]).length (gW (acc ++ [(fv,rows[k].2)])):=by rw [lC,Ii]; exact o4
    clear g4 o4 O3 O2 O1;go_wp2
    go_roundw
    case rel=>exact ⟨k+1,by omega,by go_num,by rw [HT'.out]; exact o4',hb4⟩
    case measure=>simp [intOf]; omega
  ·have e:k=rows.length:=by omega
   subst e;rw [Ib] at HO;obtain ⟨av,cv,rfl⟩:=dy HO;go_wp2
   go_ret;exact ⟨_,rfl,HO,hb⟩
def gV (W:World) (a:Option Addr) (l:List Wp):Prop:=l.length≤maxLen∧(l = []∨∃ b off,a=some ⟨b,off,none⟩∧b<W.heap.size∧∀ (i:Nat) (h:i<l.length),W.cell? ⟨b,off+i*4,none⟩=some (.int .i64 l[i].1.1)∧W.cell? ⟨b,off+i*4+1,none⟩=some (.int .i64 l[i].1.2.1)∧W.cell? ⟨b,off+i*4+2,none⟩=some (.string l[i].1.2.2)∧W.cell? ⟨b,off+i*4+3,none⟩=some (.int .i64 l[i].2))
theorem gV.next {W w1:World} {a:Option Addr} {l:List Wp} (h:gV W a l) (hb:Below W.heap.size W w1):gV w1 a l:=by
 obtain ⟨h0,h | ⟨b,off,e,hlt,hr⟩⟩:=h
 ·exact ⟨h0,.inl h⟩
 ·refine ⟨h0,.inr ⟨b,off,e,Hi hlt hb.size,fun i hi=>?_⟩⟩;obtain ⟨a0,a1,a2,a3⟩:=hr i hi;exact ⟨(hb.cell (p:=⟨b,_,none⟩) hlt).trans a0,(hb.cell (p:=⟨b,_,none⟩) hlt).trans a1,(hb.cell (p:=⟨b,_,none⟩) hlt).trans a2,(hb.cell (p:=⟨b,_,none⟩) hlt).trans a3⟩
theorem gV.elem {W:World} {a:Option Addr} {l:List Wp} (h:gV W a l) {i:Nat} (hi:i<l.length):∃ b off,a=some ⟨b,off,none⟩∧b<W.heap.size∧W.cell? ⟨b,off+i*4,none⟩=some (.int .i64 l[i].1.1)∧W.cell? ⟨b,off+i*4+1,none⟩=some (.int .i64 l[i].1.2.1)∧W.cell? ⟨b,off+i*4+2,none⟩=some (.string l[i].1.2.2)∧W.cell? ⟨b,off+i*4+3,none⟩=some (.int .i64 l[i].2):=by
 obtain ⟨_,h | ⟨b,off,e,hlt,hr⟩⟩:=h
 ·subst h; simp at hi
 ·exact ⟨b,off,e,hlt,hr i hi⟩
theorem EW {W:World} {B:Nat} {v:Value} {l:List Wp} (h:W.ownsRow B 202 4 v l.length (gW l)):∃ a c,v = .slice a l.length c∧gV W a l:=by
 have h':=h;rcases h.2 with ⟨rfl,h0⟩ | ⟨g,cap,cur,rfl,_,_,hn,hc,_⟩
 ·have:l = []:=Hs h0;subst this;exact ⟨none,0,rfl,Hl _,.inl rfl⟩
 ·refine ⟨_,_,rfl,HJ hn hc,.inr ⟨g,0,rfl,(h'.lt g rfl).2,fun i hi=>?_⟩⟩;obtain ⟨a0,a1,a2,a3⟩:=sO l i hi;refine ⟨?_,?_,?_,?_⟩
  ·rw [h'.cellAt _ (by omega),← a0]; congr 1; omega
  ·rw [h'.cellAt _ (by omega),← a1]; congr 1; omega
  ·rw [h'.cellAt _ (by omega),← a2]; congr 1; omega
  ·rw [h'.cellAt _ (by omega),← a3]; congr 1; omega
def fT (v:Vl):Prop:=di v.1 v.2.1=v.2.1
theorem qg (v:Vl):fT (bE v):=by
 unfold fT bE di;by_cases h:v.1=2∨v.1=3 <;> simp [h]
theorem gO (o:Option Bool):fT (kV o):=by rcases o with _ | _ | _ <;> rfl
theorem oE (c:Int) (a b:Vl):fT (kW c a b):=by
 unfold fT kW;generalize nm c a.1 a.2.1 b.1 b.2.1=o;cases o with
 | none=>simp [ru,vx,di]
 | some n =>
  simp only [ru,vx,jg,js]
  split <;> simp [di]
theorem yG (a b:Vl):fT (mu a b):=by
 unfold fT mu;generalize jl a.1 a.2.2 b.1 b.2.2=k;simp [di]
theorem Bg {k:Int} {a b:Vl} (ha:fT a) (hb:fT b):fT (nv k a b):=by
 have h1:fT (Eh a b):=by unfold Eh; exact gO _
 have h2:fT (GJ a b):=by unfold GJ; exact gO _
 have h3:∀ a b,fT (Gf a b):=fun a b=>by unfold Gf; exact gO _
 have h4:∀ a,fT (jK a):=fun a=>by unfold jK; exact gO _
 have h5:∀ a b,fT (Eg a b):=fun a b=>by unfold Eg; exact gO _
 have h6:=oE 43 a b;have h7:=oE 45 a b;have h8:=oE 42 a b;have h9:=yG a b;have hc:fT (kj a b):=by
  unfold kj
  split
  ·exact hb
  ·exact ha
 have n1:=h4 (Gf a b);have n2:=h4 (Eg a b);have n3:=h4 (Eg b a);have e1:=h3 a b;have l1:=h5 a b;have l2:=h5 b a;clear h3 h4 h5;unfold nv;by_cases k4:k=4
 ·rw [if_pos k4]; exact h1
 rw [if_neg k4];by_cases k5:k=5
 ·rw [if_pos k5]; exact h2
 rw [if_neg k5];by_cases k6:k=6
 ·rw [if_pos k6]; exact e1
 rw [if_neg k6];by_cases k7:k=7
 ·rw [if_pos k7]; exact n1
 rw [if_neg k7];by_cases k8:k=8
 ·rw [if_pos k8]; exact l1
 rw [if_neg k8];by_cases k11:k=11
 ·rw [if_pos k11]; exact n2
 rw [if_neg k11];by_cases k10:k=10
 ·rw [if_pos k10]; exact l2
 rw [if_neg k10];by_cases k9:k=9
 ·rw [if_pos k9]; exact n3
 rw [if_neg k9];by_cases k12:k=12
 ·rw [if_pos k12]; exact h6
 rw [if_neg k12];by_cases k13:k=13
 ·rw [if_pos k13]; exact h7
 rw [if_neg k13];by_cases k14:k=14
 ·rw [if_pos k14]; exact h8
 rw [if_neg k14];by_cases k15:k=15
 ·rw [if_pos k15]; exact h9
 rw [if_neg k15];exact hc
theorem Af (row:List Vl):∀ x,fT (bq row x):=Ex.ind fun k v c ks ih=>by
 have hk:∀ i,fT ((mN row ks).getD i fV):=fun i=>by
  rw [gA]
  by_cases h:i<ks.length
  ·have:(ks.map (bq row)).getD i fV=bq row ks[i]:=by simp [List.getD,h]
   rw [this]
   exact ih _ (Hm h)
  ·have:(ks.map (bq row)).getD i fV=fV:=by simp [List.getD,h]
   rw [this]
   rfl
 rw [bq]
 unfold kf
 split
 ·exact qg _
 split
 ·exact qg _
 split
 ·exact gO _
 split
 ·exact gO _
 split
 ·split
  ·exact hk 1
  ·exact hk 2
 ·exact Bg (hk 0) (hk 1)
theorem FP {v:Vl} (h:bh v=0) (hn:fT v):-1000000000000000≤v.2.1∧v.2.1≤1000000000000000:=by
 unfold fT di at hn;unfold bh aR at h
 split at hn
 ·rename_i hk
  rcases hk with hk | hk
  ·rw [hk] at h;simp at h;omega
  ·rw [hk] at h;simp at h;omega
 ·omega
structure CN (l:List Wp):Prop where
 len:l.length≤400
 wt:∀ p ∈ l,0≤p.2∧p.2≤1000000
 right:∀ p ∈ l,bh p.1=0
 num:∀ p ∈ l,fT p.1
def lQ:List Wp→Int
 | []=>0
 | p :: r=>p.2+lQ r
theorem zC {l:List Wp} {k:Nat} (h:k<l.length):lQ (l.take (k+1))=lQ (l.take k)+l[k].2:=by
 have aux:∀ (l:List Wp) (p:Wp),lQ (l ++ [p])=lQ l+p.2:=by
  intro l p
  induction l with
  | nil=>simp [lQ]
  | cons q r ih=>rw [Iz,lQ,lQ,ih]; omega
 rw [Ht h,aux]
def countP (l:List Wp):Vl:=(3,lQ l,⟨#[]⟩)
theorem BM (a:Option Addr) (cap:Nat) (l:List Wp) (w:World) (h:gV w a l) (hok:CN l) :
  Calls Tryz.prog 153 #[.slice a l.length cap] w fun e w'=>e = .returned (fg (countP l))∧Below w.heap.size w w':=by
 have hl:=hok.len;have HK:Hid (CN l):=hok;clear hok;have hal0:=aa w (.cells #[.int .i64 0,.int .i64 0,.string ⟨#[]⟩] 24);have q00:=an w #[.int .i64 0,.int .i64 0,.string ⟨#[]⟩] 24;unfold fg countP;generalize hs:lQ l=s;have HS:Hid (lQ l=s):=hs;clear hs;go_enter Tryz.func153,Tryz.ntmps153;go_wp2_with fail
 generalize w.alloc (.cells #[.int .i64 0,.int .i64 0,.string ⟨#[]⟩] 24)=w0 at *;go_loopw [3,8] (fun v i wr=>∃ (k:Nat) (n:Int),k≤l.length∧i = .int .i64 k∧v = .int .i64 n∧Hid (n=lQ (l.take k))∧0≤n∧n≤1000000*(k:Int)∧Below w0.heap.size w0 wr) (fun _ i _=>l.length - (intOf i).toNat)
 case atStart=>exact ⟨0,0,Hl _,rfl,rfl,rfl,by omega,by omega,He _ _⟩
 case round =>
  obtain ⟨k,n,hk,rfl,rfl,HN,hn0,hn1,hb⟩:=hrel;have hA:=chain hal0 hb;by_cases hlt:k<l.length
  ·obtain ⟨b,off,rfl,hbl,c0,c1,c2,c3⟩:=(h.next hA).elem hlt;have hw:=HK.out.wt _ (Hm hlt);have hal:=aa wr (.cells #[.int .i64 l[k].1.1,.int .i64 l[k].1.2.1,.string l[k].1.2.2,.int .i64 l[k].2] 202);have HN':Hid (n+l[k].2=lQ (l.take (k+1))):=by show _=_; rw [zC hlt,HN.out]
   go_wp2
   go_roundw
   case rel=>exact ⟨k+1,n+l[k].2,by omega,by go_num,rfl,HN',by omega,by omega,chain hb hal⟩
   case measure=>simp [intOf]; omega
  ·have e:k=l.length:=by omega
   subst e;have es:n=s:=by rw [HN.out,Ib,HS.out]
   subst es;have con:=vW n wr (by simp [mf]; omega);have c0:w0.cell? ⟨w.heap.size,0,none⟩=some (.int .i64 0):=cell_of (i:=0) q00 rfl;go_wp2_with fail
   refine con.mono ?_;rintro e w2 ⟨rfl,hb2⟩;clear con;have q2:=((chain hb hb2).block _ (ae q00)).trans q00;have d0:w2.cell? ⟨w.heap.size,0,none⟩=some (.int .i64 0):=cell_of (i:=0) q2 rfl;have d1:w2.cell? ⟨w.heap.size,1,none⟩=some (.int .i64 0):=cell_of (i:=1) q2 rfl;have d2:w2.cell? ⟨w.heap.size,2,none⟩=some (.string ⟨#[]⟩):=cell_of (i:=2) q2 rfl;have f0:w2.frozen? ⟨w.heap.size,0,none⟩=false:=Hh w2 w.heap.size 0 _ _ q2;have f1:w2.frozen? ⟨w.heap.size,1,none⟩=false:=Hh w2 w.heap.size 1 _ _ q2
   have f2:w2.frozen? ⟨w.heap.size,2,none⟩=false:=Hh w2 w.heap.size 2 _ _ q2;have hA2:=chain hA hb2;go_wp2
   exact Hf (v:=.agg #[.int .i64 3,.int .i64 n,.string ⟨#[]⟩]) (by simp [results,Tryz.results153,go_sem,d0,d1,d2]) rfl ⟨rfl,((hA2.setCell (p:=⟨w.heap.size,0,none⟩) (Hd _) _).setCell (p:=⟨w.heap.size,1,none⟩) (Hd _) _).setCell (p:=⟨w.heap.size,2,none⟩) (Hd _) _⟩
structure yC (af:List Int) (rows:List Zp):Prop where
 len:rows.length≤400
 fit:∀ p ∈ rows,et af p.1
 wt:∀ p ∈ rows,0≤p.2∧p.2≤1000000
theorem yC.known {af:List Int} {rows:List Zp} (h:yC af rows) {f:List Vl→Vl} (hf:∀ row,et af row→bh (f row)=0∧fT (f row)):CN (cK f rows):=by
 have hm:∀ p ∈ cK f rows,∃ q ∈ rows,p=(f q.1,q.2):=fun p hp=>by
  unfold cK at hp;obtain ⟨q,hq,e⟩:=List.mem_filterMap.1 hp
  split at e
  ·cases e
  ·exact ⟨q,hq,(It e).symm⟩
 refine ⟨HJ (oX f rows) h.len,fun p hp=>?_,fun p hp=>?_,fun p hp=>?_⟩
 ·obtain ⟨q,hq,rfl⟩:=hm p hp; exact h.wt q hq
 ·obtain ⟨q,hq,rfl⟩:=hm p hp; exact (hf _ (h.fit q hq)).1
 ·obtain ⟨q,hq,rfl⟩:=hm p hp; exact (hf _ (h.fit q hq)).2
def nj (lo:Nat) (u:Value) (T:List Wp→Vl) (w:World):Prop :=
 ∃ g cb,u = .func (.func g) #[] cb∧(∀ args w,(callFunc g args).run Tryz.prog w = .ok (.enter g args) w) ∧
  ∀ (l:List Wp) (a:Option Addr) (cap:Nat) (W:World),CN l→gV W a l→Since lo w W →
   Calls Tryz.prog g (#[.slice a l.length cap] ++ cb) W fun e w'=>e = .returned (fg (T l))∧Below W.heap.size W w'
theorem nj.next {lo:Nat} {u:Value} {T:List Wp→Vl} {w w1:World} (h:nj lo u T w) (hb:Since lo w w1):nj lo u T w1:=by
 obtain ⟨g,cb,e,eg,hd⟩:=h;exact ⟨g,cb,e,eg,fun l a cap W hk hs hW=>hd l a cap W hk hs (hb.trans hW)⟩
theorem nj.down {lo lo':Nat} {u:Value} {T:List Wp→Vl} {w:World} (h:nj lo u T w) (hl:lo'≤lo):nj lo' u T w:=by
 obtain ⟨g,cb,e,eg,hd⟩:=h;exact ⟨g,cb,e,eg,fun l a cap W hk hs hW=>hd l a cap W hk hs (hW.up hl)⟩
def iD (af:List Int) (lo:Nat) (u:Value) (F:List Zp→Vl) (w:World):Prop :=
 ∃ g cb,u = .func (.func g) #[] cb∧(∀ args w,(callFunc g args).run Tryz.prog w = .ok (.enter g args) w) ∧
  ∀ (rows:List Zp) (a:Option Addr) (cap:Nat) (W:World),yC af rows→bP W a rows→Since lo w W →
   Calls Tryz.prog g (#[.slice a rows.length cap] ++ cb) W fun e w'=>e = .returned (fg (F rows))∧Below W.heap.size W w'
theorem iD.next {af:List Int} {lo:Nat} {u:Value} {F:List Zp→Vl} {w w1:World} (h:iD af lo u F w) (hb:Since lo w w1):iD af lo u F w1:=by
 obtain ⟨g,cb,e,eg,hd⟩:=h;exact ⟨g,cb,e,eg,fun l a cap W hk hs hW=>hd l a cap W hk hs (hb.trans hW)⟩
theorem iD.down {af:List Int} {lo lo':Nat} {u:Value} {F:List Zp→Vl} {w:World} (h:iD af lo u F w) (hl:lo'≤lo):iD af lo' u F w:=by
 obtain ⟨g,cb,e,eg,hd⟩:=h;exact ⟨g,cb,e,eg,fun l a cap W hk hs hW=>hd l a cap W hk hs (hW.up hl)⟩
theorem Dm (af:List Int) (lo:Nat) (ut uv:Value) (T:List Wp→Vl) (f:List Vl→Vl) (hfr:∀ row,et af row→bh (f row)=0∧fT (f row)) (tb vb:Nat) (a:Option Addr) (cap:Nat) (rows:List Zp) (W:World) (c0:W.cell? ⟨tb,0,none⟩=some ut) (c1:W.cell? ⟨vb,0,none⟩=some uv) (hT:nj lo ut T W) (hV:fc af lo uv f W) (hr:yC af rows) (h:bP W a rows) :
  Calls Tryz.prog 113 #[.slice a rows.length cap,.pointer (some ⟨tb,0,none⟩),.pointer (some ⟨vb,0,none⟩)] W fun e w'=>e = .returned (fg (T (cK f rows)))∧Below W.heap.size W w':=by
 have hV':=hV;obtain ⟨gv,cv,rfl,_,_⟩:=hV';have hT':=hT;obtain ⟨gt,ct,rfl,egt,dt⟩:=hT';have HDt:Hid (∀ (l:List Wp) (a:Option Addr) (cap:Nat) (W':World),CN l→gV W' a l→Since lo W W'→Calls Tryz.prog gt (#[.slice a l.length cap] ++ ct) W' fun e w'=>e = .returned (fg (T l))∧Below W'.heap.size W' w'):=dt;have HV:Hid (fc af lo (.func (.func gv) #[] cv) f W):=hV;have HW:Hid (CN (cK f rows)):=hr.known hfr;have HR:Hid (yC af rows):=hr;clear hV hT dt hr hfr;have hal:=aa W (.cells #[.int .i64 0,.int .i64 0,.string ⟨#[]⟩] 24)
 have q0:=an W #[.int .i64 0,.int .i64 0,.string ⟨#[]⟩] 24;generalize hres:T (cK f rows)=res;have HRes:Hid (T (cK f rows)=res):=hres;clear hres;go_enter Tryz.func113,Tryz.ntmps113;go_wp2_with fail
 generalize W.alloc (.cells #[.int .i64 0,.int .i64 0,.string ⟨#[]⟩] 24)=w0 at *;have d0:=(hal.cell (p:=⟨tb,0,none⟩) (Hy _ _ c0)).trans c0;have d1:=(hal.cell (p:=⟨vb,0,none⟩) (Hy _ _ c1)).trans c1;have lt0:tb<W.heap.size:=Hy _ _ c0;have lt1:vb<W.heap.size:=Hy _ _ c1
 have hCC:∀ X X':World,(X.cell? ⟨tb,0,none⟩=some (.func (.func gt) #[] ct)∧X.cell? ⟨vb,0,none⟩=some (.func (.func gv) #[] cv))→Below X.heap.size X X'→(X'.cell? ⟨tb,0,none⟩=some (.func (.func gt) #[] ct)∧X'.cell? ⟨vb,0,none⟩=some (.func (.func gv) #[] cv)):=fun X X' h hb=>⟨(hb.cell (Hy _ _ h.1)).trans h.1,(hb.cell (Hy _ _ h.2)).trans h.2⟩
 have hdr:Below w0.heap.size w0 w0.drew:=(He _ _).drew;have CW:(w0.drew.cell? ⟨tb,0,none⟩=some (.func (.func gt) #[] ct)∧w0.drew.cell? ⟨vb,0,none⟩=some (.func (.func gv) #[] cv)):=hCC _ _ ⟨d0,d1⟩ hdr;clear c0 c1;refine aG (fun X=>(X.cell? ⟨tb,0,none⟩=some (.func (.func gt) #[] ct)∧X.cell? ⟨vb,0,none⟩=some (.func (.func gv) #[] cv))) (by kernel_rfl) ?_;refine ab hCC 5 (i:=0) (v:=.func (.func gt) #[] ct) (fun n hn=>?_) CW ?_
 ·have hc:=hn.1;go_simp
 simp only [Act.put,pA,pB,pC];refine ab hCC 6 (i:=1) (v:=.slice a rows.length cap) (fun n hn=>?_) CW ?_
 ·go_simp
 simp only [Act.put,pA,pB,pC];refine ab hCC 7 (i:=2) (v:=.func (.func gv) #[] cv) (fun n hn=>?_) CW ?_
 ·have hc:=hn.2;go_simp
 simp only [Act.put,pA,pB,pC];refine au (rs:=[3]) (by kernel_rfl) (by simp) ?_;intro w3 hb3 jj hj;obtain rfl:jj=3:=by simpa using hj
 clear hj;have CW3:=hCC _ _ CW hb3;have D3:=chain hal (chain hdr hb3);have con:=Ch af lo _ f a cap rows w3 (HV.out.next (Since.of D3)) (h.next D3) HR.out.fit HR.out.len;refine wpOp_step rfl (fun K hK=>?_);go_simp;refine con.mono ?_;rintro e w4 ⟨v4,rfl,O4,hb4⟩;clear con;obtain ⟨a4,c4,rfl,S4⟩:=EW O4;have CW4:=hCC _ _ CW3 hb4;have D4:=chain D3 hb4;refine hK _ _ ⟨CW4,?_⟩;clear hK K O4;refine au (rs:=[4]) (by kernel_rfl) (by simp) ?_;intro w5 hb5 jj hj;obtain rfl:jj=4:=by simpa using hj
 clear hj;have CW5:=hCC _ _ CW4 hb5;have D5:=chain D4 hb5;have con:=HDt.out (cK f rows) a4 c4 w5 HW.out (S4.next hb5) (Since.of D5);rw [HRes.out] at con;refine wpOp_step rfl (fun K hK=>?_);go_simp
 first | (refine con.mono ?_) | (go_at_fn gt; refine con.mono ?_)
 rintro e w6 ⟨rfl,hb6⟩;clear con;have CW6:=hCC _ _ CW5 hb6;have D6:=chain D5 hb6;refine hK _ _ ⟨CW6,?_⟩;clear hK K;refine au (rs:=[5]) (by kernel_rfl) (by simp) ?_;intro w7 hb7 jj hj;obtain rfl:jj=5:=by simpa using hj
 clear hj;have CW7:=hCC _ _ CW6 hb7;have D7:=chain D6 hb7;have q7:w7.heap[W.heap.size]? = some (.cells #[.int .i64 0,.int .i64 0,.string ⟨#[]⟩] 24 (0,0)):=((chain hdr (chain hb3 (chain hb4 (chain hb5 (chain hb6 hb7))))).block _ (ae q0)).trans q0;have e0:w7.cell? ⟨W.heap.size,0,none⟩=some (.int .i64 0):=cell_of (i:=0) q7 rfl;have e1:w7.cell? ⟨W.heap.size,1,none⟩=some (.int .i64 0):=cell_of (i:=1) q7 rfl;have e2:w7.cell? ⟨W.heap.size,2,none⟩=some (.string ⟨#[]⟩):=cell_of (i:=2) q7 rfl;have f0:w7.frozen? ⟨W.heap.size,0,none⟩=false:=Hh w7 W.heap.size 0 _ _ q7
 have f1:w7.frozen? ⟨W.heap.size,1,none⟩=false:=Hh w7 W.heap.size 1 _ _ q7;have f2:w7.frozen? ⟨W.heap.size,2,none⟩=false:=Hh w7 W.heap.size 2 _ _ q7;have ne0:∀ o u (X:World),(X.setCell ⟨W.heap.size,o,none⟩ u).cell? ⟨tb,0,none⟩=X.cell? ⟨tb,0,none⟩:=fun o u X=>Hq _ _ _ _ (by intro e; injection e with e; omega)
 have ne1:∀ o u (X:World),(X.setCell ⟨W.heap.size,o,none⟩ u).cell? ⟨vb,0,none⟩=X.cell? ⟨vb,0,none⟩:=fun o u X=>Hq _ _ _ _ (by intro e; injection e with e; omega)
 unfold fg;refine wpOp_step rfl (fun K hK=>?_);go_simp;refine hK _ _ ⟨⟨by rw [ne0,ne0,ne0]; exact CW7.1,by rw [ne1,ne1,ne1]; exact CW7.2⟩,?_⟩;clear hK K CW3 CW4 CW5 CW6;have B8:Below W.heap.size W (((w7.setCell ⟨W.heap.size,0,none⟩ (.int .i64 res.1)).setCell ⟨W.heap.size,1,none⟩ (.int .i64 res.2.1)).setCell ⟨W.heap.size,2,none⟩ (.string res.2.2)):=((D7.setCell (p:=⟨W.heap.size,0,none⟩) (Hd _) _).setCell (p:=⟨W.heap.size,1,none⟩) (Hd _) _).setCell (p:=⟨W.heap.size,2,none⟩) (Hd _) _
 have g0:(((w7.setCell ⟨W.heap.size,0,none⟩ (.int .i64 res.1)).setCell ⟨W.heap.size,1,none⟩ (.int .i64 res.2.1)).setCell ⟨W.heap.size,2,none⟩ (.string res.2.2)).cell? ⟨W.heap.size,0,none⟩=some (.int .i64 res.1):=by simp [go_sem,e0]
 have g1:(((w7.setCell ⟨W.heap.size,0,none⟩ (.int .i64 res.1)).setCell ⟨W.heap.size,1,none⟩ (.int .i64 res.2.1)).setCell ⟨W.heap.size,2,none⟩ (.string res.2.2)).cell? ⟨W.heap.size,1,none⟩=some (.int .i64 res.2.1):=by simp [go_sem,e1]
 have g2:(((w7.setCell ⟨W.heap.size,0,none⟩ (.int .i64 res.1)).setCell ⟨W.heap.size,1,none⟩ (.int .i64 res.2.1)).setCell ⟨W.heap.size,2,none⟩ (.string res.2.2)).cell? ⟨W.heap.size,2,none⟩=some (.string res.2.2):=by simp [go_sem,e2]
 have l8:W.heap.size<(((w7.setCell ⟨W.heap.size,0,none⟩ (.int .i64 res.1)).setCell ⟨W.heap.size,1,none⟩ (.int .i64 res.2.1)).setCell ⟨W.heap.size,2,none⟩ (.string res.2.2)).heap.size:=Hy _ _ g0;clear e0 e1 e2 f0 f1 f2 q7 CW7 ne0 ne1;generalize (((w7.setCell ⟨W.heap.size,0,none⟩ (.int .i64 res.1)).setCell ⟨W.heap.size,1,none⟩ (.int .i64 res.2.1)).setCell ⟨W.heap.size,2,none⟩ (.string res.2.2))=w8 at *;refine bd (by kernel_rfl) ?_;intro w9 hb9;have k0:=(hb9.cell (p:=⟨W.heap.size,0,none⟩) l8).trans g0;have k1:=(hb9.cell (p:=⟨W.heap.size,1,none⟩) l8).trans g1
 have k2:=(hb9.cell (p:=⟨W.heap.size,2,none⟩) l8).trans g2;have B9:=chain B8 hb9;clear g0 g1 g2 CW hCC;go_wp2
 exact Hf (v:=.agg #[.int .i64 res.1,.int .i64 res.2.1,.string res.2.2]) (by simp [results,Tryz.results113,go_sem,k0,k1,k2]) rfl ⟨rfl,B9⟩
def pF (af:List Int) (lo:Nat) (W:World) (kb:Nat) (Fs:List (List Zp→Vl)):Prop :=
 ∃ K,lo≤kb∧kb<W.heap.size∧lo≤K∧K<W.heap.size∧W.cell? ⟨kb,0,none⟩=some (.slice (some ⟨K,0,none⟩) Fs.length Fs.length) ∧
  ∀ (i:Nat) (h:i<Fs.length),∃ u,W.cell? ⟨K,i,none⟩=some u∧iD af lo u Fs[i] W
theorem pF.next {af:List Int} {lo:Nat} {W w1:World} {kb:Nat} {Fs:List (List Zp→Vl)} (h:pF af lo W kb Fs) (hb:Since lo W w1):pF af lo w1 kb Fs:=by
 obtain ⟨K,h1,h2,h3,h4,h5,h6⟩:=h;refine ⟨K,h1,Hi h2 hb.1,h3,Hi h4 hb.1,(hb.cell (p:=⟨kb,0,none⟩) h1 h2).trans h5,fun i hi=>?_⟩;obtain ⟨u,c,a⟩:=h6 i hi;exact ⟨u,(hb.cell (p:=⟨K,i,none⟩) h3 h4).trans c,a.next hb⟩
theorem DJ (af:List Int) (lo:Nat) (vb:Nat) (Fs:List (List Zp→Vl)) (a:Option Addr) (rows:List Zp) (cap:Nat) (W:World) (hK:pF af lo W vb Fs) (h8:Fs.length≤8) (hr:yC af rows) (hs:bP W a rows) :
  Calls Tryz.prog 115 #[.slice a rows.length cap,.pointer (some ⟨vb,0,none⟩)] W fun e w'=>e = .returned (.slice (some ⟨W.heap.size,0,none⟩) Fs.length Fs.length)∧kt W.heap.size w' (Fs.map fun F=>F rows)∧Below W.heap.size W w':=by
 obtain ⟨i0,hi,hz0,hz1,hz2⟩:=info_parts Tryz.oU;obtain ⟨K,k1,k2,k3,k4,k5,k6⟩:=hK;have HK:Hid (∀ (i:Nat) (h:i<Fs.length),∃ u,W.cell? ⟨K,i,none⟩=some u∧iD af lo u Fs[i] W):=k6;go_enter Tryz.func115,Tryz.ntmps115;go_wp2_with (first | (at_make; refine wpList_make_full _ rfl _ _ 61 rfl W.heap.size 24 i0 _ 3 Tryz.underlying61 hi hz0 hz1 .i64 .i64 Fs.length Fs.length Fs.length rfl rfl rfl rfl (by rw [hz2]; omega) (by unfold maxLen; omega) (Hd _) ?_))
 intro w1 hown hgrow;have hb0:Below W.heap.size W w1:=(He _ _).grown hgrow (Hd _) (by simp);have hB0:wG w1 W.heap.size Fs.length (fun j=>(Fs.getD j (fun _=>fV)) rows) 0:=⟨_,hown,fun j _ hj=>absurd hj (Iu _)⟩
 have c1:=(hb0.cell (p:=⟨vb,0,none⟩) k2).trans k5;clear hown hgrow k5 k6;go_wp2_with fail
 clear c1;go_loopw [12] (fun i wr=>∃ k:Nat,k≤Fs.length∧i = .int .i64 k∧wG wr W.heap.size Fs.length (fun j=>(Fs.getD j (fun _=>fV)) rows) k∧Below W.heap.size W wr) (fun i _=>Fs.length - (intOf i).toNat)
 case atStart=>exact ⟨0,Hl _,rfl,hB0,hb0⟩
 case round =>
  obtain ⟨k,hk,rfl,HB,hb⟩:=hrel;have hz:=hb.size;by_cases hlt:k<Fs.length
  ·obtain ⟨u,cu,A⟩:=HK.out k hlt;have cu:=(hb.cell (p:=⟨K,k,none⟩) k4).trans cu;obtain ⟨g,cb,rfl,eg,d⟩:=A;have d:=d rows a cap wr hr (hs.next hb) (Since.of hb);have ev:Fs[k] rows=(fun j=>(Fs.getD j (fun _=>fV)) rows) k:=by simp [List.getD,hlt]
   rw [ev] at d;generalize (fun j=>(Fs.getD j (fun _=>fV)) rows)=f at *;have i0:(0:Int)≤(k:Int):=by omega
   have i1:(k:Int)<(Fs.length:Int):=by omega
   go_wp2_with (go_at_fn g; refine d.mono ?_; rintro e w2 ⟨rfl,hb2⟩; have HB2:=HB.next hb2; obtain ⟨⟨u0,u1,u2,d0,d1,d2⟩,f0,f1,f2,hlb⟩:=HB2.cells hlt; have zz:=hb2.size)
   go_roundw
   case rel =>
    refine ⟨k+1,by omega,by go_num,?_,?_⟩
    ·exact HB2.step hlt
    ·exact (((chain hb hb2).setCell (p:=⟨W.heap.size,k*3,none⟩) (Hd _) _).setCell (p:=⟨W.heap.size,k*3+1,none⟩) (Hd _) _).setCell (p:=⟨W.heap.size,k*3+2,none⟩) (Hd _) _
   case measure=>simp [intOf]; omega
  ·have e:k=Fs.length:=by omega
   subst e;go_wp2
   go_ret;exact ⟨rfl,HB.done (Fs.map fun F:List Zp→Vl=>F rows) (by simp) (fun j hj=>by simp at hj; simp [List.getD,hj]) (by simp; omega),hb⟩
abbrev Ag:Type:=Int × Ex
def bT (af:List Int) (g:Ag):Int:=if g.1=1 then 0 else if g.1<2∨5<g.1 then 1 else if (ak af g.2).2≠0 then (ak af g.2).2 else if g.1=3∧(ak af g.2).1≠3∧(ak af g.2).1≠1 then 9 else 0
def eY (g:Ag):List Vl→Vl:=if g.1=1 then fun _=>(2,1,⟨#[]⟩) else fun row=>bq row g.2
theorem sI {af:List Int} {g:Ag} (h:bT af g=0):∀ row,et af row→bh (eY g row)=0∧fT (eY g row):=by
 intro row hf;unfold eY
 split
 ·exact ⟨by simp [bh,aR],rfl⟩
 ·rename_i h1
  unfold bT at h;rw [if_neg h1] at h;by_cases h2:g.1<2∨5<g.1
  ·rw [if_pos h2] at h; cases h
  ·rw [if_neg h2] at h;by_cases h3:(ak af g.2).2=0
   ·exact ⟨(rf hf g.2 _ (Cl h3)).1,Af row g.2⟩
   ·rw [if_pos h3] at h; exact absurd h h3
def nr:List Wp→Int
 | []=>0
 | p :: r=>p.2*p.1.2.1+nr r
def E8 (l:List Wp):Vl:=if l = [] then (1,0,⟨#[]⟩) else if mf (nr l)=true then (3,nr l,⟨#[]⟩) else (1,0,⟨#[]⟩)
def Dn:List Wp→Vl
 | []=>(1,0,⟨#[]⟩)
 | p :: r=>r.foldl (fun m x=>if dg x.1 m<0 then x.1 else m) p.1
def DN:List Wp→Vl
 | []=>(1,0,⟨#[]⟩)
 | p :: r=>r.foldl (fun m x=>if 0<dg x.1 m then x.1 else m) p.1
def eQ (k:Int) (l:List Wp):Vl:=if k=3 then E8 l else if k=4 then Dn l else if k=5 then DN l else countP l
def gU (g:Ag) (rows:List Zp):Vl:=eQ g.1 (cK (eY g) rows)
def cN (af:List Int):List Ag→Int
 | []=>0
 | g :: r=>if bT af g=0 then cN af r else bT af g
theorem uK (af:List Int) (gs:List Ag) (j:Nat) (h:j<gs.length) (h0:bT af gs[j]=0):cN af (gs.drop j)=cN af (gs.drop (j+1)):=by
 rw [Hk h,cN,if_pos h0]
theorem zy (af:List Int) (gs:List Ag) (j:Nat) (h:j<gs.length) (h0:¬ bT af gs[j]=0):cN af (gs.drop j)=bT af gs[j]:=by
 rw [Hk h,cN,if_neg h0]
def fJ (B:Nat) (W:World) (a:Option Addr) (l:List Ag):Prop:=l = []∨∃ (b off:Nat) (ai:Nat→Option Addr) (cap:Nat→Nat),a=some ⟨b,off,none⟩∧b<B∧∀ (i:Nat) (h:i<l.length),W.cell? ⟨b,off+i*7,none⟩=some (.int .i64 l[i].1)∧ik W b (off+i*7+1) l[i].2.k l[i].2.v l[i].2.c (ai i) l[i].2.ks.length (cap i)∧aO B W (ai i) l[i].2.ks
theorem fJ.next {B B':Nat} {W w1:World} (hb:Below B' W w1) (hB:B≤B') {a:Option Addr} {l:List Ag} (h:fJ B W a l):fJ B w1 a l:=by
 rcases h with h | ⟨b,off,ai,cap,e,hlt,h⟩
 ·exact .inl h
 ·refine .inr ⟨b,off,ai,cap,e,hlt,fun i hi=>?_⟩;obtain ⟨h1,h2,h3⟩:=h i hi;exact ⟨(hb.cell (p:=⟨b,_,none⟩) (Hi hlt hB)).trans h1,h2.next hb (Hi hlt hB),aO.next hb hB h3⟩
theorem fJ.up {B B':Nat} {W:World} (hB:B≤B') {a:Option Addr} {l:List Ag} (h:fJ B W a l):fJ B' W a l:=by
 rcases h with h | ⟨b,off,ai,cap,e,hlt,h⟩
 ·exact .inl h
 ·refine .inr ⟨b,off,ai,cap,e,Hi hlt hB,fun i hi=>?_⟩;obtain ⟨h1,h2,h3⟩:=h i hi;exact ⟨h1,h2,h3.up hB⟩
theorem fJ.elem {B:Nat} {W:World} {a:Option Addr} {l:List Ag} (h:fJ B W a l) {i:Nat} (hi:i<l.length):∃ b off ai ci,a=some ⟨b,off,none⟩∧b<B∧W.cell? ⟨b,off+i*7,none⟩=some (.int .i64 l[i].1)∧ik W b (off+i*7+1) l[i].2.k l[i].2.v l[i].2.c ai l[i].2.ks.length ci∧aO B W ai l[i].2.ks:=by
 rcases h with h | ⟨b,off,ai,cap,e,hlt,h⟩
 ·subst h; simp at hi
 ·exact ⟨b,off,ai i,cap i,e,hlt,h i hi⟩
theorem Cv (a:Option Addr) (n cap:Nat) (w:World):Calls Tryz.prog 147 #[.slice a n cap] w fun e w'=>e = .returned (.agg #[.int .i64 2,.int .i64 1,.string ⟨#[]⟩])∧Below w.heap.size w w':=by
 have hal:=aa w (.cells #[.int .i64 0,.int .i64 0,.string ⟨#[]⟩] 24);have q0:=an w #[.int .i64 0,.int .i64 0,.string ⟨#[]⟩] 24;go_enter Tryz.func147,Tryz.ntmps147;go_wp2_with fail
 generalize w.alloc (.cells #[.int .i64 0,.int .i64 0,.string ⟨#[]⟩] 24)=w0 at *;refine (iJ w0).mono ?_;rintro e w2 ⟨rfl,hb2⟩;have q2:=(hb2.block _ (ae q0)).trans q0;have d0:w2.cell? ⟨w.heap.size,0,none⟩=some (.int .i64 0):=cell_of (i:=0) q2 rfl;have d1:w2.cell? ⟨w.heap.size,1,none⟩=some (.int .i64 0):=cell_of (i:=1) q2 rfl;have d2:w2.cell? ⟨w.heap.size,2,none⟩=some (.string ⟨#[]⟩):=cell_of (i:=2) q2 rfl;have f0:w2.frozen? ⟨w.heap.size,0,none⟩=false:=Hh w2 w.heap.size 0 _ _ q2;have f1:w2.frozen? ⟨w.heap.size,1,none⟩=false:=Hh w2 w.heap.size 1 _ _ q2
 have f2:w2.frozen? ⟨w.heap.size,2,none⟩=false:=Hh w2 w.heap.size 2 _ _ q2;have hA2:=chain hal hb2;go_wp2
 exact Hf (v:=.agg #[.int .i64 2,.int .i64 1,.string ⟨#[]⟩]) (by simp [results,Tryz.results147,go_sem,d0,d1,d2]) rfl ⟨rfl,((hA2.setCell (p:=⟨w.heap.size,0,none⟩) (Hd _) _).setCell (p:=⟨w.heap.size,1,none⟩) (Hd _) _).setCell (p:=⟨w.heap.size,2,none⟩) (Hd _) _⟩
theorem pj (af:List Int) (g:Ag) (ca:Option Addr) (ccap:Nat) (a:Option Addr) (cap:Nat) (w:World) (hk:aO w.heap.size w a g.2.ks) (hc:bo w.heap.size w ca af) (h:bT af g=0) :
  Calls Tryz.prog 111 #[.slice ca af.length ccap,.agg #[.int .i64 g.1,.int .i64 g.2.k,.int .i64 g.2.v.1,.int .i64 g.2.v.2.1,.string g.2.v.2.2,.int .i64 g.2.c,.slice a g.2.ks.length cap]] w fun e w'=>∃ u,e = .returned (.tuple #[u,.int .i64 0])∧fc af w.heap.size u (eY g) w'∧Below w.heap.size w w':=by
 have hal:=aa w (.cells #[.int .i64 g.1,.int .i64 g.2.k,.int .i64 g.2.v.1,.int .i64 g.2.v.2.1,.string g.2.v.2.2,.int .i64 g.2.c,.slice a g.2.ks.length cap] 67);have q0:=an w #[.int .i64 g.1,.int .i64 g.2.k,.int .i64 g.2.v.1,.int .i64 g.2.v.2.1,.string g.2.v.2.2,.int .i64 g.2.c,.slice a g.2.ks.length cap] 67;by_cases h1:g.1=1
 ·have hF:eY g=fun _=>(2,1,⟨#[]⟩):=by unfold eY; rw [if_pos h1]
  have HF:Hid (eY g=fun _=>(2,1,⟨#[]⟩)):=hF;clear hF h;rw [h1] at hal;generalize eY g=F at *;go_enter Tryz.func111,Tryz.ntmps111;go_wp2_with fail
  exact Hf (v:=.tuple #[.func (.func 147) #[] #[],.int .i64 0]) (by simp [results,Tryz.results111,go_sem]) rfl ⟨_,rfl,by
   rw [HF.out];exact ⟨147,#[],rfl,enters_of Tryz.func147 (by kernel_rfl) rfl,fun row a cap W _ _ _=>by simpa [fg] using Cv a row.length cap W⟩,hal⟩
 ·have hF:eY g=fun row=>bq row g.2:=by unfold eY; rw [if_neg h1]
  have HF:Hid (eY g=fun row=>bq row g.2):=hF;have h2:¬ (g.1<2∨5<g.1):=fun h2=>by unfold bT at h; rw [if_neg h1,if_pos h2] at h; cases h
  have h3:(ak af g.2).2=0:=Classical.byContradiction fun h3=>by unfold bT at h; rw [if_neg h1,if_neg h2,if_pos h3] at h; exact h3 h
  have h4:g.1=3→(ak af g.2).1=3∨(ak af g.2).1=1:=fun e=>by
   unfold bT at h;rw [if_neg h1,if_neg h2,if_neg (by simpa using h3)] at h;by_cases h5:(ak af g.2).1=3
   ·exact .inl h5
   ·by_cases h6:(ak af g.2).1=1
    ·exact .inr h6
    ·rw [if_pos ⟨e,h5,h6⟩] at h; cases h
  have con:=gN af g.2 ca ccap a cap _ ((aO.next hal (Hd _) hk).up hal.size) ((hc.next hal (Hd _)).up hal.size) h3;have hk4:g.1=2∨g.1=3∨g.1=4∨g.1=5:=by omega
  clear hF h h3 h2 h1;generalize eY g=F at *;generalize (ak af g.2).1=t at *;unfold iY at con;go_enter Tryz.func111,Tryz.ntmps111;generalize hk1:g.1=kd at *;clear hk1;have main:(kd=2∨kd=4∨kd=5)∨(kd=3∧(t=3∨t=1)):=by
   rcases hk4 with e | e | e | e
   ·exact .inl (.inl e)
   ·exact .inr ⟨e,h4 e⟩
   ·exact .inl (.inr (.inl e))
   ·exact .inl (.inr (.inr e))
  clear hk4 h4;rcases main with (rfl | rfl | rfl) | ⟨rfl,rfl | rfl⟩
  all_goals (
   go_wp2_with fail
   generalize w.alloc (.cells #[_,.int .i64 g.2.k,.int .i64 g.2.v.1,.int .i64 g.2.v.2.1,.string g.2.v.2.2,.int .i64 g.2.c,.slice a g.2.ks.length cap] 67)=w1 at *;refine con.mono ?_;rintro e w2 ⟨u,rfl,hA2,hb2⟩;have hA:=chain hal hb2;have q2:=(hb2.block _ (ae q0)).trans q0;have c0:=cell_of (i:=0) q2 rfl;clear con;have hA2:=hA2.down hal.size;obtain ⟨g',cb,rfl⟩:∃ g' cb,u = .func (.func g') #[] cb:=by obtain ⟨g',cb,e,_⟩:=hA2; exact ⟨g',cb,e⟩
   dsimp only;go_wp2_with fail
   exact Hf (v:=.tuple #[.func (.func g') #[] cb,.int .i64 0]) (by simp [results,Tryz.results111,go_sem]) rfl ⟨_,rfl,by rw [HF.out]; exact hA2,hA⟩)
end Go.Proofs.YtjebpkhkjkjphaaGreat
namespace Go.Proofs.YtjebpkhkjkjphaaGreat
open Go.RowKit
set_option maxRecDepth 100000
set_option maxHeartbeats 16000000
inductive Pl where
 | mk (k n:Int) (x:Ex) (xs:List Ex) (gs:List Ag) (ks:List Pl)
def Pl.k:Pl→Int | .mk k _ _ _ _ _=>k
def Pl.n:Pl→Int | .mk _ n _ _ _ _=>n
def Pl.x:Pl→Ex | .mk _ _ x _ _ _=>x
def Pl.xs:Pl→List Ex | .mk _ _ _ xs _ _=>xs
def Pl.gs:Pl→List Ag | .mk _ _ _ _ gs _=>gs
def Pl.ks:Pl→List Pl | .mk _ _ _ _ _ ks=>ks
mutual
theorem Pl.ind {P:Pl→Prop} (h:∀ k n x xs gs ks,(∀ p ∈ ks,P p)→P (.mk k n x xs gs ks)):∀ p,P p
 | .mk k n x xs gs ks=>h k n x xs gs ks (Pl.Cx h ks)
theorem Pl.Cx {P:Pl→Prop} (h:∀ k n x xs gs ks,(∀ p ∈ ks,P p)→P (.mk k n x xs gs ks)):∀ ks:List Pl,∀ p ∈ ks,P p
 | [],_,hx=>by simp at hx
 | y :: r,x,hx=>by
  rcases List.mem_cons.mp hx with e | hx
  ·exact e ▸ Pl.ind h y
  ·exact Pl.Cx h r x hx
end
structure Pw where
 xa:Option Addr
 xc:Nat
 sa:Option Addr
 sc:Nat
 ga:Option Addr
 gc:Nat
 ka:Option Addr
 kc:Nat
abbrev gq (p:Pl) (q:Pw):Array Value:=#[.int .i64 p.k,.int .i64 p.n,.int .i64 p.x.k,.int .i64 p.x.v.1,.int .i64 p.x.v.2.1,.string p.x.v.2.2,.int .i64 p.x.c,.slice q.xa p.x.ks.length q.xc,.slice q.sa p.xs.length q.sc,.slice q.ga p.gs.length q.gc,.slice q.ka p.ks.length q.kc]
abbrev GM (p:Pl) (q:Pw) (ca:Option Addr) (n cc:Nat) (na:Option Addr) (m nc:Nat):Array Value:=#[.int .i64 p.k,.int .i64 p.n,.int .i64 p.x.k,.int .i64 p.x.v.1,.int .i64 p.x.v.2.1,.string p.x.v.2.2,.int .i64 p.x.c,.slice q.xa p.x.ks.length q.xc,.slice q.sa p.xs.length q.sc,.slice q.ga p.gs.length q.gc,.slice q.ka p.ks.length q.kc,.slice ca n cc,.slice na m nc]
structure gQ (W:World) (b off:Nat) (p:Pl) (q:Pw):Prop where
 c0:W.cell? ⟨b,off,none⟩=some (.int .i64 p.k)
 c1:W.cell? ⟨b,off+1,none⟩=some (.int .i64 p.n)
 qA:ik W b (off+2) p.x.k p.x.v p.x.c q.xa p.x.ks.length q.xc
 c8:W.cell? ⟨b,off+8,none⟩=some (.slice q.sa p.xs.length q.sc)
 c9:W.cell? ⟨b,off+9,none⟩=some (.slice q.ga p.gs.length q.gc)
 dW:W.cell? ⟨b,off+10,none⟩=some (.slice q.ka p.ks.length q.kc)
theorem gQ.next {B:Nat} {W w1:World} {b off:Nat} {p:Pl} {q:Pw} (h:gQ W b off p q) (hb:Below B W w1) (hB:b<B):gQ w1 b off p q :=
 ⟨(hb.cell (p:=⟨b,_,none⟩) hB).trans h.c0,(hb.cell (p:=⟨b,_,none⟩) hB).trans h.c1,h.qA.next hb hB,(hb.cell (p:=⟨b,_,none⟩) hB).trans h.c8,(hb.cell (p:=⟨b,_,none⟩) hB).trans h.c9,(hb.cell (p:=⟨b,_,none⟩) hB).trans h.dW⟩
theorem gQ.mz {t:Nat} {W w1:World} {b off:Nat} {p:Pl} {q:Pw} (h:gQ W b off p q) (hb:aM t W w1) (hB:b<W.heap.size) (hn:b≠t):gQ w1 b off p q :=
 ⟨(hb.cell (p:=⟨b,_,none⟩) hB hn).trans h.c0,(hb.cell (p:=⟨b,_,none⟩) hB hn).trans h.c1,h.qA.mz hb hB hn,(hb.cell (p:=⟨b,_,none⟩) hB hn).trans h.c8,(hb.cell (p:=⟨b,_,none⟩) hB hn).trans h.c9,(hb.cell (p:=⟨b,_,none⟩) hB hn).trans h.dW⟩
inductive gS (B:Nat) (W:World):Option Addr→List Pl→Prop
 | nil (a:Option Addr):gS B W a []
 | some (b off:Nat) (l:List Pl) (q:Nat→Pw) (hb:b<B)
   (hc:∀ (i:Nat) (h:i<l.length),gQ W b (off+i*11) l[i] (q i))
   (hx:∀ (i:Nat) (h:i<l.length),aO B W (q i).xa l[i].x.ks)
   (hs:∀ (i:Nat) (h:i<l.length),aO B W (q i).sa l[i].xs)
   (hg:∀ (i:Nat) (h:i<l.length),fJ B W (q i).ga l[i].gs)
   (hk:∀ (i:Nat) (h:i<l.length),gS B W (q i).ka l[i].ks):gS B W (some ⟨b,off,none⟩) l
theorem gS.next {B B':Nat} {W w1:World} (hb:Below B' W w1) (hB:B≤B') {a:Option Addr} {l:List Pl} (h:gS B W a l):gS B w1 a l:=by
 induction h with
 | nil a=>exact .nil a
 | some b off l q hlt hc hx hs hg _ ih=>exact .some b off l q hlt (fun i hi=>(hc i hi).next hb (Hi hlt hB)) (fun i hi=>aO.next hb hB (hx i hi)) (fun i hi=>aO.next hb hB (hs i hi)) (fun i hi=>fJ.next hb hB (hg i hi)) ih
theorem gS.up {B B':Nat} {W:World} (hB:B≤B') {a:Option Addr} {l:List Pl} (h:gS B W a l):gS B' W a l:=by
 induction h with
 | nil a=>exact .nil a
 | some b off l q hlt hc hx hs hg _ ih=>exact .some b off l q (Hi hlt hB) hc (fun i hi=>(hx i hi).up hB) (fun i hi=>(hs i hi).up hB) (fun i hi=>(hg i hi).up hB) ih
structure ki (B:Nat) (W:World) (p:Pl) (q:Pw):Prop where
 x:aO B W q.xa p.x.ks
 xs:aO B W q.sa p.xs
 gs:fJ B W q.ga p.gs
 ks:gS B W q.ka p.ks
theorem ki.next {B B':Nat} {W w1:World} {p:Pl} {q:Pw} (h:ki B W p q) (hb:Below B' W w1) (hB:B≤B'):ki B w1 p q:=⟨aO.next hb hB h.x,aO.next hb hB h.xs,fJ.next hb hB h.gs,gS.next hb hB h.ks⟩
theorem ki.up {B B':Nat} {W:World} {p:Pl} {q:Pw} (h:ki B W p q) (hB:B≤B'):ki B' W p q:=⟨h.x.up hB,h.xs.up hB,h.gs.up hB,h.ks.up hB⟩
theorem gS.elem {B:Nat} {W:World} {a:Option Addr} {l:List Pl} (h:gS B W a l) {k:Nat} (hk:k<l.length) :
  ∃ b off q,a=Option.some ⟨b,off,none⟩∧b<B∧gQ W b (off+k*11) l[k] q∧ki B W l[k] q:=by
 cases h with
 | nil=>simp at hk
 | some b off l q hlt hc hx hs hg hh=>exact ⟨b,off,q k,rfl,hlt,hc k hk,⟨hx k hk,hs k hk,hg k hk,hh k hk⟩⟩
end Go.Proofs.YtjebpkhkjkjphaaGreat
namespace Go.Proofs.YtjebpkhkjkjphaaGreat
open Go.RowKit Go.Lib Go.Shelf
set_option maxRecDepth 100000
set_option maxHeartbeats 16000000
theorem Gk:(Tryz.prog.info? 129).map (fun i=>(i.zero,i.size,i.bytes))=some (some (.agg #[.slice none 0 0,.slice none 0 0]),2,48):=by kernel_rfl
theorem yx (a:Option Addr) (cap:Nat) (L:List Kp) (w:World) (h:pr w a L) (hl:L.length≤400) :
  Calls Tryz.prog 84 #[.slice a L.length cap] w fun e w'=>∃ v,e = .returned v∧jq w w.heap.size w' v (cI L)∧Below w.heap.size w w':=by
 obtain ⟨i0,hi,hj0,hj1,hj2⟩:=info_parts Tryz.i5;obtain ⟨ip,hip,hp0,hp1,hp2⟩:=info_parts Gk;go_enter Tryz.func84,Tryz.ntmps84;go_wp2_with fail
 go_loopw [3,9] (fun v i wr=>∃ k:Nat,k≤L.length∧i = .int .i64 k∧jq w w.heap.size wr v (cI (L.take k))∧Below w.heap.size w wr) (fun _ i _=>L.length - (intOf i).toNat)
 case atStart=>exact ⟨0,Hl _,rfl,jq.nil _ _ _ (Hd _),He _ _⟩
 case round =>
  obtain ⟨k,hk,rfl,HPs,hb⟩:=hrel;have hz:=hb.size;by_cases hlt:k<L.length
  ·obtain ⟨b,off,rfl,hbl,e2,⟨ra,rc,e1,sr⟩,ka,kc,e0,sk⟩:=h.elem hlt;have p2:=(hb.cell (p:=⟨b,_,none⟩) hbl).trans e2;have p1:=(hb.cell (p:=⟨b,_,none⟩) hbl).trans e1;have p0:=(hb.cell (p:=⟨b,_,none⟩) hbl).trans e0;have hbl':b<wr.heap.size:=Hi hbl hz;have HSr:Hid (aY w ra L[k].2.1):=sr;have HSk:Hid (aY w ka L[k].1):=sk;have HT:Hid (cI (L.take (k+1))=jC (cQ (cI (L.take k)) L[k]) L[k].2):=wv hlt;have hsz:=mL (L.take k);rw [Ij] at hsz;have HSm:Hid (∀ p ∈ cI (L.take k),p.2.length≤400):=fun p hp=>by have:=hsz.2 p hp; omega
   have hpn:(cI (L.take k)).length≤400:=by have:=hsz.1; omega
   obtain ⟨va,vc,ev⟩:∃ va vc,u3 = .slice va (cI (L.take k)).length vc:=by obtain ⟨_,_,_,_,I⟩:=HPs; exact dy I.own
   subst ev;have hal:=aa wr (.cells #[.slice ka L[k].1.length kc,.slice ra L[k].2.1.length rc,.int .i64 L[k].2.2] 132);have q0:=an wr #[.slice ka L[k].1.length kc,.slice ra L[k].2.1.length rc,.int .i64 L[k].2.2] 132;have hbk:=chain hb hal;have HPk:=HPs.next hal;clear e0 e1 e2 sr sk hsz HPs;go_upto_region 5 with fail
   clear p0 p1 p2;generalize wr.alloc (.cells #[.slice ka L[k].1.length kc,.slice ra L[k].2.1.length rc,.int .i64 L[k].2.2] 132)=wk at *;obtain ⟨ps,eps⟩:∃ ps,ps=cI (L.take k):=⟨_,rfl⟩
   by_cases h0:ps.length=0
   ·have HOp:Hid (cQ (cI (L.take k)) L[k]=ps ++ [(L[k].1,[])]):=by show _=_; rw [← eps]; exact xV h0 _
    rw [← eps] at HPk HSm hpn ⊢;clear eps;obtain rfl:ps = []:=Hs h0;haveI:Nonempty (du wk):=⟨⟨wk,He _ _⟩⟩
    refine aI (by kernel_rfl) (by kernel_rfl) ?_
    repeat (go_big_quiet_step (fail))
    refine wpQuiet_nil ?_;rintro wq ⟨⟨v7,hb7⟩,h7⟩;obtain rfl:wq=v7:=h7;have HPq:=HPk.next hb7;have hbq:=chain hbk hb7;have qq:=(hb7.block _ (ae q0)).trans q0;clear HPk h0;obtain ⟨xs,Bl,rv,zs,In⟩:=HPq;have ho:=In.own;have HInq:Hid (jo w w.heap.size wq (.slice va 0 vc) ([]:List Pt) xs Bl rv zs):=In;have kq:wq.cell? ⟨wr.heap.size,0,none⟩=some (.slice ka L[k].1.length kc):=cell_of (i:=0) qq rfl;have hzq:=hbq.size;clear In
    go_wp2_with (first | (at_builtin; refine IK _ rfl _ _ 124 rfl w.heap.size 129 ip _ 2 48 Tryz.underlying124 hip hp0 hp1 hp2 rfl (by decide) _ _ _ rfl (ho.alloc _) ⟨wq.heap.size,0,none⟩ 1 1 [.slice ka L[k].1.length kc,.slice none 0 0] rfl rfl ?Bc1 ?Bc2 ?Bc3 ?Bc4 ?Bc5 ?_))
    case Bc1 =>
     intro i u hu
     match i,hu with
     | 0,hu=>simp at hu; subst hu; simp [Addr.add]
     | 1,hu=>simp at hu; subst hu; simp [Addr.add]
    case Bc2=>intro u hu; simp at hu; rcases hu with rfl | rfl <;> rfl
    case Bc3=>unfold maxLen; omega
    case Bc4=>omega
    case Bc5=>simp; omega
    intro v' wx ox gx _;have halq:=aa wq (.cells #[.slice ka L[k].1.length kc,.slice none 0 0] 129);have oq:=ho.alloc (.cells #[.slice ka L[k].1.length kc,.slice none 0 0] 129);have HPx:jq w w.heap.size wx v' (([]:List Pt) ++ [(L[k].1,[])]):=(HInq.out.next halq).push HSk.out gx (by first | exact ox | (rw [hm]; exact ox));have hbx:Below w.heap.size w wx:=(chain hbq halq).grown gx (by simp; omega) (fun q hq=>(oq.lt q hq).1)
    have qx:wx.heap[wr.heap.size]? = some (.cells #[.slice ka L[k].1.length kc,.slice ra L[k].2.1.length rc,.int .i64 L[k].2.2] 132 (0,0)):=by
     have qa:=(halq.block _ (ae qq)).trans qq;exact (gx.block _ (ae qa) (fun e=>gY oq qa (by decide) e.symm)).trans qa
    have q0x:=qx;obtain ⟨ps1,eps1⟩:∃ ps1,ps1=([]:List Pt) ++ [(L[k].1,[])]:=⟨_,rfl⟩
    obtain ⟨m,hmm⟩:∃ m,m=0:=⟨_,rfl⟩
    have hm4:m≤400:=by omega
    rw [← eps1] at HPx;have hm1:ps1.length=m+1:=by rw [hmm,eps1,Ii]; first | rfl | (rw [hm]; rfl)
    have eo:cQ (cI (L.take k)) L[k]=ps1:=by rw [eps1]; exact HOp.out
    have hsm:∀ p ∈ ps1,p.2.length≤400:=fun p hp=>by
     rw [eps1] at hp;rcases List.mem_append.1 hp with hp | hp
     ·exact HSm.out p hp
     ·rw [List.mem_singleton.1 hp]; exact Hl _
    obtain ⟨g,c,evx⟩:∃ g c,v' = .slice (some ⟨g,0,none⟩) ps1.length c:=by
     obtain ⟨xs',_,_,_,I'⟩:=HPx;rcases I'.own.2 with ⟨_,h2⟩ | ⟨g2,c2,_,h2,_⟩
     ·omega
     ·exact ⟨g2,c2,h2⟩
    subst evx;clear eps1 ox gx oq HInq ho kq halq hmm;have hmlt:m<ps1.length:=by omega
    obtain ⟨xs,Bl,rv,zs,In⟩:=HPx;have HIn:Hid (jo w w.heap.size wx (.slice (some ⟨g,0,none⟩) ps1.length c) ps1 xs Bl rv zs):=In;have hgB:w.heap.size≤g:=(In.own.lt g rfl).1;have hgx:g<wx.heap.size:=(In.own.lt g rfl).2;have hgl:g=wr.heap.size→False:=fun e=>gY In.own q0x (by decide) (show some g=some wr.heap.size by rw [e])
    obtain ⟨rva,rvc,erv⟩:∃ rva rvc,rv m = .slice rva ps1[m].2.length rvc:=dy (In.row m hmlt).1;have cx:wx.cell? ⟨g,m*2+1,none⟩=some (.slice rva ps1[m].2.length rvc):=by
     have:=In.own;rw [this.cellAt _ (by omega),In.cell m hmlt,erv]
    have hrow1:ps1[m].2.length≤400:=hsm ps1[m] (Hm hmlt);have ev:Value.slice (some ⟨g,0,none⟩) (m+1) c = .slice (some ⟨g,0,none⟩) ps1.length c:=by rw [hm1]
    have m0:(0:Int)≤(m:Int):=by omega
    have m1:(m:Int)<(m:Int)+1:=by omega
    have m2:(m:Int)≤400:=by omega
    clear In;try rw [hm1]
    go_upto_region 8 with fail
    have hCC:∀ W W':World,(W.heap[wr.heap.size]? = some (.cells #[.slice ka L[k].1.length kc,.slice ra L[k].2.1.length rc,.int .i64 L[k].2.2] 132 (0,0)))→Below W.heap.size W W'→(W'.heap[wr.heap.size]? = some (.cells #[.slice ka L[k].1.length kc,.slice ra L[k].2.1.length rc,.int .i64 L[k].2.2] 132 (0,0))):=fun W W' h hb=>(hb.block _ (ae h)).trans h
    have hdr:Below wx.heap.size wx wx.drew:=(He _ _).drew;have CW:(wx.drew.heap[wr.heap.size]? = some (.cells #[.slice ka L[k].1.length kc,.slice ra L[k].2.1.length rc,.int .i64 L[k].2.2] 132 (0,0))):=hCC _ _ q0x hdr;refine aG (fun W=>(W.heap[wr.heap.size]? = some (.cells #[.slice ka L[k].1.length kc,.slice ra L[k].2.1.length rc,.int .i64 L[k].2.2] 132 (0,0)))) (by kernel_rfl) ?_;refine ab hCC 40 (i:=0) (v:=.pointer (some ⟨g,m*2,none⟩)) (fun n hn=>?_) CW ?_
    ·go_simp
    simp only [Act.put,pA,pB,pC];refine ab hCC 41 (i:=1) (v:=.pointer (some ⟨g,m*2,none⟩)) (fun n hn=>?_) CW ?_
    ·go_simp
    simp only [Act.put,pA,pB,pC];refine ab hCC 42 (i:=2) (v:=.pointer (some ⟨g,m*2,none⟩)) (fun n hn=>?_) CW ?_
    ·go_simp
    simp only [Act.put,pA,pB,pC];refine ab hCC 43 (i:=3) (v:=.pointer (some ⟨g,m*2+1,none⟩)) (fun n hn=>?_) CW ?_
    ·go_simp
    simp only [Act.put,pA,pB,pC];refine ab hCC 45 (i:=5) (v:=.pointer (some ⟨wr.heap.size,1,none⟩)) (fun n hn=>?_) CW ?_
    ·go_simp
    simp only [Act.put,pA,pB,pC];refine ab hCC 46 (i:=6) (v:=.agg #[.slice ra L[k].2.1.length rc,.int .i64 L[k].2.2]) (fun n hn=>?_) CW ?_
    ·have hc:n.cell? ⟨wr.heap.size,1,none⟩=some (.slice ra L[k].2.1.length rc):=cell_of (i:=1) hn rfl;have hc1:n.cell? ⟨wr.heap.size,2,none⟩=some (.int .i64 L[k].2.2):=cell_of (i:=2) hn rfl;go_simp
    simp only [Act.put,pA,pB,pC];refine au (rs:=[4,7]) (by kernel_rfl) (by simp) ?_;intro w3 hb3 jj hj;have D3:=chain hdr hb3;have CW3:=hCC _ _ CW hb3;rcases (by simpa using hj:jj=4∨jj=7) with rfl | rfl
    clear hj;have c3:=(D3.cell (p:=⟨g,m*2+1,none⟩) hgx).trans cx;refine wpOp_step rfl (fun K hK=>?_);go_simp;refine hK _ _ ⟨CW3,?_⟩;clear hK K;try simp only [Act.put,pA,pB,pC]
    refine au (rs:=[7]) (by kernel_rfl) (by simp) ?_;intro w5 hb5 jj hj;obtain rfl:jj=7:=by simpa using hj
    clear hj;refine wpOp_step rfl (fun K hK=>?_);go_simp;have hal5:=aa w5 (.cells #[.slice ra L[k].2.1.length rc,.int .i64 L[k].2.2] 63);have q6:=an w5 #[.slice ra L[k].2.1.length rc,.int .i64 L[k].2.2] 63;have D6:=chain (chain D3 hb5) hal5;have CWt:=hCC _ _ (hCC _ _ CW3 hb5) hal5;refine hK _ _ ⟨CWt,?_⟩;clear hK K c3 CW3;generalize w5.alloc (.cells #[.slice ra L[k].2.1.length rc,.int .i64 L[k].2.2] 63)=w6 at *;try simp only [Act.put,pA,pB,pC]
    refine au (rs:=[8]) (by kernel_rfl) (by simp) ?_;intro w7 hb7 jj hj;obtain rfl:jj=8:=by simpa using hj
    clear hj;have D7:=chain D6 hb7;have CW7:=hCC _ _ CWt hb7;have q7:=(hb7.block _ (ae q6)).trans q6;have I7:=HIn.out.next D7;have rl7:w7.ownsRow Bl 63 2 (.slice rva ps1[m].2.length rvc) ps1[m].2.length (zs m):=by
     have:=(I7.row m hmlt).1;rw [if_pos hm1.symm,erv] at this;exact this
    have hBl7:=I7.hi;refine wpOp_step rfl (fun K hK=>?_);refine Eq.mpr (if_pos (by kernel_rfl)) ?_;refine bM (some 48) rfl (Operand.tmp 44) (Operand.tmp 47) 37 rfl Bl 63 i0 _ 2 32 Tryz.underlying37 hi hj0 hj1 hj2 rfl (by decide) (.slice rva ps1[m].2.length rvc) ps1[m].2.length (zs m) rfl rl7 ⟨w5.heap.size,0,none⟩ 1 1 [.slice ra L[k].2.1.length rc,.int .i64 L[k].2.2] rfl rfl ?Ac1 ?Ac2 ?Ac3 ?Ac4 ?Ac5 ?_
    case Ac1 =>
     intro j u hj
     match j,hj with
     | 0,hj=>simp at hj; subst hj; exact cell_of (i:=0) q7 rfl
     | 1,hj=>simp at hj; subst hj; exact cell_of (i:=1) q7 rfl
    case Ac2=>intro u hu; simp at hu; rcases hu with rfl | rfl <;> rfl
    case Ac3=>unfold maxLen; omega
    case Ac4=>omega
    case Ac5=>exact hBl7
    rotate_left;clear hj;refine wpOp_step rfl (fun K hK=>?_);go_simp;have hal4:=aa w3 (.cells #[.slice ra L[k].2.1.length rc,.int .i64 L[k].2.2] 63);have q4:=an w3 #[.slice ra L[k].2.1.length rc,.int .i64 L[k].2.2] 63;have D4:=chain D3 hal4;have CW4:=hCC _ _ CW3 hal4;refine hK _ _ ⟨CW4,?_⟩;clear hK K;generalize w3.alloc (.cells #[.slice ra L[k].2.1.length rc,.int .i64 L[k].2.2] 63)=w4 at *;try simp only [Act.put,pA,pB,pC]
    refine au (rs:=[4]) (by kernel_rfl) (by simp) ?_;intro w6 hb6 jj hj;obtain rfl:jj=4:=by simpa using hj
    clear hj;have D6:=chain D4 hb6;have CWt:=hCC _ _ CW4 hb6;have q6:=(hb6.block _ (ae q4)).trans q4;have c6:=(D6.cell (p:=⟨g,m*2+1,none⟩) hgx).trans cx;refine wpOp_step rfl (fun K hK=>?_);go_simp;refine hK _ _ ⟨CWt,?_⟩;clear hK K c6 CW3 CW4;try simp only [Act.put,pA,pB,pC]
    refine au (rs:=[8]) (by kernel_rfl) (by simp) ?_;intro w7 hb7 jj hj;obtain rfl:jj=8:=by simpa using hj
    clear hj;have D7:=chain D6 hb7;have CW7:=hCC _ _ CWt hb7;have q7:=(hb7.block _ (ae q6)).trans q6;have I7:=HIn.out.next D7;have rl7:w7.ownsRow Bl 63 2 (.slice rva ps1[m].2.length rvc) ps1[m].2.length (zs m):=by
     have:=(I7.row m hmlt).1;rw [if_pos hm1.symm,erv] at this;exact this
    have hBl7:=I7.hi;refine wpOp_step rfl (fun K hK=>?_);refine Eq.mpr (if_pos (by kernel_rfl)) ?_;refine bM (some 48) rfl (Operand.tmp 44) (Operand.tmp 47) 37 rfl Bl 63 i0 _ 2 32 Tryz.underlying37 hi hj0 hj1 hj2 rfl (by decide) (.slice rva ps1[m].2.length rvc) ps1[m].2.length (zs m) rfl rl7 ⟨w3.heap.size,0,none⟩ 1 1 [.slice ra L[k].2.1.length rc,.int .i64 L[k].2.2] rfl rfl ?Ac1 ?Ac2 ?Ac3 ?Ac4 ?Ac5 ?_
    case Ac1 =>
     intro j u hj
     match j,hj with
     | 0,hj=>simp at hj; subst hj; exact cell_of (i:=0) q7 rfl
     | 1,hj=>simp at hj; subst hj; exact cell_of (i:=1) q7 rfl
    case Ac2=>intro u hu; simp at hu; rcases hu with rfl | rfl <;> rfl
    case Ac3=>unfold maxLen; omega
    case Ac4=>omega
    case Ac5=>exact hBl7
    all_goals
     intro v8 w8 o8 g8 _;have nb8:∀ q,Value.ownBlock (.slice rva ps1[m].2.length rvc)=some q→w.heap.size≤q∧q<w7.heap.size∧(q=wr.heap.size→False)∧(q=g→False):=fun q hq=>by
      have h1:=rl7.lt q hq;refine ⟨HJ I7.lo h1.1,h1.2,fun e=>?_,fun e=>?_⟩
      ·exact gY rl7 CW7 (by decide) (by rw [hq,e])
      ·have o7:=I7.own;rcases kD (by decide) rl7 o7 with h2 | h2
       ·rw [h2] at hq; cases hq
       ·exact h2 (by rw [hq,e]; rfl)
     have CW8:(w8.heap[wr.heap.size]? = some (.cells #[.slice ka L[k].1.length kc,.slice ra L[k].2.1.length rc,.int .i64 L[k].2.2] 132 (0,0))):=(g8.block _ (ae CW7) (fun e=>(nb8 _ e.symm).2.2.1 rfl)).trans CW7;have c8:w8.cell? ⟨g,m*2+1,none⟩=some (.slice rva ps1[m].2.length rvc)∧w8.frozen? ⟨g,m*2+1,none⟩=false:=by
      have o7:=I7.own;rw [hm1] at o7;have hb8:w8.heap[g]? = w7.heap[g]?:=g8.block g (o7.lt g rfl).2 (fun e=>(nb8 _ e.symm).2.2.2 rfl);refine ⟨(Hz (a:=⟨g,m*2+1,none⟩) hb8).trans ?_,(IW (a:=⟨g,m*2+1,none⟩) hb8).trans (o7.frozenAt _)⟩;rw [o7.cellAt _ (by omega),I7.cell m hmlt,erv]
     have hg8:g<w8.heap.size:=by
      have o7:=I7.own;rw [hm1] at o7;exact Hi (o7.lt g rfl).2 g8.size
     refine hK _ _ ⟨CW8,?_⟩;clear hK K;try simp only [Act.put,pA,pB,pC]
     refine ab hCC 49 (i:=9) (v:=.pointer (some ⟨g,m*2,none⟩)) (fun n hn=>?_) CW8 ?_
     ·go_simp
     simp only [Act.put,pA,pB,pC];refine ab hCC 50 (i:=10) (v:=.pointer (some ⟨g,m*2+1,none⟩)) (fun n hn=>?_) CW8 ?_
     ·go_simp
     simp only [Act.put,pA,pB,pC];refine au (rs:=[11]) (by kernel_rfl) (by simp) ?_;intro w9 hb9 jj hj;obtain rfl:jj=11:=by simpa using hj
     clear hj;have c9:w9.cell? ⟨g,m*2+1,none⟩=some (.slice rva ps1[m].2.length rvc):=(hb9.cell (p:=⟨g,m*2+1,none⟩) hg8).trans c8.1;have f9:w9.frozen? ⟨g,m*2+1,none⟩=false:=(hb9.frozen (p:=⟨g,m*2+1,none⟩) hg8).trans c8.2;have CW9:=hCC _ _ CW8 hb9;obtain ⟨v8a,v8c,ev8⟩:∃ v8a v8c,v8 = .slice v8a (ps1[m].2.length+1) v8c:=dy o8;have P9:jq w w.heap.size (w9.setCell ⟨g,m*2+1,none⟩ v8) (.slice (some ⟨g,0,none⟩) (m+1) c) (jC ps1 L[k].2):=by
      have I7':=I7;rw [← ev] at I7';exact jo.put I7' hm1 (rc:=rc) HSr.out (by rw [erv]; exact g8) o8 hb9
     have B9:Below w.heap.size w (w9.setCell ⟨g,m*2+1,none⟩ v8):=((chain ((chain hbx D7).trans ((He _ _).grown g8 (HJ hbx.size D7.size) (fun q hq=>(nb8 q hq).1))) hb9)).setCell (p:=⟨g,m*2+1,none⟩) hgB _;have CW10:((w9.setCell ⟨g,m*2+1,none⟩ v8).heap[wr.heap.size]? = some (.cells #[.slice ka L[k].1.length kc,.slice ra L[k].2.1.length rc,.int .i64 L[k].2.2] 132 (0,0))):=(Im _ _ _ _ (fun e=>hgl e.symm)).trans CW9;subst ev8;refine wpOp_step rfl (fun K hK=>?_);go_simp;refine hK _ _ ⟨CW10,?_⟩;clear hK K CW7 CW8 CW9 c8 c9 f9 nb8 rl7 I7 q7 o8 g8
     generalize w9.setCell ⟨g,m*2+1,none⟩ (.slice v8a (ps1[m].2.length+1) v8c)=wS at *;try simp only [Act.put,pA,pB,pC]
     refine bd (by kernel_rfl) ?_;intro wT hbT;have PT:=P9.next hbT;have BT:=chain B9 hbT;clear P9 B9 CW10 CW CWt;go_wp2_with fail
     go_roundw
     case rel=>exact ⟨k+1,by omega,by go_num,by rw [HT.out,eo]; first | exact PT | (rw [hm1]; exact PT),BT⟩
     case measure=>simp [intOf]; omega
   ·obtain ⟨mm,hm⟩:∃ mm,ps.length=mm+1:=⟨ps.length - 1,by omega⟩
    have hmm:mm<ps.length:=by omega
    rw [← eps] at HPk HSm hpn ⊢;have Eps:Hid (ps=cI (L.take k)):=eps;clear eps;rw [hm] at HPk ⊢;obtain ⟨g0,eva⟩:∃ g0,va=some ⟨g0,0,none⟩:=by
     obtain ⟨_,_,_,_,I⟩:=HPk;rcases I.own.2 with ⟨_,h2⟩ | ⟨g2,c2,_,h2,_⟩
     ·omega
     ·exact ⟨g2,by injection h2⟩
    subst eva;obtain ⟨la,lc,ck,sk,hgk⟩:∃ la lc,wk.cell? ⟨g0,mm*2,none⟩=some (.slice la ps[mm].1.length lc)∧aY w la ps[mm].1∧g0<wk.heap.size:=by
     obtain ⟨xs,_,_,_,I⟩:=HPk;obtain ⟨la,lc,x0,s0⟩:=I.key mm hmm;have o:=I.own;rw [hm] at o;exact ⟨la,lc,by rw [o.cellAt _ (by omega)]; exact x0,s0,(o.lt g0 rfl).2⟩
    have HSl:Hid (aY w la ps[mm].1):=sk;have m0:(0:Int)≤(mm:Int):=by omega
    have m1:(mm:Int)<(mm:Int)+1:=by omega
    have m2:(mm:Int)≤400:=by omega
    have mne:¬ (mm:Int)+1=0:=by omega
    have hCC:∀ W W':World,(W.heap[wr.heap.size]? = some (.cells #[.slice ka L[k].1.length kc,.slice ra L[k].2.1.length rc,.int .i64 L[k].2.2] 132 (0,0))∧W.cell? ⟨g0,mm*2,none⟩=some (.slice la ps[mm].1.length lc))→Below W.heap.size W W'→(W'.heap[wr.heap.size]? = some (.cells #[.slice ka L[k].1.length kc,.slice ra L[k].2.1.length rc,.int .i64 L[k].2.2] 132 (0,0))∧W'.cell? ⟨g0,mm*2,none⟩=some (.slice la ps[mm].1.length lc)):=fun W W' h hb=>⟨(hb.block _ (ae h.1)).trans h.1,(hb.cell (Hy _ _ h.2)).trans h.2⟩
    have hdr:Below wk.heap.size wk wk.drew:=(He _ _).drew;have CW:(wk.drew.heap[wr.heap.size]? = some (.cells #[.slice ka L[k].1.length kc,.slice ra L[k].2.1.length rc,.int .i64 L[k].2.2] 132 (0,0))∧wk.drew.cell? ⟨g0,mm*2,none⟩=some (.slice la ps[mm].1.length lc)):=hCC _ _ ⟨q0,ck⟩ hdr;clear sk h0;refine aG (fun W=>(W.heap[wr.heap.size]? = some (.cells #[.slice ka L[k].1.length kc,.slice ra L[k].2.1.length rc,.int .i64 L[k].2.2] 132 (0,0))∧W.cell? ⟨g0,mm*2,none⟩=some (.slice la ps[mm].1.length lc))) (by kernel_rfl) ?_
    refine ab hCC 13 (i:=0) (v:=.slice (some ⟨g0,0,none⟩) (mm+1) vc) (fun n hn=>?_) CW ?_
    ·go_simp
    simp only [Act.put,pA,pB,pC];refine ab hCC 14 (i:=1) (v:=.int .i64 ((mm:Int)+1)) (fun n hn=>?_) CW ?_
    ·go_simp
    simp only [Act.put,pA,pB,pC];refine ab hCC 15 (i:=2) (v:=.bool false) (fun n hn=>?_) CW ?_
    ·go_simp
    simp only [Act.put,pA,pB,pC];refine ab hCC 16 (i:=3) (v:=.bool false) (fun n hn=>?_) CW ?_
    ·go_simp
    simp only [Act.put,pA,pB,pC];refine ab hCC 17 (i:=4) (v:=.slice (some ⟨g0,0,none⟩) (mm+1) vc) (fun n hn=>?_) CW ?_
    ·go_simp
    simp only [Act.put,pA,pB,pC];refine ab hCC 18 (i:=5) (v:=.slice (some ⟨g0,0,none⟩) (mm+1) vc) (fun n hn=>?_) CW ?_
    ·go_simp
    simp only [Act.put,pA,pB,pC];refine ab hCC 19 (i:=6) (v:=.int .i64 ((mm:Int)+1)) (fun n hn=>?_) CW ?_
    ·go_simp
    simp only [Act.put,pA,pB,pC];refine ab hCC 20 (i:=7) (v:=.int .i64 (mm:Int)) (fun n hn=>?_) CW ?_
    ·go_simp;exact IntWalk.i64_in _ ⟨by omega,by omega⟩
    simp only [Act.put,pA,pB,pC];refine ab hCC 21 (i:=8) (v:=.pointer (some ⟨g0,mm*2,none⟩)) (fun n hn=>?_) CW ?_
    ·go_simp
    simp only [Act.put,pA,pB,pC];refine ab hCC 22 (i:=9) (v:=.pointer (some ⟨g0,mm*2,none⟩)) (fun n hn=>?_) CW ?_
    ·go_simp
    simp only [Act.put,pA,pB,pC];refine ab hCC 23 (i:=10) (v:=.slice la ps[mm].1.length lc) (fun n hn=>?_) CW ?_
    ·have hc:=hn.2;go_simp
    simp only [Act.put,pA,pB,pC];refine ab hCC 24 (i:=11) (v:=.pointer (some ⟨wr.heap.size,0,none⟩)) (fun n hn=>?_) CW ?_
    ·go_simp
    simp only [Act.put,pA,pB,pC];refine ab hCC 25 (i:=12) (v:=.slice ka L[k].1.length kc) (fun n hn=>?_) CW ?_
    ·have hc:n.cell? ⟨wr.heap.size,0,none⟩=some (.slice ka L[k].1.length kc):=cell_of (i:=0) hn.1 rfl;go_simp
    simp only [Act.put,pA,pB,pC];refine au (rs:=[13]) (by kernel_rfl) (by simp) ?_;intro w3 hb3 jj hj;obtain rfl:jj=13:=by simpa using hj
    clear hj;have CW3:=hCC _ _ CW hb3;have D3:=chain hdr hb3;have con:=kP la ka lc kc ps[mm].1 L[k].1 w3 (HSl.out.next (chain hbk D3)) (HSk.out.next (chain hbk D3));generalize hcm:aL ps[mm].1 L[k].1=cm at con;have HCm:Hid (aL ps[mm].1 L[k].1=cm):=hcm;clear hcm;refine wpOp_step rfl (fun K hK=>?_);go_simp;refine con.mono ?_;rintro e w4 ⟨rfl,hb4⟩;clear con;have CW4:=hCC _ _ CW3 hb4;have D4:=chain D3 hb4;refine hK _ _ ⟨CW4,?_⟩;clear hK K CW3
    refine ab hCC 27 (i:=14) (v:=.bool (cm != 0)) (fun n hn=>?_) CW4 ?_
    ·go_simp
    simp only [Act.put,pA,pB,pC];refine ab hCC 28 (i:=15) (v:=.bool (cm != 0)) (fun n hn=>?_) CW4 ?_
    ·go_simp
    simp only [Act.put,pA,pB,pC];refine bd (by kernel_rfl) ?_;intro wq hbw;have D5:=chain D4 hbw;have HPq:=HPk.next D5;have hbq:=chain hbk D5;have qq:=(D5.block _ (ae q0)).trans q0;clear CW CW4 hCC D4 D3 D5 hbw HPk;by_cases hc0:cm=0
    ·have hcb:(cm != 0)=false:=by simp [hc0]
     rw [hcb];have eo:cQ (cI (L.take k)) L[k]=ps:=by rw [← Eps.out]; exact vf hm (by rw [HCm.out]; exact hc0)
     clear Eps hcb;obtain ⟨wx,hwx⟩:∃ z,z=wq:=⟨_,rfl⟩
     subst hwx;obtain ⟨m,hmx⟩:∃ z,z=mm:=⟨_,rfl⟩
     subst hmx;obtain ⟨ps1,hpx⟩:∃ z,z=ps:=⟨_,rfl⟩
     subst hpx;obtain ⟨g,hgx0⟩:∃ z,z=g0:=⟨_,rfl⟩
     subst hgx0;obtain ⟨c,hcx⟩:∃ z,z=vc:=⟨_,rfl⟩
     subst hcx;have hm1:=hm;have q0x:=qq;have hbx:=hbq;have hsm:=HSm.out;have HPx:jq w w.heap.size wx (.slice (some ⟨g,0,none⟩) ps1.length c) ps1:=by rw [hm]; exact HPq
     clear HPq;go_wp2_with fail
     have hmlt:m<ps1.length:=by omega
     obtain ⟨xs,Bl,rv,zs,In⟩:=HPx;have HIn:Hid (jo w w.heap.size wx (.slice (some ⟨g,0,none⟩) ps1.length c) ps1 xs Bl rv zs):=In;have hgB:w.heap.size≤g:=(In.own.lt g rfl).1;have hgx:g<wx.heap.size:=(In.own.lt g rfl).2;have hgl:g=wr.heap.size→False:=fun e=>gY In.own q0x (by decide) (show some g=some wr.heap.size by rw [e])
     obtain ⟨rva,rvc,erv⟩:∃ rva rvc,rv m = .slice rva ps1[m].2.length rvc:=dy (In.row m hmlt).1;have cx:wx.cell? ⟨g,m*2+1,none⟩=some (.slice rva ps1[m].2.length rvc):=by
      have:=In.own;rw [this.cellAt _ (by omega),In.cell m hmlt,erv]
     have hrow1:ps1[m].2.length≤400:=hsm ps1[m] (Hm hmlt);have ev:Value.slice (some ⟨g,0,none⟩) (m+1) c = .slice (some ⟨g,0,none⟩) ps1.length c:=by rw [hm1]
     have m0:(0:Int)≤(m:Int):=by omega
     have m1:(m:Int)<(m:Int)+1:=by omega
     have m2:(m:Int)≤400:=by omega
     clear In;try rw [hm1]
     go_upto_region 8 with fail
     have hCC:∀ W W':World,(W.heap[wr.heap.size]? = some (.cells #[.slice ka L[k].1.length kc,.slice ra L[k].2.1.length rc,.int .i64 L[k].2.2] 132 (0,0)))→Below W.heap.size W W'→(W'.heap[wr.heap.size]? = some (.cells #[.slice ka L[k].1.length kc,.slice ra L[k].2.1.length rc,.int .i64 L[k].2.2] 132 (0,0))):=fun W W' h hb=>(hb.block _ (ae h)).trans h
     have hdr:Below wx.heap.size wx wx.drew:=(He _ _).drew;have CW:(wx.drew.heap[wr.heap.size]? = some (.cells #[.slice ka L[k].1.length kc,.slice ra L[k].2.1.length rc,.int .i64 L[k].2.2] 132 (0,0))):=hCC _ _ q0x hdr;refine aG (fun W=>(W.heap[wr.heap.size]? = some (.cells #[.slice ka L[k].1.length kc,.slice ra L[k].2.1.length rc,.int .i64 L[k].2.2] 132 (0,0)))) (by kernel_rfl) ?_;refine ab hCC 40 (i:=0) (v:=.pointer (some ⟨g,m*2,none⟩)) (fun n hn=>?_) CW ?_
     ·go_simp
     simp only [Act.put,pA,pB,pC];refine ab hCC 41 (i:=1) (v:=.pointer (some ⟨g,m*2,none⟩)) (fun n hn=>?_) CW ?_
     ·go_simp
     simp only [Act.put,pA,pB,pC];refine ab hCC 42 (i:=2) (v:=.pointer (some ⟨g,m*2,none⟩)) (fun n hn=>?_) CW ?_
     ·go_simp
     simp only [Act.put,pA,pB,pC];refine ab hCC 43 (i:=3) (v:=.pointer (some ⟨g,m*2+1,none⟩)) (fun n hn=>?_) CW ?_
     ·go_simp
     simp only [Act.put,pA,pB,pC];refine ab hCC 45 (i:=5) (v:=.pointer (some ⟨wr.heap.size,1,none⟩)) (fun n hn=>?_) CW ?_
     ·go_simp
     simp only [Act.put,pA,pB,pC];refine ab hCC 46 (i:=6) (v:=.agg #[.slice ra L[k].2.1.length rc,.int .i64 L[k].2.2]) (fun n hn=>?_) CW ?_
     ·have hc:n.cell? ⟨wr.heap.size,1,none⟩=some (.slice ra L[k].2.1.length rc):=cell_of (i:=1) hn rfl;have hc1:n.cell? ⟨wr.heap.size,2,none⟩=some (.int .i64 L[k].2.2):=cell_of (i:=2) hn rfl;go_simp
     simp only [Act.put,pA,pB,pC];refine au (rs:=[4,7]) (by kernel_rfl) (by simp) ?_;intro w3 hb3 jj hj;have D3:=chain hdr hb3;have CW3:=hCC _ _ CW hb3;rcases (by simpa using hj:jj=4∨jj=7) with rfl | rfl
     clear hj;have c3:=(D3.cell (p:=⟨g,m*2+1,none⟩) hgx).trans cx;refine wpOp_step rfl (fun K hK=>?_);go_simp;refine hK _ _ ⟨CW3,?_⟩;clear hK K;try simp only [Act.put,pA,pB,pC]
     refine au (rs:=[7]) (by kernel_rfl) (by simp) ?_;intro w5 hb5 jj hj;obtain rfl:jj=7:=by simpa using hj
     clear hj;refine wpOp_step rfl (fun K hK=>?_);go_simp;have hal5:=aa w5 (.cells #[.slice ra L[k].2.1.length rc,.int .i64 L[k].2.2] 63);have q6:=an w5 #[.slice ra L[k].2.1.length rc,.int .i64 L[k].2.2] 63;have D6:=chain (chain D3 hb5) hal5;have CWt:=hCC _ _ (hCC _ _ CW3 hb5) hal5;refine hK _ _ ⟨CWt,?_⟩;clear hK K c3 CW3;generalize w5.alloc (.cells #[.slice ra L[k].2.1.length rc,.int .i64 L[k].2.2] 63)=w6 at *;try simp only [Act.put,pA,pB,pC]
     refine au (rs:=[8]) (by kernel_rfl) (by simp) ?_;intro w7 hb7 jj hj;obtain rfl:jj=8:=by simpa using hj
     clear hj;have D7:=chain D6 hb7;have CW7:=hCC _ _ CWt hb7;have q7:=(hb7.block _ (ae q6)).trans q6;have I7:=HIn.out.next D7;have rl7:w7.ownsRow Bl 63 2 (.slice rva ps1[m].2.length rvc) ps1[m].2.length (zs m):=by
      have:=(I7.row m hmlt).1;rw [if_pos hm1.symm,erv] at this;exact this
     have hBl7:=I7.hi;refine wpOp_step rfl (fun K hK=>?_);refine Eq.mpr (if_pos (by kernel_rfl)) ?_;refine bM (some 48) rfl (Operand.tmp 44) (Operand.tmp 47) 37 rfl Bl 63 i0 _ 2 32 Tryz.underlying37 hi hj0 hj1 hj2 rfl (by decide) (.slice rva ps1[m].2.length rvc) ps1[m].2.length (zs m) rfl rl7 ⟨w5.heap.size,0,none⟩ 1 1 [.slice ra L[k].2.1.length rc,.int .i64 L[k].2.2] rfl rfl ?Ac1 ?Ac2 ?Ac3 ?Ac4 ?Ac5 ?_
     case Ac1 =>
      intro j u hj
      match j,hj with
      | 0,hj=>simp at hj; subst hj; exact cell_of (i:=0) q7 rfl
      | 1,hj=>simp at hj; subst hj; exact cell_of (i:=1) q7 rfl
     case Ac2=>intro u hu; simp at hu; rcases hu with rfl | rfl <;> rfl
     case Ac3=>unfold maxLen; omega
     case Ac4=>omega
     case Ac5=>exact hBl7
     rotate_left;clear hj;refine wpOp_step rfl (fun K hK=>?_);go_simp;have hal4:=aa w3 (.cells #[.slice ra L[k].2.1.length rc,.int .i64 L[k].2.2] 63);have q4:=an w3 #[.slice ra L[k].2.1.length rc,.int .i64 L[k].2.2] 63;have D4:=chain D3 hal4;have CW4:=hCC _ _ CW3 hal4;refine hK _ _ ⟨CW4,?_⟩;clear hK K;generalize w3.alloc (.cells #[.slice ra L[k].2.1.length rc,.int .i64 L[k].2.2] 63)=w4 at *;try simp only [Act.put,pA,pB,pC]
     refine au (rs:=[4]) (by kernel_rfl) (by simp) ?_;intro w6 hb6 jj hj;obtain rfl:jj=4:=by simpa using hj
     clear hj;have D6:=chain D4 hb6;have CWt:=hCC _ _ CW4 hb6;have q6:=(hb6.block _ (ae q4)).trans q4;have c6:=(D6.cell (p:=⟨g,m*2+1,none⟩) hgx).trans cx;refine wpOp_step rfl (fun K hK=>?_);go_simp;refine hK _ _ ⟨CWt,?_⟩;clear hK K c6 CW3 CW4;try simp only [Act.put,pA,pB,pC]
     refine au (rs:=[8]) (by kernel_rfl) (by simp) ?_;intro w7 hb7 jj hj;obtain rfl:jj=8:=by simpa using hj
     clear hj;have D7:=chain D6 hb7;have CW7:=hCC _ _ CWt hb7;have q7:=(hb7.block _ (ae q6)).trans q6;have I7:=HIn.out.next D7;have rl7:w7.ownsRow Bl 63 2 (.slice rva ps1[m].2.length rvc) ps1[m].2.length (zs m):=by
      have:=(I7.row m hmlt).1;rw [if_pos hm1.symm,erv] at this;exact this
     have hBl7:=I7.hi;refine wpOp_step rfl (fun K hK=>?_);refine Eq.mpr (if_pos (by kernel_rfl)) ?_;refine bM (some 48) rfl (Operand.tmp 44) (Operand.tmp 47) 37 rfl Bl 63 i0 _ 2 32 Tryz.underlying37 hi hj0 hj1 hj2 rfl (by decide) (.slice rva ps1[m].2.length rvc) ps1[m].2.length (zs m) rfl rl7 ⟨w3.heap.size,0,none⟩ 1 1 [.slice ra L[k].2.1.length rc,.int .i64 L[k].2.2] rfl rfl ?Ac1 ?Ac2 ?Ac3 ?Ac4 ?Ac5 ?_
     case Ac1 =>
      intro j u hj
      match j,hj with
      | 0,hj=>simp at hj; subst hj; exact cell_of (i:=0) q7 rfl
      | 1,hj=>simp at hj; subst hj; exact cell_of (i:=1) q7 rfl
     case Ac2=>intro u hu; simp at hu; rcases hu with rfl | rfl <;> rfl
     case Ac3=>unfold maxLen; omega
     case Ac4=>omega
     case Ac5=>exact hBl7
     all_goals
      intro v8 w8 o8 g8 _;have nb8:∀ q,Value.ownBlock (.slice rva ps1[m].2.length rvc)=some q→w.heap.size≤q∧q<w7.heap.size∧(q=wr.heap.size→False)∧(q=g→False):=fun q hq=>by
       have h1:=rl7.lt q hq;refine ⟨HJ I7.lo h1.1,h1.2,fun e=>?_,fun e=>?_⟩
       ·exact gY rl7 CW7 (by decide) (by rw [hq,e])
       ·have o7:=I7.own;rcases kD (by decide) rl7 o7 with h2 | h2
        ·rw [h2] at hq; cases hq
        ·exact h2 (by rw [hq,e]; rfl)
      have CW8:(w8.heap[wr.heap.size]? = some (.cells #[.slice ka L[k].1.length kc,.slice ra L[k].2.1.length rc,.int .i64 L[k].2.2] 132 (0,0))):=(g8.block _ (ae CW7) (fun e=>(nb8 _ e.symm).2.2.1 rfl)).trans CW7;have c8:w8.cell? ⟨g,m*2+1,none⟩=some (.slice rva ps1[m].2.length rvc)∧w8.frozen? ⟨g,m*2+1,none⟩=false:=by
       have o7:=I7.own;rw [hm1] at o7;have hb8:w8.heap[g]? = w7.heap[g]?:=g8.block g (o7.lt g rfl).2 (fun e=>(nb8 _ e.symm).2.2.2 rfl);refine ⟨(Hz (a:=⟨g,m*2+1,none⟩) hb8).trans ?_,(IW (a:=⟨g,m*2+1,none⟩) hb8).trans (o7.frozenAt _)⟩;rw [o7.cellAt _ (by omega),I7.cell m hmlt,erv]
      have hg8:g<w8.heap.size:=by
       have o7:=I7.own;rw [hm1] at o7;exact Hi (o7.lt g rfl).2 g8.size
      refine hK _ _ ⟨CW8,?_⟩;clear hK K;try simp only [Act.put,pA,pB,pC]
      refine ab hCC 49 (i:=9) (v:=.pointer (some ⟨g,m*2,none⟩)) (fun n hn=>?_) CW8 ?_
      ·go_simp
      simp only [Act.put,pA,pB,pC];refine ab hCC 50 (i:=10) (v:=.pointer (some ⟨g,m*2+1,none⟩)) (fun n hn=>?_) CW8 ?_
      ·go_simp
      simp only [Act.put,pA,pB,pC];refine au (rs:=[11]) (by kernel_rfl) (by simp) ?_;intro w9 hb9 jj hj;obtain rfl:jj=11:=by simpa using hj
      clear hj;have c9:w9.cell? ⟨g,m*2+1,none⟩=some (.slice rva ps1[m].2.length rvc):=(hb9.cell (p:=⟨g,m*2+1,none⟩) hg8).trans c8.1;have f9:w9.frozen? ⟨g,m*2+1,none⟩=false:=(hb9.frozen (p:=⟨g,m*2+1,none⟩) hg8).trans c8.2;have CW9:=hCC _ _ CW8 hb9;obtain ⟨v8a,v8c,ev8⟩:∃ v8a v8c,v8 = .slice v8a (ps1[m].2.length+1) v8c:=dy o8;have P9:jq w w.heap.size (w9.setCell ⟨g,m*2+1,none⟩ v8) (.slice (some ⟨g,0,none⟩) (m+1) c) (jC ps1 L[k].2):=by
       have I7':=I7;rw [← ev] at I7';exact jo.put I7' hm1 (rc:=rc) HSr.out (by rw [erv]; exact g8) o8 hb9
      have B9:Below w.heap.size w (w9.setCell ⟨g,m*2+1,none⟩ v8):=((chain ((chain hbx D7).trans ((He _ _).grown g8 (HJ hbx.size D7.size) (fun q hq=>(nb8 q hq).1))) hb9)).setCell (p:=⟨g,m*2+1,none⟩) hgB _;have CW10:((w9.setCell ⟨g,m*2+1,none⟩ v8).heap[wr.heap.size]? = some (.cells #[.slice ka L[k].1.length kc,.slice ra L[k].2.1.length rc,.int .i64 L[k].2.2] 132 (0,0))):=(Im _ _ _ _ (fun e=>hgl e.symm)).trans CW9;subst ev8;refine wpOp_step rfl (fun K hK=>?_);go_simp;refine hK _ _ ⟨CW10,?_⟩;clear hK K CW7 CW8 CW9 c8 c9 f9 nb8 rl7 I7 q7 o8 g8
      generalize w9.setCell ⟨g,m*2+1,none⟩ (.slice v8a (ps1[m].2.length+1) v8c)=wS at *;try simp only [Act.put,pA,pB,pC]
      refine bd (by kernel_rfl) ?_;intro wT hbT;have PT:=P9.next hbT;have BT:=chain B9 hbT;clear P9 B9 CW10 CW CWt;go_wp2_with fail
      go_roundw
      case rel=>exact ⟨k+1,by omega,by go_num,by rw [HT.out,eo]; first | exact PT | (rw [hm1]; exact PT),BT⟩
      case measure=>simp [intOf]; omega
    ·have hcb:(cm != 0)=true:=by simp [hc0]
     rw [hcb];have HOp:Hid (cQ (cI (L.take k)) L[k]=ps ++ [(L[k].1,[])]):=by show _=_; rw [← Eps.out]; exact sn hm (by rw [HCm.out]; exact hc0)
     clear Eps hcb;obtain ⟨xs,Bl,rv,zs,In⟩:=HPq;have ho:=In.own;have HInq:Hid (jo w w.heap.size wq (.slice (some ⟨g0,0,none⟩) (mm+1) vc) ps xs Bl rv zs):=In;have kq:wq.cell? ⟨wr.heap.size,0,none⟩=some (.slice ka L[k].1.length kc):=cell_of (i:=0) qq rfl;have hzq:=hbq.size;clear In;go_wp2_with (first | (at_builtin; refine IK _ rfl _ _ 124 rfl w.heap.size 129 ip _ 2 48 Tryz.underlying124 hip hp0 hp1 hp2 rfl (by decide) _ _ _ rfl (ho.alloc _) ⟨wq.heap.size,0,none⟩ 1 1 [.slice ka L[k].1.length kc,.slice none 0 0] rfl rfl ?Bc1 ?Bc2 ?Bc3 ?Bc4 ?Bc5 ?_))
     case Bc1 =>
      intro i u hu
      match i,hu with
      | 0,hu=>simp at hu; subst hu; simp [Addr.add]
      | 1,hu=>simp at hu; subst hu; simp [Addr.add]
     case Bc2=>intro u hu; simp at hu; rcases hu with rfl | rfl <;> rfl
     case Bc3=>unfold maxLen; omega
     case Bc4=>omega
     case Bc5=>simp; omega
     intro v' wx ox gx _;have halq:=aa wq (.cells #[.slice ka L[k].1.length kc,.slice none 0 0] 129);have oq:=ho.alloc (.cells #[.slice ka L[k].1.length kc,.slice none 0 0] 129);have HPx:jq w w.heap.size wx v' (ps ++ [(L[k].1,[])]):=(HInq.out.next halq).push HSk.out gx (by first | exact ox | (rw [hm]; exact ox));have hbx:Below w.heap.size w wx:=(chain hbq halq).grown gx (by simp; omega) (fun q hq=>(oq.lt q hq).1)
     have qx:wx.heap[wr.heap.size]? = some (.cells #[.slice ka L[k].1.length kc,.slice ra L[k].2.1.length rc,.int .i64 L[k].2.2] 132 (0,0)):=by
      have qa:=(halq.block _ (ae qq)).trans qq;exact (gx.block _ (ae qa) (fun e=>gY oq qa (by decide) e.symm)).trans qa
     have q0x:=qx;obtain ⟨ps1,eps1⟩:∃ ps1,ps1=ps ++ [(L[k].1,[])]:=⟨_,rfl⟩
     obtain ⟨m,hmm⟩:∃ m,m=(mm+1):=⟨_,rfl⟩
     have hm4:m≤400:=by omega
     rw [← eps1] at HPx;have hm1:ps1.length=m+1:=by rw [hmm,eps1,Ii]; first | rfl | (rw [hm]; rfl)
     have eo:cQ (cI (L.take k)) L[k]=ps1:=by rw [eps1]; exact HOp.out
     have hsm:∀ p ∈ ps1,p.2.length≤400:=fun p hp=>by
      rw [eps1] at hp;rcases List.mem_append.1 hp with hp | hp
      ·exact HSm.out p hp
      ·rw [List.mem_singleton.1 hp]; exact Hl _
     obtain ⟨g,c,evx⟩:∃ g c,v' = .slice (some ⟨g,0,none⟩) ps1.length c:=by
      obtain ⟨xs',_,_,_,I'⟩:=HPx;rcases I'.own.2 with ⟨_,h2⟩ | ⟨g2,c2,_,h2,_⟩
      ·omega
      ·exact ⟨g2,c2,h2⟩
     subst evx;clear eps1 ox gx oq HInq ho kq halq hmm;have hmlt:m<ps1.length:=by omega
     obtain ⟨xs,Bl,rv,zs,In⟩:=HPx;have HIn:Hid (jo w w.heap.size wx (.slice (some ⟨g,0,none⟩) ps1.length c) ps1 xs Bl rv zs):=In;have hgB:w.heap.size≤g:=(In.own.lt g rfl).1;have hgx:g<wx.heap.size:=(In.own.lt g rfl).2;have hgl:g=wr.heap.size→False:=fun e=>gY In.own q0x (by decide) (show some g=some wr.heap.size by rw [e])
     obtain ⟨rva,rvc,erv⟩:∃ rva rvc,rv m = .slice rva ps1[m].2.length rvc:=dy (In.row m hmlt).1;have cx:wx.cell? ⟨g,m*2+1,none⟩=some (.slice rva ps1[m].2.length rvc):=by
      have:=In.own;rw [this.cellAt _ (by omega),In.cell m hmlt,erv]
     have hrow1:ps1[m].2.length≤400:=hsm ps1[m] (Hm hmlt);have ev:Value.slice (some ⟨g,0,none⟩) (m+1) c = .slice (some ⟨g,0,none⟩) ps1.length c:=by rw [hm1]
     have m0:(0:Int)≤(m:Int):=by omega
     have m1:(m:Int)<(m:Int)+1:=by omega
     have m2:(m:Int)≤400:=by omega
     clear In;try rw [hm1]
     go_upto_region 8 with fail
     have hCC:∀ W W':World,(W.heap[wr.heap.size]? = some (.cells #[.slice ka L[k].1.length kc,.slice ra L[k].2.1.length rc,.int .i64 L[k].2.2] 132 (0,0)))→Below W.heap.size W W'→(W'.heap[wr.heap.size]? = some (.cells #[.slice ka L[k].1.length kc,.slice ra L[k].2.1.length rc,.int .i64 L[k].2.2] 132 (0,0))):=fun W W' h hb=>(hb.block _ (ae h)).trans h
     have hdr:Below wx.heap.size wx wx.drew:=(He _ _).drew;have CW:(wx.drew.heap[wr.heap.size]? = some (.cells #[.slice ka L[k].1.length kc,.slice ra L[k].2.1.length rc,.int .i64 L[k].2.2] 132 (0,0))):=hCC _ _ q0x hdr;refine aG (fun W=>(W.heap[wr.heap.size]? = some (.cells #[.slice ka L[k].1.length kc,.slice ra L[k].2.1.length rc,.int .i64 L[k].2.2] 132 (0,0)))) (by kernel_rfl) ?_;refine ab hCC 40 (i:=0) (v:=.pointer (some ⟨g,m*2,none⟩)) (fun n hn=>?_) CW ?_
     ·go_simp
     simp only [Act.put,pA,pB,pC];refine ab hCC 41 (i:=1) (v:=.pointer (some ⟨g,m*2,none⟩)) (fun n hn=>?_) CW ?_
     ·go_simp
     simp only [Act.put,pA,pB,pC];refine ab hCC 42 (i:=2) (v:=.pointer (some ⟨g,m*2,none⟩)) (fun n hn=>?_) CW ?_
     ·go_simp
     simp only [Act.put,pA,pB,pC];refine ab hCC 43 (i:=3) (v:=.pointer (some ⟨g,m*2+1,none⟩)) (fun n hn=>?_) CW ?_
     ·go_simp
     simp only [Act.put,pA,pB,pC];refine ab hCC 45 (i:=5) (v:=.pointer (some ⟨wr.heap.size,1,none⟩)) (fun n hn=>?_) CW ?_
     ·go_simp
     simp only [Act.put,pA,pB,pC];refine ab hCC 46 (i:=6) (v:=.agg #[.slice ra L[k].2.1.length rc,.int .i64 L[k].2.2]) (fun n hn=>?_) CW ?_
     ·have hc:n.cell? ⟨wr.heap.size,1,none⟩=some (.slice ra L[k].2.1.length rc):=cell_of (i:=1) hn rfl;have hc1:n.cell? ⟨wr.heap.size,2,none⟩=some (.int .i64 L[k].2.2):=cell_of (i:=2) hn rfl;go_simp
     simp only [Act.put,pA,pB,pC];refine au (rs:=[4,7]) (by kernel_rfl) (by simp) ?_;intro w3 hb3 jj hj;have D3:=chain hdr hb3;have CW3:=hCC _ _ CW hb3;rcases (by simpa using hj:jj=4∨jj=7) with rfl | rfl
     clear hj;have c3:=(D3.cell (p:=⟨g,m*2+1,none⟩) hgx).trans cx;refine wpOp_step rfl (fun K hK=>?_);go_simp;refine hK _ _ ⟨CW3,?_⟩;clear hK K;try simp only [Act.put,pA,pB,pC]
     refine au (rs:=[7]) (by kernel_rfl) (by simp) ?_;intro w5 hb5 jj hj;obtain rfl:jj=7:=by simpa using hj
     clear hj;refine wpOp_step rfl (fun K hK=>?_);go_simp;have hal5:=aa w5 (.cells #[.slice ra L[k].2.1.length rc,.int .i64 L[k].2.2] 63);have q6:=an w5 #[.slice ra L[k].2.1.length rc,.int .i64 L[k].2.2] 63;have D6:=chain (chain D3 hb5) hal5;have CWt:=hCC _ _ (hCC _ _ CW3 hb5) hal5;refine hK _ _ ⟨CWt,?_⟩;clear hK K c3 CW3;generalize w5.alloc (.cells #[.slice ra L[k].2.1.length rc,.int .i64 L[k].2.2] 63)=w6 at *;try simp only [Act.put,pA,pB,pC]
     refine au (rs:=[8]) (by kernel_rfl) (by simp) ?_;intro w7 hb7 jj hj;obtain rfl:jj=8:=by simpa using hj
     clear hj;have D7:=chain D6 hb7;have CW7:=hCC _ _ CWt hb7;have q7:=(hb7.block _ (ae q6)).trans q6;have I7:=HIn.out.next D7;have rl7:w7.ownsRow Bl 63 2 (.slice rva ps1[m].2.length rvc) ps1[m].2.length (zs m):=by
      have:=(I7.row m hmlt).1;rw [if_pos hm1.symm,erv] at this;exact this
     have hBl7:=I7.hi;refine wpOp_step rfl (fun K hK=>?_);refine Eq.mpr (if_pos (by kernel_rfl)) ?_;refine bM (some 48) rfl (Operand.tmp 44) (Operand.tmp 47) 37 rfl Bl 63 i0 _ 2 32 Tryz.underlying37 hi hj0 hj1 hj2 rfl (by decide) (.slice rva ps1[m].2.length rvc) ps1[m].2.length (zs m) rfl rl7 ⟨w5.heap.size,0,none⟩ 1 1 [.slice ra L[k].2.1.length rc,.int .i64 L[k].2.2] rfl rfl ?Ac1 ?Ac2 ?Ac3 ?Ac4 ?Ac5 ?_
     case Ac1 =>
      intro j u hj
      match j,hj with
      | 0,hj=>simp at hj; subst hj; exact cell_of (i:=0) q7 rfl
      | 1,hj=>simp at hj; subst hj; exact cell_of (i:=1) q7 rfl
     case Ac2=>intro u hu; simp at hu; rcases hu with rfl | rfl <;> rfl
     case Ac3=>unfold maxLen; omega
     case Ac4=>omega
     case Ac5=>exact hBl7
     rotate_left;clear hj;refine wpOp_step rfl (fun K hK=>?_);go_simp;have hal4:=aa w3 (.cells #[.slice ra L[k].2.1.length rc,.int .i64 L[k].2.2] 63);have q4:=an w3 #[.slice ra L[k].2.1.length rc,.int .i64 L[k].2.2] 63;have D4:=chain D3 hal4;have CW4:=hCC _ _ CW3 hal4;refine hK _ _ ⟨CW4,?_⟩;clear hK K;generalize w3.alloc (.cells #[.slice ra L[k].2.1.length rc,.int .i64 L[k].2.2] 63)=w4 at *;try simp only [Act.put,pA,pB,pC]
     refine au (rs:=[4]) (by kernel_rfl) (by simp) ?_;intro w6 hb6 jj hj;obtain rfl:jj=4:=by simpa using hj
     clear hj;have D6:=chain D4 hb6;have CWt:=hCC _ _ CW4 hb6;have q6:=(hb6.block _ (ae q4)).trans q4;have c6:=(D6.cell (p:=⟨g,m*2+1,none⟩) hgx).trans cx;refine wpOp_step rfl (fun K hK=>?_);go_simp;refine hK _ _ ⟨CWt,?_⟩;clear hK K c6 CW3 CW4;try simp only [Act.put,pA,pB,pC]
     refine au (rs:=[8]) (by kernel_rfl) (by simp) ?_;intro w7 hb7 jj hj;obtain rfl:jj=8:=by simpa using hj
     clear hj;have D7:=chain D6 hb7;have CW7:=hCC _ _ CWt hb7;have q7:=(hb7.block _ (ae q6)).trans q6;have I7:=HIn.out.next D7;have rl7:w7.ownsRow Bl 63 2 (.slice rva ps1[m].2.length rvc) ps1[m].2.length (zs m):=by
      have:=(I7.row m hmlt).1;rw [if_pos hm1.symm,erv] at this;exact this
     have hBl7:=I7.hi;refine wpOp_step rfl (fun K hK=>?_);refine Eq.mpr (if_pos (by kernel_rfl)) ?_;refine bM (some 48) rfl (Operand.tmp 44) (Operand.tmp 47) 37 rfl Bl 63 i0 _ 2 32 Tryz.underlying37 hi hj0 hj1 hj2 rfl (by decide) (.slice rva ps1[m].2.length rvc) ps1[m].2.length (zs m) rfl rl7 ⟨w3.heap.size,0,none⟩ 1 1 [.slice ra L[k].2.1.length rc,.int .i64 L[k].2.2] rfl rfl ?Ac1 ?Ac2 ?Ac3 ?Ac4 ?Ac5 ?_
     case Ac1 =>
      intro j u hj
      match j,hj with
      | 0,hj=>simp at hj; subst hj; exact cell_of (i:=0) q7 rfl
      | 1,hj=>simp at hj; subst hj; exact cell_of (i:=1) q7 rfl
     case Ac2=>intro u hu; simp at hu; rcases hu with rfl | rfl <;> rfl
     case Ac3=>unfold maxLen; omega
     case Ac4=>omega
     case Ac5=>exact hBl7
     all_goals
      intro v8 w8 o8 g8 _;have nb8:∀ q,Value.ownBlock (.slice rva ps1[m].2.length rvc)=some q→w.heap.size≤q∧q<w7.heap.size∧(q=wr.heap.size→False)∧(q=g→False):=fun q hq=>by
       have h1:=rl7.lt q hq;refine ⟨HJ I7.lo h1.1,h1.2,fun e=>?_,fun e=>?_⟩
       ·exact gY rl7 CW7 (by decide) (by rw [hq,e])
       ·have o7:=I7.own;rcases kD (by decide) rl7 o7 with h2 | h2
        ·rw [h2] at hq; cases hq
        ·exact h2 (by rw [hq,e]; rfl)
      have CW8:(w8.heap[wr.heap.size]? = some (.cells #[.slice ka L[k].1.length kc,.slice ra L[k].2.1.length rc,.int .i64 L[k].2.2] 132 (0,0))):=(g8.block _ (ae CW7) (fun e=>(nb8 _ e.symm).2.2.1 rfl)).trans CW7;have c8:w8.cell? ⟨g,m*2+1,none⟩=some (.slice rva ps1[m].2.length rvc)∧w8.frozen? ⟨g,m*2+1,none⟩=false:=by
       have o7:=I7.own;rw [hm1] at o7;have hb8:w8.heap[g]? = w7.heap[g]?:=g8.block g (o7.lt g rfl).2 (fun e=>(nb8 _ e.symm).2.2.2 rfl);refine ⟨(Hz (a:=⟨g,m*2+1,none⟩) hb8).trans ?_,(IW (a:=⟨g,m*2+1,none⟩) hb8).trans (o7.frozenAt _)⟩;rw [o7.cellAt _ (by omega),I7.cell m hmlt,erv]
      have hg8:g<w8.heap.size:=by
       have o7:=I7.own;rw [hm1] at o7;exact Hi (o7.lt g rfl).2 g8.size
      refine hK _ _ ⟨CW8,?_⟩;clear hK K;try simp only [Act.put,pA,pB,pC]
      refine ab hCC 49 (i:=9) (v:=.pointer (some ⟨g,m*2,none⟩)) (fun n hn=>?_) CW8 ?_
      ·go_simp
      simp only [Act.put,pA,pB,pC];refine ab hCC 50 (i:=10) (v:=.pointer (some ⟨g,m*2+1,none⟩)) (fun n hn=>?_) CW8 ?_
      ·go_simp
      simp only [Act.put,pA,pB,pC];refine au (rs:=[11]) (by kernel_rfl) (by simp) ?_;intro w9 hb9 jj hj;obtain rfl:jj=11:=by simpa using hj
      clear hj;have c9:w9.cell? ⟨g,m*2+1,none⟩=some (.slice rva ps1[m].2.length rvc):=(hb9.cell (p:=⟨g,m*2+1,none⟩) hg8).trans c8.1;have f9:w9.frozen? ⟨g,m*2+1,none⟩=false:=(hb9.frozen (p:=⟨g,m*2+1,none⟩) hg8).trans c8.2;have CW9:=hCC _ _ CW8 hb9;obtain ⟨v8a,v8c,ev8⟩:∃ v8a v8c,v8 = .slice v8a (ps1[m].2.length+1) v8c:=dy o8;have P9:jq w w.heap.size (w9.setCell ⟨g,m*2+1,none⟩ v8) (.slice (some ⟨g,0,none⟩) (m+1) c) (jC ps1 L[k].2):=by
       have I7':=I7;rw [← ev] at I7';exact jo.put I7' hm1 (rc:=rc) HSr.out (by rw [erv]; exact g8) o8 hb9
      have B9:Below w.heap.size w (w9.setCell ⟨g,m*2+1,none⟩ v8):=((chain ((chain hbx D7).trans ((He _ _).grown g8 (HJ hbx.size D7.size) (fun q hq=>(nb8 q hq).1))) hb9)).setCell (p:=⟨g,m*2+1,none⟩) hgB _;have CW10:((w9.setCell ⟨g,m*2+1,none⟩ v8).heap[wr.heap.size]? = some (.cells #[.slice ka L[k].1.length kc,.slice ra L[k].2.1.length rc,.int .i64 L[k].2.2] 132 (0,0))):=(Im _ _ _ _ (fun e=>hgl e.symm)).trans CW9;subst ev8;refine wpOp_step rfl (fun K hK=>?_);go_simp;refine hK _ _ ⟨CW10,?_⟩;clear hK K CW7 CW8 CW9 c8 c9 f9 nb8 rl7 I7 q7 o8 g8
      generalize w9.setCell ⟨g,m*2+1,none⟩ (.slice v8a (ps1[m].2.length+1) v8c)=wS at *;try simp only [Act.put,pA,pB,pC]
      refine bd (by kernel_rfl) ?_;intro wT hbT;have PT:=P9.next hbT;have BT:=chain B9 hbT;clear P9 B9 CW10 CW CWt;go_wp2_with fail
      go_roundw
      case rel=>exact ⟨k+1,by omega,by go_num,by rw [HT.out,eo]; first | exact PT | (rw [hm1]; exact PT),BT⟩
      case measure=>simp [intOf]; omega
  ·have e:k=L.length:=by omega
   subst e;rw [Ib] at HPs;obtain ⟨va,vc,ev⟩:∃ va vc,u3 = .slice va (cI L).length vc:=by obtain ⟨_,_,_,_,I⟩:=HPs; exact dy I.own
   subst ev;go_wp2_with fail
   go_ret;exact ⟨_,rfl,HPs,hb⟩
theorem nO (af:List Int) (g:Ag) (ca:Option Addr) (ccap:Nat) (a:Option Addr) (cap:Nat) (w:World) (hk:aO w.heap.size w a g.2.ks) (hc:bo w.heap.size w ca af) (h:¬ bT af g=0) :
  Calls Tryz.prog 111 #[.slice ca af.length ccap,.agg #[.int .i64 g.1,.int .i64 g.2.k,.int .i64 g.2.v.1,.int .i64 g.2.v.2.1,.string g.2.v.2.2,.int .i64 g.2.c,.slice a g.2.ks.length cap]] w fun e w'=>e = .returned (.tuple #[.nilFunc,.int .i64 (bT af g)])∧Below w.heap.size w w':=by
 have hal:=aa w (.cells #[.int .i64 g.1,.int .i64 g.2.k,.int .i64 g.2.v.1,.int .i64 g.2.v.2.1,.string g.2.v.2.2,.int .i64 g.2.c,.slice a g.2.ks.length cap] 67);have q0:=an w #[.int .i64 g.1,.int .i64 g.2.k,.int .i64 g.2.v.1,.int .i64 g.2.v.2.1,.string g.2.v.2.2,.int .i64 g.2.c,.slice a g.2.ks.length cap] 67;have h1:¬ g.1=1:=fun h1=>h (by unfold bT; rw [if_pos h1])
 generalize hme:bT af g=me at *;have HM:Hid (bT af g=me):=hme;clear hme;by_cases h2:g.1<2∨5<g.1
 ·have e:me=1:=by rw [← HM.out]; unfold bT; rw [if_neg h1,if_pos h2]
  subst e;have n1:(g.1 == 1)=false:=by simpa using h1
  have n2:(g.1 == 2)=false:=by simp; omega
  have n3:(g.1 == 3)=false:=by simp; omega
  have n4:(g.1 == 4)=false:=by simp; omega
  have n5:(g.1 == 5)=false:=by simp; omega
  clear h h1 h2;go_enter Tryz.func111,Tryz.ntmps111;go_wp2_with fail
  exact Hf (v:=.tuple #[.nilFunc,.int .i64 1]) (by simp [results,Tryz.results111,go_sem]) rfl ⟨rfl,hal⟩
 ·have hk4:g.1=2∨g.1=3∨g.1=4∨g.1=5:=by omega
  by_cases h3:(ak af g.2).2=0
  ·have e3:g.1=3∧(ak af g.2).1≠3∧(ak af g.2).1≠1:=Classical.byContradiction fun hn=>by
    have:=HM.out;unfold bT at this;rw [if_neg h1,if_neg h2,if_neg (by simpa using h3),if_neg hn] at this;exact h this.symm
   have e9:me=9:=by rw [← HM.out]; unfold bT; rw [if_neg h1,if_neg h2,if_neg (by simpa using h3),if_pos e3]
   subst e9;have con:=gN af g.2 ca ccap a cap _ ((aO.next hal (Hd _) hk).up hal.size) ((hc.next hal (Hd _)).up hal.size) h3;obtain ⟨e31,e32,e33⟩:=e3;generalize (ak af g.2).1=t at *;unfold iY at con;go_enter Tryz.func111,Tryz.ntmps111;clear h h1 h2 h3 hk4;generalize hk1:g.1=kd at *;clear hk1;subst e31;have t3:(t != 3)=true:=by simpa using e32
   have t1:(t != 1)=true:=by simpa using e33
   clear e32 e33;go_wp2_with fail
   generalize w.alloc (.cells #[.int .i64 3,.int .i64 g.2.k,.int .i64 g.2.v.1,.int .i64 g.2.v.2.1,.string g.2.v.2.2,.int .i64 g.2.c,.slice a g.2.ks.length cap] 67)=w1 at *;refine con.mono ?_;rintro e w2 ⟨u,rfl,hA2,hb2⟩;have hA:=chain hal hb2;have q2:=(hb2.block _ (ae q0)).trans q0;have c0:w2.cell? ⟨w.heap.size,0,none⟩=some (.int .i64 3):=cell_of (i:=0) q2 rfl;clear con;obtain ⟨g',cb,rfl⟩:∃ g' cb,u = .func (.func g') #[] cb:=by obtain ⟨g',cb,e,_⟩:=hA2; exact ⟨g',cb,e⟩
   dsimp only;go_wp2_with fail
   exact Hf (v:=.tuple #[.nilFunc,.int .i64 9]) (by simp [results,Tryz.results111,go_sem]) rfl ⟨rfl,hA⟩
  ·have con:=jM af g.2 ca ccap a cap _ ((aO.next hal (Hd _) hk).up hal.size) ((hc.next hal (Hd _)).up hal.size) h3;have em:me=(ak af g.2).2:=by rw [← HM.out]; unfold bT; rw [if_neg h1,if_neg h2,if_pos h3]
   have hne:(me != 0)=true:=by simpa using h
   rw [← em] at con;unfold iY at con;go_enter Tryz.func111,Tryz.ntmps111;clear h h1 h2 h3 em HM;generalize hk1:g.1=kd at *;clear hk1;rcases hk4 with rfl | rfl | rfl | rfl
   all_goals (
    go_wp2_with fail
    generalize w.alloc (.cells #[_,.int .i64 g.2.k,.int .i64 g.2.v.1,.int .i64 g.2.v.2.1,.string g.2.v.2.2,.int .i64 g.2.c,.slice a g.2.ks.length cap] 67)=w1 at *;refine con.mono ?_;rintro e w2 ⟨rfl,hb2⟩;have hA:=chain hal hb2;clear con;dsimp only;go_wp2_with fail
    exact Hf (v:=.tuple #[.nilFunc,.int .i64 me]) (by simp [results,Tryz.results111,go_sem]) rfl ⟨rfl,hA⟩)
def dY (k:Int):Prop:=∀ w,Calls Tryz.prog 112 #[.int .i64 k] w fun e w'=>∃ u,e = .returned u∧nj w.heap.size u (eQ k) w'∧Below w.heap.size w w'
theorem xD (lo:Nat) (w:World):nj lo (.func (.func 153) #[] #[]) countP w :=
 ⟨153,#[],rfl,enters_of Tryz.func153 (by kernel_rfl) rfl,fun l a cap W hk hs _=>by simpa using BM a cap l W hs hk⟩
theorem ym (k:Int) (h3:¬ k=3) (h4:¬ k=4) (h5:¬ k=5):dY k:=by
 intro w;have eT:eQ k=countP:=by funext l; unfold eQ; rw [if_neg h3,if_neg h4,if_neg h5]
 rw [eT];have n3:(k == 3)=false:=by simpa using h3
 have n4:(k == 4)=false:=by simpa using h4
 have n5:(k == 5)=false:=by simpa using h5
 clear h3 h4 h5 eT;go_enter Tryz.func112,Tryz.ntmps112;go_wp2
 go_ret;exact ⟨_,rfl,xD _ _,He _ _⟩
theorem rX {n:Nat} (h:n≤8) (w:World):(Instr.makeSlice 160 (.int .i64 n) (.int .i64 n)).run Tryz.prog w = .ok (.slice (some ⟨w.heap.size,0,none⟩) n n) (w.alloc (.cells (Array.replicate n Value.nilFunc) 167)):=by
 obtain rfl | rfl | rfl | rfl | rfl | rfl | rfl | rfl | rfl:n=0∨n=1∨n=2∨n=3∨n=4∨n=5∨n=6∨n=7∨n=8:=by omega
 all_goals kernel_rfl
structure yD (af:List Int) (K kb M:Nat) (W:World) (Fs:List (List Zp→Vl)) (j:Nat):Prop where
 lt:K<M∧kb<M∧K≠kb∧M≤W.heap.size
 box:W.cell? ⟨kb,0,none⟩=some (.slice (some ⟨K,0,none⟩) Fs.length Fs.length)
 room:∀ i,i<Fs.length→(∃ u,W.cell? ⟨K,i,none⟩=some u)∧W.frozen? ⟨K,i,none⟩=false
 done:∀ i (h:i<Fs.length),i<j→∃ u,W.cell? ⟨K,i,none⟩=some u∧iD af M u Fs[i] W
theorem yD.next {af:List Int} {K kb M:Nat} {W w1:World} {Fs:List (List Zp→Vl)} {j:Nat} (h:yD af K kb M W Fs j) (hb:Below W.heap.size W w1):yD af K kb M w1 Fs j:=by
 obtain ⟨h1,h2,h3,h4⟩:=h;have z:=hb.size;refine ⟨⟨h1.1,h1.2.1,h1.2.2.1,by omega⟩,(hb.cell (p:=⟨kb,0,none⟩) (by show kb<_; omega)).trans h2,fun i hi=>?_,fun i hi hj=>?_⟩
 ·obtain ⟨⟨u,hu⟩,hf⟩:=h3 i hi;exact ⟨⟨u,(hb.cell (p:=⟨K,i,none⟩) (by show K<_; omega)).trans hu⟩,(hb.frozen (p:=⟨K,i,none⟩) (by show K<_; omega)).trans hf⟩
 ·obtain ⟨u,hu,ha⟩:=h4 i hi hj;exact ⟨u,(hb.cell (p:=⟨K,i,none⟩) (by show K<_; omega)).trans hu,ha.next (Since.of hb)⟩
theorem yD.store {af:List Int} {K kb M:Nat} {W:World} {Fs:List (List Zp→Vl)} {j:Nat} (h:yD af K kb M W Fs j) (hj:j<Fs.length) {u:Value} (ha:iD af M u Fs[j] W):yD af K kb M (W.setCell ⟨K,j,none⟩ u) Fs (j+1):=by
 obtain ⟨h1,h2,h3,h4⟩:=h;have hS:Since M W (W.setCell ⟨K,j,none⟩ u):=(Since.refl M W).set K j u (by omega);have same:(W.setCell ⟨K,j,none⟩ u).cell? ⟨K,j,none⟩=some u:=IN _ _ _ (by obtain ⟨⟨u',hu⟩,_⟩:=h3 j hj; rw [hu]; rfl);refine ⟨⟨h1.1,h1.2.1,h1.2.2.1,by simpa using h1.2.2.2⟩,?_,fun i hi=>?_,fun i hi hij=>?_⟩
 ·rw [Hq _ _ _ _ (by intro e; injection e with e; omega)]; exact h2
 ·obtain ⟨⟨u',hu⟩,hf⟩:=h3 i hi;refine ⟨?_,by rw [Io]; exact hf⟩;by_cases e:i=j
  ·subst e; exact ⟨_,same⟩
  ·exact ⟨u',by rw [Hq _ _ _ _ (by intro e; injection e with _ e; omega)]; exact hu⟩
 ·by_cases e:i=j
  ·subst e; exact ⟨u,same,ha.next hS⟩
  ·obtain ⟨u',hu,ha'⟩:=h4 i hi (by omega);exact ⟨u',by rw [Hq _ _ _ _ (by intro e; injection e with _ e; omega)]; exact hu,ha'.next hS⟩
theorem yD.kids {af:List Int} {K kb M lo:Nat} {W:World} {Fs:List (List Zp→Vl)} (h:yD af K kb M W Fs Fs.length) (h1:lo≤K) (h2:lo≤kb):pF af lo W kb Fs:=by
 obtain ⟨l1,l2,_,l4⟩:=h;refine ⟨K,h2,by omega,h1,by omega,l2,fun i hi=>?_⟩;obtain ⟨u,hu,ha⟩:=l4 i hi hi;exact ⟨u,hu,ha.down (by omega)⟩
theorem yD.new {af:List Int} {w:World} {n:Nat} (Fs:List (List Zp→Vl)) (hn:n=Fs.length) (T T':TypeId) :
  yD af w.heap.size (w.heap.size+1) (w.heap.size+2) ((w.alloc (.cells (Array.replicate n Value.nilFunc) T)).alloc (.cells #[.slice (some ⟨w.heap.size,0,none⟩) n n] T')) Fs 0:=by
 subst hn;refine ⟨⟨by omega,by omega,by omega,by simp⟩,?_,fun i hi=>⟨⟨Value.nilFunc,?_⟩,?_⟩,fun i _ h=>absurd h (Iu _)⟩
 ·rw [Iv _ _ _ _ (by simp)]; rfl
 ·rw [World.cell?_alloc_past _ _ _ (by simp),Iv _ _ _ _ rfl];simp [hi]
 ·rw [World.frozen?_alloc_past _ _ _ (by simp)];exact IX _ _ _ _ rfl
def zI (af:List Int) (lo:Nat) (u:Value) (gs:List Ag) (w:World):Prop :=
 ∃ g cb,u = .func (.func g) #[] cb∧(∀ args w,(callFunc g args).run Tryz.prog w = .ok (.enter g args) w) ∧
  ∀ (rows:List Zp) (a:Option Addr) (cap:Nat) (W:World),yC af rows→bP W a rows→Since lo w W →
   Calls Tryz.prog g (#[.slice a rows.length cap] ++ cb) W fun e w'=>e = .returned (.slice (some ⟨W.heap.size,0,none⟩) gs.length gs.length)∧kt W.heap.size w' (gs.map fun g=>gU g rows)∧Below W.heap.size W w'
theorem zI.next {af:List Int} {lo:Nat} {u:Value} {gs:List Ag} {w w1:World} (h:zI af lo u gs w) (hb:Since lo w w1):zI af lo u gs w1:=by
 obtain ⟨g,cb,e,eg,hd⟩:=h;exact ⟨g,cb,e,eg,fun row a cap W hf hs hW=>hd row a cap W hf hs (hb.trans hW)⟩
theorem C6 {gs:List Ag} {j:Nat} (h:j<gs.length):(gs.map fun g=>gU g)[j]'(by simpa using h)=gU gs[j]:=by simp
theorem px (af:List Int) (gs:List Ag) (hT:∀ g ∈ gs,bT af g=0→dY g.1) (ca:Option Addr) (ccap:Nat) (xa:Option Addr) (xcap:Nat) (w:World) (hk:fJ w.heap.size w xa gs) (hc:bo w.heap.size w ca af) (h8:gs.length≤8) :
  Calls Tryz.prog 83 #[.slice ca af.length ccap,.slice xa gs.length xcap] w fun e w'=>∃ u,e = .returned (.tuple #[u,.int .i64 (cN af gs)])∧((cN af gs=0∧zI af w.heap.size u gs w')∨(¬ cN af gs=0∧u = .nilFunc))∧Below w.heap.size w w':=by
 have HTot:Hid (∀ g ∈ gs,bT af g=0→dY g.1):=hT;obtain ⟨Fs,eFs⟩:∃ Fs:List (List Zp→Vl),Fs=gs.map fun g=>gU g:=⟨_,rfl⟩
 have HFs:Hid (Fs=gs.map fun g=>gU g):=eFs;have lFs:Fs.length=gs.length:=by rw [eFs]; simp
 generalize hle:cN af gs=le;have HE:Hid (cN af gs=le):=hle;clear hT eFs hle;have hmk:=rX h8;have F0:yD af w.heap.size (w.heap.size+1) (w.heap.size+2) ((w.alloc (.cells (Array.replicate gs.length Value.nilFunc) 167)).alloc (.cells #[.slice (some ⟨w.heap.size,0,none⟩) gs.length gs.length] 160)) Fs 0:=yD.new Fs lFs.symm _ _;have hA:Below w.heap.size w ((w.alloc (.cells (Array.replicate gs.length Value.nilFunc) 167)).alloc (.cells #[.slice (some ⟨w.heap.size,0,none⟩) gs.length gs.length] 160)):=((He _ _).alloc (Hd _) _).alloc (by simp) _
 go_enter Tryz.func83,Tryz.ntmps83;go_wp2_with fail
 generalize (w.alloc (.cells (Array.replicate gs.length Value.nilFunc) 167)).alloc (.cells #[.slice (some ⟨w.heap.size,0,none⟩) gs.length gs.length] 160)=w2 at *;clear hmk;go_loopw [17] (fun i wr=>∃ j:Nat,j≤gs.length∧i = .int .i64 j∧yD af w.heap.size (w.heap.size+1) (w.heap.size+2) wr Fs j∧Hid (le=cN af (gs.drop j))∧Below w.heap.size w wr) (fun i _=>gs.length - (intOf i).toNat)
 case atStart=>exact ⟨0,Hl _,rfl,F0,HE.out.symm,hA⟩
 case round =>
  clear F0 hA;obtain ⟨j,hj,rfl,F,HT,hb⟩:=hrel;have hz:=hb.size;have hzF:=F.lt.2.2.2;by_cases hlt:j<gs.length
  ·obtain ⟨b,off,ai,ci,rfl,hbl,x0,sx,kx⟩:=(fJ.next hb (Hd _) hk).elem hlt;obtain ⟨x1,x2,x3,x4,x5,x6⟩:=sx;have hal:=aa wr (.cells #[.int .i64 gs[j].1,.int .i64 gs[j].2.k,.int .i64 gs[j].2.v.1,.int .i64 gs[j].2.v.2.1,.string gs[j].2.v.2.2,.int .i64 gs[j].2.c,.slice ai gs[j].2.ks.length ci] 67);have q0:=an wr #[.int .i64 gs[j].1,.int .i64 gs[j].2.k,.int .i64 gs[j].2.v.1,.int .i64 gs[j].2.v.2.1,.string gs[j].2.v.2.2,.int .i64 gs[j].2.c,.slice ai gs[j].2.ks.length ci] 67;have Fk:=F.next hal
   have zk:(wr.alloc (.cells #[.int .i64 gs[j].1,.int .i64 gs[j].2.k,.int .i64 gs[j].2.v.1,.int .i64 gs[j].2.v.2.1,.string gs[j].2.v.2.2,.int .i64 gs[j].2.c,.slice ai gs[j].2.ks.length ci] 67)).heap.size=wr.heap.size+1:=by simp
   have kk:=(aO.next hal hz kx).up (show w.heap.size≤(wr.alloc (.cells #[.int .i64 gs[j].1,.int .i64 gs[j].2.k,.int .i64 gs[j].2.v.1,.int .i64 gs[j].2.v.2.1,.string gs[j].2.v.2.2,.int .i64 gs[j].2.c,.slice ai gs[j].2.ks.length ci] 67)).heap.size by omega);have cc:=((hc.next hb (Hd _)).next hal hz).up (show w.heap.size≤(wr.alloc (.cells #[.int .i64 gs[j].1,.int .i64 gs[j].2.k,.int .i64 gs[j].2.v.1,.int .i64 gs[j].2.v.2.1,.string gs[j].2.v.2.2,.int .i64 gs[j].2.c,.slice ai gs[j].2.ks.length ci] 67)).heap.size by omega);have hjz:(j:Int)<gs.length:=by omega
   by_cases h0:bT af gs[j]=0
   ·have con:=pj af gs[j] ca ccap ai ci _ kk cc h0;have HTo:Hid (dY gs[j].1):=HTot.out _ (Hm hlt) h0;have Hr:Hid (∀ row,et af row→bh (eY gs[j] row)=0∧fT (eY gs[j] row)):=sI h0;have HN:Hid (le=cN af (gs.drop (j+1))):=HT.out.trans (uK af gs j hlt h0);clear h0 HT;go_upto_region 5 with fail
    clear x0 x1 x2 x3 x4 x5 x6 kx kk cc;generalize wr.alloc (.cells #[.int .i64 gs[j].1,.int .i64 gs[j].2.k,.int .i64 gs[j].2.v.1,.int .i64 gs[j].2.v.2.1,.string gs[j].2.v.2.2,.int .i64 gs[j].2.c,.slice ai gs[j].2.ks.length ci] 67)=wk at *;have p0:wk.cell? ⟨wr.heap.size,0,none⟩=some (.int .i64 gs[j].1):=cell_of (i:=0) q0 rfl;have p1:wk.cell? ⟨wr.heap.size,1,none⟩=some (.int .i64 gs[j].2.k):=cell_of (i:=1) q0 rfl;have p2:wk.cell? ⟨wr.heap.size,2,none⟩=some (.int .i64 gs[j].2.v.1):=cell_of (i:=2) q0 rfl
    have p3:wk.cell? ⟨wr.heap.size,3,none⟩=some (.int .i64 gs[j].2.v.2.1):=cell_of (i:=3) q0 rfl;have p4:wk.cell? ⟨wr.heap.size,4,none⟩=some (.string gs[j].2.v.2.2):=cell_of (i:=4) q0 rfl;have p5:wk.cell? ⟨wr.heap.size,5,none⟩=some (.int .i64 gs[j].2.c):=cell_of (i:=5) q0 rfl;have p6:wk.cell? ⟨wr.heap.size,6,none⟩=some (.slice ai gs[j].2.ks.length ci):=cell_of (i:=6) q0 rfl;go_wp2_with fail
    refine con.mono ?_;rintro e w3 ⟨u,rfl,hA3,hb3⟩;clear con p0 p1 p2 p3 p4 p5 p6;obtain ⟨ug,ucb,rfl⟩:∃ g cb,u = .func (.func g) #[] cb:=by obtain ⟨g,cb,e,_⟩:=hA3; exact ⟨g,cb,e⟩
    have hal4:=aa w3 (.cells #[.func (.func ug) #[] ucb] 156);have q4:=an w3 #[.func (.func ug) #[] ucb] 156;have q0':=((chain hb3 hal4).block _ (ae q0)).trans q0;have z3:=hb3.size;have hV:fc af (w.heap.size+2) (.func (.func ug) #[] ucb) (eY gs[j]) (w3.alloc (.cells #[.func (.func ug) #[] ucb] 156)):=(hA3.down (by omega)).next (Since.of hal4);have F4:=(Fk.next hb3).next hal4;have hA4:=chain (chain (chain hb hal) hb3) hal4;dsimp only;go_upto_region 8 with fail
    clear hA3;generalize w3.alloc (.cells #[.func (.func ug) #[] ucb] 156)=w4 at *;have c8:w4.cell? ⟨wr.heap.size,0,none⟩=some (.int .i64 gs[j].1):=cell_of (i:=0) q0' rfl;have con:=HTo.out w4;go_wp2_with fail
    refine con.mono ?_;rintro e w5 ⟨u5,rfl,hT5,hb5⟩;clear con c8;obtain ⟨tg,tcb,rfl⟩:∃ g cb,u5 = .func (.func g) #[] cb:=by obtain ⟨g,cb,e,_⟩:=hT5; exact ⟨g,cb,e⟩
    have hal6:=aa w5 (.cells #[.func (.func tg) #[] tcb] 163);have q6:=an w5 #[.func (.func tg) #[] tcb] 163;have q4':=((chain hb5 hal6).block _ (ae q4)).trans q4;have z5:=hb5.size;have z4:=hal4.size;have hT6:nj (w.heap.size+2) (.func (.func tg) #[] tcb) (eQ gs[j].1) (w5.alloc (.cells #[.func (.func tg) #[] tcb] 163)):=(hT5.down (by omega)).next (Since.of hal6);have hV6:=(hV.next (Since.of hb5)).next (Since.of hal6);have F6:=(F4.next hb5).next hal6;have hA6:=chain (chain hA4 hb5) hal6
    have t6:=ae q6;have v6:=ae q4';dsimp only;go_upto_region 9 with fail
    clear hT5 hV;generalize w5.alloc (.cells #[.func (.func tg) #[] tcb] 163)=w6 at *;have RF:iD af (w.heap.size+2) (.func (.func 113) #[] #[.pointer (some ⟨w5.heap.size,0,none⟩),.pointer (some ⟨w3.heap.size,0,none⟩)]) (gU gs[j]) w6:=by
     refine ⟨113,_,rfl,enters_of Tryz.func113 (by kernel_rfl) rfl,fun rows a cap W hr hs hW=>?_⟩;exact Dm af (w.heap.size+2) _ _ (eQ gs[j].1) (eY gs[j]) Hr.out w5.heap.size w3.heap.size a cap rows W ((hW.cell (p:=⟨w5.heap.size,0,none⟩) (by show _≤w5.heap.size; omega) t6).trans (cell_of (i:=0) q6 rfl)) ((hW.cell (p:=⟨w3.heap.size,0,none⟩) (by show _≤w3.heap.size; omega) v6).trans (cell_of (i:=0) q4' rfl)) (hT6.next hW) (hV6.next hW) hr hs
    have HRF:Hid (iD af (w.heap.size+2) (.func (.func 113) #[] #[.pointer (some ⟨w5.heap.size,0,none⟩),.pointer (some ⟨w3.heap.size,0,none⟩)]) (Fs[j]'(by omega)) w6):=by
     show iD _ _ _ _ _;have e:Fs[j]'(by omega)=gU gs[j]:=by simp only [HFs.out]; exact C6 hlt
     rw [e]; exact RF
    have b6:=F6.box;obtain ⟨⟨un,r2⟩,r3⟩:=F6.room j (by omega);rw [lFs] at b6;clear RF hT6 hV6;go_wp2
    go_roundw
    case rel=>exact ⟨j+1,by omega,by go_num,F6.store (by omega) HRF.out,HN,hA6.setCell (p:=⟨w.heap.size,j,none⟩) (Hd _) _⟩
    case measure=>simp [intOf]; omega
   ·have con:=nO af gs[j] ca ccap ai ci _ kk cc h0;have HN:Hid (le=bT af gs[j]):=HT.out.trans (zy af gs j hlt h0);have hne:(bT af gs[j] != 0)=true:=by simpa using h0
    have HN0:Hid (¬ le=0):=by show ¬ _; rw [HN.out]; exact h0
    rw [← HN.out] at con hne;clear h0 HT;go_upto_region 5 with fail
    clear x0 x1 x2 x3 x4 x5 x6 kx kk cc;generalize wr.alloc (.cells #[.int .i64 gs[j].1,.int .i64 gs[j].2.k,.int .i64 gs[j].2.v.1,.int .i64 gs[j].2.v.2.1,.string gs[j].2.v.2.2,.int .i64 gs[j].2.c,.slice ai gs[j].2.ks.length ci] 67)=wk at *;have p0:wk.cell? ⟨wr.heap.size,0,none⟩=some (.int .i64 gs[j].1):=cell_of (i:=0) q0 rfl;have p1:wk.cell? ⟨wr.heap.size,1,none⟩=some (.int .i64 gs[j].2.k):=cell_of (i:=1) q0 rfl;have p2:wk.cell? ⟨wr.heap.size,2,none⟩=some (.int .i64 gs[j].2.v.1):=cell_of (i:=2) q0 rfl
    have p3:wk.cell? ⟨wr.heap.size,3,none⟩=some (.int .i64 gs[j].2.v.2.1):=cell_of (i:=3) q0 rfl;have p4:wk.cell? ⟨wr.heap.size,4,none⟩=some (.string gs[j].2.v.2.2):=cell_of (i:=4) q0 rfl;have p5:wk.cell? ⟨wr.heap.size,5,none⟩=some (.int .i64 gs[j].2.c):=cell_of (i:=5) q0 rfl;have p6:wk.cell? ⟨wr.heap.size,6,none⟩=some (.slice ai gs[j].2.ks.length ci):=cell_of (i:=6) q0 rfl;go_wp2_with fail
    refine con.mono ?_;rintro e w3 ⟨rfl,hb3⟩;clear con p0 p1 p2 p3 p4 p5 p6;have hal4:=aa w3 (.cells #[.nilFunc] 156);dsimp only;go_wp2
    exact Hf (v:=.tuple #[.nilFunc,.int .i64 le]) (by simp [results,Tryz.results83,go_sem]) rfl ⟨_,rfl,.inr ⟨HN0.out,rfl⟩,chain (chain (chain hb hal) hb3) hal4⟩
  ·have e:j=gs.length:=by omega
   subst e;have e0:le=0:=by rw [HT.out,List.drop_length]; rfl
   subst e0;have KF:Hid (pF af w.heap.size wr (w.heap.size+1) Fs):=by rw [← lFs] at F; exact F.kids (Hd _) (by omega)
   have AF:Hid (zI af w.heap.size (.func (.func 115) #[] #[.pointer (some ⟨w.heap.size+1,0,none⟩)]) gs wr):=⟨115,_,rfl,enters_of Tryz.func115 (by kernel_rfl) rfl,fun rows a cap W hr hs hW=>by
    have:=DJ af w.heap.size (w.heap.size+1) Fs a rows cap W (KF.out.next hW) (by omega) hr hs;have em:(Fs.map fun F:List Zp→Vl=>F rows)=gs.map fun g=>gU g rows:=by rw [HFs.out,Ix]; rfl
    rw [lFs,em] at this;exact this⟩
   go_wp2_with fail
   first
    | exact Hf (v:=.tuple #[.func (.func 115) #[] #[.pointer (some ⟨w.heap.size+1,0,none⟩)],.int .i64 0]) (by simp [results,Tryz.results83,go_sem]) rfl ⟨_,rfl,.inl ⟨rfl,AF.out⟩,hb⟩
    | exact Hf (v:=.tuple #[.func (.func 115) #[] #[.pointer (some ⟨w.heap.size+1,0,none⟩)],.int .i64 0]) (by simp [results,Tryz.results83,go_sem]) rfl ⟨_,rfl,AF.out,hb⟩
end Go.Proofs.YtjebpkhkjkjphaaGreat
