/- Together: HL3, H2, H3, H4, G1, G3, G4, G5. -/
import Derived.Deep.Cut
import Derived.Laws.EntriesVeiled
import Derived.Test.YtcnmpiahcnkndaaGreatMM8
import Derived.Test.YtcnmpiahcnkndaaGreatMM3
/- What makes a place; the rows in line. -/
namespace Go.Proofs.YtcnmpiahcnkndaaGreat
open Go.RowKit Go.Lib Go.Shelf

/-- A place has been made. -/
def PlMade (ps os:List Ex) (row:List Vl) (a:Option Addr) (cap:Nat) (W:World) (e:Ending) (w':World):Prop :=
 ∃ pa pc oa oc,e = .returned (.agg #[.slice pa ps.length pc,.slice oa os.length oc,.slice a row.length cap])∧(SlAt w' pa (rowX ps row)∧TyAt w' pa)∧(SlAt w' oa (rowX os row)∧TyAt w' oa)∧Below W.heap.size W w'
/-- A function value makes places of rows. -/
def PlaceF (cols:List Int) (lo:Nat) (u:Value) (ps os:List Ex) (w:World):Prop :=
 ∃ g cb,u = .func (.func g) #[] cb∧(∀ args w,(callFunc g args).run Tryz.prog w = .ok (.enter g args) w) ∧
  ∀ (row:List Vl) (a:Option Addr) (cap:Nat) (W:World),FitP cols row→SlAt W a row→Since lo w W →
   Calls Tryz.prog g (#[.slice a row.length cap] ++ cb) W (PlMade ps os row a cap W)
theorem PlaceF.next {cols:List Int} {lo:Nat} {u:Value} {ps os:List Ex} {w w1:World} (h:PlaceF cols lo u ps os w) (hb:Since lo w w1):PlaceF cols lo u ps os w1:=by
 obtain ⟨g,cb,e,eg,hd⟩:=h
 exact ⟨g,cb,e,eg,fun row a cap W hf hs hW=>hd row a cap W hf hs (hb.trans hW)⟩

theorem SlAt.same {W W':World} {g off:Nat} {l:List Vl} (h:SlAt W (some ⟨g,off,none⟩) l) (hs:W'.heap[g]? = W.heap[g]?) (hz:W.heap.size≤W'.heap.size):SlAt W' (some ⟨g,off,none⟩) l:=by
 refine ⟨h.1,?_⟩
 rcases h.2 with e | ⟨b,o,e,hr,hlt⟩
 ·exact .inl e
 ·have e':=Option.some.inj e
  injection e' with e1 e2
  subst e1 e2
  refine .inr ⟨_,_,rfl,fun i hi=>?_,Nat.lt_of_lt_of_le hlt hz⟩
  obtain ⟨k0,k1,k2⟩:=hr i hi
  exact ⟨(World.cell?_of_block (a:=⟨g,_,none⟩) hs).trans k0,(World.cell?_of_block (a:=⟨g,_,none⟩) hs).trans k1,(World.cell?_of_block (a:=⟨g,_,none⟩) hs).trans k2⟩
theorem TyAt.same {W W':World} {g off:Nat} (h:TyAt W (some ⟨g,off,none⟩)) (hs:W'.heap[g]? = W.heap[g]?):TyAt W' (some ⟨g,off,none⟩):=fun b o e=>by
 obtain ⟨c,z,k⟩:=h b o e
 have e':=Option.some.inj e
 injection e' with e1 e2
 subst e1
 exact ⟨c,z,hs.trans k⟩
theorem far3 (w:World) (g k:Nat) (h:k≠g) (x y z:Value):(((w.setCell ⟨g,0,none⟩ x).setCell ⟨g,1,none⟩ y).setCell ⟨g,2,none⟩ z).heap[k]? = w.heap[k]?:=by
 rw [Below.heap_setCell _ _ _ k h,Below.heap_setCell _ _ _ k h,Below.heap_setCell _ _ _ k h]

set_option maxRecDepth 100000 in
set_option maxHeartbeats 2000000 in
theorem place1_at (cols:List Int) (lo:Nat) (u1 u2:Value) (ps os:List Ex) (b1 b2:Nat) (row:List Vl) (a:Option Addr) (cap:Nat) (W:World) (hf:FitP cols row) (hs:SlAt W a row) (c1:W.cell? ⟨b1,0,none⟩=some u1) (c2:W.cell? ⟨b2,0,none⟩=some u2) (h1:ListF cols lo u1 ps W) (h2:ListF cols lo u2 os W) :
  Calls Tryz.prog 25 #[.slice a row.length cap,.pointer (some ⟨b1,0,none⟩),.pointer (some ⟨b2,0,none⟩)] W (PlMade ps os row a cap W):=by
 obtain ⟨g1,cb1,rfl,eg1,d1⟩:=h1
 obtain ⟨g2,cb2,rfl,eg2,d2⟩:=h2
 have HD1:Hid (∀ (row:List Vl) (a:Option Addr) (cap:Nat) (W':World),FitP cols row→SlAt W' a row→Since lo W W'→Calls Tryz.prog g1 (#[.slice a row.length cap] ++ cb1) W' fun e w'=>e = .returned (.slice (some ⟨W'.heap.size,0,none⟩) ps.length ps.length)∧RowNew W'.heap.size w' (rowX ps row)∧Below W'.heap.size W' w'):=d1
 have HD2:Hid (∀ (row:List Vl) (a:Option Addr) (cap:Nat) (W':World),FitP cols row→SlAt W' a row→Since lo W W'→Calls Tryz.prog g2 (#[.slice a row.length cap] ++ cb2) W' fun e w'=>e = .returned (.slice (some ⟨W'.heap.size,0,none⟩) os.length os.length)∧RowNew W'.heap.size w' (rowX os row)∧Below W'.heap.size W' w'):=d2
 clear d1 d2
 have l1:b1<W.heap.size:=World.block_lt_of_cell? _ _ c1
 have l2:b2<W.heap.size:=World.block_lt_of_cell? _ _ c2
 have hA:Below W.heap.size W (W.alloc (.cells #[.slice none 0 0,.slice none 0 0,.slice none 0 0] 66)):=(Below.refl _ _).alloc (Nat.le_refl _) _
 have R:=Bk.new W #[.slice none 0 0,.slice none 0 0,.slice none 0 0] 66
 go_enter Tryz.func25,Tryz.ntmps25
 go_upto_region 1 with fail
 generalize W.alloc (.cells #[.slice none 0 0,.slice none 0 0,.slice none 0 0] 66)=Wa at *
 have hCC:∀ X X':World,(X.cell? ⟨b1,0,none⟩=some (.func (.func g1) #[] cb1)∧X.cell? ⟨b2,0,none⟩=some (.func (.func g2) #[] cb2)∧∃ xs,Bk X W.heap.size xs 66∧xs.size=3)→Below X.heap.size X X'→(X'.cell? ⟨b1,0,none⟩=some (.func (.func g1) #[] cb1)∧X'.cell? ⟨b2,0,none⟩=some (.func (.func g2) #[] cb2)∧∃ xs,Bk X' W.heap.size xs 66∧xs.size=3):=fun X X' h hb=>⟨(hb.cell (World.block_lt_of_cell? _ _ h.1)).trans h.1,(hb.cell (World.block_lt_of_cell? _ _ h.2.1)).trans h.2.1,by obtain ⟨xs,h1,h2⟩:=h.2.2; exact ⟨xs,h1.next hb,h2⟩⟩
 have hdr:Below Wa.heap.size Wa Wa.drew:=(Below.refl _ _).drew
 have CW:(Wa.drew.cell? ⟨b1,0,none⟩=some (.func (.func g1) #[] cb1)∧Wa.drew.cell? ⟨b2,0,none⟩=some (.func (.func g2) #[] cb2)∧∃ xs,Bk Wa.drew W.heap.size xs 66∧xs.size=3):=hCC _ _ ⟨(hA.cell (p:=⟨b1,0,none⟩) l1).trans c1,(hA.cell (p:=⟨b2,0,none⟩) l2).trans c2,_,R,rfl⟩ hdr
 have D0:=chain hA hdr
 have lR:=R.lt
 clear c1 c2 R
 refine wp_region_cls (fun X=>(X.cell? ⟨b1,0,none⟩=some (.func (.func g1) #[] cb1)∧X.cell? ⟨b2,0,none⟩=some (.func (.func g2) #[] cb2)∧∃ xs,Bk X W.heap.size xs 66∧xs.size=3)) (by kernel_rfl) ?_
 refine wpY_take hCC (some 5) (i:=0) (v:=.func (.func g1) #[] cb1) rfl rfl (by kernel_rfl) (by kernel_rfl) (by kernel_rfl) (fun _ _ _ h=>h) (Or.inl ⟨rfl,fun n hn=>?_⟩) CW ?_
 ·have c0:=hn.1
  go_simp
 simp only [Act.put,pA,pB,pC]
 refine wpY_take hCC (some 6) (i:=1) (v:=.slice a row.length cap) rfl rfl (by kernel_rfl) (by kernel_rfl) (by kernel_rfl) (fun _ _ _ h=>h) (Or.inl ⟨rfl,fun n hn=>?_⟩) CW ?_
 ·go_simp
 simp only [Act.put,pA,pB,pC]
 refine wpY_take hCC (some 8) (i:=3) (v:=.func (.func g2) #[] cb2) rfl rfl (by kernel_rfl) (by kernel_rfl) (by kernel_rfl) (fun _ _ _ h=>h) (Or.inl ⟨rfl,fun n hn=>?_⟩) CW ?_
 ·have c0:=hn.2.1
  go_simp
 simp only [Act.put,pA,pB,pC]
 refine wpY_take hCC (some 9) (i:=4) (v:=.slice a row.length cap) rfl rfl (by kernel_rfl) (by kernel_rfl) (by kernel_rfl) (fun _ _ _ h=>h) (Or.inl ⟨rfl,fun n hn=>?_⟩) CW ?_
 ·go_simp
 simp only [Act.put,pA,pB,pC]
 refine wpY_take hCC (some 11) (i:=6) (v:=.slice a row.length cap) rfl rfl (by kernel_rfl) (by kernel_rfl) (by kernel_rfl) (fun _ _ _ h=>h) (Or.inl ⟨rfl,fun n hn=>?_⟩) CW ?_
 ·go_simp
 simp only [Act.put,pA,pB,pC]
 refine wpY_step (rs:=[2]) (by kernel_rfl) (by simp) ?_
 intro w3 hb3 jj hj
 obtain rfl:jj=2:=by simpa using hj
 clear hj
 have D3:=chain D0 hb3
 have CW3:=hCC _ _ CW hb3
 have con:=HD1.out row a cap w3 hf (hs.next D3) (Since.of D3)
 refine wpOp_step rfl (fun K hK=>?_)
 go_simp
 first | (refine con.mono ?_) | (go_at_fn g1; refine con.mono ?_)
 rintro e w4 ⟨rfl,R4,hb4⟩
 have D4:=chain D3 hb4
 have CW4:=hCC _ _ CW3 hb4
 refine hK _ _ ⟨CW4,?_⟩
 clear hK K con CW3 CW
 refine wpY_step (rs:=[5]) (by kernel_rfl) (by simp) ?_
 intro w5 hb5 jj hj
 obtain rfl:jj=5:=by simpa using hj
 clear hj
 have D5:=chain D4 hb5
 have CW5:=hCC _ _ CW4 hb5
 have con:=HD2.out row a cap w5 hf (hs.next D5) (Since.of D5)
 refine wpOp_step rfl (fun K hK=>?_)
 go_simp
 first | (refine con.mono ?_) | (go_at_fn g2; refine con.mono ?_)
 rintro e w6 ⟨rfl,R6,hb6⟩
 have D6:=chain D5 hb6
 have CW6:=hCC _ _ CW5 hb6
 have P6:SlAt w6 (some ⟨w3.heap.size,0,none⟩) (rowX ps row)∧TyAt w6 (some ⟨w3.heap.size,0,none⟩):=⟨(R4.1.next hb5).next hb6,(R4.2.next hb5).next hb6⟩
 refine hK _ _ ⟨CW6,?_⟩
 clear hK K con CW5 CW4 R4
 refine wpY_take hCC (some 12) (i:=7) (v:=.agg #[.slice (some ⟨w3.heap.size,0,none⟩) ps.length ps.length,.slice (some ⟨w5.heap.size,0,none⟩) os.length os.length,.slice a row.length cap]) rfl rfl (by kernel_rfl) (by kernel_rfl) (by kernel_rfl) (fun _ _ _ h=>h) (Or.inl ⟨rfl,fun n hn=>?_⟩) CW6 ?_
 ·go_simp
 simp only [Act.put,pA,pB,pC]
 refine wpY_step (rs:=[8]) (by kernel_rfl) (by simp) ?_
 intro w7 hb7 jj hj
 obtain rfl:jj=8:=by simpa using hj
 clear hj
 have D7:=chain D6 hb7
 have CW7:=hCC _ _ CW6 hb7
 have P7:=P6.1.next hb7
 have P7':=P6.2.next hb7
 have R7:=R6.1.next hb7
 have R7':=R6.2.next hb7
 obtain ⟨v0,v1,v2,B7⟩:∃ v0 v1 v2,Bk w7 W.heap.size #[v0,v1,v2] 66:=by
  obtain ⟨xs,h1,h2⟩:=CW7.2.2
  match xs,h1,h2 with
  | ⟨[v0,v1,v2]⟩,h1,_=>exact ⟨v0,v1,v2,h1⟩
 have c0:=B7.cell 0 rfl
 have c1:=B7.cell 1 rfl
 have c2:=B7.cell 2 rfl
 have f0:=B7.frozen 0
 have f1:=B7.frozen 1
 have f2:=B7.frozen 2
 have X:=B7.put3 (.slice (some ⟨w3.heap.size,0,none⟩) ps.length ps.length) (.slice (some ⟨w5.heap.size,0,none⟩) os.length os.length) (.slice a row.length cap)
 have z3:=D3.size
 have z4:=hb4.size
 have z5:=hb5.size
 have ne1:∀ o u (X:World),(X.setCell ⟨W.heap.size,o,none⟩ u).cell? ⟨b1,0,none⟩=X.cell? ⟨b1,0,none⟩:=fun o u X=>World.cell?_setCell_other _ _ _ _ (by intro e; injection e with e; omega)
 have ne2:∀ o u (X:World),(X.setCell ⟨W.heap.size,o,none⟩ u).cell? ⟨b2,0,none⟩=X.cell? ⟨b2,0,none⟩:=fun o u X=>World.cell?_setCell_other _ _ _ _ (by intro e; injection e with e; omega)
 have z0:=(chain hdr hb3).size
 have hsz:w7.heap.size≤(((w7.setCell ⟨W.heap.size,0,none⟩ (.slice (some ⟨w3.heap.size,0,none⟩) ps.length ps.length)).setCell ⟨W.heap.size,1,none⟩ (.slice (some ⟨w5.heap.size,0,none⟩) os.length os.length)).setCell ⟨W.heap.size,2,none⟩ (.slice a row.length cap)).heap.size:=by simp [World.setCell]
 have P8:=P7.same (far3 w7 W.heap.size w3.heap.size (by omega) (.slice (some ⟨w3.heap.size,0,none⟩) ps.length ps.length) (.slice (some ⟨w5.heap.size,0,none⟩) os.length os.length) (.slice a row.length cap)) hsz
 have P8':=P7'.same (far3 w7 W.heap.size w3.heap.size (by omega) (.slice (some ⟨w3.heap.size,0,none⟩) ps.length ps.length) (.slice (some ⟨w5.heap.size,0,none⟩) os.length os.length) (.slice a row.length cap))
 have R8:=R7.same (far3 w7 W.heap.size w5.heap.size (by omega) (.slice (some ⟨w3.heap.size,0,none⟩) ps.length ps.length) (.slice (some ⟨w5.heap.size,0,none⟩) os.length os.length) (.slice a row.length cap)) hsz
 have R8':=R7'.same (far3 w7 W.heap.size w5.heap.size (by omega) (.slice (some ⟨w3.heap.size,0,none⟩) ps.length ps.length) (.slice (some ⟨w5.heap.size,0,none⟩) os.length os.length) (.slice a row.length cap))
 have D8:=((D7.setCell (p:=⟨W.heap.size,0,none⟩) (Nat.le_refl _) (.slice (some ⟨w3.heap.size,0,none⟩) ps.length ps.length)).setCell (p:=⟨W.heap.size,1,none⟩) (Nat.le_refl _) (.slice (some ⟨w5.heap.size,0,none⟩) os.length os.length)).setCell (p:=⟨W.heap.size,2,none⟩) (Nat.le_refl _) (.slice a row.length cap)
 refine wpOp_step rfl (fun K hK=>?_)
 go_simp
 refine hK _ _ ⟨⟨by rw [ne1,ne1,ne1]; exact CW7.1,by rw [ne2,ne2,ne2]; exact CW7.2.1,_,X,rfl⟩,?_⟩
 clear hK K c0 c1 c2 f0 f1 f2 CW7 CW6 ne1 ne2
 generalize ((w7.setCell ⟨W.heap.size,0,none⟩ (.slice (some ⟨w3.heap.size,0,none⟩) ps.length ps.length)).setCell ⟨W.heap.size,1,none⟩ (.slice (some ⟨w5.heap.size,0,none⟩) os.length os.length)).setCell ⟨W.heap.size,2,none⟩ (.slice a row.length cap)=w8 at *
 refine wpY_done (by kernel_rfl) ?_
 intro w9 hb9
 have X9:=X.next hb9
 have r0:=X9.cell 0 rfl
 have r1:=X9.cell 1 rfl
 have r2:=X9.cell 2 rfl
 have P9:=P8.next hb9
 have P9':=P8'.next hb9
 have R9:=R8.next hb9
 have R9':=R8'.next hb9
 have D9:=chain D8 hb9
 clear X P8 P8' R8 R8' D8
 go_wp2_with fail
 exact bodyPost_ret (v:=.agg #[.slice (some ⟨w3.heap.size,0,none⟩) ps.length ps.length,.slice (some ⟨w5.heap.size,0,none⟩) os.length os.length,.slice a row.length cap]) (by simp [results,Tryz.results25,go_sem,r0,r1,r2]) rfl ⟨_,_,_,_,rfl,⟨P9,P9'⟩,⟨R9,R9'⟩,D9⟩

theorem withL_take {ps os:List Ex} {l:List Zp} {k:Nat} (h:k<l.length):withL ps os (l.take (k+1))=withL ps os (l.take k) ++ List.replicate l[k].2.toNat (rowX ps l[k].1,rowX os l[k].1,l[k].1):=by
 unfold withL
 rw [List.take_succ_eq_append_getElem h,List.flatMap_append]
 simp
theorem cntP_take:∀ (l:List Zp) (k:Nat),cntP (l.take k)≤cntP l
 | [],k=>by simp [cntP]
 | p :: r,0=>by simp [cntP]
 | p :: r,k+1=>by simp only [List.take_succ_cons,cntP]; have:=cntP_take r k; omega
theorem cntP_get:∀ (l:List Zp) (k:Nat) (h:k<l.length),l[k].2.toNat≤cntP l
 | p :: r,0,_=>by simp [cntP]
 | p :: r,k+1,h=>by simp only [List.getElem_cons_succ,cntP]; have:=cntP_get r k (by simpa using h); omega

set_option maxRecDepth 100000 in
set_option maxHeartbeats 8000000 in
theorem inLine_at (cols:List Int) (ps os:List Ex) (u:Value) (lo:Nat) (a:Option Addr) (cap:Nat) (l:List Zp) (w:World) (hu:PlaceF cols lo u ps os w) (hz:InpOk cols l) (hcnt:cntP l≤400) (h:ZsAt w a l) :
  Calls Tryz.prog 24 #[.slice a l.length cap,u] w fun e w'=>∃ a' c',e = .returned (.slice a' (lineL ps os l).length c')∧LnAt w' a' (lineL ps os l)∧Below w.heap.size w w':=by
 obtain ⟨i0,hi,hj0,hj1,hj2⟩:=info_parts infoL
 have hl:=set_len hz
 have hR:Rise l:=((wrongZ_iff l).1 hz.set).2.2
 obtain ⟨g,cb,rfl,eg,hd⟩:=hu
 have HD:Hid (∀ (row:List Vl) (a:Option Addr) (cap:Nat) (W:World),FitP cols row→SlAt W a row→Since lo w W→Calls Tryz.prog g (#[.slice a row.length cap] ++ cb) W (PlMade ps os row a cap W)):=hd
 have HO:Hid (InpOk cols l):=hz
 have HR:Hid (Rise l):=hR
 have HC:Hid (cntP l≤400):=hcnt
 clear hd hz hR hcnt
 go_enter Tryz.func24,Tryz.ntmps24
 go_wp2_with fail
 go_loopw [5,10] (fun v i wr=>∃ k:Nat,k≤l.length∧i = .int .i64 k∧OwnLn w w.heap.size wr v (withL ps os (l.take k))∧Below w.heap.size w wr) (fun _ i _=>l.length - (intOf i).toNat)
 case atStart=>exact ⟨0,Nat.zero_le _,rfl,OwnLn.nil _ _ _,Below.refl _ _⟩
 case round =>
  obtain ⟨k,hk,rfl,HK,hb⟩:=hrel
  have hzr:=hb.size
  by_cases hlt:k<l.length
  ·obtain ⟨b,off,rfl,hbl,d1,ra,rc,d0,sr⟩:=h.elem hlt
   have c1':=(hb.cell (p:=⟨b,_,none⟩) hbl).trans d1
   have c0':=(hb.cell (p:=⟨b,_,none⟩) hbl).trans d0
   have HS:Hid (SlAt w ra l[k].1):=sr
   have hal:Below wr.heap.size wr (wr.alloc (.cells #[.slice ra l[k].1.length rc,.int .i64 l[k].2] 33)):=(Below.refl _ _).alloc (Nat.le_refl _) _
   have q0:=Bk.new wr #[.slice ra l[k].1.length rc,.int .i64 l[k].2] 33
   have HT:Hid (withL ps os (l.take (k+1))=withL ps os (l.take k) ++ List.replicate l[k].2.toNat (rowX ps l[k].1,rowX os l[k].1,l[k].1)):=withL_take hlt
   have hfit:=HO.out.fit l[k] (List.getElem_mem hlt)
   have HFk:Hid (FitP cols l[k].1):=hfit
   have hw4:=cntP_get l k hlt
   have hw5:=HC.out
   have hwl:(withL ps os (l.take k)).length≤400:=by rw [withL_len]; have:=cntP_take l k; omega
   clear d0 d1 sr hfit
   by_cases hpos:0<l[k].2
   ·have n4:l[k].2.toNat≤400:=by omega
    obtain ⟨n,hn⟩:∃ n:Nat,l[k].2=(n:Int):=⟨l[k].2.toNat,by omega⟩
    have HN:Hid (l[k].2=(n:Int)):=hn
    have hn4:n≤400:=by omega
    have hn0:0<n:=by omega
    have hnz:(0:Int)<(n:Int):=by omega
    have hT2:withL ps os (l.take (k+1))=withL ps os (l.take k) ++ List.replicate n (rowX ps l[k].1,rowX os l[k].1,l[k].1):=by have:=HT.out; rw [hn] at this; simpa using this
    have HT2:Hid (withL ps os (l.take (k+1))=withL ps os (l.take k) ++ List.replicate n (rowX ps l[k].1,rowX os l[k].1,l[k].1)):=hT2
    rw [hn] at c1' hal q0
    clear hpos n4 hw4 hw5 hT2 hn
    go_upto_region 6 with fail
    clear c0' c1'
    generalize wr.alloc (.cells #[.slice ra l[k].1.length rc,.int .i64 n] 33)=wa at *
    have hCC:∀ W W':World,Bk W wr.heap.size #[.slice ra l[k].1.length rc,.int .i64 n] 33→Below W.heap.size W W'→Bk W' wr.heap.size #[.slice ra l[k].1.length rc,.int .i64 n] 33:=fun W W' h hb=>h.next hb
    have hdr:Below wa.heap.size wa wa.drew:=(Below.refl _ _).drew
    have CW:=hCC _ _ q0 hdr
    refine wp_region_cls (fun W=>Bk W wr.heap.size #[.slice ra l[k].1.length rc,.int .i64 n] 33) (by kernel_rfl) ?_
    refine wpY_take hCC (some 17) (i:=0) (v:=u5) rfl rfl (by kernel_rfl) (by kernel_rfl) (by kernel_rfl) (fun _ _ _ h=>h) (Or.inl ⟨rfl,fun nn hn=>?_⟩) CW ?_
    ·go_simp
    simp only [Act.put,pA,pB,pC]
    refine wpY_take hCC (some 18) (i:=1) (v:=.func (.func g) #[] cb) rfl rfl (by kernel_rfl) (by kernel_rfl) (by kernel_rfl) (fun _ _ _ h=>h) (Or.inl ⟨rfl,fun nn hn=>?_⟩) CW ?_
    ·go_simp
    simp only [Act.put,pA,pB,pC]
    refine wpY_take hCC (some 19) (i:=2) (v:=.pointer (some ⟨wr.heap.size,0,none⟩)) rfl rfl (by kernel_rfl) (by kernel_rfl) (by kernel_rfl) (fun _ _ _ h=>h) (Or.inl ⟨rfl,fun nn hn=>?_⟩) CW ?_
    ·go_simp
    simp only [Act.put,pA,pB,pC]
    refine wpY_take hCC (some 20) (i:=3) (v:=.slice ra l[k].1.length rc) rfl rfl (by kernel_rfl) (by kernel_rfl) (by kernel_rfl) (fun _ _ _ h=>h) (Or.inl ⟨rfl,fun nn hn=>?_⟩) CW ?_
    ·have c0:=hn.cell 0 rfl
     go_simp
    simp only [Act.put,pA,pB,pC]
    refine wpY_take hCC (some 23) (i:=6) (v:=.pointer (some ⟨wr.heap.size,1,none⟩)) rfl rfl (by kernel_rfl) (by kernel_rfl) (by kernel_rfl) (fun _ _ _ h=>h) (Or.inl ⟨rfl,fun nn hn=>?_⟩) CW ?_
    ·go_simp
    simp only [Act.put,pA,pB,pC]
    refine wpY_take hCC (some 24) (i:=7) (v:=.int .i64 n) rfl rfl (by kernel_rfl) (by kernel_rfl) (by kernel_rfl) (fun _ _ _ h=>h) (Or.inl ⟨rfl,fun nn hn=>?_⟩) CW ?_
    ·have c1:=hn.cell 1 rfl
     go_simp
    simp only [Act.put,pA,pB,pC]
    refine wpY_step (rs:=[4]) (by kernel_rfl) (by simp) ?_
    intro w3 hb3 jj hj
    obtain rfl:jj=4:=by simpa using hj
    clear hj
    have D3:=chain (chain hal hdr) hb3
    have B3:=chain hb D3
    have CW3:=hCC _ _ CW hb3
    have con:=HD.out l[k].1 ra rc w3 HFk.out (HS.out.next B3) (Since.of B3)
    refine wpOp_step rfl (fun K hK=>?_)
    go_simp
    first | (refine con.mono ?_) | (go_at_fn g; refine con.mono ?_)
    rintro e w4 ⟨pa,pc,oa,oc,rfl,P4,O4,hb4⟩
    have D4:=chain D3 hb4
    have CW4:=hCC _ _ CW3 hb4
    refine hK _ _ ⟨CW4,?_⟩
    clear hK K con CW3 CW
    refine wpY_step (rs:=[5]) (by kernel_rfl) (by simp) ?_
    intro w5 hb5 jj hj
    obtain rfl:jj=5:=by simpa using hj
    clear hj
    refine wpOp_step rfl (fun K hK=>?_)
    go_simp
    have D5:=chain D4 hb5
    have CW5:=hCC _ _ CW4 hb5
    have hal5:Below w5.heap.size w5 (w5.alloc (.cells #[.slice pa ps.length pc,.slice oa os.length oc,.slice ra l[k].1.length rc] 66)):=(Below.refl _ _).alloc (Nat.le_refl _) _
    have q6:=Bk.new w5 #[.slice pa ps.length pc,.slice oa os.length oc,.slice ra l[k].1.length rc] 66
    have D6:=chain D5 hal5
    have CW6:=hCC _ _ CW5 hal5
    have S6:=(P4.1.next hb5).next hal5
    have T6:=(P4.2.next hb5).next hal5
    have S6':=(O4.1.next hb5).next hal5
    have T6':=(O4.2.next hb5).next hal5
    refine hK _ _ ⟨CW6,?_⟩
    clear hK K CW5 CW4 P4 O4
    generalize w5.alloc (.cells #[.slice pa ps.length pc,.slice oa os.length oc,.slice ra l[k].1.length rc] 66)=w6 at *
    (try simp only [Act.put,pA,pB,pC])
    refine wpY_step (rs:=[8]) (by kernel_rfl) (by simp) ?_
    intro w7 hb7 jj hj
    obtain rfl:jj=8:=by simpa using hj
    clear hj
    have D7:=chain D6 hb7
    have CW7:=hCC _ _ CW6 hb7
    have S7:=S6.next hb7
    have T7:=T6.next hb7
    have S7':=S6'.next hb7
    have T7':=T6'.next hb7
    have q7:=q6.next hb7
    have con:=repeatL_at w5.heap.size (.slice pa ps.length pc,.slice oa os.length oc,.slice ra l[k].1.length rc) ⟨rfl,rfl,rfl⟩ n hn4 w7 (q7.cell 0 rfl) (q7.cell 1 rfl) (q7.cell 2 rfl)
    refine wpOp_step rfl (fun K hK=>?_)
    go_simp
    refine con.mono ?_
    rintro e w8 ⟨rfl,F8,hb8⟩
    have D8:=chain D7 hb8
    have CW8:=hCC _ _ CW7 hb8
    have S8:=S7.next hb8
    have T8:=T7.next hb8
    have S8':=S7'.next hb8
    have T8':=T7'.next hb8
    have HF8:Hid (∀ j u,(fl3 (.slice pa ps.length pc,.slice oa os.length oc,.slice ra l[k].1.length rc) n)[j]? = some u→w8.cell? ((⟨w7.heap.size,0,none⟩:Addr).add j)=some u):=F8
    have lt8:w7.heap.size<w8.heap.size:=by
     have:=F8 0 (.slice pa ps.length pc) (by obtain ⟨f0,_,_⟩:=fl3_get (.slice pa ps.length pc,.slice oa os.length oc,.slice ra l[k].1.length rc) n 0 hn0; simpa using f0)
     exact World.block_lt_of_cell? _ _ this
    refine hK _ _ ⟨CW8,?_⟩
    clear hK K con CW7 CW6 S7 T7 S7' T7' S6 T6 S6' T6' q6 q7 F8
    (try simp only [Act.put,pA,pB,pC])
    refine wpY_step (rs:=[9]) (by kernel_rfl) (by simp) ?_
    intro w9 hb9 jj hj
    obtain rfl:jj=9:=by simpa using hj
    clear hj
    have D9:=chain D8 hb9
    have CW9:=hCC _ _ CW8 hb9
    have S9:=S8.next hb9
    have T9:=T8.next hb9
    have S9':=S8'.next hb9
    have T9':=T8'.next hb9
    have F9:∀ j u,(fl3 (.slice pa ps.length pc,.slice oa os.length oc,.slice ra l[k].1.length rc) n)[j]? = some u→w9.cell? ((⟨w7.heap.size,0,none⟩:Addr).add j)=some u:=fun j u hj=>by
     have:=HF8.out j u hj
     exact (hb9.cell (World.block_lt_of_cell? _ _ this)).trans this
    obtain ⟨ys,o9,en9⟩:=HK.next D9
    have zz:=D9.size
    have hnb:∀ g',u5.ownBlock=some g'→g'<wr.heap.size∧w.heap.size≤g':=fun g' hg'=>by
     obtain ⟨ys0,o0,_⟩:=HK
     exact ⟨(o0.lt g' hg').2,(o0.lt g' hg').1⟩
    refine wpOp_step rfl (fun K hK=>?_)
    refine Eq.mpr (if_pos (by kernel_rfl)) ?_
    refine wp_append_at (some 26) rfl (Operand.tmp 17) (Operand.tmp 25) 63 rfl w.heap.size 66 i0 _ 3 72 Tryz.underlying63 hi hj0 hj1 hj2 rfl (by decide) u5 _ ys rfl o9 ⟨w7.heap.size,0,none⟩ n n (fl3 (.slice pa ps.length pc,.slice oa os.length oc,.slice ra l[k].1.length rc) n) rfl (fl3_len _ n) F9 (fl3_one ⟨rfl,rfl,rfl⟩ n) (by unfold maxLen; omega) (by omega) (by omega) ?_
    intro v' w10 o10 g10 _
    have CW10:Bk w10 wr.heap.size #[.slice ra l[k].1.length rc,.int .i64 n] 33:=(g10.block _ CW9.lt (fun e=>by have:=(hnb _ e.symm).1; omega)).trans CW9
    have e1:ps.length=(rowX ps l[k].1).length:=by simp [rowX]
    have e2:os.length=(rowX os l[k].1).length:=by simp [rowX]
    have OK10:OwnLn w w.heap.size w10 v' (withL ps os (l.take k) ++ List.replicate n (rowX ps l[k].1,rowX os l[k].1,l[k].1)):=OwnLn.pushN (pc:=pc) (oc:=oc) (rc:=rc) (x:=(rowX ps l[k].1,rowX os l[k].1,l[k].1)) o9 en9 S9 T9 S9' T9' HS.out (by rw [← e1,← e2]; exact o10) g10
    have b10:Below w.heap.size w w10:=(hb.trans (D9.mono hzr)).trans ((Below.refl _ _).grown g10 (by omega) (fun q hq=>(hnb q hq).2))
    refine hK _ _ ⟨CW10,?_⟩
    clear hK K CW9 CW8 S8 T8 S8' T8' S9 T9 S9' T9' o9 en9 o10 D9 D8 D7 D6 D5 D4 D3 F9 HF8 g10 HK e1 e2
    (try simp only [Act.put,pA,pB,pC])
    refine wpY_take hCC (some 5) (i:=10) (v:=v') rfl rfl (by kernel_rfl) (by kernel_rfl) (by kernel_rfl) (fun _ _ _ h=>h) (Or.inl ⟨rfl,fun nn hn=>?_⟩) CW10 ?_
    ·go_simp
    simp only [Act.put,pA,pB,pC]
    refine wpY_done (by kernel_rfl) ?_
    intro w11 hb11
    have OK11:=OK10.next hb11
    have b11:=chain b10 hb11
    clear OK10 b10 CW10 hb11
    go_wp2_with fail
    go_roundw
    case rel=>exact ⟨k+1,by omega,by go_num,by rw [HT2.out]; exact OK11,b11⟩
    case measure=>simp [intOf]; omega
   ·have hneg:¬ 0<l[k].2:=hpos
    have hT2:withL ps os (l.take (k+1))=withL ps os (l.take k):=by rw [HT.out,show l[k].2.toNat=0 by omega]; simp
    have HT2:Hid (withL ps os (l.take (k+1))=withL ps os (l.take k)):=hT2
    clear hT2
    go_wp2_with fail
    go_roundw
    case rel=>exact ⟨k+1,by omega,by go_num,by rw [HT2.out]; exact HK.next hal,chain hb hal⟩
    case measure=>simp [intOf]; omega
  ·have e:k=l.length:=by omega
   subst e
   rw [List.take_length] at HK
   have hil:(lineL ps os l).length=(withL ps os l).length:=(ordL_perm _).length_eq
   have hwl:(withL ps os l).length≤400:=by rw [withL_len]; exact HC.out
   rcases HK.arr hb (Nat.le_refl _) with ⟨hn,rfl⟩ | ⟨gb,kc,dd,rfl,hg1,hg2,hds,hdm,hH⟩
   ·have hio:lineL ps os l = []:=List.eq_nil_of_length_eq_zero (by rw [hil,hn]; rfl)
    have con:=sortNoneL_at 0 wr
    clear HK
    go_wp2_with fail
    refine con.mono ?_
    rintro e w2 ⟨rfl,hb2⟩
    clear con
    dsimp only
    go_wp2_with fail
    go_ret
    exact ⟨none,0,by rw [hio]; rfl,.inl hio,chain hb hb2⟩
   ·have con:=sortedL_at wr gb kc dd ps os l HR.out (by omega) hg2 hdm hH w hg1 hb
    rw [hds,← hil] at con
    rw [← hil]
    clear HK hH hdm hil hds
    go_wp2_with fail
    refine con.mono ?_
    rintro e w2 ⟨rfl,kd,hb2⟩
    clear con
    dsimp only
    have HKD:Hid (LnAt w2 (some ⟨gb,0,none⟩) (lineL ps os l)):=kd
    clear kd
    go_wp2_with fail
    go_ret
    exact ⟨_,_,rfl,HKD.out,hb2⟩
end Go.Proofs.YtcnmpiahcnkndaaGreat
/- What tells numbers; whether order is another one; ranks. -/
namespace Go.Proofs.YtcnmpiahcnkndaaGreat
open Go.RowKit

set_option maxRecDepth 100000 in
set_option maxHeartbeats 1000000 in
theorem numbers1_at (w1 W:World) (hb:Below w1.heap.size w1 W) (v:Value) (p:Lp) (a n:Nat) (hn:n<1000) (hv:PlaceV w1 v p) (h1:Bk W a #[.int .i64 n] 2) :
  Calls Tryz.prog 133 #[v,.pointer (some ⟨a,0,none⟩)] W fun e W'=>e = .returned (agV (intV ((n:Int)+1)))∧Bk W' a #[.int .i64 ((n:Int)+1)] 2∧KeepO a (a+1) W W':=by
 obtain ⟨pa,pc,oa,oc,ra,rc,rfl,sp,so,sr⟩:=hv
 have lth1:=h1.lt
 have hA:Below W.heap.size W (W.alloc (.cells #[.slice pa p.1.length pc,.slice oa p.2.1.length oc,.slice ra p.2.2.length rc] 66)):=(Below.refl _ _).alloc (Nat.le_refl _) _
 have P:=Bk.new W #[.slice pa p.1.length pc,.slice oa p.2.1.length oc,.slice ra p.2.2.length rc] 66
 go_enter Tryz.func133,Tryz.ntmps133
 go_upto_region 1 with fail
 have hz:(W.alloc (.cells #[.slice pa p.1.length pc,.slice oa p.2.1.length oc,.slice ra p.2.2.length rc] 66)).heap.size=W.heap.size+1:=by simp
 generalize W.alloc (.cells #[.slice pa p.1.length pc,.slice oa p.2.1.length oc,.slice ra p.2.2.length rc] 66)=Wa at *
 have R:=Bk.new Wa #[.int .i64 0,.int .i64 0,.string ⟨#[]⟩] 38
 have hN:=(Below.refl Wa.heap.size Wa).alloc (Nat.le_refl _) (.cells #[.int .i64 0,.int .i64 0,.string ⟨#[]⟩] 38)
 have P:=P.next hN
 have hB:=chain hA hN
 rw [hz] at R
 generalize Wa.alloc (.cells #[.int .i64 0,.int .i64 0,.string ⟨#[]⟩] 38)=Wb at *
 have h1:=h1.next hB
 have kp:=KeepO.of (a:=a) (b:=(a+1)) hB
 have ltW:Below w1.heap.size w1 W:=hb
 have hw:IntKind.i64.wrap ((n:Int)+1)=(n:Int)+1:=by rw [IntKind.wrap_i64]; omega
 have ch10:=h1.cell 0 rfl
 have fh10:=h1.frozen 0
 go_upto_region 2 with fail
 have h1:=h1.put1 (.int .i64 ((n:Int)+1))
 have P:=P.far (p:=⟨a,0,none⟩) (show W.heap.size≠a by omega) (.int .i64 ((n:Int)+1))
 have R:=R.far (p:=⟨a,0,none⟩) (show W.heap.size+1≠a by omega) (.int .i64 ((n:Int)+1))
 have kp:=kp.put (p:=⟨a,0,none⟩) (.inl (show a≤a∧a<(a+1) by omega)) (.int .i64 ((n:Int)+1))
 clear ch10 fh10
 generalize (Wb.setCell ⟨a,0,none⟩ (.int .i64 ((n:Int)+1)))=w11 at *
 have ch10:=h1.cell 0 rfl
 have fh10:=h1.frozen 0
 go_wp2_with fail
 refine (int_any _ _).mono ?_
 rintro e w12 ⟨rfl,hb1⟩
 clear ch10 fh10
 have h1:=h1.next hb1
 have P:=P.next hb1
 have R:=R.next hb1
 have kp:=kp.trans (KeepO.of hb1)
 have cR0:=R.cell 0 rfl
 have fR0:=R.frozen 0
 have cR1:=R.cell 1 rfl
 have fR1:=R.frozen 1
 have cR2:=R.cell 2 rfl
 have fR2:=R.frozen 2
 go_wp2_with fail
 have h1:=h1.far3 (g:=W.heap.size+1) (show a≠W.heap.size+1 by omega) (.int .i64 (intK ((n:Int)+1))) (.int .i64 (intN ((n:Int)+1))) (.string ⟨#[]⟩)
 have P:=P.far3 (g:=W.heap.size+1) (show W.heap.size≠W.heap.size+1 by omega) (.int .i64 (intK ((n:Int)+1))) (.int .i64 (intN ((n:Int)+1))) (.string ⟨#[]⟩)
 have R:=R.put3 (.int .i64 (intK ((n:Int)+1))) (.int .i64 (intN ((n:Int)+1))) (.string ⟨#[]⟩)
 have kp:=kp.put3 (g:=W.heap.size+1) (show (a≤W.heap.size+1∧W.heap.size+1<(a+1))∨W.heap.size≤W.heap.size+1 by omega) (.int .i64 (intK ((n:Int)+1))) (.int .i64 (intN ((n:Int)+1))) (.string ⟨#[]⟩)
 clear cR0 fR0 cR1 fR1 cR2 fR2
 generalize ((w12.setCell ⟨W.heap.size+1,0,none⟩ (.int .i64 (intK ((n:Int)+1)))).setCell ⟨W.heap.size+1,1,none⟩ (.int .i64 (intN ((n:Int)+1)))).setCell ⟨W.heap.size+1,2,none⟩ (.string ⟨#[]⟩)=w13 at *
 have r0:=R.cell 0 rfl
 have r1:=R.cell 1 rfl
 have r2:=R.cell 2 rfl
 exact bodyPost_ret (v:=agV (intV ((n:Int)+1))) (by simp [results,Tryz.results133,go_sem,r0,r1,r2,intV]) rfl ⟨rfl,h1,kp⟩
set_option maxRecDepth 100000 in
set_option maxHeartbeats 1000000 in
theorem changes1_nil (w1 W:World) (hb:Below w1.heap.size w1 W) (v:Value) (p:Lp) (a:Nat) (sv:Value) (hv:PlaceV w1 v p) (h1:Bk W a #[sv] 31) (h2:Bk W (a+1) #[.bool true] 4) :
  Calls Tryz.prog 177 #[v,.pointer (some ⟨a+1,0,none⟩),.pointer (some ⟨a,0,none⟩)] W fun e W'=>e = .returned (.bool true)∧(∃ oa oc,Bk W' a #[.slice oa p.2.1.length oc] 31∧SlAt w1 oa p.2.1)∧Bk W' (a+1) #[.bool false] 4∧KeepO a (a+2) W W':=by
 obtain ⟨pa,pc,oa,oc,ra,rc,rfl,sp,so,sr⟩:=hv
 have lth1:=h1.lt
 have lth2:=h2.lt
 have hA:Below W.heap.size W (W.alloc (.cells #[.slice pa p.1.length pc,.slice oa p.2.1.length oc,.slice ra p.2.2.length rc] 66)):=(Below.refl _ _).alloc (Nat.le_refl _) _
 have P:=Bk.new W #[.slice pa p.1.length pc,.slice oa p.2.1.length oc,.slice ra p.2.2.length rc] 66
 go_enter Tryz.func177,Tryz.ntmps177
 go_upto_region 1 with fail
 generalize W.alloc (.cells #[.slice pa p.1.length pc,.slice oa p.2.1.length oc,.slice ra p.2.2.length rc] 66)=Wa at *
 have hB:=hA
 clear hA
 have h1:=h1.next hB
 have h2:=h2.next hB
 have kp:=KeepO.of (a:=a) (b:=(a+2)) hB
 have ltW:Below w1.heap.size w1 W:=hb
 have ch10:=h1.cell 0 rfl
 have fh10:=h1.frozen 0
 have ch20:=h2.cell 0 rfl
 have fh20:=h2.frozen 0
 have cP1:=P.cell 1 rfl
 have fP1:=P.frozen 1
 go_upto_region 2 with fail
 clear ch10 fh10 ch20 fh20 cP1 fP1
 have ch10:=h1.cell 0 rfl
 have fh10:=h1.frozen 0
 have ch20:=h2.cell 0 rfl
 have fh20:=h2.frozen 0
 have cP1:=P.cell 1 rfl
 have fP1:=P.frozen 1
 go_upto_region 3 with fail
 have h1:=h1.put1 (.slice oa p.2.1.length oc)
 have h2:=h2.far (p:=⟨a,0,none⟩) (show (a+1)≠a by omega) (.slice oa p.2.1.length oc)
 have P:=P.far (p:=⟨a,0,none⟩) (show W.heap.size≠a by omega) (.slice oa p.2.1.length oc)
 have kp:=kp.put (p:=⟨a,0,none⟩) (.inl (show a≤a∧a<(a+2) by omega)) (.slice oa p.2.1.length oc)
 have h1:=h1.far (p:=⟨(a+1),0,none⟩) (show a≠(a+1) by omega) (.bool false)
 have h2:=h2.put1 (.bool false)
 have P:=P.far (p:=⟨(a+1),0,none⟩) (show W.heap.size≠(a+1) by omega) (.bool false)
 have kp:=kp.put (p:=⟨(a+1),0,none⟩) (.inl (show a≤(a+1)∧(a+1)<(a+2) by omega)) (.bool false)
 clear ch10 fh10 ch20 fh20 cP1 fP1
 generalize ((Wa.setCell ⟨a,0,none⟩ (.slice oa p.2.1.length oc)).setCell ⟨(a+1),0,none⟩ (.bool false))=w11 at *
 go_wp2_with fail
 go_ret
 exact ⟨rfl,⟨oa,oc,h1,so⟩,h2,kp⟩
set_option maxRecDepth 100000 in
set_option maxHeartbeats 1000000 in
theorem changes1_some (w1 W:World) (hb:Below w1.heap.size w1 W) (v:Value) (p q:Lp) (a:Nat) (qa:Option Addr) (qc:Nat) (sq:SlAt w1 qa q.2.1) (hv:PlaceV w1 v p) (h1:Bk W a #[.slice qa q.2.1.length qc] 31) (h2:Bk W (a+1) #[.bool false] 4) :
  Calls Tryz.prog 177 #[v,.pointer (some ⟨a+1,0,none⟩),.pointer (some ⟨a,0,none⟩)] W fun e W'=>e = .returned (.bool (cmpL q.2.1 p.2.1 != 0))∧(∃ oa oc,Bk W' a #[.slice oa p.2.1.length oc] 31∧SlAt w1 oa p.2.1)∧Bk W' (a+1) #[.bool false] 4∧KeepO a (a+2) W W':=by
 obtain ⟨pa,pc,oa,oc,ra,rc,rfl,sp,so,sr⟩:=hv
 have lth1:=h1.lt
 have lth2:=h2.lt
 have hA:Below W.heap.size W (W.alloc (.cells #[.slice pa p.1.length pc,.slice oa p.2.1.length oc,.slice ra p.2.2.length rc] 66)):=(Below.refl _ _).alloc (Nat.le_refl _) _
 have P:=Bk.new W #[.slice pa p.1.length pc,.slice oa p.2.1.length oc,.slice ra p.2.2.length rc] 66
 go_enter Tryz.func177,Tryz.ntmps177
 go_upto_region 1 with fail
 generalize W.alloc (.cells #[.slice pa p.1.length pc,.slice oa p.2.1.length oc,.slice ra p.2.2.length rc] 66)=Wa at *
 have hB:=hA
 clear hA
 have h1:=h1.next hB
 have h2:=h2.next hB
 have kp:=KeepO.of (a:=a) (b:=(a+2)) hB
 have ltW:Below w1.heap.size w1 W:=hb
 have s1:=(sq.next ltW).next hB
 have s2:=(so.next ltW).next hB
 have ch10:=h1.cell 0 rfl
 have fh10:=h1.frozen 0
 have ch20:=h2.cell 0 rfl
 have fh20:=h2.frozen 0
 have cP1:=P.cell 1 rfl
 have fP1:=P.frozen 1
 go_wp2_with fail
 refine (rows_at _ _ _ _ _ _ _ s1 s2).mono ?_
 rintro e w11 ⟨rfl,hb1⟩
 clear ch10 fh10 ch20 fh20 cP1 fP1
 have h1:=h1.next hb1
 have h2:=h2.next hb1
 have P:=P.next hb1
 have kp:=kp.trans (KeepO.of hb1)
 skip
 clear s1 s2
 have cP1:=P.cell 1 rfl
 have fP1:=P.frozen 1
 have ch10:=h1.cell 0 rfl
 have fh10:=h1.frozen 0
 have ch20:=h2.cell 0 rfl
 have fh20:=h2.frozen 0
 go_upto_region 3 with fail
 have h1:=h1.put1 (.slice oa p.2.1.length oc)
 have h2:=h2.far (p:=⟨a,0,none⟩) (show (a+1)≠a by omega) (.slice oa p.2.1.length oc)
 have P:=P.far (p:=⟨a,0,none⟩) (show W.heap.size≠a by omega) (.slice oa p.2.1.length oc)
 have kp:=kp.put (p:=⟨a,0,none⟩) (.inl (show a≤a∧a<(a+2) by omega)) (.slice oa p.2.1.length oc)
 have h1:=h1.far (p:=⟨(a+1),0,none⟩) (show a≠(a+1) by omega) (.bool false)
 have h2:=h2.put1 (.bool false)
 have P:=P.far (p:=⟨(a+1),0,none⟩) (show W.heap.size≠(a+1) by omega) (.bool false)
 have kp:=kp.put (p:=⟨(a+1),0,none⟩) (.inl (show a≤(a+1)∧(a+1)<(a+2) by omega)) (.bool false)
 clear cP1 fP1 ch10 fh10 ch20 fh20
 generalize ((w11.setCell ⟨a,0,none⟩ (.slice oa p.2.1.length oc)).setCell ⟨(a+1),0,none⟩ (.bool false))=w12 at *
 go_wp2_with fail
 go_ret
 exact ⟨rfl,⟨oa,oc,h1,so⟩,h2,kp⟩
end Go.Proofs.YtcnmpiahcnkndaaGreat
/- Ranks, and what begins to tell them. -/
namespace Go.Proofs.YtcnmpiahcnkndaaGreat
open Go.RowKit

def ChI (w1:World) (a:Nat) (h:List Lp) (W:World):Prop:=∃ sv,Bk W a #[sv] 31∧Bk W (a+1) #[.bool h.isEmpty] 4∧∀ q r,h=q :: r→∃ qa qc,sv = .slice qa q.2.1.length qc∧SlAt w1 qa q.2.1
theorem changes_tl (cols:List Int) (w1:World) (a:Nat) (ha:w1.heap.size≤a):Tl cols w1 (fun h p=>.bool (newR h p)) 177 #[.pointer (some ⟨a+1,0,none⟩),.pointer (some ⟨a,0,none⟩)] a (a+2) (ChI w1 a) where
 lo:=ha
 lt:=fun h W ⟨sv,h1,h2,_⟩=>h2.lt
 next:=fun h W W' ⟨sv,h1,h2,h3⟩ _ hs=>⟨sv,h1.same (hs _ (by omega) (by omega)),h2.same (hs _ (by omega) (by omega)),h3⟩
 enter:=enters_of Tryz.func177 (by kernel_rfl) rfl
 call:=fun h p v W ⟨sv,h1,h2,h3⟩ _ _ _ hv hb=>by
  cases h with
  | nil =>
   refine (changes1_nil w1 W hb v p a sv hv h1 h2).mono ?_
   rintro e w' ⟨rfl,⟨oa,oc,k1,k2⟩,k3,k4⟩
   exact ⟨rfl,⟨_,k1,k3,fun q r e=>by cases e; exact ⟨oa,oc,rfl,k2⟩⟩,k4⟩
  | cons q r =>
   obtain ⟨qa,qc,rfl,sq⟩:=h3 q r rfl
   refine (changes1_some w1 W hb v p q a qa qc sq hv h1 h2).mono ?_
   rintro e w' ⟨rfl,⟨oa,oc,k1,k2⟩,k3,k4⟩
   exact ⟨rfl,⟨_,k1,k3,fun q r e=>by cases e; exact ⟨oa,oc,rfl,k2⟩⟩,k4⟩

set_option maxRecDepth 100000 in
set_option maxHeartbeats 1000000 in
theorem changes_at (cols:List Int) (w1 W:World) (hb:w1.heap.size≤W.heap.size):Calls Tryz.prog 135 #[] W fun e W'=>∃ cb c d J,e = .returned (.func (.func 177) #[] cb)∧W.heap.size≤c∧c≤d∧Tl cols w1 (fun h p=>.bool (newR h p)) 177 cb c d J∧J [] W'∧Below W.heap.size W W':=by
 have hA:Below W.heap.size W (W.alloc (.cells #[.slice none 0 0] 31)):=(Below.refl _ _).alloc (Nat.le_refl _) _
 have P:=Bk.new W #[.slice none 0 0] 31
 have hz:(W.alloc (.cells #[.slice none 0 0] 31)).heap.size=W.heap.size+1:=by simp
 go_enter Tryz.func135,Tryz.ntmps135
 go_upto_region 3 with fail
 generalize W.alloc (.cells #[.slice none 0 0] 31)=Wa at *
 have hN:=(Below.refl Wa.heap.size Wa).alloc (Nat.le_refl _) (.cells #[.bool true] 4)
 have R:=Bk.new Wa #[.bool true] 4
 have P:=P.next hN
 have hB:=chain hA hN
 rw [hz] at R
 generalize Wa.alloc (.cells #[.bool true] 4)=Wb at *
 go_wp2_with fail
 go_ret
 exact ⟨_,_,_,_,rfl,Nat.le_refl _,Nat.le_add_right _ 2,changes_tl cols w1 _ hb,⟨_,P,R,fun q r e=>by cases e⟩,hB⟩

set_option maxRecDepth 100000 in
set_option maxHeartbeats 1000000 in
theorem ranks1_true (cols:List Int) (w1 W:World) (hb:Below w1.heap.size w1 W) (h:List Lp) (v:Value) (p:Lp) (a x c d n:Nat) (rk:Int) (g:Nat) (cb:Array Value) (J:List Lp→World→Prop) (t:Tl cols w1 (fun h p=>.bool (newR h p)) g cb c d J) (hJ:J h W) (hn:h.length<1000) (hnn:n<1000) (hfh:∀ q ∈ h,FitP cols q.2.2) (hfp:FitP cols p.2.2) (hac:a+2≤c) (hdx:d≤x) (hcd:c≤d) (hwa:w1.heap.size≤a) (hnb:newR h p=true) (hv:PlaceV w1 v p)
  (h1:Bk W a #[.int .i64 n] 2) (h2:Bk W (a+1) #[.int .i64 rk] 2) (h3:Bk W x #[.func (.func g) #[] cb] 171) :
  Calls Tryz.prog 136 #[v,.pointer (some ⟨a,0,none⟩),.pointer (some ⟨x,0,none⟩),.pointer (some ⟨a+1,0,none⟩)] W fun e W'=>e = .returned (agV (intV ((n:Int)+1)))∧Bk W' a #[.int .i64 ((n:Int)+1)] 2∧Bk W' (a+1) #[.int .i64 ((n:Int)+1)] 2∧Bk W' x #[.func (.func g) #[] cb] 171∧J (p :: h) W'∧KeepO a (x+1) W W':=by
 have tlt:=t.lt _ _ hJ
 obtain ⟨pa,pc,oa,oc,ra,rc,rfl,sp,so,sr⟩:=hv
 have lth1:=h1.lt
 have lth2:=h2.lt
 have lth3:=h3.lt
 have hA:Below W.heap.size W (W.alloc (.cells #[.slice pa p.1.length pc,.slice oa p.2.1.length oc,.slice ra p.2.2.length rc] 66)):=(Below.refl _ _).alloc (Nat.le_refl _) _
 have P:=Bk.new W #[.slice pa p.1.length pc,.slice oa p.2.1.length oc,.slice ra p.2.2.length rc] 66
 go_enter Tryz.func136,Tryz.ntmps136
 go_upto_region 1 with fail
 have hz:(W.alloc (.cells #[.slice pa p.1.length pc,.slice oa p.2.1.length oc,.slice ra p.2.2.length rc] 66)).heap.size=W.heap.size+1:=by simp
 generalize W.alloc (.cells #[.slice pa p.1.length pc,.slice oa p.2.1.length oc,.slice ra p.2.2.length rc] 66)=Wa at *
 have R:=Bk.new Wa #[.int .i64 0,.int .i64 0,.string ⟨#[]⟩] 38
 have hN:=(Below.refl Wa.heap.size Wa).alloc (Nat.le_refl _) (.cells #[.int .i64 0,.int .i64 0,.string ⟨#[]⟩] 38)
 have P:=P.next hN
 have hB:=chain hA hN
 rw [hz] at R
 generalize Wa.alloc (.cells #[.int .i64 0,.int .i64 0,.string ⟨#[]⟩] 38)=Wb at *
 have h1:=h1.next hB
 have h2:=h2.next hB
 have h3:=h3.next hB
 have hJ:=t.keep hJ hB
 have kp:=KeepO.of (a:=a) (b:=(x+1)) hB
 have ltW:Below w1.heap.size w1 W:=hb
 have hw:IntKind.i64.wrap ((n:Int)+1)=(n:Int)+1:=by rw [IntKind.wrap_i64]; omega
 have ch10:=h1.cell 0 rfl
 have fh10:=h1.frozen 0
 go_upto_region 2 with fail
 have h1:=h1.put1 (.int .i64 ((n:Int)+1))
 have h2:=h2.far (p:=⟨a,0,none⟩) (show (a+1)≠a by omega) (.int .i64 ((n:Int)+1))
 have h3:=h3.far (p:=⟨a,0,none⟩) (show x≠a by omega) (.int .i64 ((n:Int)+1))
 have P:=P.far (p:=⟨a,0,none⟩) (show W.heap.size≠a by omega) (.int .i64 ((n:Int)+1))
 have R:=R.far (p:=⟨a,0,none⟩) (show W.heap.size+1≠a by omega) (.int .i64 ((n:Int)+1))
 have hJ:=t.next _ _ (Wb.setCell ⟨a,0,none⟩ (.int .i64 ((n:Int)+1))) hJ (by simp [World.setCell]) (fun k k1 k2=>Below.heap_setCell _ ⟨a,0,none⟩ (.int .i64 ((n:Int)+1)) k (show k≠a by omega))
 have kp:=kp.put (p:=⟨a,0,none⟩) (.inl (show a≤a∧a<(x+1) by omega)) (.int .i64 ((n:Int)+1))
 clear ch10 fh10
 generalize (Wb.setCell ⟨a,0,none⟩ (.int .i64 ((n:Int)+1)))=w11 at *
 have bw:=kp.below (B:=w1.heap.size) hwa hb.size
 have con:=t.call h p (.agg #[.slice pa p.1.length pc,.slice oa p.2.1.length oc,.slice ra p.2.2.length rc]) w11 hJ hn hfh hfp ⟨pa,pc,oa,oc,ra,rc,rfl,sp,so,sr⟩ (hb.trans bw)
 have eg:=t.enter
 rw [hnb] at con
 have ch30:=h3.cell 0 rfl
 have fh30:=h3.frozen 0
 have cP0:=P.cell 0 rfl
 have fP0:=P.frozen 0
 have cP1:=P.cell 1 rfl
 have fP1:=P.frozen 1
 have cP2:=P.cell 2 rfl
 have fP2:=P.frozen 2
 go_wp2_with fail
 first | (refine con.mono ?_) | (go_at_fn g; refine con.mono ?_)
 rintro e w12 ⟨rfl,hJ,hk1⟩
 clear ch30 fh30 cP0 fP0 cP1 fP1 cP2 fP2
 have h1:=h1.keep hk1 (show a<c∨d≤a by omega)
 have h2:=h2.keep hk1 (show (a+1)<c∨d≤(a+1) by omega)
 have h3:=h3.keep hk1 (show x<c∨d≤x by omega)
 have P:=P.keep hk1 (show W.heap.size<c∨d≤W.heap.size by omega)
 have R:=R.keep hk1 (show W.heap.size+1<c∨d≤W.heap.size+1 by omega)
 have kp:=kp.trans (hk1.wide (a':=a) (b':=(x+1)) (by omega) (by omega))
 clear con eg
 have ch10:=h1.cell 0 rfl
 have fh10:=h1.frozen 0
 have ch20:=h2.cell 0 rfl
 have fh20:=h2.frozen 0
 go_upto_region 4 with fail
 have h1:=h1.far (p:=⟨(a+1),0,none⟩) (show a≠(a+1) by omega) (.int .i64 ((n:Int)+1))
 have h2:=h2.put1 (.int .i64 ((n:Int)+1))
 have h3:=h3.far (p:=⟨(a+1),0,none⟩) (show x≠(a+1) by omega) (.int .i64 ((n:Int)+1))
 have P:=P.far (p:=⟨(a+1),0,none⟩) (show W.heap.size≠(a+1) by omega) (.int .i64 ((n:Int)+1))
 have R:=R.far (p:=⟨(a+1),0,none⟩) (show W.heap.size+1≠(a+1) by omega) (.int .i64 ((n:Int)+1))
 have hJ:=t.next _ _ (w12.setCell ⟨(a+1),0,none⟩ (.int .i64 ((n:Int)+1))) hJ (by simp [World.setCell]) (fun k k1 k2=>Below.heap_setCell _ ⟨(a+1),0,none⟩ (.int .i64 ((n:Int)+1)) k (show k≠(a+1) by omega))
 have kp:=kp.put (p:=⟨(a+1),0,none⟩) (.inl (show a≤(a+1)∧(a+1)<(x+1) by omega)) (.int .i64 ((n:Int)+1))
 clear ch10 fh10 ch20 fh20
 generalize (w12.setCell ⟨(a+1),0,none⟩ (.int .i64 ((n:Int)+1)))=w13 at *
 have ch20:=h2.cell 0 rfl
 have fh20:=h2.frozen 0
 go_wp2_with fail
 refine (int_any _ _).mono ?_
 rintro e w14 ⟨rfl,hb1⟩
 clear ch20 fh20
 have h1:=h1.next hb1
 have h2:=h2.next hb1
 have h3:=h3.next hb1
 have P:=P.next hb1
 have R:=R.next hb1
 have hJ:=t.keep hJ hb1
 have kp:=kp.trans (KeepO.of hb1)
 have cR0:=R.cell 0 rfl
 have fR0:=R.frozen 0
 have cR1:=R.cell 1 rfl
 have fR1:=R.frozen 1
 have cR2:=R.cell 2 rfl
 have fR2:=R.frozen 2
 go_wp2_with fail
 have h1:=h1.far3 (g:=W.heap.size+1) (show a≠W.heap.size+1 by omega) (.int .i64 (intK ((n:Int)+1))) (.int .i64 (intN ((n:Int)+1))) (.string ⟨#[]⟩)
 have h2:=h2.far3 (g:=W.heap.size+1) (show (a+1)≠W.heap.size+1 by omega) (.int .i64 (intK ((n:Int)+1))) (.int .i64 (intN ((n:Int)+1))) (.string ⟨#[]⟩)
 have h3:=h3.far3 (g:=W.heap.size+1) (show x≠W.heap.size+1 by omega) (.int .i64 (intK ((n:Int)+1))) (.int .i64 (intN ((n:Int)+1))) (.string ⟨#[]⟩)
 have P:=P.far3 (g:=W.heap.size+1) (show W.heap.size≠W.heap.size+1 by omega) (.int .i64 (intK ((n:Int)+1))) (.int .i64 (intN ((n:Int)+1))) (.string ⟨#[]⟩)
 have R:=R.put3 (.int .i64 (intK ((n:Int)+1))) (.int .i64 (intN ((n:Int)+1))) (.string ⟨#[]⟩)
 have kp:=kp.put3 (g:=W.heap.size+1) (show (a≤W.heap.size+1∧W.heap.size+1<(x+1))∨W.heap.size≤W.heap.size+1 by omega) (.int .i64 (intK ((n:Int)+1))) (.int .i64 (intN ((n:Int)+1))) (.string ⟨#[]⟩)
 have hJ:=t.next _ _ (((w14.setCell ⟨W.heap.size+1,0,none⟩ (.int .i64 (intK ((n:Int)+1)))).setCell ⟨W.heap.size+1,1,none⟩ (.int .i64 (intN ((n:Int)+1)))).setCell ⟨W.heap.size+1,2,none⟩ (.string ⟨#[]⟩)) hJ (by simp [World.setCell]) (fun k k1 k2=>by rw [Below.heap_setCell _ _ _ k (show k≠W.heap.size+1 by omega),Below.heap_setCell _ _ _ k (show k≠W.heap.size+1 by omega),Below.heap_setCell _ _ _ k (show k≠W.heap.size+1 by omega)])
 clear cR0 fR0 cR1 fR1 cR2 fR2
 generalize ((w14.setCell ⟨W.heap.size+1,0,none⟩ (.int .i64 (intK ((n:Int)+1)))).setCell ⟨W.heap.size+1,1,none⟩ (.int .i64 (intN ((n:Int)+1)))).setCell ⟨W.heap.size+1,2,none⟩ (.string ⟨#[]⟩)=w15 at *
 have r0:=R.cell 0 rfl
 have r1:=R.cell 1 rfl
 have r2:=R.cell 2 rfl
 exact bodyPost_ret (v:=agV (intV ((n:Int)+1))) (by simp [results,Tryz.results136,go_sem,r0,r1,r2,intV]) rfl ⟨rfl,h1,h2,h3,hJ,kp⟩
set_option maxRecDepth 100000 in
set_option maxHeartbeats 1000000 in
theorem dense1_true (cols:List Int) (w1 W:World) (hb:Below w1.heap.size w1 W) (h:List Lp) (v:Value) (p:Lp) (a x c d:Nat) (rk:Int) (g:Nat) (cb:Array Value) (J:List Lp→World→Prop) (t:Tl cols w1 (fun h p=>.bool (newR h p)) g cb c d J) (hJ:J h W) (hn:h.length<1000) (hrk:0≤rk∧rk<1000) (hfh:∀ q ∈ h,FitP cols q.2.2) (hfp:FitP cols p.2.2) (hac:a+1≤c) (hdx:d≤x) (hcd:c≤d) (hwa:w1.heap.size≤a) (hnb:newR h p=true) (hv:PlaceV w1 v p)
  (h2:Bk W a #[.int .i64 rk] 2) (h3:Bk W x #[.func (.func g) #[] cb] 171) :
  Calls Tryz.prog 137 #[v,.pointer (some ⟨x,0,none⟩),.pointer (some ⟨a,0,none⟩)] W fun e W'=>e = .returned (agV (intV (rk+1)))∧Bk W' a #[.int .i64 (rk+1)] 2∧Bk W' x #[.func (.func g) #[] cb] 171∧J (p :: h) W'∧KeepO a (x+1) W W':=by
 have tlt:=t.lt _ _ hJ
 obtain ⟨pa,pc,oa,oc,ra,rc,rfl,sp,so,sr⟩:=hv
 have lth2:=h2.lt
 have lth3:=h3.lt
 have hA:Below W.heap.size W (W.alloc (.cells #[.slice pa p.1.length pc,.slice oa p.2.1.length oc,.slice ra p.2.2.length rc] 66)):=(Below.refl _ _).alloc (Nat.le_refl _) _
 have P:=Bk.new W #[.slice pa p.1.length pc,.slice oa p.2.1.length oc,.slice ra p.2.2.length rc] 66
 go_enter Tryz.func137,Tryz.ntmps137
 go_upto_region 1 with fail
 have hz:(W.alloc (.cells #[.slice pa p.1.length pc,.slice oa p.2.1.length oc,.slice ra p.2.2.length rc] 66)).heap.size=W.heap.size+1:=by simp
 generalize W.alloc (.cells #[.slice pa p.1.length pc,.slice oa p.2.1.length oc,.slice ra p.2.2.length rc] 66)=Wa at *
 have R:=Bk.new Wa #[.int .i64 0,.int .i64 0,.string ⟨#[]⟩] 38
 have hN:=(Below.refl Wa.heap.size Wa).alloc (Nat.le_refl _) (.cells #[.int .i64 0,.int .i64 0,.string ⟨#[]⟩] 38)
 have P:=P.next hN
 have hB:=chain hA hN
 rw [hz] at R
 generalize Wa.alloc (.cells #[.int .i64 0,.int .i64 0,.string ⟨#[]⟩] 38)=Wb at *
 have h2:=h2.next hB
 have h3:=h3.next hB
 have hJ:=t.keep hJ hB
 have kp:=KeepO.of (a:=a) (b:=(x+1)) hB
 have ltW:Below w1.heap.size w1 W:=hb
 have hw:IntKind.i64.wrap (rk+1)=rk+1:=by rw [IntKind.wrap_i64]; omega
 have bw:=kp.below (B:=w1.heap.size) hwa hb.size
 have con:=t.call h p (.agg #[.slice pa p.1.length pc,.slice oa p.2.1.length oc,.slice ra p.2.2.length rc]) Wb hJ hn hfh hfp ⟨pa,pc,oa,oc,ra,rc,rfl,sp,so,sr⟩ (hb.trans bw)
 have eg:=t.enter
 rw [hnb] at con
 have ch30:=h3.cell 0 rfl
 have fh30:=h3.frozen 0
 have cP0:=P.cell 0 rfl
 have fP0:=P.frozen 0
 have cP1:=P.cell 1 rfl
 have fP1:=P.frozen 1
 have cP2:=P.cell 2 rfl
 have fP2:=P.frozen 2
 go_wp2_with fail
 first | (refine con.mono ?_) | (go_at_fn g; refine con.mono ?_)
 rintro e w11 ⟨rfl,hJ,hk1⟩
 clear ch30 fh30 cP0 fP0 cP1 fP1 cP2 fP2
 have h2:=h2.keep hk1 (show a<c∨d≤a by omega)
 have h3:=h3.keep hk1 (show x<c∨d≤x by omega)
 have P:=P.keep hk1 (show W.heap.size<c∨d≤W.heap.size by omega)
 have R:=R.keep hk1 (show W.heap.size+1<c∨d≤W.heap.size+1 by omega)
 have kp:=kp.trans (hk1.wide (a':=a) (b':=(x+1)) (by omega) (by omega))
 clear con eg
 have ch20:=h2.cell 0 rfl
 have fh20:=h2.frozen 0
 go_upto_region 3 with fail
 have h2:=h2.put1 (.int .i64 (rk+1))
 have h3:=h3.far (p:=⟨a,0,none⟩) (show x≠a by omega) (.int .i64 (rk+1))
 have P:=P.far (p:=⟨a,0,none⟩) (show W.heap.size≠a by omega) (.int .i64 (rk+1))
 have R:=R.far (p:=⟨a,0,none⟩) (show W.heap.size+1≠a by omega) (.int .i64 (rk+1))
 have hJ:=t.next _ _ (w11.setCell ⟨a,0,none⟩ (.int .i64 (rk+1))) hJ (by simp [World.setCell]) (fun k k1 k2=>Below.heap_setCell _ ⟨a,0,none⟩ (.int .i64 (rk+1)) k (show k≠a by omega))
 have kp:=kp.put (p:=⟨a,0,none⟩) (.inl (show a≤a∧a<(x+1) by omega)) (.int .i64 (rk+1))
 clear ch20 fh20
 generalize (w11.setCell ⟨a,0,none⟩ (.int .i64 (rk+1)))=w12 at *
 have ch20:=h2.cell 0 rfl
 have fh20:=h2.frozen 0
 go_wp2_with fail
 refine (int_any _ _).mono ?_
 rintro e w13 ⟨rfl,hb1⟩
 clear ch20 fh20
 have h2:=h2.next hb1
 have h3:=h3.next hb1
 have P:=P.next hb1
 have R:=R.next hb1
 have hJ:=t.keep hJ hb1
 have kp:=kp.trans (KeepO.of hb1)
 have cR0:=R.cell 0 rfl
 have fR0:=R.frozen 0
 have cR1:=R.cell 1 rfl
 have fR1:=R.frozen 1
 have cR2:=R.cell 2 rfl
 have fR2:=R.frozen 2
 go_wp2_with fail
 have h2:=h2.far3 (g:=W.heap.size+1) (show a≠W.heap.size+1 by omega) (.int .i64 (intK (rk+1))) (.int .i64 (intN (rk+1))) (.string ⟨#[]⟩)
 have h3:=h3.far3 (g:=W.heap.size+1) (show x≠W.heap.size+1 by omega) (.int .i64 (intK (rk+1))) (.int .i64 (intN (rk+1))) (.string ⟨#[]⟩)
 have P:=P.far3 (g:=W.heap.size+1) (show W.heap.size≠W.heap.size+1 by omega) (.int .i64 (intK (rk+1))) (.int .i64 (intN (rk+1))) (.string ⟨#[]⟩)
 have R:=R.put3 (.int .i64 (intK (rk+1))) (.int .i64 (intN (rk+1))) (.string ⟨#[]⟩)
 have kp:=kp.put3 (g:=W.heap.size+1) (show (a≤W.heap.size+1∧W.heap.size+1<(x+1))∨W.heap.size≤W.heap.size+1 by omega) (.int .i64 (intK (rk+1))) (.int .i64 (intN (rk+1))) (.string ⟨#[]⟩)
 have hJ:=t.next _ _ (((w13.setCell ⟨W.heap.size+1,0,none⟩ (.int .i64 (intK (rk+1)))).setCell ⟨W.heap.size+1,1,none⟩ (.int .i64 (intN (rk+1)))).setCell ⟨W.heap.size+1,2,none⟩ (.string ⟨#[]⟩)) hJ (by simp [World.setCell]) (fun k k1 k2=>by rw [Below.heap_setCell _ _ _ k (show k≠W.heap.size+1 by omega),Below.heap_setCell _ _ _ k (show k≠W.heap.size+1 by omega),Below.heap_setCell _ _ _ k (show k≠W.heap.size+1 by omega)])
 clear cR0 fR0 cR1 fR1 cR2 fR2
 generalize ((w13.setCell ⟨W.heap.size+1,0,none⟩ (.int .i64 (intK (rk+1)))).setCell ⟨W.heap.size+1,1,none⟩ (.int .i64 (intN (rk+1)))).setCell ⟨W.heap.size+1,2,none⟩ (.string ⟨#[]⟩)=w14 at *
 have r0:=R.cell 0 rfl
 have r1:=R.cell 1 rfl
 have r2:=R.cell 2 rfl
 exact bodyPost_ret (v:=agV (intV (rk+1))) (by simp [results,Tryz.results137,go_sem,r0,r1,r2,intV]) rfl ⟨rfl,h2,h3,hJ,kp⟩
set_option maxRecDepth 100000 in
set_option maxHeartbeats 1000000 in
theorem ranks1_false (cols:List Int) (w1 W:World) (hb:Below w1.heap.size w1 W) (h:List Lp) (v:Value) (p:Lp) (a x c d n:Nat) (rk:Int) (g:Nat) (cb:Array Value) (J:List Lp→World→Prop) (t:Tl cols w1 (fun h p=>.bool (newR h p)) g cb c d J) (hJ:J h W) (hn:h.length<1000) (hnn:n<1000) (hfh:∀ q ∈ h,FitP cols q.2.2) (hfp:FitP cols p.2.2) (hac:a+2≤c) (hdx:d≤x) (hcd:c≤d) (hwa:w1.heap.size≤a) (hnb:newR h p=false) (hv:PlaceV w1 v p)
  (h1:Bk W a #[.int .i64 n] 2) (h2:Bk W (a+1) #[.int .i64 rk] 2) (h3:Bk W x #[.func (.func g) #[] cb] 171) :
  Calls Tryz.prog 136 #[v,.pointer (some ⟨a,0,none⟩),.pointer (some ⟨x,0,none⟩),.pointer (some ⟨a+1,0,none⟩)] W fun e W'=>e = .returned (agV (intV rk))∧Bk W' a #[.int .i64 ((n:Int)+1)] 2∧Bk W' (a+1) #[.int .i64 rk] 2∧Bk W' x #[.func (.func g) #[] cb] 171∧J (p :: h) W'∧KeepO a (x+1) W W':=by
 have tlt:=t.lt _ _ hJ
 obtain ⟨pa,pc,oa,oc,ra,rc,rfl,sp,so,sr⟩:=hv
 have lth1:=h1.lt
 have lth2:=h2.lt
 have lth3:=h3.lt
 have hA:Below W.heap.size W (W.alloc (.cells #[.slice pa p.1.length pc,.slice oa p.2.1.length oc,.slice ra p.2.2.length rc] 66)):=(Below.refl _ _).alloc (Nat.le_refl _) _
 have P:=Bk.new W #[.slice pa p.1.length pc,.slice oa p.2.1.length oc,.slice ra p.2.2.length rc] 66
 go_enter Tryz.func136,Tryz.ntmps136
 go_upto_region 1 with fail
 have hz:(W.alloc (.cells #[.slice pa p.1.length pc,.slice oa p.2.1.length oc,.slice ra p.2.2.length rc] 66)).heap.size=W.heap.size+1:=by simp
 generalize W.alloc (.cells #[.slice pa p.1.length pc,.slice oa p.2.1.length oc,.slice ra p.2.2.length rc] 66)=Wa at *
 have R:=Bk.new Wa #[.int .i64 0,.int .i64 0,.string ⟨#[]⟩] 38
 have hN:=(Below.refl Wa.heap.size Wa).alloc (Nat.le_refl _) (.cells #[.int .i64 0,.int .i64 0,.string ⟨#[]⟩] 38)
 have P:=P.next hN
 have hB:=chain hA hN
 rw [hz] at R
 generalize Wa.alloc (.cells #[.int .i64 0,.int .i64 0,.string ⟨#[]⟩] 38)=Wb at *
 have h1:=h1.next hB
 have h2:=h2.next hB
 have h3:=h3.next hB
 have hJ:=t.keep hJ hB
 have kp:=KeepO.of (a:=a) (b:=(x+1)) hB
 have ltW:Below w1.heap.size w1 W:=hb
 have hw:IntKind.i64.wrap ((n:Int)+1)=(n:Int)+1:=by rw [IntKind.wrap_i64]; omega
 have ch10:=h1.cell 0 rfl
 have fh10:=h1.frozen 0
 go_upto_region 2 with fail
 have h1:=h1.put1 (.int .i64 ((n:Int)+1))
 have h2:=h2.far (p:=⟨a,0,none⟩) (show (a+1)≠a by omega) (.int .i64 ((n:Int)+1))
 have h3:=h3.far (p:=⟨a,0,none⟩) (show x≠a by omega) (.int .i64 ((n:Int)+1))
 have P:=P.far (p:=⟨a,0,none⟩) (show W.heap.size≠a by omega) (.int .i64 ((n:Int)+1))
 have R:=R.far (p:=⟨a,0,none⟩) (show W.heap.size+1≠a by omega) (.int .i64 ((n:Int)+1))
 have hJ:=t.next _ _ (Wb.setCell ⟨a,0,none⟩ (.int .i64 ((n:Int)+1))) hJ (by simp [World.setCell]) (fun k k1 k2=>Below.heap_setCell _ ⟨a,0,none⟩ (.int .i64 ((n:Int)+1)) k (show k≠a by omega))
 have kp:=kp.put (p:=⟨a,0,none⟩) (.inl (show a≤a∧a<(x+1) by omega)) (.int .i64 ((n:Int)+1))
 clear ch10 fh10
 generalize (Wb.setCell ⟨a,0,none⟩ (.int .i64 ((n:Int)+1)))=w11 at *
 have bw:=kp.below (B:=w1.heap.size) hwa hb.size
 have con:=t.call h p (.agg #[.slice pa p.1.length pc,.slice oa p.2.1.length oc,.slice ra p.2.2.length rc]) w11 hJ hn hfh hfp ⟨pa,pc,oa,oc,ra,rc,rfl,sp,so,sr⟩ (hb.trans bw)
 have eg:=t.enter
 rw [hnb] at con
 have ch30:=h3.cell 0 rfl
 have fh30:=h3.frozen 0
 have cP0:=P.cell 0 rfl
 have fP0:=P.frozen 0
 have cP1:=P.cell 1 rfl
 have fP1:=P.frozen 1
 have cP2:=P.cell 2 rfl
 have fP2:=P.frozen 2
 go_wp2_with fail
 first | (refine con.mono ?_) | (go_at_fn g; refine con.mono ?_)
 rintro e w12 ⟨rfl,hJ,hk1⟩
 clear ch30 fh30 cP0 fP0 cP1 fP1 cP2 fP2
 have h1:=h1.keep hk1 (show a<c∨d≤a by omega)
 have h2:=h2.keep hk1 (show (a+1)<c∨d≤(a+1) by omega)
 have h3:=h3.keep hk1 (show x<c∨d≤x by omega)
 have P:=P.keep hk1 (show W.heap.size<c∨d≤W.heap.size by omega)
 have R:=R.keep hk1 (show W.heap.size+1<c∨d≤W.heap.size+1 by omega)
 have kp:=kp.trans (hk1.wide (a':=a) (b':=(x+1)) (by omega) (by omega))
 clear con eg
 have ch20:=h2.cell 0 rfl
 have fh20:=h2.frozen 0
 go_wp2_with fail
 refine (int_any _ _).mono ?_
 rintro e w13 ⟨rfl,hb1⟩
 clear ch20 fh20
 have h1:=h1.next hb1
 have h2:=h2.next hb1
 have h3:=h3.next hb1
 have P:=P.next hb1
 have R:=R.next hb1
 have hJ:=t.keep hJ hb1
 have kp:=kp.trans (KeepO.of hb1)
 have cR0:=R.cell 0 rfl
 have fR0:=R.frozen 0
 have cR1:=R.cell 1 rfl
 have fR1:=R.frozen 1
 have cR2:=R.cell 2 rfl
 have fR2:=R.frozen 2
 go_wp2_with fail
 have h1:=h1.far3 (g:=W.heap.size+1) (show a≠W.heap.size+1 by omega) (.int .i64 (intK rk)) (.int .i64 (intN rk)) (.string ⟨#[]⟩)
 have h2:=h2.far3 (g:=W.heap.size+1) (show (a+1)≠W.heap.size+1 by omega) (.int .i64 (intK rk)) (.int .i64 (intN rk)) (.string ⟨#[]⟩)
 have h3:=h3.far3 (g:=W.heap.size+1) (show x≠W.heap.size+1 by omega) (.int .i64 (intK rk)) (.int .i64 (intN rk)) (.string ⟨#[]⟩)
 have P:=P.far3 (g:=W.heap.size+1) (show W.heap.size≠W.heap.size+1 by omega) (.int .i64 (intK rk)) (.int .i64 (intN rk)) (.string ⟨#[]⟩)
 have R:=R.put3 (.int .i64 (intK rk)) (.int .i64 (intN rk)) (.string ⟨#[]⟩)
 have kp:=kp.put3 (g:=W.heap.size+1) (show (a≤W.heap.size+1∧W.heap.size+1<(x+1))∨W.heap.size≤W.heap.size+1 by omega) (.int .i64 (intK rk)) (.int .i64 (intN rk)) (.string ⟨#[]⟩)
 have hJ:=t.next _ _ (((w13.setCell ⟨W.heap.size+1,0,none⟩ (.int .i64 (intK rk))).setCell ⟨W.heap.size+1,1,none⟩ (.int .i64 (intN rk))).setCell ⟨W.heap.size+1,2,none⟩ (.string ⟨#[]⟩)) hJ (by simp [World.setCell]) (fun k k1 k2=>by rw [Below.heap_setCell _ _ _ k (show k≠W.heap.size+1 by omega),Below.heap_setCell _ _ _ k (show k≠W.heap.size+1 by omega),Below.heap_setCell _ _ _ k (show k≠W.heap.size+1 by omega)])
 clear cR0 fR0 cR1 fR1 cR2 fR2
 generalize ((w13.setCell ⟨W.heap.size+1,0,none⟩ (.int .i64 (intK rk))).setCell ⟨W.heap.size+1,1,none⟩ (.int .i64 (intN rk))).setCell ⟨W.heap.size+1,2,none⟩ (.string ⟨#[]⟩)=w14 at *
 have r0:=R.cell 0 rfl
 have r1:=R.cell 1 rfl
 have r2:=R.cell 2 rfl
 exact bodyPost_ret (v:=agV (intV rk)) (by simp [results,Tryz.results136,go_sem,r0,r1,r2,intV]) rfl ⟨rfl,h1,h2,h3,hJ,kp⟩
set_option maxRecDepth 100000 in
set_option maxHeartbeats 1000000 in
theorem dense1_false (cols:List Int) (w1 W:World) (hb:Below w1.heap.size w1 W) (h:List Lp) (v:Value) (p:Lp) (a x c d:Nat) (rk:Int) (g:Nat) (cb:Array Value) (J:List Lp→World→Prop) (t:Tl cols w1 (fun h p=>.bool (newR h p)) g cb c d J) (hJ:J h W) (hn:h.length<1000) (hrk:0≤rk∧rk<1000) (hfh:∀ q ∈ h,FitP cols q.2.2) (hfp:FitP cols p.2.2) (hac:a+1≤c) (hdx:d≤x) (_hcd:c≤d) (hwa:w1.heap.size≤a) (hnb:newR h p=false) (hv:PlaceV w1 v p)
  (h2:Bk W a #[.int .i64 rk] 2) (h3:Bk W x #[.func (.func g) #[] cb] 171) :
  Calls Tryz.prog 137 #[v,.pointer (some ⟨x,0,none⟩),.pointer (some ⟨a,0,none⟩)] W fun e W'=>e = .returned (agV (intV rk))∧Bk W' a #[.int .i64 rk] 2∧Bk W' x #[.func (.func g) #[] cb] 171∧J (p :: h) W'∧KeepO a (x+1) W W':=by
 have tlt:=t.lt _ _ hJ
 obtain ⟨pa,pc,oa,oc,ra,rc,rfl,sp,so,sr⟩:=hv
 have lth2:=h2.lt
 have lth3:=h3.lt
 have hA:Below W.heap.size W (W.alloc (.cells #[.slice pa p.1.length pc,.slice oa p.2.1.length oc,.slice ra p.2.2.length rc] 66)):=(Below.refl _ _).alloc (Nat.le_refl _) _
 have P:=Bk.new W #[.slice pa p.1.length pc,.slice oa p.2.1.length oc,.slice ra p.2.2.length rc] 66
 go_enter Tryz.func137,Tryz.ntmps137
 go_upto_region 1 with fail
 have hz:(W.alloc (.cells #[.slice pa p.1.length pc,.slice oa p.2.1.length oc,.slice ra p.2.2.length rc] 66)).heap.size=W.heap.size+1:=by simp
 generalize W.alloc (.cells #[.slice pa p.1.length pc,.slice oa p.2.1.length oc,.slice ra p.2.2.length rc] 66)=Wa at *
 have R:=Bk.new Wa #[.int .i64 0,.int .i64 0,.string ⟨#[]⟩] 38
 have hN:=(Below.refl Wa.heap.size Wa).alloc (Nat.le_refl _) (.cells #[.int .i64 0,.int .i64 0,.string ⟨#[]⟩] 38)
 have P:=P.next hN
 have hB:=chain hA hN
 rw [hz] at R
 generalize Wa.alloc (.cells #[.int .i64 0,.int .i64 0,.string ⟨#[]⟩] 38)=Wb at *
 have h2:=h2.next hB
 have h3:=h3.next hB
 have hJ:=t.keep hJ hB
 have kp:=KeepO.of (a:=a) (b:=(x+1)) hB
 have ltW:Below w1.heap.size w1 W:=hb
 have hw:IntKind.i64.wrap (rk+1)=rk+1:=by rw [IntKind.wrap_i64]; omega
 have bw:=kp.below (B:=w1.heap.size) hwa hb.size
 have con:=t.call h p (.agg #[.slice pa p.1.length pc,.slice oa p.2.1.length oc,.slice ra p.2.2.length rc]) Wb hJ hn hfh hfp ⟨pa,pc,oa,oc,ra,rc,rfl,sp,so,sr⟩ (hb.trans bw)
 have eg:=t.enter
 rw [hnb] at con
 have ch30:=h3.cell 0 rfl
 have fh30:=h3.frozen 0
 have cP0:=P.cell 0 rfl
 have fP0:=P.frozen 0
 have cP1:=P.cell 1 rfl
 have fP1:=P.frozen 1
 have cP2:=P.cell 2 rfl
 have fP2:=P.frozen 2
 go_wp2_with fail
 first | (refine con.mono ?_) | (go_at_fn g; refine con.mono ?_)
 rintro e w11 ⟨rfl,hJ,hk1⟩
 clear ch30 fh30 cP0 fP0 cP1 fP1 cP2 fP2
 have h2:=h2.keep hk1 (show a<c∨d≤a by omega)
 have h3:=h3.keep hk1 (show x<c∨d≤x by omega)
 have P:=P.keep hk1 (show W.heap.size<c∨d≤W.heap.size by omega)
 have R:=R.keep hk1 (show W.heap.size+1<c∨d≤W.heap.size+1 by omega)
 have kp:=kp.trans (hk1.wide (a':=a) (b':=(x+1)) (by omega) (by omega))
 clear con eg
 have ch20:=h2.cell 0 rfl
 have fh20:=h2.frozen 0
 go_wp2_with fail
 refine (int_any _ _).mono ?_
 rintro e w12 ⟨rfl,hb1⟩
 clear ch20 fh20
 have h2:=h2.next hb1
 have h3:=h3.next hb1
 have P:=P.next hb1
 have R:=R.next hb1
 have hJ:=t.keep hJ hb1
 have kp:=kp.trans (KeepO.of hb1)
 have cR0:=R.cell 0 rfl
 have fR0:=R.frozen 0
 have cR1:=R.cell 1 rfl
 have fR1:=R.frozen 1
 have cR2:=R.cell 2 rfl
 have fR2:=R.frozen 2
 go_wp2_with fail
 have h2:=h2.far3 (g:=W.heap.size+1) (show a≠W.heap.size+1 by omega) (.int .i64 (intK rk)) (.int .i64 (intN rk)) (.string ⟨#[]⟩)
 have h3:=h3.far3 (g:=W.heap.size+1) (show x≠W.heap.size+1 by omega) (.int .i64 (intK rk)) (.int .i64 (intN rk)) (.string ⟨#[]⟩)
 have P:=P.far3 (g:=W.heap.size+1) (show W.heap.size≠W.heap.size+1 by omega) (.int .i64 (intK rk)) (.int .i64 (intN rk)) (.string ⟨#[]⟩)
 have R:=R.put3 (.int .i64 (intK rk)) (.int .i64 (intN rk)) (.string ⟨#[]⟩)
 have kp:=kp.put3 (g:=W.heap.size+1) (show (a≤W.heap.size+1∧W.heap.size+1<(x+1))∨W.heap.size≤W.heap.size+1 by omega) (.int .i64 (intK rk)) (.int .i64 (intN rk)) (.string ⟨#[]⟩)
 have hJ:=t.next _ _ (((w12.setCell ⟨W.heap.size+1,0,none⟩ (.int .i64 (intK rk))).setCell ⟨W.heap.size+1,1,none⟩ (.int .i64 (intN rk))).setCell ⟨W.heap.size+1,2,none⟩ (.string ⟨#[]⟩)) hJ (by simp [World.setCell]) (fun k k1 k2=>by rw [Below.heap_setCell _ _ _ k (show k≠W.heap.size+1 by omega),Below.heap_setCell _ _ _ k (show k≠W.heap.size+1 by omega),Below.heap_setCell _ _ _ k (show k≠W.heap.size+1 by omega)])
 clear cR0 fR0 cR1 fR1 cR2 fR2
 generalize ((w12.setCell ⟨W.heap.size+1,0,none⟩ (.int .i64 (intK rk))).setCell ⟨W.heap.size+1,1,none⟩ (.int .i64 (intN rk))).setCell ⟨W.heap.size+1,2,none⟩ (.string ⟨#[]⟩)=w13 at *
 have r0:=R.cell 0 rfl
 have r1:=R.cell 1 rfl
 have r2:=R.cell 2 rfl
 exact bodyPost_ret (v:=agV (intV rk)) (by simp [results,Tryz.results137,go_sem,r0,r1,r2,intV]) rfl ⟨rfl,h2,h3,hJ,kp⟩
end Go.Proofs.YtcnmpiahcnkndaaGreat
/- What begins to tell numbers and ranks; what tells sums and what was ahead. -/
namespace Go.Proofs.YtcnmpiahcnkndaaGreat
open Go.RowKit

theorem numbers_tl (cols:List Int) (w1:World) (a:Nat) (ha:w1.heap.size≤a):Tl cols w1 (fun h p=>agV (tRow h p)) 133 #[.pointer (some ⟨a,0,none⟩)] a (a+1) (fun h W=>Bk W a #[.int .i64 h.length] 2) where
 lo:=ha
 lt:=fun h W h1=>h1.lt
 next:=fun h W W' h1 _ hs=>h1.same (hs _ (Nat.le_refl _) (by omega))
 enter:=enters_of Tryz.func133 (by kernel_rfl) rfl
 call:=fun h p v W h1 hn _ _ hv hb=>by
  refine (numbers1_at w1 W hb v p a h.length hn hv h1).mono ?_
  rintro e w' ⟨rfl,k1,k2⟩
  exact ⟨rfl,by simpa using k1,k2⟩
set_option maxRecDepth 100000 in
set_option maxHeartbeats 1000000 in
theorem numbers_at (W:World):Calls Tryz.prog 94 #[] W fun e W'=>e = .returned (.func (.func 133) #[] #[.pointer (some ⟨W.heap.size,0,none⟩)])∧Bk W' W.heap.size #[.int .i64 0] 2∧Below W.heap.size W W':=by
 have hA:Below W.heap.size W (W.alloc (.cells #[.int .i64 0] 2)):=(Below.refl _ _).alloc (Nat.le_refl _) _
 have P:=Bk.new W #[.int .i64 0] 2
 go_enter Tryz.func94,Tryz.ntmps94
 go_wp2_with fail
 go_ret
 exact ⟨rfl,P,hA⟩
theorem numbers_begs (cols:List Int) (lo:Nat) (w:World):Begs cols lo (.func (.func 94) #[] #[]) (fun h p=>agV (tRow h p)) w :=
 ⟨94,#[],rfl,enters_of Tryz.func94 (by kernel_rfl) rfl,fun w1 W _ hb=>(numbers_at W).mono fun e W' h=>⟨_,_,_,_,_,h.1,Nat.le_refl _,numbers_tl cols w1 _ hb.size,h.2.1,h.2.2⟩⟩

def RkI (a x g:Nat) (cb:Array Value) (J:List Lp→World→Prop) (h:List Lp) (W:World):Prop:=Bk W a #[.int .i64 h.length] 2∧Bk W (a+1) #[.int .i64 (rkS h)] 2∧Bk W x #[.func (.func g) #[] cb] 171∧J h W
theorem ranks_tl (cols:List Int) (w1:World) (a x c d g:Nat) (cb:Array Value) (J:List Lp→World→Prop) (t:Tl cols w1 (fun h p=>.bool (newR h p)) g cb c d J) (hac:a+2≤c) (hdx:d≤x) (hcd:c≤d) (hwa:w1.heap.size≤a):Tl cols w1 (fun h p=>agV (tRank h p)) 136 #[.pointer (some ⟨a,0,none⟩),.pointer (some ⟨x,0,none⟩),.pointer (some ⟨a+1,0,none⟩)] a (x+1) (RkI a x g cb J) where
 lo:=hwa
 lt:=fun h W ⟨_,_,h3,_⟩=>h3.lt
 next:=fun h W W' ⟨h1,h2,h3,h4⟩ hz hs=>⟨h1.same (hs _ (by omega) (by omega)),h2.same (hs _ (by omega) (by omega)),h3.same (hs _ (by omega) (by omega)),t.next h W W' h4 hz fun k k1 k2=>hs k (by omega) (by omega)⟩
 enter:=enters_of Tryz.func136 (by kernel_rfl) rfl
 call:=fun h p v W ⟨h1,h2,h3,h4⟩ hn hfh hfp hv hb=>by
  cases hnb:newR h p
  ·refine (ranks1_false cols w1 W hb h v p a x c d h.length (rkS h) g cb J t h4 hn hn hfh hfp hac hdx hcd hwa hnb hv h1 h2 h3).mono ?_
   rintro e w' ⟨rfl,k1,k2,k3,k4,k5⟩
   have e:rkS (p :: h)=rkS h:=by simp [rkS,hnb]
   exact ⟨by simp only [tRank,e],⟨by simpa using k1,by rw [e]; exact k2,k3,k4⟩,k5⟩
  ·refine (ranks1_true cols w1 W hb h v p a x c d h.length (rkS h) g cb J t h4 hn hn hfh hfp hac hdx hcd hwa hnb hv h1 h2 h3).mono ?_
   rintro e w' ⟨rfl,k1,k2,k3,k4,k5⟩
   have e:rkS (p :: h)=(h.length:Int)+1:=by simp [rkS,hnb]
   exact ⟨by simp only [tRank,e],⟨by simpa using k1,by rw [e]; exact k2,k3,k4⟩,k5⟩
def DnI (a x g:Nat) (cb:Array Value) (J:List Lp→World→Prop) (h:List Lp) (W:World):Prop:=Bk W a #[.int .i64 (dnS h)] 2∧Bk W x #[.func (.func g) #[] cb] 171∧J h W
theorem dense_tl (cols:List Int) (w1:World) (a x c d g:Nat) (cb:Array Value) (J:List Lp→World→Prop) (t:Tl cols w1 (fun h p=>.bool (newR h p)) g cb c d J) (hac:a+1≤c) (hdx:d≤x) (hcd:c≤d) (hwa:w1.heap.size≤a):Tl cols w1 (fun h p=>agV (tDense h p)) 137 #[.pointer (some ⟨x,0,none⟩),.pointer (some ⟨a,0,none⟩)] a (x+1) (DnI a x g cb J) where
 lo:=hwa
 lt:=fun h W ⟨_,h3,_⟩=>h3.lt
 next:=fun h W W' ⟨h2,h3,h4⟩ hz hs=>⟨h2.same (hs _ (by omega) (by omega)),h3.same (hs _ (by omega) (by omega)),t.next h W W' h4 hz fun k k1 k2=>hs k (by omega) (by omega)⟩
 enter:=enters_of Tryz.func137 (by kernel_rfl) rfl
 call:=fun h p v W ⟨h2,h3,h4⟩ hn hfh hfp hv hb=>by
  have hbd:=dnS_bd h
  cases hnb:newR h p
  ·refine (dense1_false cols w1 W hb h v p a x c d (dnS h) g cb J t h4 hn (by omega) hfh hfp hac hdx hcd hwa hnb hv h2 h3).mono ?_
   rintro e w' ⟨rfl,k2,k3,k4,k5⟩
   have e:dnS (p :: h)=dnS h:=by simp [dnS,hnb]
   exact ⟨by simp only [tDense,e],⟨by rw [e]; exact k2,k3,k4⟩,k5⟩
  ·refine (dense1_true cols w1 W hb h v p a x c d (dnS h) g cb J t h4 hn (by omega) hfh hfp hac hdx hcd hwa hnb hv h2 h3).mono ?_
   rintro e w' ⟨rfl,k2,k3,k4,k5⟩
   have e:dnS (p :: h)=dnS h+1:=by simp [dnS,hnb]
   exact ⟨by simp only [tDense,e],⟨by rw [e]; exact k2,k3,k4⟩,k5⟩

set_option maxRecDepth 100000 in
set_option maxHeartbeats 1000000 in
theorem ranks_at (cols:List Int) (w1 W:World) (hb:Below w1.heap.size w1 W):Calls Tryz.prog 95 #[] W fun e W'=>∃ g' cb' a b I,e = .returned (.func (.func g') #[] cb')∧W.heap.size≤a∧Tl cols w1 (fun h p=>agV (tRank h p)) g' cb' a b I∧I [] W'∧Below W.heap.size W W':=by
 have hA:Below W.heap.size W (W.alloc (.cells #[.int .i64 0] 2)):=(Below.refl _ _).alloc (Nat.le_refl _) _
 have P:=Bk.new W #[.int .i64 0] 2
 have hz:(W.alloc (.cells #[.int .i64 0] 2)).heap.size=W.heap.size+1:=by simp
 go_enter Tryz.func95,Tryz.ntmps95
 go_upto_region 2 with fail
 generalize W.alloc (.cells #[.int .i64 0] 2)=Wa at *
 have hN:=(Below.refl Wa.heap.size Wa).alloc (Nat.le_refl _) (.cells #[.int .i64 0] 2)
 have R:=Bk.new Wa #[.int .i64 0] 2
 have P:=P.next hN
 have hB:=chain hA hN
 rw [hz] at R
 generalize Wa.alloc (.cells #[.int .i64 0] 2)=Wb at *
 have ltb:=R.lt
 go_wp2_with fail
 have hsz:=hb.size
 refine (changes_at cols w1 Wb (by omega)).mono ?_
 rintro e w2 ⟨cb,c,d,J,rfl,hc1,hcd,t,hJ,hb2⟩
 have P:=P.next hb2
 have R:=R.next hb2
 have hB:=chain hB hb2
 have hl:=t.lt _ _ hJ
 have hN2:=(Below.refl w2.heap.size w2).alloc (Nat.le_refl _) (.cells #[.func (.func 177) #[] cb] 171)
 have Q:=Bk.new w2 #[.func (.func 177) #[] cb] 171
 have P:=P.next hN2
 have R:=R.next hN2
 have hB:=chain hB hN2
 have hJ:=t.keep hJ hN2
 go_wp2_with fail
 generalize w2.alloc (.cells #[.func (.func 177) #[] cb] 171)=w3 at *
 go_ret
 exact ⟨_,_,_,_,_,rfl,Nat.le_refl _,ranks_tl cols w1 W.heap.size w2.heap.size _ _ _ _ _ t (by omega) hl hcd hb.size,⟨P,R,Q,hJ⟩,hB⟩
set_option maxRecDepth 100000 in
set_option maxHeartbeats 1000000 in
theorem dense_at (cols:List Int) (w1 W:World) (hb:Below w1.heap.size w1 W):Calls Tryz.prog 96 #[] W fun e W'=>∃ g' cb' a b I,e = .returned (.func (.func g') #[] cb')∧W.heap.size≤a∧Tl cols w1 (fun h p=>agV (tDense h p)) g' cb' a b I∧I [] W'∧Below W.heap.size W W':=by
 have hA:Below W.heap.size W (W.alloc (.cells #[.int .i64 0] 2)):=(Below.refl _ _).alloc (Nat.le_refl _) _
 have R:=Bk.new W #[.int .i64 0] 2
 go_enter Tryz.func96,Tryz.ntmps96
 go_upto_region 2 with fail
 generalize W.alloc (.cells #[.int .i64 0] 2)=Wb at *
 have ltb:=R.lt
 go_wp2_with fail
 have hsz:=hb.size
 refine (changes_at cols w1 Wb (by omega)).mono ?_
 rintro e w2 ⟨cb,c,d,J,rfl,hc1,hcd,t,hJ,hb2⟩
 have R:=R.next hb2
 have hB:=chain hA hb2
 have hl:=t.lt _ _ hJ
 have hN2:=(Below.refl w2.heap.size w2).alloc (Nat.le_refl _) (.cells #[.func (.func 177) #[] cb] 171)
 have Q:=Bk.new w2 #[.func (.func 177) #[] cb] 171
 have R:=R.next hN2
 have hB:=chain hB hN2
 have hJ:=t.keep hJ hN2
 go_wp2_with fail
 generalize w2.alloc (.cells #[.func (.func 177) #[] cb] 171)=w3 at *
 go_ret
 exact ⟨_,_,_,_,_,rfl,Nat.le_refl _,dense_tl cols w1 W.heap.size w2.heap.size _ _ _ _ _ t (by omega) hl hcd hb.size,⟨R,Q,hJ⟩,hB⟩
theorem ranks_begs (cols:List Int) (lo:Nat) (w:World):Begs cols lo (.func (.func 95) #[] #[]) (fun h p=>agV (tRank h p)) w :=
 ⟨95,#[],rfl,enters_of Tryz.func95 (by kernel_rfl) rfl,fun w1 W _ hb=>ranks_at cols w1 W hb⟩
theorem dense_begs (cols:List Int) (lo:Nat) (w:World):Begs cols lo (.func (.func 96) #[] #[]) (fun h p=>agV (tDense h p)) w :=
 ⟨96,#[],rfl,enters_of Tryz.func96 (by kernel_rfl) rfl,fun w1 W _ hb=>dense_at cols w1 W hb⟩

set_option maxRecDepth 100000 in
set_option maxHeartbeats 1000000 in
theorem lags1_at (cols:List Int) (w1 W:World) (hb:Below w1.heap.size w1 W) (lo:Nat) (uv:Value) (f:List Vl→Vl) (hV:Asks cols lo uv f w1) (v:Value) (p:Lp) (x:Vl) (a y:Nat) (hay:a<y) (hwa:w1.heap.size≤a) (hfp:FitP cols p.2.2) (hv:PlaceV w1 v p)
  (h1:Bk W a #[uv] 99) (h2:Bk W y #[.int .i64 x.1,.int .i64 x.2.1,.string x.2.2] 38) :
  Calls Tryz.prog 139 #[v,.pointer (some ⟨y,0,none⟩),.pointer (some ⟨a,0,none⟩)] W fun e W'=>e = .returned (agV x)∧Bk W' a #[uv] 99∧Bk W' y #[.int .i64 (f p.2.2).1,.int .i64 (f p.2.2).2.1,.string (f p.2.2).2.2] 38∧KeepO a (y+1) W W':=by
 obtain ⟨gv,cv,rfl,egv,dv⟩:=hV
 obtain ⟨pa,pc,oa,oc,ra,rc,rfl,sp,so,sr⟩:=hv
 have lth1:=h1.lt
 have lth2:=h2.lt
 have hA:Below W.heap.size W (W.alloc (.cells #[.slice pa p.1.length pc,.slice oa p.2.1.length oc,.slice ra p.2.2.length rc] 66)):=(Below.refl _ _).alloc (Nat.le_refl _) _
 have P:=Bk.new W #[.slice pa p.1.length pc,.slice oa p.2.1.length oc,.slice ra p.2.2.length rc] 66
 go_enter Tryz.func139,Tryz.ntmps139
 go_upto_region 1 with fail
 have hz:(W.alloc (.cells #[.slice pa p.1.length pc,.slice oa p.2.1.length oc,.slice ra p.2.2.length rc] 66)).heap.size=W.heap.size+1:=by simp
 generalize W.alloc (.cells #[.slice pa p.1.length pc,.slice oa p.2.1.length oc,.slice ra p.2.2.length rc] 66)=Wa at *
 have R:=Bk.new Wa #[.int .i64 0,.int .i64 0,.string ⟨#[]⟩] 38
 have hN:=(Below.refl Wa.heap.size Wa).alloc (Nat.le_refl _) (.cells #[.int .i64 0,.int .i64 0,.string ⟨#[]⟩] 38)
 have P:=P.next hN
 have hB:=chain hA hN
 rw [hz] at R
 generalize Wa.alloc (.cells #[.int .i64 0,.int .i64 0,.string ⟨#[]⟩] 38)=Wb at *
 have h1:=h1.next hB
 have h2:=h2.next hB
 have kp:=KeepO.of (a:=a) (b:=(y+1)) hB
 have ltW:Below w1.heap.size w1 W:=hb
 have ch20:=h2.cell 0 rfl
 have fh20:=h2.frozen 0
 have ch21:=h2.cell 1 rfl
 have fh21:=h2.frozen 1
 have ch22:=h2.cell 2 rfl
 have fh22:=h2.frozen 2
 go_upto_region 2 with fail
 have hN:=(Below.refl Wb.heap.size Wb).alloc (Nat.le_refl _) (.cells #[.int .i64 x.1,.int .i64 x.2.1,.string x.2.2] 38)
 have lth1:=h1.lt
 have h1:=h1.next hN
 have lth2:=h2.lt
 have h2:=h2.next hN
 have ltP:=P.lt
 have P:=P.next hN
 have ltR:=R.lt
 have R:=R.next hN
 have kp:=kp.trans (KeepO.of hN)
 have V:=Bk.new Wb #[.int .i64 x.1,.int .i64 x.2.1,.string x.2.2] 38
 clear ch20 fh20 ch21 fh21 ch22 fh22
 generalize Wb.alloc (.cells #[.int .i64 x.1,.int .i64 x.2.1,.string x.2.2] 38)=w11 at *
 have bw:=hb.trans (kp.below (B:=w1.heap.size) hwa hb.size)
 have con:=dv p.2.2 ra rc w11 hfp (sr.next bw) (Since.of bw)
 have ch10:=h1.cell 0 rfl
 have fh10:=h1.frozen 0
 have cP2:=P.cell 2 rfl
 have fP2:=P.frozen 2
 go_wp2_with fail
 first | (refine con.mono ?_) | (go_at_fn gv; refine con.mono ?_)
 rintro e w12 ⟨rfl,hb1⟩
 clear ch10 fh10 cP2 fP2
 have h1:=h1.next hb1
 have h2:=h2.next hb1
 have P:=P.next hb1
 have R:=R.next hb1
 have V:=V.next hb1
 have kp:=kp.trans (KeepO.of hb1)
 clear con egv dv
 unfold agV
 have ch20:=h2.cell 0 rfl
 have fh20:=h2.frozen 0
 have ch21:=h2.cell 1 rfl
 have fh21:=h2.frozen 1
 have ch22:=h2.cell 2 rfl
 have fh22:=h2.frozen 2
 go_upto_region 3 with fail
 have h1:=h1.far3 (g:=y) (show a≠y by omega) (.int .i64 (f p.2.2).1) (.int .i64 (f p.2.2).2.1) (.string (f p.2.2).2.2)
 have h2:=h2.put3 (.int .i64 (f p.2.2).1) (.int .i64 (f p.2.2).2.1) (.string (f p.2.2).2.2)
 have P:=P.far3 (g:=y) (show W.heap.size≠y by omega) (.int .i64 (f p.2.2).1) (.int .i64 (f p.2.2).2.1) (.string (f p.2.2).2.2)
 have R:=R.far3 (g:=y) (show W.heap.size+1≠y by omega) (.int .i64 (f p.2.2).1) (.int .i64 (f p.2.2).2.1) (.string (f p.2.2).2.2)
 have V:=V.far3 (g:=y) (show Wb.heap.size≠y by omega) (.int .i64 (f p.2.2).1) (.int .i64 (f p.2.2).2.1) (.string (f p.2.2).2.2)
 have kp:=kp.put3 (g:=y) (show (a≤y∧y<(y+1))∨W.heap.size≤y by omega) (.int .i64 (f p.2.2).1) (.int .i64 (f p.2.2).2.1) (.string (f p.2.2).2.2)
 clear ch20 fh20 ch21 fh21 ch22 fh22
 generalize ((w12.setCell ⟨y,0,none⟩ (.int .i64 (f p.2.2).1)).setCell ⟨y,1,none⟩ (.int .i64 (f p.2.2).2.1)).setCell ⟨y,2,none⟩ (.string (f p.2.2).2.2)=w13 at *
 have cV0:=V.cell 0 rfl
 have fV0:=V.frozen 0
 have cV1:=V.cell 1 rfl
 have fV1:=V.frozen 1
 have cV2:=V.cell 2 rfl
 have fV2:=V.frozen 2
 have cR0:=R.cell 0 rfl
 have fR0:=R.frozen 0
 have cR1:=R.cell 1 rfl
 have fR1:=R.frozen 1
 have cR2:=R.cell 2 rfl
 have fR2:=R.frozen 2
 go_wp2_with fail
 have h1:=h1.far3 (g:=W.heap.size+1) (show a≠W.heap.size+1 by omega) (.int .i64 x.1) (.int .i64 x.2.1) (.string x.2.2)
 have h2:=h2.far3 (g:=W.heap.size+1) (show y≠W.heap.size+1 by omega) (.int .i64 x.1) (.int .i64 x.2.1) (.string x.2.2)
 have P:=P.far3 (g:=W.heap.size+1) (show W.heap.size≠W.heap.size+1 by omega) (.int .i64 x.1) (.int .i64 x.2.1) (.string x.2.2)
 have R:=R.put3 (.int .i64 x.1) (.int .i64 x.2.1) (.string x.2.2)
 have V:=V.far3 (g:=W.heap.size+1) (show Wb.heap.size≠W.heap.size+1 by omega) (.int .i64 x.1) (.int .i64 x.2.1) (.string x.2.2)
 have kp:=kp.put3 (g:=W.heap.size+1) (show (a≤W.heap.size+1∧W.heap.size+1<(y+1))∨W.heap.size≤W.heap.size+1 by omega) (.int .i64 x.1) (.int .i64 x.2.1) (.string x.2.2)
 clear cR0 fR0 cR1 fR1 cR2 fR2
 generalize ((w13.setCell ⟨W.heap.size+1,0,none⟩ (.int .i64 x.1)).setCell ⟨W.heap.size+1,1,none⟩ (.int .i64 x.2.1)).setCell ⟨W.heap.size+1,2,none⟩ (.string x.2.2)=w14 at *
 have r0:=R.cell 0 rfl
 have r1:=R.cell 1 rfl
 have r2:=R.cell 2 rfl
 exact bodyPost_ret (v:=agV x) (by simp [results,Tryz.results139,go_sem,r0,r1,r2,agV]) rfl ⟨rfl,h1,h2,kp⟩
set_option maxRecDepth 100000 in
set_option maxHeartbeats 1000000 in
theorem sums1_a (cols:List Int) (w1 W:World) (hb:Below w1.heap.size w1 W) (lo:Nat) (uv:Value) (f:List Vl→Vl) (hV:Asks cols lo uv f w1) (v:Value) (p:Lp) (sm:Int) (_kn:Bool) (_hsm:-1000000000000000000≤sm∧sm≤1000000000000000000) (_hfn:-1000000000000000≤(f p.2.2).2.1∧(f p.2.2).2.1≤1000000000000000) (hq:((f p.2.2).1 != 1)=false) (a:Nat) (hwa:w1.heap.size≤a) (hfp:FitP cols p.2.2) (hv:PlaceV w1 v p)
  (h1:Bk W a #[uv] 99) (h2:Bk W (a+1) #[.int .i64 sm] 2) (h3:Bk W (a+2) #[.bool false] 4) :
  Calls Tryz.prog 140 #[v,.pointer (some ⟨a,0,none⟩),.pointer (some ⟨a+1,0,none⟩),.pointer (some ⟨a+2,0,none⟩)] W fun e W'=>e = .returned (agV nulV)∧Bk W' a #[uv] 99∧Bk W' (a+1) #[.int .i64 sm] 2∧Bk W' (a+2) #[.bool false] 4∧KeepO a (a+3) W W':=by
 obtain ⟨gv,cv,rfl,egv,dv⟩:=hV
 obtain ⟨pa,pc,oa,oc,ra,rc,rfl,sp,so,sr⟩:=hv
 have lth1:=h1.lt
 have lth2:=h2.lt
 have lth3:=h3.lt
 have hA:Below W.heap.size W (W.alloc (.cells #[.slice pa p.1.length pc,.slice oa p.2.1.length oc,.slice ra p.2.2.length rc] 66)):=(Below.refl _ _).alloc (Nat.le_refl _) _
 have P:=Bk.new W #[.slice pa p.1.length pc,.slice oa p.2.1.length oc,.slice ra p.2.2.length rc] 66
 go_enter Tryz.func140,Tryz.ntmps140
 go_upto_region 1 with fail
 have hz:(W.alloc (.cells #[.slice pa p.1.length pc,.slice oa p.2.1.length oc,.slice ra p.2.2.length rc] 66)).heap.size=W.heap.size+1:=by simp
 generalize W.alloc (.cells #[.slice pa p.1.length pc,.slice oa p.2.1.length oc,.slice ra p.2.2.length rc] 66)=Wa at *
 have R:=Bk.new Wa #[.int .i64 0,.int .i64 0,.string ⟨#[]⟩] 38
 have hN:=(Below.refl Wa.heap.size Wa).alloc (Nat.le_refl _) (.cells #[.int .i64 0,.int .i64 0,.string ⟨#[]⟩] 38)
 have P:=P.next hN
 have hB:=chain hA hN
 rw [hz] at R
 generalize Wa.alloc (.cells #[.int .i64 0,.int .i64 0,.string ⟨#[]⟩] 38)=Wb at *
 have h1:=h1.next hB
 have h2:=h2.next hB
 have h3:=h3.next hB
 have kp:=KeepO.of (a:=a) (b:=(a+3)) hB
 have ltW:Below w1.heap.size w1 W:=hb
 have bw:=hb.trans (kp.below (B:=w1.heap.size) hwa hb.size)
 have con:=dv p.2.2 ra rc Wb hfp (sr.next bw) (Since.of bw)
 have ch10:=h1.cell 0 rfl
 have fh10:=h1.frozen 0
 have cP2:=P.cell 2 rfl
 have fP2:=P.frozen 2
 go_wp2_with fail
 first | (refine con.mono ?_) | (go_at_fn gv; refine con.mono ?_)
 rintro e w11 ⟨rfl,hb1⟩
 clear ch10 fh10 cP2 fP2
 have h1:=h1.next hb1
 have h2:=h2.next hb1
 have h3:=h3.next hb1
 have P:=P.next hb1
 have R:=R.next hb1
 have kp:=kp.trans (KeepO.of hb1)
 clear con egv dv
 unfold agV
 go_upto_region 2 with fail
 have hN:=(Below.refl w11.heap.size w11).alloc (Nat.le_refl _) (.cells #[.int .i64 (f p.2.2).1,.int .i64 (f p.2.2).2.1,.string (f p.2.2).2.2] 38)
 have lth1:=h1.lt
 have h1:=h1.next hN
 have lth2:=h2.lt
 have h2:=h2.next hN
 have lth3:=h3.lt
 have h3:=h3.next hN
 have ltP:=P.lt
 have P:=P.next hN
 have ltR:=R.lt
 have R:=R.next hN
 have kp:=kp.trans (KeepO.of hN)
 have V:=Bk.new w11 #[.int .i64 (f p.2.2).1,.int .i64 (f p.2.2).2.1,.string (f p.2.2).2.2] 38
 generalize w11.alloc (.cells #[.int .i64 (f p.2.2).1,.int .i64 (f p.2.2).2.1,.string (f p.2.2).2.2] 38)=w12 at *
 have cV0:=V.cell 0 rfl
 have fV0:=V.frozen 0
 go_upto_region 5 with fail
 clear cV0 fV0
 have ch30:=h3.cell 0 rfl
 have fh30:=h3.frozen 0
 go_wp2_with fail
 refine (null_any _).mono ?_
 rintro e w13 ⟨rfl,hb1⟩
 clear ch30 fh30
 have h1:=h1.next hb1
 have h2:=h2.next hb1
 have h3:=h3.next hb1
 have P:=P.next hb1
 have R:=R.next hb1
 have V:=V.next hb1
 have kp:=kp.trans (KeepO.of hb1)
 have cR0:=R.cell 0 rfl
 have fR0:=R.frozen 0
 have cR1:=R.cell 1 rfl
 have fR1:=R.frozen 1
 have cR2:=R.cell 2 rfl
 have fR2:=R.frozen 2
 go_wp2_with fail
 have h1:=h1.far3 (g:=W.heap.size+1) (show a≠W.heap.size+1 by omega) (.int .i64 1) (.int .i64 0) (.string ⟨#[]⟩)
 have h2:=h2.far3 (g:=W.heap.size+1) (show (a+1)≠W.heap.size+1 by omega) (.int .i64 1) (.int .i64 0) (.string ⟨#[]⟩)
 have h3:=h3.far3 (g:=W.heap.size+1) (show (a+2)≠W.heap.size+1 by omega) (.int .i64 1) (.int .i64 0) (.string ⟨#[]⟩)
 have P:=P.far3 (g:=W.heap.size+1) (show W.heap.size≠W.heap.size+1 by omega) (.int .i64 1) (.int .i64 0) (.string ⟨#[]⟩)
 have R:=R.put3 (.int .i64 1) (.int .i64 0) (.string ⟨#[]⟩)
 have V:=V.far3 (g:=W.heap.size+1) (show w11.heap.size≠W.heap.size+1 by omega) (.int .i64 1) (.int .i64 0) (.string ⟨#[]⟩)
 have kp:=kp.put3 (g:=W.heap.size+1) (show (a≤W.heap.size+1∧W.heap.size+1<(a+3))∨W.heap.size≤W.heap.size+1 by omega) (.int .i64 1) (.int .i64 0) (.string ⟨#[]⟩)
 clear cR0 fR0 cR1 fR1 cR2 fR2
 generalize ((w13.setCell ⟨W.heap.size+1,0,none⟩ (.int .i64 1)).setCell ⟨W.heap.size+1,1,none⟩ (.int .i64 0)).setCell ⟨W.heap.size+1,2,none⟩ (.string ⟨#[]⟩)=w14 at *
 have r0:=R.cell 0 rfl
 have r1:=R.cell 1 rfl
 have r2:=R.cell 2 rfl
 exact bodyPost_ret (v:=agV nulV) (by simp [results,Tryz.results140,go_sem,r0,r1,r2,nulV,agV]) rfl ⟨rfl,h1,h2,h3,kp⟩
set_option maxRecDepth 100000 in
set_option maxHeartbeats 1000000 in
theorem sums1_b (cols:List Int) (w1 W:World) (hb:Below w1.heap.size w1 W) (lo:Nat) (uv:Value) (f:List Vl→Vl) (hV:Asks cols lo uv f w1) (v:Value) (p:Lp) (sm:Int) (_kn:Bool) (_hsm:-1000000000000000000≤sm∧sm≤1000000000000000000) (_hfn:-1000000000000000≤(f p.2.2).2.1∧(f p.2.2).2.1≤1000000000000000) (hq:((f p.2.2).1 != 1)=false) (a:Nat) (hwa:w1.heap.size≤a) (hfp:FitP cols p.2.2) (hv:PlaceV w1 v p)
  (h1:Bk W a #[uv] 99) (h2:Bk W (a+1) #[.int .i64 sm] 2) (h3:Bk W (a+2) #[.bool true] 4) :
  Calls Tryz.prog 140 #[v,.pointer (some ⟨a,0,none⟩),.pointer (some ⟨a+1,0,none⟩),.pointer (some ⟨a+2,0,none⟩)] W fun e W'=>e = .returned (agV (intV sm))∧Bk W' a #[uv] 99∧Bk W' (a+1) #[.int .i64 sm] 2∧Bk W' (a+2) #[.bool true] 4∧KeepO a (a+3) W W':=by
 obtain ⟨gv,cv,rfl,egv,dv⟩:=hV
 obtain ⟨pa,pc,oa,oc,ra,rc,rfl,sp,so,sr⟩:=hv
 have lth1:=h1.lt
 have lth2:=h2.lt
 have lth3:=h3.lt
 have hA:Below W.heap.size W (W.alloc (.cells #[.slice pa p.1.length pc,.slice oa p.2.1.length oc,.slice ra p.2.2.length rc] 66)):=(Below.refl _ _).alloc (Nat.le_refl _) _
 have P:=Bk.new W #[.slice pa p.1.length pc,.slice oa p.2.1.length oc,.slice ra p.2.2.length rc] 66
 go_enter Tryz.func140,Tryz.ntmps140
 go_upto_region 1 with fail
 have hz:(W.alloc (.cells #[.slice pa p.1.length pc,.slice oa p.2.1.length oc,.slice ra p.2.2.length rc] 66)).heap.size=W.heap.size+1:=by simp
 generalize W.alloc (.cells #[.slice pa p.1.length pc,.slice oa p.2.1.length oc,.slice ra p.2.2.length rc] 66)=Wa at *
 have R:=Bk.new Wa #[.int .i64 0,.int .i64 0,.string ⟨#[]⟩] 38
 have hN:=(Below.refl Wa.heap.size Wa).alloc (Nat.le_refl _) (.cells #[.int .i64 0,.int .i64 0,.string ⟨#[]⟩] 38)
 have P:=P.next hN
 have hB:=chain hA hN
 rw [hz] at R
 generalize Wa.alloc (.cells #[.int .i64 0,.int .i64 0,.string ⟨#[]⟩] 38)=Wb at *
 have h1:=h1.next hB
 have h2:=h2.next hB
 have h3:=h3.next hB
 have kp:=KeepO.of (a:=a) (b:=(a+3)) hB
 have ltW:Below w1.heap.size w1 W:=hb
 have bw:=hb.trans (kp.below (B:=w1.heap.size) hwa hb.size)
 have con:=dv p.2.2 ra rc Wb hfp (sr.next bw) (Since.of bw)
 have ch10:=h1.cell 0 rfl
 have fh10:=h1.frozen 0
 have cP2:=P.cell 2 rfl
 have fP2:=P.frozen 2
 go_wp2_with fail
 first | (refine con.mono ?_) | (go_at_fn gv; refine con.mono ?_)
 rintro e w11 ⟨rfl,hb1⟩
 clear ch10 fh10 cP2 fP2
 have h1:=h1.next hb1
 have h2:=h2.next hb1
 have h3:=h3.next hb1
 have P:=P.next hb1
 have R:=R.next hb1
 have kp:=kp.trans (KeepO.of hb1)
 clear con egv dv
 unfold agV
 go_upto_region 2 with fail
 have hN:=(Below.refl w11.heap.size w11).alloc (Nat.le_refl _) (.cells #[.int .i64 (f p.2.2).1,.int .i64 (f p.2.2).2.1,.string (f p.2.2).2.2] 38)
 have lth1:=h1.lt
 have h1:=h1.next hN
 have lth2:=h2.lt
 have h2:=h2.next hN
 have lth3:=h3.lt
 have h3:=h3.next hN
 have ltP:=P.lt
 have P:=P.next hN
 have ltR:=R.lt
 have R:=R.next hN
 have kp:=kp.trans (KeepO.of hN)
 have V:=Bk.new w11 #[.int .i64 (f p.2.2).1,.int .i64 (f p.2.2).2.1,.string (f p.2.2).2.2] 38
 generalize w11.alloc (.cells #[.int .i64 (f p.2.2).1,.int .i64 (f p.2.2).2.1,.string (f p.2.2).2.2] 38)=w12 at *
 have cV0:=V.cell 0 rfl
 have fV0:=V.frozen 0
 go_upto_region 5 with fail
 clear cV0 fV0
 have ch30:=h3.cell 0 rfl
 have fh30:=h3.frozen 0
 have ch20:=h2.cell 0 rfl
 have fh20:=h2.frozen 0
 go_wp2_with fail
 refine (int_any _ _).mono ?_
 rintro e w13 ⟨rfl,hb1⟩
 clear ch30 fh30 ch20 fh20
 have h1:=h1.next hb1
 have h2:=h2.next hb1
 have h3:=h3.next hb1
 have P:=P.next hb1
 have R:=R.next hb1
 have V:=V.next hb1
 have kp:=kp.trans (KeepO.of hb1)
 have cR0:=R.cell 0 rfl
 have fR0:=R.frozen 0
 have cR1:=R.cell 1 rfl
 have fR1:=R.frozen 1
 have cR2:=R.cell 2 rfl
 have fR2:=R.frozen 2
 go_wp2_with fail
 have h1:=h1.far3 (g:=W.heap.size+1) (show a≠W.heap.size+1 by omega) (.int .i64 (intK sm)) (.int .i64 (intN sm)) (.string ⟨#[]⟩)
 have h2:=h2.far3 (g:=W.heap.size+1) (show (a+1)≠W.heap.size+1 by omega) (.int .i64 (intK sm)) (.int .i64 (intN sm)) (.string ⟨#[]⟩)
 have h3:=h3.far3 (g:=W.heap.size+1) (show (a+2)≠W.heap.size+1 by omega) (.int .i64 (intK sm)) (.int .i64 (intN sm)) (.string ⟨#[]⟩)
 have P:=P.far3 (g:=W.heap.size+1) (show W.heap.size≠W.heap.size+1 by omega) (.int .i64 (intK sm)) (.int .i64 (intN sm)) (.string ⟨#[]⟩)
 have R:=R.put3 (.int .i64 (intK sm)) (.int .i64 (intN sm)) (.string ⟨#[]⟩)
 have V:=V.far3 (g:=W.heap.size+1) (show w11.heap.size≠W.heap.size+1 by omega) (.int .i64 (intK sm)) (.int .i64 (intN sm)) (.string ⟨#[]⟩)
 have kp:=kp.put3 (g:=W.heap.size+1) (show (a≤W.heap.size+1∧W.heap.size+1<(a+3))∨W.heap.size≤W.heap.size+1 by omega) (.int .i64 (intK sm)) (.int .i64 (intN sm)) (.string ⟨#[]⟩)
 clear cR0 fR0 cR1 fR1 cR2 fR2
 generalize ((w13.setCell ⟨W.heap.size+1,0,none⟩ (.int .i64 (intK sm))).setCell ⟨W.heap.size+1,1,none⟩ (.int .i64 (intN sm))).setCell ⟨W.heap.size+1,2,none⟩ (.string ⟨#[]⟩)=w14 at *
 have r0:=R.cell 0 rfl
 have r1:=R.cell 1 rfl
 have r2:=R.cell 2 rfl
 exact bodyPost_ret (v:=agV (intV sm)) (by simp [results,Tryz.results140,go_sem,r0,r1,r2,intV]) rfl ⟨rfl,h1,h2,h3,kp⟩
set_option maxRecDepth 100000 in
set_option maxHeartbeats 1000000 in
theorem sums1_c (cols:List Int) (w1 W:World) (hb:Below w1.heap.size w1 W) (lo:Nat) (uv:Value) (f:List Vl→Vl) (hV:Asks cols lo uv f w1) (v:Value) (p:Lp) (sm:Int) (kn:Bool) (hsm:-1000000000000000000≤sm∧sm≤1000000000000000000) (hfn:-1000000000000000≤(f p.2.2).2.1∧(f p.2.2).2.1≤1000000000000000) (hq:((f p.2.2).1 != 1)=true) (a:Nat) (hwa:w1.heap.size≤a) (hfp:FitP cols p.2.2) (hv:PlaceV w1 v p)
  (h1:Bk W a #[uv] 99) (h2:Bk W (a+1) #[.int .i64 sm] 2) (h3:Bk W (a+2) #[.bool kn] 4) :
  Calls Tryz.prog 140 #[v,.pointer (some ⟨a,0,none⟩),.pointer (some ⟨a+1,0,none⟩),.pointer (some ⟨a+2,0,none⟩)] W fun e W'=>e = .returned (agV (intV (sm+(f p.2.2).2.1)))∧Bk W' a #[uv] 99∧Bk W' (a+1) #[.int .i64 (sm+(f p.2.2).2.1)] 2∧Bk W' (a+2) #[.bool true] 4∧KeepO a (a+3) W W':=by
 obtain ⟨gv,cv,rfl,egv,dv⟩:=hV
 obtain ⟨pa,pc,oa,oc,ra,rc,rfl,sp,so,sr⟩:=hv
 have lth1:=h1.lt
 have lth2:=h2.lt
 have lth3:=h3.lt
 have hA:Below W.heap.size W (W.alloc (.cells #[.slice pa p.1.length pc,.slice oa p.2.1.length oc,.slice ra p.2.2.length rc] 66)):=(Below.refl _ _).alloc (Nat.le_refl _) _
 have P:=Bk.new W #[.slice pa p.1.length pc,.slice oa p.2.1.length oc,.slice ra p.2.2.length rc] 66
 go_enter Tryz.func140,Tryz.ntmps140
 go_upto_region 1 with fail
 have hz:(W.alloc (.cells #[.slice pa p.1.length pc,.slice oa p.2.1.length oc,.slice ra p.2.2.length rc] 66)).heap.size=W.heap.size+1:=by simp
 generalize W.alloc (.cells #[.slice pa p.1.length pc,.slice oa p.2.1.length oc,.slice ra p.2.2.length rc] 66)=Wa at *
 have R:=Bk.new Wa #[.int .i64 0,.int .i64 0,.string ⟨#[]⟩] 38
 have hN:=(Below.refl Wa.heap.size Wa).alloc (Nat.le_refl _) (.cells #[.int .i64 0,.int .i64 0,.string ⟨#[]⟩] 38)
 have P:=P.next hN
 have hB:=chain hA hN
 rw [hz] at R
 generalize Wa.alloc (.cells #[.int .i64 0,.int .i64 0,.string ⟨#[]⟩] 38)=Wb at *
 have h1:=h1.next hB
 have h2:=h2.next hB
 have h3:=h3.next hB
 have kp:=KeepO.of (a:=a) (b:=(a+3)) hB
 have ltW:Below w1.heap.size w1 W:=hb
 have bw:=hb.trans (kp.below (B:=w1.heap.size) hwa hb.size)
 have con:=dv p.2.2 ra rc Wb hfp (sr.next bw) (Since.of bw)
 have ch10:=h1.cell 0 rfl
 have fh10:=h1.frozen 0
 have cP2:=P.cell 2 rfl
 have fP2:=P.frozen 2
 go_wp2_with fail
 first | (refine con.mono ?_) | (go_at_fn gv; refine con.mono ?_)
 rintro e w11 ⟨rfl,hb1⟩
 clear ch10 fh10 cP2 fP2
 have h1:=h1.next hb1
 have h2:=h2.next hb1
 have h3:=h3.next hb1
 have P:=P.next hb1
 have R:=R.next hb1
 have kp:=kp.trans (KeepO.of hb1)
 clear con egv dv
 unfold agV
 go_upto_region 2 with fail
 have hN:=(Below.refl w11.heap.size w11).alloc (Nat.le_refl _) (.cells #[.int .i64 (f p.2.2).1,.int .i64 (f p.2.2).2.1,.string (f p.2.2).2.2] 38)
 have lth1:=h1.lt
 have h1:=h1.next hN
 have lth2:=h2.lt
 have h2:=h2.next hN
 have lth3:=h3.lt
 have h3:=h3.next hN
 have ltP:=P.lt
 have P:=P.next hN
 have ltR:=R.lt
 have R:=R.next hN
 have kp:=kp.trans (KeepO.of hN)
 have V:=Bk.new w11 #[.int .i64 (f p.2.2).1,.int .i64 (f p.2.2).2.1,.string (f p.2.2).2.2] 38
 generalize w11.alloc (.cells #[.int .i64 (f p.2.2).1,.int .i64 (f p.2.2).2.1,.string (f p.2.2).2.2] 38)=w12 at *
 have hw:IntKind.i64.wrap (sm+(f p.2.2).2.1)=(sm+(f p.2.2).2.1):=by rw [IntKind.wrap_i64]; omega
 have cV0:=V.cell 0 rfl
 have fV0:=V.frozen 0
 have cV1:=V.cell 1 rfl
 have fV1:=V.frozen 1
 have ch20:=h2.cell 0 rfl
 have fh20:=h2.frozen 0
 go_upto_region 4 with fail
 have h1:=h1.far (p:=⟨(a+1),0,none⟩) (show a≠(a+1) by omega) (.int .i64 (sm+(f p.2.2).2.1))
 have h2:=h2.put1 (.int .i64 (sm+(f p.2.2).2.1))
 have h3:=h3.far (p:=⟨(a+1),0,none⟩) (show (a+2)≠(a+1) by omega) (.int .i64 (sm+(f p.2.2).2.1))
 have P:=P.far (p:=⟨(a+1),0,none⟩) (show W.heap.size≠(a+1) by omega) (.int .i64 (sm+(f p.2.2).2.1))
 have R:=R.far (p:=⟨(a+1),0,none⟩) (show W.heap.size+1≠(a+1) by omega) (.int .i64 (sm+(f p.2.2).2.1))
 have V:=V.far (p:=⟨(a+1),0,none⟩) (show w11.heap.size≠(a+1) by omega) (.int .i64 (sm+(f p.2.2).2.1))
 have kp:=kp.put (p:=⟨(a+1),0,none⟩) (.inl (show a≤(a+1)∧(a+1)<(a+3) by omega)) (.int .i64 (sm+(f p.2.2).2.1))
 clear cV0 fV0 cV1 fV1 ch20 fh20
 generalize (w12.setCell ⟨(a+1),0,none⟩ (.int .i64 (sm+(f p.2.2).2.1)))=w13 at *
 have ch30:=h3.cell 0 rfl
 have fh30:=h3.frozen 0
 go_upto_region 5 with fail
 have h1:=h1.far (p:=⟨(a+2),0,none⟩) (show a≠(a+2) by omega) (.bool true)
 have h2:=h2.far (p:=⟨(a+2),0,none⟩) (show (a+1)≠(a+2) by omega) (.bool true)
 have h3:=h3.put1 (.bool true)
 have P:=P.far (p:=⟨(a+2),0,none⟩) (show W.heap.size≠(a+2) by omega) (.bool true)
 have R:=R.far (p:=⟨(a+2),0,none⟩) (show W.heap.size+1≠(a+2) by omega) (.bool true)
 have V:=V.far (p:=⟨(a+2),0,none⟩) (show w11.heap.size≠(a+2) by omega) (.bool true)
 have kp:=kp.put (p:=⟨(a+2),0,none⟩) (.inl (show a≤(a+2)∧(a+2)<(a+3) by omega)) (.bool true)
 clear ch30 fh30
 generalize (w13.setCell ⟨(a+2),0,none⟩ (.bool true))=w14 at *
 have ch30:=h3.cell 0 rfl
 have fh30:=h3.frozen 0
 have ch20:=h2.cell 0 rfl
 have fh20:=h2.frozen 0
 go_wp2_with fail
 refine (int_any _ _).mono ?_
 rintro e w15 ⟨rfl,hb1⟩
 clear ch30 fh30 ch20 fh20
 have h1:=h1.next hb1
 have h2:=h2.next hb1
 have h3:=h3.next hb1
 have P:=P.next hb1
 have R:=R.next hb1
 have V:=V.next hb1
 have kp:=kp.trans (KeepO.of hb1)
 have cR0:=R.cell 0 rfl
 have fR0:=R.frozen 0
 have cR1:=R.cell 1 rfl
 have fR1:=R.frozen 1
 have cR2:=R.cell 2 rfl
 have fR2:=R.frozen 2
 go_wp2_with fail
 have h1:=h1.far3 (g:=W.heap.size+1) (show a≠W.heap.size+1 by omega) (.int .i64 (intK (sm+(f p.2.2).2.1))) (.int .i64 (intN (sm+(f p.2.2).2.1))) (.string ⟨#[]⟩)
 have h2:=h2.far3 (g:=W.heap.size+1) (show (a+1)≠W.heap.size+1 by omega) (.int .i64 (intK (sm+(f p.2.2).2.1))) (.int .i64 (intN (sm+(f p.2.2).2.1))) (.string ⟨#[]⟩)
 have h3:=h3.far3 (g:=W.heap.size+1) (show (a+2)≠W.heap.size+1 by omega) (.int .i64 (intK (sm+(f p.2.2).2.1))) (.int .i64 (intN (sm+(f p.2.2).2.1))) (.string ⟨#[]⟩)
 have P:=P.far3 (g:=W.heap.size+1) (show W.heap.size≠W.heap.size+1 by omega) (.int .i64 (intK (sm+(f p.2.2).2.1))) (.int .i64 (intN (sm+(f p.2.2).2.1))) (.string ⟨#[]⟩)
 have R:=R.put3 (.int .i64 (intK (sm+(f p.2.2).2.1))) (.int .i64 (intN (sm+(f p.2.2).2.1))) (.string ⟨#[]⟩)
 have V:=V.far3 (g:=W.heap.size+1) (show w11.heap.size≠W.heap.size+1 by omega) (.int .i64 (intK (sm+(f p.2.2).2.1))) (.int .i64 (intN (sm+(f p.2.2).2.1))) (.string ⟨#[]⟩)
 have kp:=kp.put3 (g:=W.heap.size+1) (show (a≤W.heap.size+1∧W.heap.size+1<(a+3))∨W.heap.size≤W.heap.size+1 by omega) (.int .i64 (intK (sm+(f p.2.2).2.1))) (.int .i64 (intN (sm+(f p.2.2).2.1))) (.string ⟨#[]⟩)
 clear cR0 fR0 cR1 fR1 cR2 fR2
 generalize ((w15.setCell ⟨W.heap.size+1,0,none⟩ (.int .i64 (intK (sm+(f p.2.2).2.1)))).setCell ⟨W.heap.size+1,1,none⟩ (.int .i64 (intN (sm+(f p.2.2).2.1)))).setCell ⟨W.heap.size+1,2,none⟩ (.string ⟨#[]⟩)=w16 at *
 have r0:=R.cell 0 rfl
 have r1:=R.cell 1 rfl
 have r2:=R.cell 2 rfl
 exact bodyPost_ret (v:=agV (intV (sm+(f p.2.2).2.1))) (by simp [results,Tryz.results140,go_sem,r0,r1,r2,intV]) rfl ⟨rfl,h1,h2,h3,kp⟩
end Go.Proofs.YtcnmpiahcnkndaaGreat
/- Parts of rows that have the same keys: plainly, and in memory. -/
namespace Go.Proofs.YtcnmpiahcnkndaaGreat
open Go.RowKit Go.Lib Go.Shelf

/-- Keys, and the rows that have them. -/
abbrev Pt:Type:=List Vl × List Zp
/-- A part is opened, where the last one has other keys. -/
def openP (ps:List Pt) (x:Kp):List Pt:=if h:ps.length=0 then ps ++ [(x.1,[])] else if cmpL (ps[ps.length - 1]'(by omega)).1 x.1=0 then ps else ps ++ [(x.1,[])]
/-- One more row of the last part. -/
def putR (ps:List Pt) (r:Zp):List Pt:=if h:ps.length=0 then ps else ps.set (ps.length - 1) ((ps[ps.length - 1]'(by omega)).1,(ps[ps.length - 1]'(by omega)).2 ++ [r])
def partL (L:List Kp):List Pt:=L.foldl (fun ps x=>putR (openP ps x) x.2) []
theorem partL_take {L:List Kp} {k:Nat} (h:k<L.length):partL (L.take (k+1))=putR (openP (partL (L.take k)) L[k]) L[k].2:=by
 unfold partL
 rw [List.take_succ_eq_append_getElem h,List.foldl_append]
 rfl
theorem openP_len (ps:List Pt) (x:Kp):(openP ps x).length≤ps.length+1∧0<(openP ps x).length:=by
 unfold openP
 split
 ·simp
 ·split
  ·omega
  ·simp
theorem putR_len (ps:List Pt) (r:Zp):(putR ps r).length=ps.length:=by
 unfold putR
 split
 ·rfl
 ·simp
theorem putR_at {ps:List Pt} {m:Nat} (h:ps.length=m+1) (r:Zp):putR ps r=ps.set m ((ps[m]'(by omega)).1,(ps[m]'(by omega)).2 ++ [r]):=by
 unfold putR
 rw [dif_neg (by omega)]
 simp only [h,Nat.add_sub_cancel]
theorem openP_nil {ps:List Pt} (h:ps.length=0) (x:Kp):openP ps x=ps ++ [(x.1,[])]:=by unfold openP; rw [dif_pos h]
theorem openP_same {ps:List Pt} {m:Nat} (h:ps.length=m+1) {x:Kp} (hc:cmpL (ps[m]'(by omega)).1 x.1=0):openP ps x=ps:=by
 unfold openP
 rw [dif_neg (by omega)]
 simp only [h,Nat.add_sub_cancel]
 rw [if_pos hc]
theorem openP_other {ps:List Pt} {m:Nat} (h:ps.length=m+1) {x:Kp} (hc:¬ cmpL (ps[m]'(by omega)).1 x.1=0):openP ps x=ps ++ [(x.1,[])]:=by
 unfold openP
 rw [dif_neg (by omega)]
 simp only [h,Nat.add_sub_cancel]
 rw [if_neg hc]
/-- No part has more rows than there are. -/
theorem partL_small (L:List Kp):(partL L).length≤L.length∧∀ p ∈ partL L,p.2.length≤L.length:=by
 have aux:∀ (L:List Kp) (ps:List Pt) (n:Nat),ps.length≤n→(∀ p ∈ ps,p.2.length≤n)→(L.foldl (fun ps x=>putR (openP ps x) x.2) ps).length≤n+L.length∧∀ p ∈ L.foldl (fun ps x=>putR (openP ps x) x.2) ps,p.2.length≤n+L.length:=by
  intro L
  induction L with
  | nil=>intro ps n h1 h2; exact ⟨h1,h2⟩
  | cons x r ih =>
   intro ps n h1 h2
   have ho:∀ p ∈ openP ps x,p.2.length≤n:=fun p hp=>by
    unfold openP at hp
    split at hp
    ·rcases List.mem_append.1 hp with hp | hp
     ·exact h2 p hp
     ·rw [List.mem_singleton.1 hp]; exact Nat.zero_le _
    ·split at hp
     ·exact h2 p hp
     ·rcases List.mem_append.1 hp with hp | hp
      ·exact h2 p hp
      ·rw [List.mem_singleton.1 hp]; exact Nat.zero_le _
   have:=ih (putR (openP ps x) x.2) (n+1) (by rw [putR_len]; have:=(openP_len ps x).1; omega) (fun p hp=>by
    unfold putR at hp
    split at hp
    ·have:=ho p hp; omega
    ·rcases List.mem_or_eq_of_mem_set hp with hp | rfl
     ·have:=ho p hp; omega
     ·have:=ho _ (List.getElem_mem (l:=openP ps x) (n:=(openP ps x).length - 1) (by omega))
      simp only [List.length_append,List.length_singleton]; omega)
   simp only [List.foldl_cons,List.length_cons]
   refine ⟨by have:=this.1; omega,fun p hp=>by have:=this.2 p hp; omega⟩
 have:=aux L [] 0 (Nat.le_refl _) (fun p hp=>by simp at hp)
 unfold partL
 simpa using this

theorem own_ne {W:World} {b b':Nat} {e e':TypeId} {s s' n n':Nat} {v v':Value} {xs xs':List Value} (hne:e≠e') (h:W.ownsRow b e s v n xs) (h':W.ownsRow b' e' s' v' n' xs'):v.ownBlock=none∨v.ownBlock≠v'.ownBlock:=by
 rcases h.2 with ⟨rfl,_⟩ | ⟨g,cap,cur,rfl,_,hg,_⟩
 ·exact .inl rfl
 ·refine .inr fun e0=>?_
  rcases h'.2 with ⟨rfl,_⟩ | ⟨g',cap',cur',rfl,_,hg',_⟩
  ·simp [Value.ownBlock] at e0
  ·have e1:g=g':=by simpa [Value.ownBlock] using e0
   subst e1
   rw [hg] at hg'
   injection hg' with hg'
   injection hg' with _ he _
   exact hne he
theorem own_not {W:World} {B:Nat} {e:TypeId} {s n:Nat} {v:Value} {xs:List Value} (h:W.ownsRow B e s v n xs) {q:Nat} {cs:Array Value} {T:TypeId} {f:Nat × Nat} (hq:W.heap[q]? = some (.cells cs T f)) (hne:T≠e):v.ownBlock≠some q:=by
 intro e0
 rcases h.2 with ⟨rfl,_⟩ | ⟨g,cap,cur,rfl,_,hg,_⟩
 ·simp [Value.ownBlock] at e0
 ·have e1:g=q:=by simpa [Value.ownBlock] using e0
  subst e1
  rw [hg] at hq
  injection hq with hq
  injection hq with _ he _
  exact hne he.symm
theorem own_mono {W:World} {b b':Nat} {e:TypeId} {s n:Nat} {v:Value} {xs:List Value} (h:W.ownsRow b e s v n xs) (hb:b'≤b):W.ownsRow b' e s v n xs:=by
 obtain ⟨h0,h1⟩:=h
 refine ⟨h0,?_⟩
 rcases h1 with h1 | ⟨g,cap,cur,e,hg,h3⟩
 ·exact .inl h1
 ·exact .inr ⟨g,cap,cur,e,Nat.le_trans hb hg,h3⟩
theorem own_shapeF {W:World} {base e size n:Nat} {v:Value} {xs:List Value} (h:W.ownsRow base e size v n xs):∃ a c,v = .slice a n c:=by
 obtain ⟨_,⟨rfl,h0⟩ | ⟨g,c1,cur,rfl,_⟩⟩:=h
 ·exact ⟨none,0,by rw [h0]⟩
 ·exact ⟨_,c1,rfl⟩
/-- Parts in a slice of the call's own: keys and rows lie in w0; each part's rows in a slice of its own, the last one's behind all others'. -/
structure PsIn (w0:World) (B:Nat) (W:World) (v:Value) (ps:List Pt) (xs:List Value) (Bl:Nat) (rv:Nat→Value) (zs:Nat→List Value):Prop where
 own:W.ownsRow B 87 2 v ps.length xs
 lo:B≤Bl
 hi:Bl≤W.heap.size
 key:∀ i (h:i<ps.length),∃ ka kc,xs[i*2]? = some (.slice ka ps[i].1.length kc)∧SlAt w0 ka ps[i].1
 cell:∀ i (_:i<ps.length),xs[i*2+1]? = some (rv i)
 row:∀ i (h:i<ps.length),W.ownsRow (if i+1=ps.length then Bl else B) 33 2 (rv i) ps[i].2.length (zs i)∧EncB w0 (zs i) ps[i].2
 low:∀ i,i+1<ps.length→∀ g,(rv i).ownBlock=some g→g<Bl
def PsAt (w0:World) (B:Nat) (W:World) (v:Value) (ps:List Pt):Prop:=∃ xs Bl rv zs,PsIn w0 B W v ps xs Bl rv zs
theorem PsIn.next {w0:World} {B:Nat} {W w1:World} {v:Value} {ps:List Pt} {xs:List Value} {Bl:Nat} {rv:Nat→Value} {zs:Nat→List Value} (h:PsIn w0 B W v ps xs Bl rv zs) (hb:Below W.heap.size W w1):PsIn w0 B w1 v ps xs Bl rv zs :=
 ⟨own_next h.own hb,h.lo,Nat.le_trans h.hi hb.size,h.key,h.cell,fun i hi=>⟨own_next (h.row i hi).1 hb,(h.row i hi).2⟩,h.low⟩
theorem PsAt.next {w0:World} {B:Nat} {W w1:World} {v:Value} {ps:List Pt} (h:PsAt w0 B W v ps) (hb:Below W.heap.size W w1):PsAt w0 B w1 v ps:=by
 obtain ⟨xs,Bl,rv,zs,h⟩:=h
 exact ⟨xs,Bl,rv,zs,h.next hb⟩
theorem PsAt.nil (w0:World) (B:Nat) (W:World) (hB:B≤W.heap.size):PsAt w0 B W (.slice none 0 0) [] :=
 ⟨[],B,fun _=>.slice none 0 0,fun _=>[],World.ownsRow_nil _ _ _ _,Nat.le_refl _,hB,fun _ hi=>absurd hi (Nat.not_lt_zero _),fun _ hi=>absurd hi (Nat.not_lt_zero _),fun _ hi=>absurd hi (Nat.not_lt_zero _),fun _ hi=>absurd hi (Nat.not_lt_zero _)⟩
theorem PsIn.rowB {w0:World} {B:Nat} {W:World} {v:Value} {ps:List Pt} {xs:List Value} {Bl:Nat} {rv:Nat→Value} {zs:Nat→List Value} (h:PsIn w0 B W v ps xs Bl rv zs) {i:Nat} (hi:i<ps.length):W.ownsRow B 33 2 (rv i) ps[i].2.length (zs i):=by
 refine own_mono (h.row i hi).1 ?_
 split
 ·exact h.lo
 ·exact Nat.le_refl _
theorem PsIn.push {w0:World} {B:Nat} {W w1:World} {v v':Value} {ps:List Pt} {xs:List Value} {Bl:Nat} {rv:Nat→Value} {zs:Nat→List Value} (h:PsIn w0 B W v ps xs Bl rv zs) {ka:Option Addr} {kc:Nat} {k:List Vl} (hs:SlAt w0 ka k) (hg:W.grownBy w1 v.ownBlock)
  (ho:w1.ownsRow B 87 2 v' (ps.length+1) (xs ++ [.slice ka k.length kc,.slice none 0 0])):PsAt w0 B w1 v' (ps ++ [(k,[])]):=by
 have lx:=h.own.1
 refine ⟨_,w1.heap.size,fun i=>if i=ps.length then .slice none 0 0 else rv i,fun i=>if i=ps.length then [] else zs i,by simpa using ho,Nat.le_trans h.lo (Nat.le_trans h.hi hg.size),Nat.le_refl _,fun i hi=>?_,fun i hi=>?_,fun i hi=>?_,fun i hi g hgi=>?_⟩
 ·by_cases hi':i<ps.length
  ·obtain ⟨ka',kc',e0,s0⟩:=h.key i hi'
   rw [List.getElem_append_left hi']
   exact ⟨ka',kc',by rw [List.getElem?_append_left (by omega)]; exact e0,s0⟩
  ·have e:i=ps.length:=by simp at hi; omega
   subst e
   refine ⟨ka,kc,?_,?_⟩
   ·rw [List.getElem?_append_right (by omega)]; simp [lx]
   ·simpa using hs
 ·by_cases hi':i<ps.length
  ·rw [if_neg (by omega),List.getElem?_append_left (by omega)]; exact h.cell i hi'
  ·have e:i=ps.length:=by simp at hi; omega
   subst e
   rw [if_pos rfl,List.getElem?_append_right (by omega)]; simp [lx]
 ·by_cases hi':i<ps.length
  ·rw [List.getElem_append_left hi',if_neg (by simp; omega),if_neg (by omega),if_neg (by omega)]
   exact ⟨(h.rowB hi').kept hg (own_ne (by decide) (h.rowB hi') h.own),(h.row i hi').2⟩
  ·have e:i=ps.length:=by simp at hi; omega
   subst e
   simp only [List.length_append,List.length_singleton,if_true,List.getElem_concat_length]
   exact ⟨World.ownsRow_nil _ _ _ _,rfl,fun j hj=>absurd hj (Nat.not_lt_zero _)⟩
 ·have hi':i<ps.length:=by simp at hi; omega
  rw [if_neg (by omega)] at hgi
  exact Nat.lt_of_lt_of_le ((h.rowB hi').lt g hgi).2 hg.size
theorem PsIn.put {w0:World} {B:Nat} {W w8 w9:World} {g c m:Nat} {ps:List Pt} {xs:List Value} {Bl:Nat} {rv:Nat→Value} {zs:Nat→List Value} (h:PsIn w0 B W (.slice (some ⟨g,0,none⟩) (m+1) c) ps xs Bl rv zs) (hm:ps.length=m+1) {ra:Option Addr} {rc:Nat} {r:Zp} {v8:Value}
  (sr:SlAt w0 ra r.1) (g8:W.grownBy w8 (rv m).ownBlock) (o8:w8.ownsRow Bl 33 2 v8 ((ps[m]'(by omega)).2.length+1) (zs m ++ [.slice ra r.1.length rc,.int .i64 r.2])) (hb:Below w8.heap.size w8 w9) :
  PsAt w0 B (w9.setCell ⟨g,m*2+1,none⟩ v8) (.slice (some ⟨g,0,none⟩) (m+1) c) (putR ps r):=by
 have hmlt:m<ps.length:=by omega
 have lx:=h.own.1
 have ho:=h.own
 rw [hm] at ho
 have rl:W.ownsRow Bl 33 2 (rv m) (ps[m]'hmlt).2.length (zs m):=by
  have:=(h.row m hmlt).1
  rwa [if_pos hm.symm] at this
 have og:∀ {b e s n v ys},e≠87→w9.ownsRow b e s v n ys→(w9.setCell ⟨g,m*2+1,none⟩ v8).ownsRow b e s v n ys:=fun {b e s n v ys} hne hr=>by
  have o9:w9.ownsRow B 87 2 (.slice (some ⟨g,0,none⟩) (m+1) c) (m+1) xs:=own_next (ho.kept g8 (own_ne (by decide) ho (rl))) hb
  rcases own_ne hne hr o9 with e0 | e0
  ·exact ownsRow_setCell_other hr (by rw [e0]; simp) _
  ·exact ownsRow_setCell_other hr (by simpa [Value.ownBlock] using e0) _
 have o9:w9.ownsRow B 87 2 (.slice (some ⟨g,0,none⟩) (m+1) c) (m+1) xs:=own_next (ho.kept g8 (own_ne (by decide) ho rl)) hb
 have hsz:(w9.setCell ⟨g,m*2+1,none⟩ v8).heap.size=w9.heap.size:=by simp [World.setCell]
 rw [putR_at hm]
 refine ⟨xs.set (m*2+1) v8,Bl,fun i=>if i=m then v8 else rv i,fun i=>if i=m then zs m ++ [.slice ra r.1.length rc,.int .i64 r.2] else zs i,?_,h.lo,?_,fun i hi=>?_,fun i hi=>?_,fun i hi=>?_,fun i hi g' hgi=>?_⟩
 ·rw [List.length_set,hm]
  exact (o9.stored (m*2+1) v8).1
 ·rw [hsz]; exact Nat.le_trans h.hi (Nat.le_trans g8.size hb.size)
 ·have hi0:i<ps.length:=by simpa using hi
  obtain ⟨ka',kc',e0,s0⟩:=h.key i hi0
  rw [List.getElem?_set_ne (by omega),List.getElem_set]
  split
  ·rename_i e; subst e; exact ⟨ka',kc',e0,s0⟩
  ·exact ⟨ka',kc',e0,s0⟩
 ·have hi0:i<ps.length:=by simpa using hi
  by_cases e:i=m
  ·subst e
   rw [if_pos rfl,List.getElem?_set_self (by omega)]
  ·rw [if_neg e,List.getElem?_set_ne (by omega)]; exact h.cell i hi0
 ·have hi0:i<ps.length:=by simpa using hi
  by_cases e:i=m
  ·subst e
   simp only [List.length_set,if_true,List.getElem_set_self,List.length_append,List.length_singleton]
   rw [if_pos hm.symm]
   refine ⟨og (by decide) (own_next o8 hb),?_⟩
   exact EncB.push (h.row i hi0).2 (x:=r) sr
  ·simp only [List.length_set]
   rw [if_neg e,if_neg e,if_neg (by omega),List.getElem_set_ne (fun e'=>e e'.symm)]
   have ri:=h.rowB hi0
   refine ⟨og (by decide) (own_next (ri.kept g8 ?_) hb),(h.row i hi0).2⟩
   by_cases e0:(rv i).ownBlock=none
   ·exact .inl e0
   ·obtain ⟨gi,hgi⟩:=Option.ne_none_iff_exists'.1 e0
    refine .inr fun e1=>?_
    have h1:=h.low i (by omega) gi hgi
    have h2:=(rl.lt gi (e1 ▸ hgi)).1
    omega
 ·have hi0:i+1<ps.length:=by simpa using hi
  rw [if_neg (by omega)] at hgi
  exact h.low i hi0 g' hgi
end Go.Proofs.YtcnmpiahcnkndaaGreat
/- What is known of rows; how many there are. -/
namespace Go.Proofs.YtcnmpiahcnkndaaGreat
open Go.RowKit Go.Lib Go.Shelf

/-- A value, and how often it is there. -/
abbrev Wp:Type:=Vl × Int
def flatW:List Wp→List Value
 | []=>[]
 | p :: r=>.int .i64 p.1.1 :: .int .i64 p.1.2.1 :: .string p.1.2.2 :: .int .i64 p.2 :: flatW r
theorem flatW_append:∀ l r:List Wp,flatW (l ++ r)=flatW l ++ flatW r
 | [],_=>rfl
 | p :: t,r=>by rw [List.cons_append,flatW,flatW,flatW_append t r]; rfl
theorem flatW_at:∀ (l:List Wp) (i:Nat) (h:i<l.length),(flatW l)[i*4]? = some (.int .i64 l[i].1.1)∧(flatW l)[i*4+1]? = some (.int .i64 l[i].1.2.1)∧(flatW l)[i*4+2]? = some (.string l[i].1.2.2)∧(flatW l)[i*4+3]? = some (.int .i64 l[i].2)
 | p :: r,0,_=>⟨rfl,rfl,rfl,rfl⟩
 | p :: r,i+1,h=>by
  have ih:=flatW_at r i (by simpa using h)
  have e:(i+1)*4=i*4+4:=by omega
  rw [e]
  exact ih
/-- What is asked of rows, without what is not known. -/
def knownL (f:List Vl→Vl) (rows:List Zp):List Wp:=rows.filterMap fun r=>if (f r.1).1=1 then none else some (f r.1,r.2)
theorem knownL_take (f:List Vl→Vl) {rows:List Zp} {k:Nat} (h:k<rows.length):knownL f (rows.take (k+1))=knownL f (rows.take k) ++ (if (f rows[k].1).1=1 then [] else [(f rows[k].1,rows[k].2)]):=by
 unfold knownL
 rw [List.take_succ_eq_append_getElem h,List.filterMap_append]
 congr 1
 by_cases c:(f rows[k].1).1=1
 ·simp [c]
 ·simp [c]
theorem knownL_len (f:List Vl→Vl) (rows:List Zp):(knownL f rows).length≤rows.length:=List.length_filterMap_le _ _
theorem infoW:(Tryz.prog.info? 154).map (fun i=>(i.zero,i.size,i.bytes))=some (some (.agg #[.int .i64 0,.int .i64 0,.string ⟨#[]⟩,.int .i64 0]),4,40):=by kernel_rfl

set_option maxRecDepth 100000 in
set_option maxHeartbeats 2000000 in
theorem known_at (cols:List Int) (lo:Nat) (u:Value) (f:List Vl→Vl) (a:Option Addr) (cap:Nat) (rows:List Zp) (w:World) (hA:Asks cols lo u f w) (h:ZsAt w a rows) (hf:∀ p ∈ rows,FitP cols p.1) (hl:rows.length≤400) :
  Calls Tryz.prog 73 #[.slice a rows.length cap,u] w fun e w'=>∃ v,e = .returned v∧w'.ownsRow w.heap.size 154 4 v (knownL f rows).length (flatW (knownL f rows))∧Below w.heap.size w w':=by
 obtain ⟨iw,hi,hj0,hj1,hj2⟩:=info_parts infoW
 obtain ⟨g,cb,rfl,eg,hd⟩:=hA
 have HD:Hid (∀ (row:List Vl) (a:Option Addr) (cap:Nat) (W:World),FitP cols row→SlAt W a row→Since lo w W→Calls Tryz.prog g (#[.slice a row.length cap] ++ cb) W fun e w'=>e = .returned (agV (f row))∧Below W.heap.size W w'):=hd
 have HF:Hid (∀ p ∈ rows,FitP cols p.1):=hf
 clear hd hf
 go_enter Tryz.func73,Tryz.ntmps73
 go_wp2_with fail
 go_loopw [5,11] (fun v i wr=>∃ k:Nat,k≤rows.length∧i = .int .i64 k∧wr.ownsRow w.heap.size 154 4 v (knownL f (rows.take k)).length (flatW (knownL f (rows.take k)))∧Below w.heap.size w wr) (fun _ i _=>rows.length - (intOf i).toNat)
 case atStart=>exact ⟨0,Nat.zero_le _,rfl,World.ownsRow_nil _ _ _ _,Below.refl _ _⟩
 case round =>
  obtain ⟨k,hk,rfl,HO,hb⟩:=hrel
  have hz:=hb.size
  by_cases hlt:k<rows.length
  ·obtain ⟨b,off,rfl,hbl,c1,ar,cr,c0,sr⟩:=(h.next hb).elem hlt
   have hal:Below wr.heap.size wr (wr.alloc (.cells #[.slice ar rows[k].1.length cr,.int .i64 rows[k].2] 33)):=(Below.refl _ _).alloc (Nat.le_refl _) _
   have q0:=heap_new wr #[.slice ar rows[k].1.length cr,.int .i64 rows[k].2] 33
   have hal':=chain hb hal
   have con:=HD.out rows[k].1 ar cr _ (HF.out _ (List.getElem_mem hlt)) (sr.next hal) (Since.of hal')
   have HT:Hid (knownL f (rows.take (k+1))=knownL f (rows.take k) ++ (if (f rows[k].1).1=1 then [] else [(f rows[k].1,rows[k].2)])):=knownL_take f hlt
   have hkl:=knownL_len f (rows.take k)
   rw [List.length_take] at hkl
   have O1:=own_next HO hal
   generalize f rows[k].1=fv at *
   generalize knownL f (rows.take k)=acc at *
   unfold agV at con
   go_upto_region 5 with fail
   clear c0 c1 sr HO
   generalize wr.alloc (.cells #[.slice ar rows[k].1.length cr,.int .i64 rows[k].2] 33)=wk at *
   have p0:wk.cell? ⟨wr.heap.size,0,none⟩=some (.slice ar rows[k].1.length cr):=cell_of (i:=0) q0 rfl
   go_upto_region 6 with (go_at_fn g; refine con.mono ?_; rintro e w2 ⟨rfl,hb2⟩)
   clear con p0
   have q2:=(hb2.block _ (lt_of_heap q0)).trans q0
   have O2:=own_next O1 hb2
   have hal2:Below w2.heap.size w2 (w2.alloc (.cells #[.int .i64 fv.1,.int .i64 fv.2.1,.string fv.2.2] 38)):=(Below.refl _ _).alloc (Nat.le_refl _) _
   have q3:=heap_new w2 #[.int .i64 fv.1,.int .i64 fv.2.1,.string fv.2.2] 38
   have q2:=(hal2.block _ (lt_of_heap q2)).trans q2
   have O3:=own_next O2 hal2
   have hA3:=chain (chain hal' hb2) hal2
   have hz3:=hA3.size
   generalize w2.alloc (.cells #[.int .i64 fv.1,.int .i64 fv.2.1,.string fv.2.2] 38)=w3 at *
   have c0:w3.cell? ⟨w2.heap.size,0,none⟩=some (.int .i64 fv.1):=cell_of (i:=0) q3 rfl
   have c1:w3.cell? ⟨w2.heap.size,1,none⟩=some (.int .i64 fv.2.1):=cell_of (i:=1) q3 rfl
   have c2:w3.cell? ⟨w2.heap.size,2,none⟩=some (.string fv.2.2):=cell_of (i:=2) q3 rfl
   have c3:w3.cell? ⟨wr.heap.size,1,none⟩=some (.int .i64 rows[k].2):=cell_of (i:=1) q2 rfl
   by_cases hn:fv.1=1
   ·have hnb:(fv.1 != 1)=false:=by simp [hn]
    have HT':Hid (knownL f (rows.take (k+1))=acc):=by show _=_; rw [HT.out,if_pos hn,List.append_nil]
    clear hn
    go_wp2_with fail
    go_roundw
    case rel=>exact ⟨k+1,by omega,by go_num,by rw [HT'.out]; exact O3,hA3⟩
    case measure=>simp [intOf]; omega
   ·have hnb:(fv.1 != 1)=true:=by simp [hn]
    have HT':Hid (knownL f (rows.take (k+1))=acc ++ [(fv,rows[k].2)]):=by show _=_; rw [HT.out,if_neg hn]
    clear hn
    go_wp2_with (first | (at_builtin; refine wpList_append_own _ rfl _ _ 125 rfl w.heap.size 154 iw _ 4 40 Tryz.underlying125 hi hj0 hj1 hj2 rfl (by decide) _ _ _ rfl (O3.alloc _) ⟨w3.heap.size,0,none⟩ 1 1 [.int .i64 fv.1,.int .i64 fv.2.1,.string fv.2.2,.int .i64 rows[k].2] rfl rfl ?Ac1 ?Ac2 ?Ac3 ?Ac4 ?Ac5 ?_))
    case Ac1 =>
     intro i u hu
     match i,hu with
     | 0,hu=>simp at hu; subst hu; simp [Addr.add]
     | 1,hu=>simp at hu; subst hu; simp [Addr.add]
     | 2,hu=>simp at hu; subst hu; simp [Addr.add]
     | 3,hu=>simp at hu; subst hu; simp [Addr.add]
    case Ac2=>intro u hu; simp at hu; rcases hu with rfl | rfl | rfl | rfl <;> rfl
    case Ac3=>unfold maxLen; omega
    case Ac4=>omega
    case Ac5=>simp; omega
    intro v' w4 o4 g4 _
    have hb4:Below w.heap.size w w4:=hA3.trans (((Below.refl _ _).alloc (by omega) _).grown g4 (by simp; omega) (fun q hq=>((O3.alloc (.cells #[.int .i64 fv.1,.int .i64 fv.2.1,.string fv.2.2,.int .i64 rows[k].2] 154)).lt q hq).1))
    have o4':w4.ownsRow w.heap.size 154 4 v' (acc ++ [(fv,rows[k].2)]).length (flatW (acc ++ [(fv,rows[k].2)])):=by rw [flatW_append,List.length_append]; exact o4
    clear g4 o4 O3 O2 O1
    go_wp2_with fail
    go_roundw
    case rel=>exact ⟨k+1,by omega,by go_num,by rw [HT'.out]; exact o4',hb4⟩
    case measure=>simp [intOf]; omega
  ·have e:k=rows.length:=by omega
   subst e
   rw [List.take_length] at HO
   obtain ⟨av,cv,rfl⟩:=own_shapeF HO
   go_wp2_with fail
   go_ret
   exact ⟨_,rfl,HO,hb⟩

/-- Weighed values in a slice. -/
def WsAt (W:World) (a:Option Addr) (l:List Wp):Prop:=l.length≤maxLen∧(l = []∨∃ b off,a=some ⟨b,off,none⟩∧b<W.heap.size∧∀ (i:Nat) (h:i<l.length),W.cell? ⟨b,off+i*4,none⟩=some (.int .i64 l[i].1.1)∧W.cell? ⟨b,off+i*4+1,none⟩=some (.int .i64 l[i].1.2.1)∧W.cell? ⟨b,off+i*4+2,none⟩=some (.string l[i].1.2.2)∧W.cell? ⟨b,off+i*4+3,none⟩=some (.int .i64 l[i].2))
theorem WsAt.next {W w1:World} {a:Option Addr} {l:List Wp} (h:WsAt W a l) (hb:Below W.heap.size W w1):WsAt w1 a l:=by
 obtain ⟨h0,h | ⟨b,off,e,hlt,hr⟩⟩:=h
 ·exact ⟨h0,.inl h⟩
 ·refine ⟨h0,.inr ⟨b,off,e,Nat.lt_of_lt_of_le hlt hb.size,fun i hi=>?_⟩⟩
  obtain ⟨a0,a1,a2,a3⟩:=hr i hi
  exact ⟨(hb.cell (p:=⟨b,_,none⟩) hlt).trans a0,(hb.cell (p:=⟨b,_,none⟩) hlt).trans a1,(hb.cell (p:=⟨b,_,none⟩) hlt).trans a2,(hb.cell (p:=⟨b,_,none⟩) hlt).trans a3⟩
theorem WsAt.elem {W:World} {a:Option Addr} {l:List Wp} (h:WsAt W a l) {i:Nat} (hi:i<l.length):∃ b off,a=some ⟨b,off,none⟩∧b<W.heap.size∧W.cell? ⟨b,off+i*4,none⟩=some (.int .i64 l[i].1.1)∧W.cell? ⟨b,off+i*4+1,none⟩=some (.int .i64 l[i].1.2.1)∧W.cell? ⟨b,off+i*4+2,none⟩=some (.string l[i].1.2.2)∧W.cell? ⟨b,off+i*4+3,none⟩=some (.int .i64 l[i].2):=by
 obtain ⟨_,h | ⟨b,off,e,hlt,hr⟩⟩:=h
 ·subst h; simp at hi
 ·exact ⟨b,off,e,hlt,hr i hi⟩
theorem own_ws {W:World} {B:Nat} {v:Value} {l:List Wp} (h:W.ownsRow B 154 4 v l.length (flatW l)):∃ a c,v = .slice a l.length c∧WsAt W a l:=by
 have h':=h
 rcases h.2 with ⟨rfl,h0⟩ | ⟨g,cap,cur,rfl,_,_,hn,hc,_⟩
 ·have:l = []:=List.eq_nil_of_length_eq_zero h0
  subst this
  exact ⟨none,0,rfl,Nat.zero_le _,.inl rfl⟩
 ·refine ⟨_,_,rfl,Nat.le_trans hn hc,.inr ⟨g,0,rfl,(h'.lt g rfl).2,fun i hi=>?_⟩⟩
  obtain ⟨a0,a1,a2,a3⟩:=flatW_at l i hi
  refine ⟨?_,?_,?_,?_⟩
  ·rw [h'.cellAt _ (by omega),← a0]; congr 1; omega
  ·rw [h'.cellAt _ (by omega),← a1]; congr 1; omega
  ·rw [h'.cellAt _ (by omega),← a2]; congr 1; omega
  ·rw [h'.cellAt _ (by omega),← a3]; congr 1; omega
/-- A value's number is nothing where its kind has none. -/
def NumB (v:Vl):Prop:=bareN v.1 v.2.1=v.2.1
theorem numB_bare (v:Vl):NumB (bareP v):=by
 unfold NumB bareP bareN
 by_cases h:v.1=2∨v.1=3 <;> simp [h]
theorem numB_tri (o:Option Bool):NumB (tri o):=by rcases o with _ | _ | _ <;> rfl
theorem numB_rec (c:Int) (a b:Vl):NumB (recP c a b):=by
 unfold NumB recP
 generalize recO c a.1 a.2.1 b.1 b.2.1=o
 cases o with
 | none=>simp [optK,optN,bareN]
 | some n =>
  simp only [optK,optN,intK,intN]
  split <;> simp [bareN]
theorem numB_join (a b:Vl):NumB (joinP a b):=by
 unfold NumB joinP
 generalize joinK a.1 a.2.2 b.1 b.2.2=k
 simp [bareN]
theorem numB_two {k:Int} {a b:Vl} (ha:NumB a) (hb:NumB b):NumB (twoP k a b):=by
 have h1:NumB (andP a b):=by unfold andP; exact numB_tri _
 have h2:NumB (orP a b):=by unfold orP; exact numB_tri _
 have h3:∀ a b,NumB (eqP a b):=fun a b=>by unfold eqP; exact numB_tri _
 have h4:∀ a,NumB (notP a):=fun a=>by unfold notP; exact numB_tri _
 have h5:∀ a b,NumB (ltP a b):=fun a b=>by unfold ltP; exact numB_tri _
 have h6:=numB_rec 43 a b
 have h7:=numB_rec 45 a b
 have h8:=numB_rec 42 a b
 have h9:=numB_join a b
 have hc:NumB (coalP a b):=by
  unfold coalP
  split
  ·exact hb
  ·exact ha
 have n1:=h4 (eqP a b)
 have n2:=h4 (ltP a b)
 have n3:=h4 (ltP b a)
 have e1:=h3 a b
 have l1:=h5 a b
 have l2:=h5 b a
 clear h3 h4 h5
 unfold twoP
 by_cases k4:k=4
 ·rw [if_pos k4]; exact h1
 rw [if_neg k4]
 by_cases k5:k=5
 ·rw [if_pos k5]; exact h2
 rw [if_neg k5]
 by_cases k6:k=6
 ·rw [if_pos k6]; exact e1
 rw [if_neg k6]
 by_cases k7:k=7
 ·rw [if_pos k7]; exact n1
 rw [if_neg k7]
 by_cases k8:k=8
 ·rw [if_pos k8]; exact l1
 rw [if_neg k8]
 by_cases k11:k=11
 ·rw [if_pos k11]; exact n2
 rw [if_neg k11]
 by_cases k10:k=10
 ·rw [if_pos k10]; exact l2
 rw [if_neg k10]
 by_cases k9:k=9
 ·rw [if_pos k9]; exact n3
 rw [if_neg k9]
 by_cases k12:k=12
 ·rw [if_pos k12]; exact h6
 rw [if_neg k12]
 by_cases k13:k=13
 ·rw [if_pos k13]; exact h7
 rw [if_neg k13]
 by_cases k14:k=14
 ·rw [if_pos k14]; exact h8
 rw [if_neg k14]
 by_cases k15:k=15
 ·rw [if_pos k15]; exact h9
 rw [if_neg k15]
 exact hc
theorem numB_valX (row:List Vl):∀ x,NumB (valX row x):=Ex.ind fun k v c ks ih=>by
 have hk:∀ i,NumB ((valsX row ks).getD i vl0):=fun i=>by
  rw [valsX_map]
  by_cases h:i<ks.length
  ·have:(ks.map (valX row)).getD i vl0=valX row ks[i]:=by simp [List.getD,h]
   rw [this]
   exact ih _ (List.getElem_mem h)
  ·have:(ks.map (valX row)).getD i vl0=vl0:=by simp [List.getD,h]
   rw [this]
   rfl
 rw [valX]
 unfold nodeV
 split
 ·exact numB_bare _
 split
 ·exact numB_bare _
 split
 ·exact numB_tri _
 split
 ·exact numB_tri _
 split
 ·split
  ·exact hk 1
  ·exact hk 2
 ·exact numB_two (hk 0) (hk 1)
theorem num_bd {v:Vl} (h:wrongP v=0) (hn:NumB v):-1000000000000000≤v.2.1∧v.2.1≤1000000000000000:=by
 unfold NumB bareN at hn
 unfold wrongP wrongF at h
 split at hn
 ·rename_i hk
  rcases hk with hk | hk
  ·rw [hk] at h
   simp at h
   omega
  ·rw [hk] at h
   simp at h
   omega
 ·omega
/-- Values and how often they are there that may be added up. -/
structure WOk (l:List Wp):Prop where
 len:l.length≤400
 wt:∀ p ∈ l,0≤p.2∧p.2≤1000000
 right:∀ p ∈ l,wrongP p.1=0
 num:∀ p ∈ l,NumB p.1
def sumW:List Wp→Int
 | []=>0
 | p :: r=>p.2+sumW r
theorem sumW_take {l:List Wp} {k:Nat} (h:k<l.length):sumW (l.take (k+1))=sumW (l.take k)+l[k].2:=by
 have aux:∀ (l:List Wp) (p:Wp),sumW (l ++ [p])=sumW l+p.2:=by
  intro l p
  induction l with
  | nil=>simp [sumW]
  | cons q r ih=>rw [List.cons_append,sumW,sumW,ih]; omega
 rw [List.take_succ_eq_append_getElem h,aux]
def countP (l:List Wp):Vl:=(3,sumW l,⟨#[]⟩)

set_option maxRecDepth 100000 in
set_option maxHeartbeats 2000000 in
theorem count_at (a:Option Addr) (cap:Nat) (l:List Wp) (w:World) (h:WsAt w a l) (hok:WOk l) :
  Calls Tryz.prog 116 #[.slice a l.length cap] w fun e w'=>e = .returned (agV (countP l))∧Below w.heap.size w w':=by
 have hl:=hok.len
 have HK:Hid (WOk l):=hok
 clear hok
 have hal0:Below w.heap.size w (w.alloc (.cells #[.int .i64 0,.int .i64 0,.string ⟨#[]⟩] 38)):=(Below.refl _ _).alloc (Nat.le_refl _) _
 have q00:=heap_new w #[.int .i64 0,.int .i64 0,.string ⟨#[]⟩] 38
 unfold agV countP
 generalize hs:sumW l=s
 have HS:Hid (sumW l=s):=hs
 clear hs
 go_enter Tryz.func116,Tryz.ntmps116
 go_wp2_with fail
 generalize w.alloc (.cells #[.int .i64 0,.int .i64 0,.string ⟨#[]⟩] 38)=w0 at *
 go_loopw [3,8] (fun v i wr=>∃ (k:Nat) (n:Int),k≤l.length∧i = .int .i64 k∧v = .int .i64 n∧Hid (n=sumW (l.take k))∧0≤n∧n≤1000000*(k:Int)∧Below w0.heap.size w0 wr) (fun _ i _=>l.length - (intOf i).toNat)
 case atStart=>exact ⟨0,0,Nat.zero_le _,rfl,rfl,rfl,by omega,by omega,Below.refl _ _⟩
 case round =>
  obtain ⟨k,n,hk,rfl,rfl,HN,hn0,hn1,hb⟩:=hrel
  have hA:=chain hal0 hb
  by_cases hlt:k<l.length
  ·obtain ⟨b,off,rfl,hbl,c0,c1,c2,c3⟩:=(h.next hA).elem hlt
   have hw:=HK.out.wt _ (List.getElem_mem hlt)
   have hal:Below wr.heap.size wr (wr.alloc (.cells #[.int .i64 l[k].1.1,.int .i64 l[k].1.2.1,.string l[k].1.2.2,.int .i64 l[k].2] 154)):=(Below.refl _ _).alloc (Nat.le_refl _) _
   have HN':Hid (n+l[k].2=sumW (l.take (k+1))):=by show _=_; rw [sumW_take hlt,HN.out]
   go_wp2_with fail
   go_roundw
   case rel=>exact ⟨k+1,n+l[k].2,by omega,by go_num,rfl,HN',by omega,by omega,chain hb hal⟩
   case measure=>simp [intOf]; omega
  ·have e:k=l.length:=by omega
   subst e
   have es:n=s:=by rw [HN.out,List.take_length,HS.out]
   subst es
   have con:=int_in n wr (by simp [inB]; omega)
   have c0:w0.cell? ⟨w.heap.size,0,none⟩=some (.int .i64 0):=cell_of (i:=0) q00 rfl
   go_wp2_with fail
   refine con.mono ?_
   rintro e w2 ⟨rfl,hb2⟩
   clear con
   have q2:=((chain hb hb2).block _ (lt_of_heap q00)).trans q00
   have d0:w2.cell? ⟨w.heap.size,0,none⟩=some (.int .i64 0):=cell_of (i:=0) q2 rfl
   have d1:w2.cell? ⟨w.heap.size,1,none⟩=some (.int .i64 0):=cell_of (i:=1) q2 rfl
   have d2:w2.cell? ⟨w.heap.size,2,none⟩=some (.string ⟨#[]⟩):=cell_of (i:=2) q2 rfl
   have f0:w2.frozen? ⟨w.heap.size,0,none⟩=false:=frozen_of_row w2 w.heap.size 0 _ _ q2
   have f1:w2.frozen? ⟨w.heap.size,1,none⟩=false:=frozen_of_row w2 w.heap.size 1 _ _ q2
   have f2:w2.frozen? ⟨w.heap.size,2,none⟩=false:=frozen_of_row w2 w.heap.size 2 _ _ q2
   have hA2:=chain hA hb2
   go_wp2_with fail
   exact bodyPost_ret (v:=.agg #[.int .i64 3,.int .i64 n,.string ⟨#[]⟩]) (by simp [results,Tryz.results116,go_sem,d0,d1,d2]) rfl ⟨rfl,((hA2.setCell (p:=⟨w.heap.size,0,none⟩) (Nat.le_refl _) _).setCell (p:=⟨w.heap.size,1,none⟩) (Nat.le_refl _) _).setCell (p:=⟨w.heap.size,2,none⟩) (Nat.le_refl _) _⟩
end Go.Proofs.YtcnmpiahcnkndaaGreat
/- Aggregates as function values. -/
namespace Go.Proofs.YtcnmpiahcnkndaaGreat
open Go.RowKit Go.Lib Go.Shelf

/-- Rows of a part: of the columns, there, and not too many. -/
structure ROk (cols:List Int) (rows:List Zp):Prop where
 len:rows.length≤400
 fit:∀ p ∈ rows,FitP cols p.1
 wt:∀ p ∈ rows,0≤p.2∧p.2≤1000000
theorem ROk.known {cols:List Int} {rows:List Zp} (h:ROk cols rows) {f:List Vl→Vl} (hf:∀ row,FitP cols row→wrongP (f row)=0∧NumB (f row)):WOk (knownL f rows):=by
 have hm:∀ p ∈ knownL f rows,∃ q ∈ rows,p=(f q.1,q.2):=fun p hp=>by
  unfold knownL at hp
  obtain ⟨q,hq,e⟩:=List.mem_filterMap.1 hp
  split at e
  ·cases e
  ·exact ⟨q,hq,(Option.some.inj e).symm⟩
 refine ⟨Nat.le_trans (knownL_len f rows) h.len,fun p hp=>?_,fun p hp=>?_,fun p hp=>?_⟩
 ·obtain ⟨q,hq,rfl⟩:=hm p hp; exact h.wt q hq
 ·obtain ⟨q,hq,rfl⟩:=hm p hp; exact (hf _ (h.fit q hq)).1
 ·obtain ⟨q,hq,rfl⟩:=hm p hp; exact (hf _ (h.fit q hq)).2
/-- A function value makes T of what is known, as long as all from lo on is as it was. -/
def TotF (lo:Nat) (u:Value) (T:List Wp→Vl) (w:World):Prop :=
 ∃ g cb,u = .func (.func g) #[] cb∧(∀ args w,(callFunc g args).run Tryz.prog w = .ok (.enter g args) w) ∧
  ∀ (l:List Wp) (a:Option Addr) (cap:Nat) (W:World),WOk l→WsAt W a l→Since lo w W →
   Calls Tryz.prog g (#[.slice a l.length cap] ++ cb) W fun e w'=>e = .returned (agV (T l))∧Below W.heap.size W w'
theorem TotF.next {lo:Nat} {u:Value} {T:List Wp→Vl} {w w1:World} (h:TotF lo u T w) (hb:Since lo w w1):TotF lo u T w1:=by
 obtain ⟨g,cb,e,eg,hd⟩:=h
 exact ⟨g,cb,e,eg,fun l a cap W hk hs hW=>hd l a cap W hk hs (hb.trans hW)⟩
theorem TotF.down {lo lo':Nat} {u:Value} {T:List Wp→Vl} {w:World} (h:TotF lo u T w) (hl:lo'≤lo):TotF lo' u T w:=by
 obtain ⟨g,cb,e,eg,hd⟩:=h
 exact ⟨g,cb,e,eg,fun l a cap W hk hs hW=>hd l a cap W hk hs (hW.up hl)⟩
/-- A function value makes F of rows. -/
def RowsF (cols:List Int) (lo:Nat) (u:Value) (F:List Zp→Vl) (w:World):Prop :=
 ∃ g cb,u = .func (.func g) #[] cb∧(∀ args w,(callFunc g args).run Tryz.prog w = .ok (.enter g args) w) ∧
  ∀ (rows:List Zp) (a:Option Addr) (cap:Nat) (W:World),ROk cols rows→ZsAt W a rows→Since lo w W →
   Calls Tryz.prog g (#[.slice a rows.length cap] ++ cb) W fun e w'=>e = .returned (agV (F rows))∧Below W.heap.size W w'
theorem RowsF.next {cols:List Int} {lo:Nat} {u:Value} {F:List Zp→Vl} {w w1:World} (h:RowsF cols lo u F w) (hb:Since lo w w1):RowsF cols lo u F w1:=by
 obtain ⟨g,cb,e,eg,hd⟩:=h
 exact ⟨g,cb,e,eg,fun l a cap W hk hs hW=>hd l a cap W hk hs (hb.trans hW)⟩
theorem RowsF.down {cols:List Int} {lo lo':Nat} {u:Value} {F:List Zp→Vl} {w:World} (h:RowsF cols lo u F w) (hl:lo'≤lo):RowsF cols lo' u F w:=by
 obtain ⟨g,cb,e,eg,hd⟩:=h
 exact ⟨g,cb,e,eg,fun l a cap W hk hs hW=>hd l a cap W hk hs (hW.up hl)⟩

set_option maxRecDepth 100000 in
set_option maxHeartbeats 2000000 in
theorem agg1_at (cols:List Int) (lo:Nat) (ut uv:Value) (T:List Wp→Vl) (f:List Vl→Vl) (hfr:∀ row,FitP cols row→wrongP (f row)=0∧NumB (f row)) (tb vb:Nat) (a:Option Addr) (cap:Nat) (rows:List Zp) (W:World) (c0:W.cell? ⟨tb,0,none⟩=some ut) (c1:W.cell? ⟨vb,0,none⟩=some uv) (hT:TotF lo ut T W) (hV:Asks cols lo uv f W) (hr:ROk cols rows) (h:ZsAt W a rows) :
  Calls Tryz.prog 72 #[.slice a rows.length cap,.pointer (some ⟨tb,0,none⟩),.pointer (some ⟨vb,0,none⟩)] W fun e w'=>e = .returned (agV (T (knownL f rows)))∧Below W.heap.size W w':=by
 have hV':=hV
 obtain ⟨gv,cv,rfl,_,_⟩:=hV'
 have hT':=hT
 obtain ⟨gt,ct,rfl,egt,dt⟩:=hT'
 have HDt:Hid (∀ (l:List Wp) (a:Option Addr) (cap:Nat) (W':World),WOk l→WsAt W' a l→Since lo W W'→Calls Tryz.prog gt (#[.slice a l.length cap] ++ ct) W' fun e w'=>e = .returned (agV (T l))∧Below W'.heap.size W' w'):=dt
 have HV:Hid (Asks cols lo (.func (.func gv) #[] cv) f W):=hV
 have HW:Hid (WOk (knownL f rows)):=hr.known hfr
 have HR:Hid (ROk cols rows):=hr
 clear hV hT dt hr hfr
 have hal:Below W.heap.size W (W.alloc (.cells #[.int .i64 0,.int .i64 0,.string ⟨#[]⟩] 38)):=(Below.refl _ _).alloc (Nat.le_refl _) _
 have q0:=heap_new W #[.int .i64 0,.int .i64 0,.string ⟨#[]⟩] 38
 generalize hres:T (knownL f rows)=res
 have HRes:Hid (T (knownL f rows)=res):=hres
 clear hres
 go_enter Tryz.func72,Tryz.ntmps72
 go_wp2_with fail
 generalize W.alloc (.cells #[.int .i64 0,.int .i64 0,.string ⟨#[]⟩] 38)=w0 at *
 have d0:=(hal.cell (p:=⟨tb,0,none⟩) (World.block_lt_of_cell? _ _ c0)).trans c0
 have d1:=(hal.cell (p:=⟨vb,0,none⟩) (World.block_lt_of_cell? _ _ c1)).trans c1
 have lt0:tb<W.heap.size:=World.block_lt_of_cell? _ _ c0
 have lt1:vb<W.heap.size:=World.block_lt_of_cell? _ _ c1
 have hCC:∀ X X':World,(X.cell? ⟨tb,0,none⟩=some (.func (.func gt) #[] ct)∧X.cell? ⟨vb,0,none⟩=some (.func (.func gv) #[] cv))→Below X.heap.size X X'→(X'.cell? ⟨tb,0,none⟩=some (.func (.func gt) #[] ct)∧X'.cell? ⟨vb,0,none⟩=some (.func (.func gv) #[] cv)):=fun X X' h hb=>⟨(hb.cell (World.block_lt_of_cell? _ _ h.1)).trans h.1,(hb.cell (World.block_lt_of_cell? _ _ h.2)).trans h.2⟩
 have hdr:Below w0.heap.size w0 w0.drew:=(Below.refl _ _).drew
 have CW:(w0.drew.cell? ⟨tb,0,none⟩=some (.func (.func gt) #[] ct)∧w0.drew.cell? ⟨vb,0,none⟩=some (.func (.func gv) #[] cv)):=hCC _ _ ⟨d0,d1⟩ hdr
 clear c0 c1
 refine wp_region_cls (fun X=>(X.cell? ⟨tb,0,none⟩=some (.func (.func gt) #[] ct)∧X.cell? ⟨vb,0,none⟩=some (.func (.func gv) #[] cv))) (by kernel_rfl) ?_
 refine wpY_take hCC (some 5) (i:=0) (v:=.func (.func gt) #[] ct) rfl rfl (by kernel_rfl) (by kernel_rfl) (by kernel_rfl) (fun _ _ _ h=>h) (Or.inl ⟨rfl,fun n hn=>?_⟩) CW ?_
 ·have hc:=hn.1
  go_simp
 simp only [Act.put,pA,pB,pC]
 refine wpY_take hCC (some 6) (i:=1) (v:=.slice a rows.length cap) rfl rfl (by kernel_rfl) (by kernel_rfl) (by kernel_rfl) (fun _ _ _ h=>h) (Or.inl ⟨rfl,fun n hn=>?_⟩) CW ?_
 ·go_simp
 simp only [Act.put,pA,pB,pC]
 refine wpY_take hCC (some 7) (i:=2) (v:=.func (.func gv) #[] cv) rfl rfl (by kernel_rfl) (by kernel_rfl) (by kernel_rfl) (fun _ _ _ h=>h) (Or.inl ⟨rfl,fun n hn=>?_⟩) CW ?_
 ·have hc:=hn.2
  go_simp
 simp only [Act.put,pA,pB,pC]
 refine wpY_step (rs:=[3]) (by kernel_rfl) (by simp) ?_
 intro w3 hb3 jj hj
 obtain rfl:jj=3:=by simpa using hj
 clear hj
 have CW3:=hCC _ _ CW hb3
 have D3:=chain hal (chain hdr hb3)
 have con:=known_at cols lo _ f a cap rows w3 (HV.out.next (Since.of D3)) (h.next D3) HR.out.fit HR.out.len
 refine wpOp_step rfl (fun K hK=>?_)
 go_simp
 refine con.mono ?_
 rintro e w4 ⟨v4,rfl,O4,hb4⟩
 clear con
 obtain ⟨a4,c4,rfl,S4⟩:=own_ws O4
 have CW4:=hCC _ _ CW3 hb4
 have D4:=chain D3 hb4
 refine hK _ _ ⟨CW4,?_⟩
 clear hK K O4
 refine wpY_step (rs:=[4]) (by kernel_rfl) (by simp) ?_
 intro w5 hb5 jj hj
 obtain rfl:jj=4:=by simpa using hj
 clear hj
 have CW5:=hCC _ _ CW4 hb5
 have D5:=chain D4 hb5
 have con:=HDt.out (knownL f rows) a4 c4 w5 HW.out (S4.next hb5) (Since.of D5)
 rw [HRes.out] at con
 refine wpOp_step rfl (fun K hK=>?_)
 go_simp
 first | (refine con.mono ?_) | (go_at_fn gt; refine con.mono ?_)
 rintro e w6 ⟨rfl,hb6⟩
 clear con
 have CW6:=hCC _ _ CW5 hb6
 have D6:=chain D5 hb6
 refine hK _ _ ⟨CW6,?_⟩
 clear hK K
 refine wpY_step (rs:=[5]) (by kernel_rfl) (by simp) ?_
 intro w7 hb7 jj hj
 obtain rfl:jj=5:=by simpa using hj
 clear hj
 have CW7:=hCC _ _ CW6 hb7
 have D7:=chain D6 hb7
 have q7:w7.heap[W.heap.size]? = some (.cells #[.int .i64 0,.int .i64 0,.string ⟨#[]⟩] 38 (0,0)):=((chain hdr (chain hb3 (chain hb4 (chain hb5 (chain hb6 hb7))))).block _ (lt_of_heap q0)).trans q0
 have e0:w7.cell? ⟨W.heap.size,0,none⟩=some (.int .i64 0):=cell_of (i:=0) q7 rfl
 have e1:w7.cell? ⟨W.heap.size,1,none⟩=some (.int .i64 0):=cell_of (i:=1) q7 rfl
 have e2:w7.cell? ⟨W.heap.size,2,none⟩=some (.string ⟨#[]⟩):=cell_of (i:=2) q7 rfl
 have f0:w7.frozen? ⟨W.heap.size,0,none⟩=false:=frozen_of_row w7 W.heap.size 0 _ _ q7
 have f1:w7.frozen? ⟨W.heap.size,1,none⟩=false:=frozen_of_row w7 W.heap.size 1 _ _ q7
 have f2:w7.frozen? ⟨W.heap.size,2,none⟩=false:=frozen_of_row w7 W.heap.size 2 _ _ q7
 have ne0:∀ o u (X:World),(X.setCell ⟨W.heap.size,o,none⟩ u).cell? ⟨tb,0,none⟩=X.cell? ⟨tb,0,none⟩:=fun o u X=>World.cell?_setCell_other _ _ _ _ (by intro e; injection e with e; omega)
 have ne1:∀ o u (X:World),(X.setCell ⟨W.heap.size,o,none⟩ u).cell? ⟨vb,0,none⟩=X.cell? ⟨vb,0,none⟩:=fun o u X=>World.cell?_setCell_other _ _ _ _ (by intro e; injection e with e; omega)
 unfold agV
 refine wpOp_step rfl (fun K hK=>?_)
 go_simp
 refine hK _ _ ⟨⟨by rw [ne0,ne0,ne0]; exact CW7.1,by rw [ne1,ne1,ne1]; exact CW7.2⟩,?_⟩
 clear hK K CW3 CW4 CW5 CW6
 have B8:Below W.heap.size W (((w7.setCell ⟨W.heap.size,0,none⟩ (.int .i64 res.1)).setCell ⟨W.heap.size,1,none⟩ (.int .i64 res.2.1)).setCell ⟨W.heap.size,2,none⟩ (.string res.2.2)):=((D7.setCell (p:=⟨W.heap.size,0,none⟩) (Nat.le_refl _) _).setCell (p:=⟨W.heap.size,1,none⟩) (Nat.le_refl _) _).setCell (p:=⟨W.heap.size,2,none⟩) (Nat.le_refl _) _
 have g0:(((w7.setCell ⟨W.heap.size,0,none⟩ (.int .i64 res.1)).setCell ⟨W.heap.size,1,none⟩ (.int .i64 res.2.1)).setCell ⟨W.heap.size,2,none⟩ (.string res.2.2)).cell? ⟨W.heap.size,0,none⟩=some (.int .i64 res.1):=by simp [go_sem,e0]
 have g1:(((w7.setCell ⟨W.heap.size,0,none⟩ (.int .i64 res.1)).setCell ⟨W.heap.size,1,none⟩ (.int .i64 res.2.1)).setCell ⟨W.heap.size,2,none⟩ (.string res.2.2)).cell? ⟨W.heap.size,1,none⟩=some (.int .i64 res.2.1):=by simp [go_sem,e1]
 have g2:(((w7.setCell ⟨W.heap.size,0,none⟩ (.int .i64 res.1)).setCell ⟨W.heap.size,1,none⟩ (.int .i64 res.2.1)).setCell ⟨W.heap.size,2,none⟩ (.string res.2.2)).cell? ⟨W.heap.size,2,none⟩=some (.string res.2.2):=by simp [go_sem,e2]
 have l8:W.heap.size<(((w7.setCell ⟨W.heap.size,0,none⟩ (.int .i64 res.1)).setCell ⟨W.heap.size,1,none⟩ (.int .i64 res.2.1)).setCell ⟨W.heap.size,2,none⟩ (.string res.2.2)).heap.size:=World.block_lt_of_cell? _ _ g0
 clear e0 e1 e2 f0 f1 f2 q7 CW7 ne0 ne1
 generalize (((w7.setCell ⟨W.heap.size,0,none⟩ (.int .i64 res.1)).setCell ⟨W.heap.size,1,none⟩ (.int .i64 res.2.1)).setCell ⟨W.heap.size,2,none⟩ (.string res.2.2))=w8 at *
 refine wpY_done (by kernel_rfl) ?_
 intro w9 hb9
 have k0:=(hb9.cell (p:=⟨W.heap.size,0,none⟩) l8).trans g0
 have k1:=(hb9.cell (p:=⟨W.heap.size,1,none⟩) l8).trans g1
 have k2:=(hb9.cell (p:=⟨W.heap.size,2,none⟩) l8).trans g2
 have B9:=chain B8 hb9
 clear g0 g1 g2 CW hCC
 go_wp2_with fail
 exact bodyPost_ret (v:=.agg #[.int .i64 res.1,.int .i64 res.2.1,.string res.2.2]) (by simp [results,Tryz.results72,go_sem,k0,k1,k2]) rfl ⟨rfl,B9⟩

/-- Function values in a slice in a variable: what they make of rows. -/
def KidsR (cols:List Int) (lo:Nat) (W:World) (kb:Nat) (Fs:List (List Zp→Vl)):Prop :=
 ∃ K,lo≤kb∧kb<W.heap.size∧lo≤K∧K<W.heap.size∧W.cell? ⟨kb,0,none⟩=some (.slice (some ⟨K,0,none⟩) Fs.length Fs.length) ∧
  ∀ (i:Nat) (h:i<Fs.length),∃ u,W.cell? ⟨K,i,none⟩=some u∧RowsF cols lo u Fs[i] W
theorem KidsR.next {cols:List Int} {lo:Nat} {W w1:World} {kb:Nat} {Fs:List (List Zp→Vl)} (h:KidsR cols lo W kb Fs) (hb:Since lo W w1):KidsR cols lo w1 kb Fs:=by
 obtain ⟨K,h1,h2,h3,h4,h5,h6⟩:=h
 refine ⟨K,h1,Nat.lt_of_lt_of_le h2 hb.1,h3,Nat.lt_of_lt_of_le h4 hb.1,(hb.cell (p:=⟨kb,0,none⟩) h1 h2).trans h5,fun i hi=>?_⟩
 obtain ⟨u,c,a⟩:=h6 i hi
 exact ⟨u,(hb.cell (p:=⟨K,i,none⟩) h3 h4).trans c,a.next hb⟩

set_option maxHeartbeats 1000000 in
theorem agg2_at (cols:List Int) (lo:Nat) (vb:Nat) (Fs:List (List Zp→Vl)) (a:Option Addr) (rows:List Zp) (cap:Nat) (W:World) (hK:KidsR cols lo W vb Fs) (h8:Fs.length≤8) (hr:ROk cols rows) (hs:ZsAt W a rows) :
  Calls Tryz.prog 74 #[.slice a rows.length cap,.pointer (some ⟨vb,0,none⟩)] W fun e w'=>e = .returned (.slice (some ⟨W.heap.size,0,none⟩) Fs.length Fs.length)∧RowNew W.heap.size w' (Fs.map fun F=>F rows)∧Below W.heap.size W w':=by
 obtain ⟨i0,hi,hz0,hz1,hz2⟩:=info_parts Tryz.info49
 obtain ⟨K,k1,k2,k3,k4,k5,k6⟩:=hK
 have HK:Hid (∀ (i:Nat) (h:i<Fs.length),∃ u,W.cell? ⟨K,i,none⟩=some u∧RowsF cols lo u Fs[i] W):=k6
 go_enter Tryz.func74,Tryz.ntmps74
 go_wp2_with (first | (at_make; refine wpList_make_full _ rfl _ _ 31 rfl W.heap.size 38 i0 _ 3 Tryz.underlying31 hi hz0 hz1 .i64 .i64 Fs.length Fs.length Fs.length rfl rfl rfl rfl (by rw [hz2]; omega) (by unfold maxLen; omega) (Nat.le_refl _) ?_))
 intro w1 hown hgrow
 have hb0:Below W.heap.size W w1:=(Below.refl _ _).grown hgrow (Nat.le_refl _) (by simp)
 have hB0:VTo w1 W.heap.size Fs.length (fun j=>(Fs.getD j (fun _=>vl0)) rows) 0:=⟨_,hown,fun j _ hj=>absurd hj (Nat.not_lt_zero _)⟩
 have c1:=(hb0.cell (p:=⟨vb,0,none⟩) k2).trans k5
 clear hown hgrow k5 k6
 go_wp2_with fail
 clear c1
 go_loopw [12] (fun i wr=>∃ k:Nat,k≤Fs.length∧i = .int .i64 k∧VTo wr W.heap.size Fs.length (fun j=>(Fs.getD j (fun _=>vl0)) rows) k∧Below W.heap.size W wr) (fun i _=>Fs.length - (intOf i).toNat)
 case atStart=>exact ⟨0,Nat.zero_le _,rfl,hB0,hb0⟩
 case round =>
  obtain ⟨k,hk,rfl,HB,hb⟩:=hrel
  have hz:=hb.size
  by_cases hlt:k<Fs.length
  ·obtain ⟨u,cu,A⟩:=HK.out k hlt
   have cu:=(hb.cell (p:=⟨K,k,none⟩) k4).trans cu
   obtain ⟨g,cb,rfl,eg,d⟩:=A
   have d:=d rows a cap wr hr (hs.next hb) (Since.of hb)
   have ev:Fs[k] rows=(fun j=>(Fs.getD j (fun _=>vl0)) rows) k:=by simp [List.getD,hlt]
   rw [ev] at d
   generalize (fun j=>(Fs.getD j (fun _=>vl0)) rows)=f at *
   have i0:(0:Int)≤(k:Int):=by omega
   have i1:(k:Int)<(Fs.length:Int):=by omega
   go_wp2_with (go_at_fn g; refine d.mono ?_; rintro e w2 ⟨rfl,hb2⟩; have HB2:=HB.next hb2; obtain ⟨⟨u0,u1,u2,d0,d1,d2⟩,f0,f1,f2,hlb⟩:=HB2.cells hlt; have zz:=hb2.size)
   go_roundw
   case rel =>
    refine ⟨k+1,by omega,by go_num,?_,?_⟩
    ·exact HB2.step hlt
    ·exact (((chain hb hb2).setCell (p:=⟨W.heap.size,k*3,none⟩) (Nat.le_refl _) _).setCell (p:=⟨W.heap.size,k*3+1,none⟩) (Nat.le_refl _) _).setCell (p:=⟨W.heap.size,k*3+2,none⟩) (Nat.le_refl _) _
   case measure=>simp [intOf]; omega
  ·have e:k=Fs.length:=by omega
   subst e
   go_wp2_with fail
   go_ret
   exact ⟨rfl,HB.done (Fs.map fun F:List Zp→Vl=>F rows) (by simp) (fun j hj=>by simp at hj; simp [List.getD,hj]) (by simp; omega),hb⟩
end Go.Proofs.YtcnmpiahcnkndaaGreat
/- What an aggregate asks; aggregates. -/
namespace Go.Proofs.YtcnmpiahcnkndaaGreat
open Go.RowKit Go.Lib Go.Shelf

/-- A kind, and an expression. -/
abbrev Ag:Type:=Int × Ex
def measE (cols:List Int) (g:Ag):Int:=if g.1=1 then 0 else if g.1<2∨5<g.1 then 1 else if (typeTop cols g.2).2≠0 then (typeTop cols g.2).2 else if g.1=3∧(typeTop cols g.2).1≠3∧(typeTop cols g.2).1≠1 then 9 else 0
def measF (g:Ag):List Vl→Vl:=if g.1=1 then fun _=>(2,1,⟨#[]⟩) else fun row=>valX row g.2
theorem measF_right {cols:List Int} {g:Ag} (h:measE cols g=0):∀ row,FitP cols row→wrongP (measF g row)=0∧NumB (measF g row):=by
 intro row hf
 unfold measF
 split
 ·exact ⟨by simp [wrongP,wrongF],rfl⟩
 ·rename_i h1
  unfold measE at h
  rw [if_neg h1] at h
  by_cases h2:g.1<2∨5<g.1
  ·rw [if_pos h2] at h; cases h
  ·rw [if_neg h2] at h
   by_cases h3:(typeTop cols g.2).2=0
   ·exact ⟨(valX_of hf g.2 _ (typ_of h3)).1,numB_valX row g.2⟩
   ·rw [if_pos h3] at h; exact absurd h h3
def sumN:List Wp→Int
 | []=>0
 | p :: r=>p.2*p.1.2.1+sumN r
def sumP (l:List Wp):Vl:=if l = [] then (1,0,⟨#[]⟩) else if inB (sumN l)=true then (3,sumN l,⟨#[]⟩) else (1,0,⟨#[]⟩)
def minP:List Wp→Vl
 | []=>(1,0,⟨#[]⟩)
 | p :: r=>r.foldl (fun m x=>if cmpP x.1 m<0 then x.1 else m) p.1
def maxP:List Wp→Vl
 | []=>(1,0,⟨#[]⟩)
 | p :: r=>r.foldl (fun m x=>if 0<cmpP x.1 m then x.1 else m) p.1
def totP (k:Int) (l:List Wp):Vl:=if k=3 then sumP l else if k=4 then minP l else if k=5 then maxP l else countP l
/-- What an aggregate comes to. -/
def aggP (g:Ag) (rows:List Zp):Vl:=totP g.1 (knownL (measF g) rows)
/-- What is wrong with aggregates. -/
def aggsE (cols:List Int):List Ag→Int
 | []=>0
 | g :: r=>if measE cols g=0 then aggsE cols r else measE cols g
theorem aggsE_next (cols:List Int) (gs:List Ag) (j:Nat) (h:j<gs.length) (h0:measE cols gs[j]=0):aggsE cols (gs.drop j)=aggsE cols (gs.drop (j+1)):=by
 rw [List.drop_eq_getElem_cons h,aggsE,if_pos h0]
theorem aggsE_bad (cols:List Int) (gs:List Ag) (j:Nat) (h:j<gs.length) (h0:¬ measE cols gs[j]=0):aggsE cols (gs.drop j)=measE cols gs[j]:=by
 rw [List.drop_eq_getElem_cons h,aggsE,if_neg h0]
/-- Aggregates in memory. -/
def AgAt (B:Nat) (W:World) (a:Option Addr) (l:List Ag):Prop:=l = []∨∃ (b off:Nat) (ai:Nat→Option Addr) (cap:Nat→Nat),a=some ⟨b,off,none⟩∧b<B∧∀ (i:Nat) (h:i<l.length),W.cell? ⟨b,off+i*7,none⟩=some (.int .i64 l[i].1)∧Six W b (off+i*7+1) l[i].2.k l[i].2.v l[i].2.c (ai i) l[i].2.ks.length (cap i)∧KsAt B W (ai i) l[i].2.ks
theorem AgAt.next {B B':Nat} {W w1:World} (hb:Below B' W w1) (hB:B≤B') {a:Option Addr} {l:List Ag} (h:AgAt B W a l):AgAt B w1 a l:=by
 rcases h with h | ⟨b,off,ai,cap,e,hlt,h⟩
 ·exact .inl h
 ·refine .inr ⟨b,off,ai,cap,e,hlt,fun i hi=>?_⟩
  obtain ⟨h1,h2,h3⟩:=h i hi
  exact ⟨(hb.cell (p:=⟨b,_,none⟩) (Nat.lt_of_lt_of_le hlt hB)).trans h1,h2.next hb (Nat.lt_of_lt_of_le hlt hB),KsAt.next hb hB h3⟩
theorem AgAt.up {B B':Nat} {W:World} (hB:B≤B') {a:Option Addr} {l:List Ag} (h:AgAt B W a l):AgAt B' W a l:=by
 rcases h with h | ⟨b,off,ai,cap,e,hlt,h⟩
 ·exact .inl h
 ·refine .inr ⟨b,off,ai,cap,e,Nat.lt_of_lt_of_le hlt hB,fun i hi=>?_⟩
  obtain ⟨h1,h2,h3⟩:=h i hi
  exact ⟨h1,h2,h3.up hB⟩
theorem AgAt.elem {B:Nat} {W:World} {a:Option Addr} {l:List Ag} (h:AgAt B W a l) {i:Nat} (hi:i<l.length):∃ b off ai ci,a=some ⟨b,off,none⟩∧b<B∧W.cell? ⟨b,off+i*7,none⟩=some (.int .i64 l[i].1)∧Six W b (off+i*7+1) l[i].2.k l[i].2.v l[i].2.c ai l[i].2.ks.length ci∧KsAt B W ai l[i].2.ks:=by
 rcases h with h | ⟨b,off,ai,cap,e,hlt,h⟩
 ·subst h; simp at hi
 ·exact ⟨b,off,ai i,cap i,e,hlt,h i hi⟩

set_option maxHeartbeats 400000 in
theorem meas1_at (a:Option Addr) (n cap:Nat) (w:World):Calls Tryz.prog 110 #[.slice a n cap] w fun e w'=>e = .returned (.agg #[.int .i64 2,.int .i64 1,.string ⟨#[]⟩])∧Below w.heap.size w w':=by
 have hal:Below w.heap.size w (w.alloc (.cells #[.int .i64 0,.int .i64 0,.string ⟨#[]⟩] 38)):=(Below.refl _ _).alloc (Nat.le_refl _) _
 have q0:=heap_new w #[.int .i64 0,.int .i64 0,.string ⟨#[]⟩] 38
 go_enter Tryz.func110,Tryz.ntmps110
 go_wp2_with fail
 generalize w.alloc (.cells #[.int .i64 0,.int .i64 0,.string ⟨#[]⟩] 38)=w0 at *
 refine (bool_true w0).mono ?_
 rintro e w2 ⟨rfl,hb2⟩
 have q2:=(hb2.block _ (lt_of_heap q0)).trans q0
 have d0:w2.cell? ⟨w.heap.size,0,none⟩=some (.int .i64 0):=cell_of (i:=0) q2 rfl
 have d1:w2.cell? ⟨w.heap.size,1,none⟩=some (.int .i64 0):=cell_of (i:=1) q2 rfl
 have d2:w2.cell? ⟨w.heap.size,2,none⟩=some (.string ⟨#[]⟩):=cell_of (i:=2) q2 rfl
 have f0:w2.frozen? ⟨w.heap.size,0,none⟩=false:=frozen_of_row w2 w.heap.size 0 _ _ q2
 have f1:w2.frozen? ⟨w.heap.size,1,none⟩=false:=frozen_of_row w2 w.heap.size 1 _ _ q2
 have f2:w2.frozen? ⟨w.heap.size,2,none⟩=false:=frozen_of_row w2 w.heap.size 2 _ _ q2
 have hA2:=chain hal hb2
 go_wp2_with fail
 exact bodyPost_ret (v:=.agg #[.int .i64 2,.int .i64 1,.string ⟨#[]⟩]) (by simp [results,Tryz.results110,go_sem,d0,d1,d2]) rfl ⟨rfl,((hA2.setCell (p:=⟨w.heap.size,0,none⟩) (Nat.le_refl _) _).setCell (p:=⟨w.heap.size,1,none⟩) (Nat.le_refl _) _).setCell (p:=⟨w.heap.size,2,none⟩) (Nat.le_refl _) _⟩

set_option maxRecDepth 100000 in
set_option maxHeartbeats 2000000 in
theorem measuredOk_at (cols:List Int) (g:Ag) (ca:Option Addr) (ccap:Nat) (a:Option Addr) (cap:Nat) (w:World) (hk:KsAt w.heap.size w a g.2.ks) (hc:IsAt w.heap.size w ca cols) (h:measE cols g=0) :
  Calls Tryz.prog 70 #[.slice ca cols.length ccap,.agg #[.int .i64 g.1,.int .i64 g.2.k,.int .i64 g.2.v.1,.int .i64 g.2.v.2.1,.string g.2.v.2.2,.int .i64 g.2.c,.slice a g.2.ks.length cap]] w fun e w'=>∃ u,e = .returned (.tuple #[u,.int .i64 0])∧Asks cols w.heap.size u (measF g) w'∧Below w.heap.size w w':=by
 have hal:Below w.heap.size w (w.alloc (.cells #[.int .i64 g.1,.int .i64 g.2.k,.int .i64 g.2.v.1,.int .i64 g.2.v.2.1,.string g.2.v.2.2,.int .i64 g.2.c,.slice a g.2.ks.length cap] 51)):=(Below.refl _ _).alloc (Nat.le_refl _) _
 have q0:=heap_new w #[.int .i64 g.1,.int .i64 g.2.k,.int .i64 g.2.v.1,.int .i64 g.2.v.2.1,.string g.2.v.2.2,.int .i64 g.2.c,.slice a g.2.ks.length cap] 51
 by_cases h1:g.1=1
 ·have hF:measF g=fun _=>(2,1,⟨#[]⟩):=by unfold measF; rw [if_pos h1]
  have HF:Hid (measF g=fun _=>(2,1,⟨#[]⟩)):=hF
  clear hF h
  rw [h1] at hal
  generalize measF g=F at *
  go_enter Tryz.func70,Tryz.ntmps70
  go_wp2_with fail
  exact bodyPost_ret (v:=.tuple #[.func (.func 110) #[] #[],.int .i64 0]) (by simp [results,Tryz.results70,go_sem]) rfl ⟨_,rfl,by
   rw [HF.out]
   exact ⟨110,#[],rfl,enters_of Tryz.func110 (by kernel_rfl) rfl,fun row a cap W _ _ _=>by simpa [agV] using meas1_at a row.length cap W⟩,hal⟩
 ·have hF:measF g=fun row=>valX row g.2:=by unfold measF; rw [if_neg h1]
  have HF:Hid (measF g=fun row=>valX row g.2):=hF
  have h2:¬ (g.1<2∨5<g.1):=fun h2=>by unfold measE at h; rw [if_neg h1,if_pos h2] at h; cases h
  have h3:(typeTop cols g.2).2=0:=Classical.byContradiction fun h3=>by unfold measE at h; rw [if_neg h1,if_neg h2,if_pos h3] at h; exact h3 h
  have h4:g.1=3→(typeTop cols g.2).1=3∨(typeTop cols g.2).1=1:=fun e=>by
   unfold measE at h
   rw [if_neg h1,if_neg h2,if_neg (by simpa using h3)] at h
   by_cases h5:(typeTop cols g.2).1=3
   ·exact .inl h5
   ·by_cases h6:(typeTop cols g.2).1=1
    ·exact .inr h6
    ·rw [if_pos ⟨e,h5,h6⟩] at h; cases h
  have con:=readyOk_at cols g.2 ca ccap a cap _ ((KsAt.next hal (Nat.le_refl _) hk).up hal.size) ((hc.next hal (Nat.le_refl _)).up hal.size) h3
  have hk4:g.1=2∨g.1=3∨g.1=4∨g.1=5:=by omega
  clear hF h h3 h2 h1
  generalize measF g=F at *
  generalize (typeTop cols g.2).1=t at *
  unfold exV at con
  go_enter Tryz.func70,Tryz.ntmps70
  generalize hk1:g.1=kd at *
  clear hk1
  have main:(kd=2∨kd=4∨kd=5)∨(kd=3∧(t=3∨t=1)):=by
   rcases hk4 with e | e | e | e
   ·exact .inl (.inl e)
   ·exact .inr ⟨e,h4 e⟩
   ·exact .inl (.inr (.inl e))
   ·exact .inl (.inr (.inr e))
  clear hk4 h4
  rcases main with (rfl | rfl | rfl) | ⟨rfl,rfl | rfl⟩
  all_goals (
   go_wp2_with fail
   generalize w.alloc (.cells #[_,.int .i64 g.2.k,.int .i64 g.2.v.1,.int .i64 g.2.v.2.1,.string g.2.v.2.2,.int .i64 g.2.c,.slice a g.2.ks.length cap] 51)=w1 at *
   refine con.mono ?_
   rintro e w2 ⟨u,rfl,hA2,hb2⟩
   have hA:=chain hal hb2
   have q2:=(hb2.block _ (lt_of_heap q0)).trans q0
   have c0:=cell_of (i:=0) q2 rfl
   clear con
   have hA2:=hA2.down hal.size
   obtain ⟨g',cb,rfl⟩:∃ g' cb,u = .func (.func g') #[] cb:=by obtain ⟨g',cb,e,_⟩:=hA2; exact ⟨g',cb,e⟩
   dsimp only
   go_wp2_with fail
   exact bodyPost_ret (v:=.tuple #[.func (.func g') #[] cb,.int .i64 0]) (by simp [results,Tryz.results70,go_sem]) rfl ⟨_,rfl,by rw [HF.out]; exact hA2,hA⟩)
end Go.Proofs.YtcnmpiahcnkndaaGreat
