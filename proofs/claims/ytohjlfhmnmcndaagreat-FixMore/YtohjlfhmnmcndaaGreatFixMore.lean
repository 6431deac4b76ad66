/- The walk of tidelaw10.FixMore. -/
import Derived.Test.YtohjlfhmnmcndaaGreatB15
import Derived.Test.YtohjlfhmnmcndaaGreatC0
import Derived.Test.YtohjlfhmnmcndaaGreatC1
namespace Go.Proofs.YtohjlfhmnmcndaaGreat
open Go.RowKit Go.Lib Go.Shelf

set_option maxRecDepth 100000 in
set_option maxHeartbeats 16000000 in
theorem fixMore_walk (ta:Option Addr) (tc:Nat) (ts:List (List Int)) (p:Pl) (q:Pw) (p':Pl) (q':Pw) (da:Option Addr) (dc:Nat) (data:List (List Zp)) (ma:Option Addr) (mc:Nat) (more:List (List Zp)) (w:World) (hT:TbAt w.heap.size w ta ts) (hp:PlB w.heap.size w p q) (hk:PlOk p∧PlKs p) (hp':PlB w.heap.size w p' q') (hk':PlOk p'∧PlKs p') (hD:DtAt w da data) (hn:data.length*24≤140737488351232) (hM:DtAt w ma more) (hnM:more.length*24≤140737488351232) :
  Calls Tryz.prog 6 #[.slice ta ts.length tc,plV p q,plV p' q',.slice da data.length dc,.slice ma more.length mc] w fun e w'=>e = .returned (.bool true)∧Below w.heap.size w w':=by
 obtain ⟨i0,hi,hj0,hj1,hj2⟩:=info_parts infoSD
 have hA:=twW_below w p q p' q'
 have EL:=twW_1 w p q p' q'
 have ER:=twW_2 w p q p' q'
 have HK:Hid (PlOk p∧PlKs p):=hk
 have HK':Hid (PlOk p'∧PlKs p'):=hk'
 have TX:=TbX.next (w:=w) hT hA
 have PX:=PlX.next (w:=w) hp hA
 have PX':=PlX.next (w:=w) hp' hA
 have DX:=hD.next hA
 have MX:=hM.next hA
 clear hk hk' hT hp hp' hD hM
 unfold plV
 go_enter Tryz.func6,Tryz.ntmps6
 go_upto_region 1 with fail
 generalize (w.alloc (plBx p q)).alloc (plBx p' q')=wA at *
 have con:=alive10_at wA
 go_wp2_with fail
 refine con.mono ?_
 rintro e w1 ⟨rfl,hb⟩
 clear con
 replace hA:=chain hA hb
 replace TX:=TX.next hb
 replace PX:=PX.next hb
 replace PX':=PX'.next hb
 replace DX:=DX.next hb
 replace MX:=MX.next hb
 replace EL:=EL.next hb
 replace ER:=ER.next hb
 clear hb
 have con:=rising_all p q w1 HK.out.2 PX
 generalize hrb:risB p=rb at con
 have HRB:Hid (risB p=rb):=hrb
 clear hrb
 obtain ⟨x0,x1,⟨x2,x3,x4,x5,x6,x7⟩,x8,x9,x10⟩:=EL.el
 simp only [Nat.zero_add] at x1 x2 x3 x4 x5 x6 x7 x8 x9 x10
 unfold plV at con
 go_wp2_with fail
 refine con.mono ?_
 rintro e w2 ⟨rfl,hb⟩
 clear con x0 x1 x2 x3 x4 x5 x6 x7 x8 x9 x10
 replace hA:=chain hA hb
 replace TX:=TX.next hb
 replace PX:=PX.next hb
 replace PX':=PX'.next hb
 replace DX:=DX.next hb
 replace MX:=MX.next hb
 replace EL:=EL.next hb
 replace ER:=ER.next hb
 clear hb
 cases rb with
 | false =>
  go_wp2_with fail
  go_ret
  exact ⟨rfl,hA⟩
 | true =>
 have con:=rising_all p' q' w2 HK'.out.2 PX'
 generalize hrb:risB p'=rb at con
 have HRB':Hid (risB p'=rb):=hrb
 clear hrb
 obtain ⟨x0,x1,⟨x2,x3,x4,x5,x6,x7⟩,x8,x9,x10⟩:=ER.el
 simp only [Nat.zero_add] at x1 x2 x3 x4 x5 x6 x7 x8 x9 x10
 unfold plV at con
 go_wp2_with fail
 refine con.mono ?_
 rintro e w3 ⟨rfl,hb⟩
 clear con x0 x1 x2 x3 x4 x5 x6 x7 x8 x9 x10
 replace hA:=chain hA hb
 replace TX:=TX.next hb
 replace PX:=PX.next hb
 replace PX':=PX'.next hb
 replace DX:=DX.next hb
 replace MX:=MX.next hb
 replace EL:=EL.next hb
 replace ER:=ER.next hb
 clear hb
 cases rb with
 | false =>
  go_wp2_with fail
  go_ret
  exact ⟨rfl,hA⟩
 | true =>
 by_cases hll:data.length=more.length
 rotate_left
 ·have hne:((data.length:Int) != (more.length:Int))=true:=by simp; omega
  clear hll
  go_wp2_with fail
  go_ret
  exact ⟨rfl,hA⟩
 have hne:((data.length:Int) != (more.length:Int))=false:=by simp; omega
 have HLL:Hid (data.length=more.length):=hll
 have hl1:data.length≤more.length:=by omega
 clear hll
 have con:=thereX_at data da dc w3 DX (by omega)
 generalize htb:theB data=tb at con
 have HTB:Hid (theB data=tb):=htb
 clear htb
 go_wp2_with fail
 refine con.mono ?_
 rintro e w4 ⟨rfl,hb⟩
 clear con
 replace hA:=chain hA hb
 replace TX:=TX.next hb
 replace PX:=PX.next hb
 replace PX':=PX'.next hb
 replace DX:=DX.next hb
 replace MX:=MX.next hb
 replace EL:=EL.next hb
 replace ER:=ER.next hb
 clear hb
 cases tb with
 | false =>
  go_wp2_with fail
  go_ret
  exact ⟨rfl,hA⟩
 | true =>
 have con:=thereX_at more ma mc w4 MX (by omega)
 generalize htb:theB more=tb at con
 have HTM:Hid (theB more=tb):=htb
 clear htb
 go_wp2_with fail
 refine con.mono ?_
 rintro e w5 ⟨rfl,hb⟩
 clear con
 replace hA:=chain hA hb
 replace TX:=TX.next hb
 replace PX:=PX.next hb
 replace PX':=PX'.next hb
 replace DX:=DX.next hb
 replace MX:=MX.next hb
 replace EL:=EL.next hb
 replace ER:=ER.next hb
 clear hb hne
 cases tb with
 | false =>
  go_wp2_with fail
  go_ret
  exact ⟨rfl,hA⟩
 | true =>
 go_wp2_with fail
 have HAw:Hid (Below w.heap.size w w5):=hA
 go_loopw [11,50] (fun v i wr=>∃ k:Nat,k≤data.length∧i = .int .i64 k∧Hid (∀ j,j<k→bothE 1 (data.getD j []) (more.getD j [])=0)∧OwnL w5.heap.size wr v (allL data more k)∧Below w5.heap.size w5 wr) (fun _ i _=>data.length - (intOf i).toNat)
 case atStart=>exact ⟨0,Nat.zero_le _,rfl,fun j hj=>by omega,OwnL.nil _ _,Below.refl _ _⟩
 case round =>
  obtain ⟨k,hk,rfl,HE,HO,hb⟩:=hrel
  by_cases hlt:k<data.length
  rotate_left
  ·have e:k=data.length:=by omega
   have hkn:¬ (k:Int)<(data.length:Int):=by omega
   have HE':Hid (∀ j,j<data.length→bothE 1 (data.getD j []) (more.getD j [])=0):=fun j hj=>HE.out j (by omega)
   obtain ⟨av,cv,rfl,DV,_⟩:=HO.dt
   have HLA:Hid ((allL data more k).length=data.length):=by show _=_; rw [all_len,e]
   have HAE:Hid (allL data more k=allL data more data.length):=by show _=_; rw [e]
   clear e HE HO
   obtain ⟨now,hnow⟩:∃ now,allL data more k=now:=⟨_,rfl⟩
   rw [hnow] at DV HLA HAE ⊢
   clear hnow
   replace hA:=chain hA hb
   replace TX:=TX.next hb
   replace PX:=PX.next hb
   replace PX':=PX'.next hb
   replace DX:=DX.next hb
   replace MX:=MX.next hb
   replace EL:=EL.next hb
   replace ER:=ER.next hb
   clear hb
   have con:=fix_at ts p q p' q' data ta tc da dc wr TX PX HK.out.1 PX' HK'.out.1 DX
   have HM:Hid ((fixR ts p p' data).2.2=0→(fixR ts p p' now).2.2=0→witB (fixR ts p p' data).1 (fixR ts p p' now).1=true):=fun h h'=>fix_more (now:=now) (by rw [HAE.out]; exact all_more HTB.out HTM.out HE'.out) HLA.out HRB.out HRB'.out h h'
   have HO1:Hid ((fixR ts p p' data).2.2=0→One (fixR ts p p' data).1):=fun h=>(fix_ok (P:=fun _=>True) h (fun _=>trivial) fun _ _ _ _ _=>trivial).one
   have HO2:Hid ((fixR ts p p' now).2.2=0→One (fixR ts p p' now).1):=fun h=>(fix_ok (P:=fun _=>True) h (fun _=>trivial) fun _ _ _ _ _=>trivial).one
   generalize fixR ts p p' data=R1 at *
   obtain ⟨z1,n1,e1⟩:=R1
   obtain ⟨y0,y1,⟨y2,y3,y4,y5,y6,y7⟩,y8,y9,y10⟩:=EL.el
   simp only [Nat.zero_add] at y1 y2 y3 y4 y5 y6 y7 y8 y9 y10
   obtain ⟨x0,x1,⟨x2,x3,x4,x5,x6,x7⟩,x8,x9,x10⟩:=ER.el
   simp only [Nat.zero_add] at x1 x2 x3 x4 x5 x6 x7 x8 x9 x10
   unfold plV at con
   dsimp only at con HM HO1
   go_wp2_with fail
   refine con.mono ?_
   rintro e w6 ⟨v6,rfl,O6,hb⟩
   clear con y0 y1 y2 y3 y4 y5 y6 y7 y8 y9 y10 x0 x1 x2 x3 x4 x5 x6 x7 x8 x9 x10
   obtain ⟨a6,c6,rfl,Z6,_⟩:=O6.zs2
   replace hA:=chain hA hb
   replace TX:=TX.next hb
   replace PX:=PX.next hb
   replace PX':=PX'.next hb
   replace DX:=DX.next hb
   replace MX:=MX.next hb
   replace EL:=EL.next hb
   replace ER:=ER.next hb
   replace DV:=DV.next hb
   clear hb O6
   have con:=fix_at ts p q p' q' now ta tc av cv w6 TX PX HK.out.1 PX' HK'.out.1 DV
   generalize fixR ts p p' now=R2 at *
   obtain ⟨z2,n2,e2⟩:=R2
   obtain ⟨y0,y1,⟨y2,y3,y4,y5,y6,y7⟩,y8,y9,y10⟩:=EL.el
   simp only [Nat.zero_add] at y1 y2 y3 y4 y5 y6 y7 y8 y9 y10
   obtain ⟨x0,x1,⟨x2,x3,x4,x5,x6,x7⟩,x8,x9,x10⟩:=ER.el
   simp only [Nat.zero_add] at x1 x2 x3 x4 x5 x6 x7 x8 x9 x10
   unfold plV at con
   dsimp only at con HM HO2
   go_wp2_with fail
   refine con.mono ?_
   rintro e w7 ⟨v7,rfl,O7,hb⟩
   clear con y0 y1 y2 y3 y4 y5 y6 y7 y8 y9 y10 x0 x1 x2 x3 x4 x5 x6 x7 x8 x9 x10
   obtain ⟨a7,c7,rfl,Z7,_⟩:=O7.zs2
   replace hA:=chain hA hb
   replace Z6:=Z6.next hb
   clear hb O7
   by_cases h1:e1=0
   rotate_left
   ·have hb1:(e1 != 0)=true:=by simpa using h1
    go_wp2_with fail
    go_ret
    exact ⟨rfl,hA⟩
   by_cases h2:e2=0
   rotate_left
   ·have hb1:(e2 != 0)=true:=by simpa using h2
    subst h1
    go_wp2_with fail
    go_ret
    exact ⟨rfl,hA⟩
   have hx:=HM.out h1 h2
   have o1:=HO1.out h1
   have o2:=HO2.out h2
   have con:=within_at z1 z2 a6 c6 a7 c7 w7 Z6 Z7 o2.set.rise o2.len o1.len
   rw [hx] at con
   subst h1 h2
   clear hx o1 o2 HM HO1 HO2 Z6 Z7
   go_wp2_with fail
   refine con.mono ?_
   rintro e w8 ⟨rfl,hb⟩
   clear con
   go_wp2_with fail
   go_ret
   exact ⟨rfl,chain hA hb⟩
  have hlm:k<more.length:=by omega
  obtain ⟨bd,od,ad,cd,rfl,hbd,cd0,zd,nd⟩:=(DX.next hb).elem hlt
  obtain ⟨bm,om,am,cm,rfl,hbm,cm0,zm,nm⟩:=(MX.next hb).elem hlm
  have hkz:(k:Int)<(data.length:Int):=by omega
  have hkm:(k:Int)<(more.length:Int):=by omega
  have hk0:(0:Int)≤(k:Int):=by omega
  have HB0:Hid (bothE 1 (data.getD k []) (more.getD k [])=bothE 1 data[k] more[k]):=by show _=_; simp [hlt,hlm]
  have HZ0:Hid (bothZ 1 (data.getD k []) (more.getD k [])=bothZ 1 data[k] more[k]):=by show _=_; simp [hlt,hlm]
  have HS:Hid (allL data more (k+1)=allL data more k ++ [bothZ 1 (data.getD k []) (more.getD k [])]):=all_succ data more k
  rw [HZ0.out] at HS
  clear HZ0
  generalize data[k]=xd at *
  generalize more[k]=xm at *
  go_wp2_with fail
  rename_i KK hKK
  have hCC:∀ W W':World,(W.cell? ⟨bd,od+k,none⟩=some (.slice ad xd.length cd)∧W.cell? ⟨bm,om+k,none⟩=some (.slice am xm.length cm))→Below W.heap.size W W'→(W'.cell? ⟨bd,od+k,none⟩=some (.slice ad xd.length cd)∧W'.cell? ⟨bm,om+k,none⟩=some (.slice am xm.length cm)):=fun W W' h hb=>⟨(hb.cell (p:=⟨bd,od+k,none⟩) (World.block_lt_of_cell? _ _ h.1)).trans h.1,(hb.cell (p:=⟨bm,om+k,none⟩) (World.block_lt_of_cell? _ _ h.2)).trans h.2⟩
  have hdr:Below wr.heap.size wr wr.drew:=(Below.refl _ _).drew
  have CW:=hCC _ _ ⟨cd0,cm0⟩ hdr
  refine wp_region_cls (fun W=>W.cell? ⟨bd,od+k,none⟩=some (.slice ad xd.length cd)∧W.cell? ⟨bm,om+k,none⟩=some (.slice am xm.length cm)) (by kernel_rfl) ?_
  refine wpY_take hCC (some 54) (i:=0) (v:=.slice (some ⟨bd,od,none⟩) data.length dc) rfl rfl (by kernel_rfl) (by kernel_rfl) (by kernel_rfl) (fun _ _ _ h=>h) (Or.inl ⟨rfl,fun n hn=>?_⟩) CW ?_
  ·clear hn CW hCC
   go_simp
  simp only [Act.put,pA,pB,pC]
  refine wpY_take hCC (some 55) (i:=1) (v:=.int .i64 k) rfl rfl (by kernel_rfl) (by kernel_rfl) (by kernel_rfl) (fun _ _ _ h=>h) (Or.inl ⟨rfl,fun n hn=>?_⟩) CW ?_
  ·clear hn CW hCC
   go_simp
  simp only [Act.put,pA,pB,pC]
  refine wpY_take hCC (some 56) (i:=2) (v:=.pointer (some ⟨bd,od+k,none⟩)) rfl rfl (by kernel_rfl) (by kernel_rfl) (by kernel_rfl) (fun _ _ _ h=>h) (Or.inl ⟨rfl,fun n hn=>?_⟩) CW ?_
  ·clear hn CW hCC
   go_simp
  simp only [Act.put,pA,pB,pC]
  refine wpY_take hCC (some 57) (i:=3) (v:=.slice ad xd.length cd) rfl rfl (by kernel_rfl) (by kernel_rfl) (by kernel_rfl) (fun _ _ _ h=>h) (Or.inl ⟨rfl,fun n hn=>?_⟩) CW ?_
  ·have hc:=hn.1
   clear hn CW hCC
   go_simp
  simp only [Act.put,pA,pB,pC]
  refine wpY_take hCC (some 58) (i:=4) (v:=.slice (some ⟨bm,om,none⟩) more.length mc) rfl rfl (by kernel_rfl) (by kernel_rfl) (by kernel_rfl) (fun _ _ _ h=>h) (Or.inl ⟨rfl,fun n hn=>?_⟩) CW ?_
  ·clear hn CW hCC
   go_simp
  simp only [Act.put,pA,pB,pC]
  refine wpY_take hCC (some 59) (i:=5) (v:=.int .i64 k) rfl rfl (by kernel_rfl) (by kernel_rfl) (by kernel_rfl) (fun _ _ _ h=>h) (Or.inl ⟨rfl,fun n hn=>?_⟩) CW ?_
  ·clear hn CW hCC
   go_simp
  simp only [Act.put,pA,pB,pC]
  refine wpY_take hCC (some 60) (i:=6) (v:=.pointer (some ⟨bm,om+k,none⟩)) rfl rfl (by kernel_rfl) (by kernel_rfl) (by kernel_rfl) (fun _ _ _ h=>h) (Or.inl ⟨rfl,fun n hn=>?_⟩) CW ?_
  ·clear hn CW hCC
   go_simp
  simp only [Act.put,pA,pB,pC]
  refine wpY_take hCC (some 61) (i:=7) (v:=.slice am xm.length cm) rfl rfl (by kernel_rfl) (by kernel_rfl) (by kernel_rfl) (fun _ _ _ h=>h) (Or.inl ⟨rfl,fun n hn=>?_⟩) CW ?_
  ·have hc:=hn.2
   clear hn CW hCC
   go_simp
  simp only [Act.put,pA,pB,pC]
  refine wpY_step (rs:=[8]) (by kernel_rfl) (by simp) ?_
  intro w6 hb6 jj hj
  obtain rfl:jj=8:=by simpa using hj
  clear hj
  have D6:=chain hdr hb6
  have CW6:=hCC _ _ CW hb6
  have con:=add_at ad am cd cm xd xm w6 (zd.next D6) (zm.next D6) nd
  generalize bothE 1 xd xm=be at *
  generalize bothZ 1 xd xm=bz at *
  refine wpOp_step rfl (fun K hK=>?_)
  go_simp
  refine con.mono ?_
  rintro e w7 ⟨v7,rfl,O7,hb7⟩
  clear con
  have CW7:=hCC _ _ CW6 hb7
  have D7:=chain D6 hb7
  obtain ⟨a7,c7,rfl,_,n7⟩:=O7.zs2
  refine hK _ _ ⟨CW7,?_⟩
  clear hK K CW CW6
  refine wpY_take hCC (some 53) (i:=9) (v:=.tuple #[.slice a7 bz.length c7,.int .i64 be]) rfl rfl (by kernel_rfl) (by kernel_rfl) (by kernel_rfl) (fun _ _ _ h=>h) (Or.inl ⟨rfl,fun n hn=>?_⟩) CW7 ?_
  ·clear hn CW7
   go_simp
  simp only [Act.put,pA,pB,pC]
  refine wpY_take hCC (some 63) (i:=10) (v:=.slice a7 bz.length c7) rfl rfl (by kernel_rfl) (by kernel_rfl) (by kernel_rfl) (fun _ _ _ h=>h) (Or.inl ⟨rfl,fun n hn=>?_⟩) CW7 ?_
  ·clear hn CW7
   go_simp
  simp only [Act.put,pA,pB,pC]
  refine wpY_take hCC (some 64) (i:=11) (v:=.int .i64 be) rfl rfl (by kernel_rfl) (by kernel_rfl) (by kernel_rfl) (fun _ _ _ h=>h) (Or.inl ⟨rfl,fun n hn=>?_⟩) CW7 ?_
  ·clear hn CW7
   go_simp
  simp only [Act.put,pA,pB,pC]
  refine wpY_take hCC (some 13) (i:=12) (v:=.slice a7 bz.length c7) rfl rfl (by kernel_rfl) (by kernel_rfl) (by kernel_rfl) (fun _ _ _ h=>h) (Or.inl ⟨rfl,fun n hn=>?_⟩) CW7 ?_
  ·clear hn CW7
   go_simp
  simp only [Act.put,pA,pB,pC]
  refine wpY_take hCC (some 14) (i:=13) (v:=.int .i64 be) rfl rfl (by kernel_rfl) (by kernel_rfl) (by kernel_rfl) (fun _ _ _ h=>h) (Or.inl ⟨rfl,fun n hn=>?_⟩) CW7 ?_
  ·clear hn CW7
   go_simp
  simp only [Act.put,pA,pB,pC]
  refine wpY_done (by kernel_rfl) ?_
  intro w8 hb8
  have D8:=chain D7 hb8
  have O8:=(O7.next hb8).mono (Nat.zero_le _)
  have HO8:=HO.next D8
  have hb0:=chain hb D8
  clear CW7 hCC O7 HO cd0 cm0 zd zm hdr D6 D7 D8 hb6 hb7 hb8 hb
  refine hKK _ _ ?_
  clear hKK KK
  by_cases h0:be=0
  rotate_left
  ·have hbn:(be != 0)=true:=by simpa using h0
   go_wp2_with fail
   go_ret
   exact ⟨rfl,chain hA hb0⟩
  have HE':Hid (∀ j,j<k+1→bothE 1 (data.getD j []) (more.getD j [])=0):=fun j hj=>by
   by_cases e:j=k
   ·rw [e,HB0.out]; exact h0
   ·exact HE.out j (by omega)
  subst h0
  clear HE HB0
  have hal:Below w8.heap.size w8 (w8.alloc (.cells #[.slice a7 bz.length c7] 34)):=(Below.refl _ _).alloc (Nat.le_refl _) _
  have q6:=cell_of (i:=0) (heap_new w8 #[.slice a7 bz.length c7] 34) rfl
  have hnews:∀ jj u,[Value.slice a7 bz.length c7][jj]? = some u→(w8.alloc (.cells #[.slice a7 bz.length c7] 34)).cell? ((⟨w8.heap.size,0,none⟩:Addr).add jj)=some u:=fun jj u hu=>by
   rw [addr_zero]
   cases jj with
   | zero=>exact q6.trans hu
   | succ n=>simp at hu
  have O9:=O8.next hal
  obtain ⟨cs,o3,p3⟩:=HO8.next hal
  have HP:Hid (∀ (i:Nat) (h:i<(allL data more k).length),∃ u,cs[i]? = some u∧OwnZ 0 _ u (allL data more k)[i]):=p3
  have HL:Hid ((allL data more k).length=k):=all_len data more k
  rw [HL.out] at o3
  have hb1:=chain hb0 hal
  have hz:=hb1.size
  have hz8:=hal.size
  clear p3 HO8 O8 hal q6 hb0
  go_wp2_with (at_builtin; refine wpList_append_own _ rfl _ _ 32 rfl w5.heap.size 34 i0 _ 1 24 Tryz.underlying32 hi hj0 hj1 hj2 rfl (by decide) _ k cs rfl o3 ⟨w8.heap.size,0,none⟩ 1 1 [.slice a7 bz.length c7] rfl rfl hnews (fun u hu=>by simp only [List.mem_singleton] at hu; subst hu; rfl) (by unfold maxLen; omega) (by omega) (by omega) ?_)
  intro v' wB ho4 hg4 _
  have o3':=o3
  rw [← HL.out] at o3'
  have R4:=OwnL.push o3' HP.out O9 (by rw [HL.out]; exact ho4) hg4
  rw [← HS.out] at R4
  have B4:Below w5.heap.size w5 wB:=hb1.grown hg4 hz (fun q hq=>(o3.lt q hq).1)
  clear ho4 hg4 o3 o3' HP O9 hnews hb1
  go_wp2_with fail
  go_roundw
  case rel=>exact ⟨k+1,by omega,by go_num,HE',R4,B4⟩
  case measure=>simp [intOf]; omega
end Go.Proofs.YtohjlfhmnmcndaaGreat
