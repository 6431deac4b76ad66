/- The walk of tidelaw10.FixLeast. -/
import Derived.Test.YtohjlfhmnmcndaaGreatB15
import Derived.Test.YtohjlfhmnmcndaaGreatEZb
import Derived.Test.YtohjlfhmnmcndaaGreatEI
namespace Go.Proofs.YtohjlfhmnmcndaaGreat
open Go.RowKit Go.Lib Go.Shelf

set_option maxRecDepth 100000 in
set_option maxHeartbeats 16000000 in
theorem fixLeast_walk (ta:Option Addr) (tc:Nat) (ts:List (List Int)) (p:Pl) (q:Pw) (p':Pl) (q':Pw) (da:Option Addr) (dc:Nat) (data:List (List Zp)) (oa:Option Addr) (oc:Nat) (other:List Zp) (w:World) (hT:TbAt w.heap.size w ta ts) (hp:PlB w.heap.size w p q) (hk:PlOk p) (hp':PlB w.heap.size w p' q') (hk':PlOk p') (hD:DtAt w da data) (_hn:data.length≤10000000000000) (hO:ZsAt w oa other) (_nO:oa=none→oc=0) :
  Calls Tryz.prog 5 #[.slice ta ts.length tc,plV p q,plV p' q',.slice da data.length dc,.slice oa other.length oc] w fun e w'=>e = .returned (.bool true)∧Below w.heap.size w w':=by
 have hA:=twW_below w p q p' q'
 have EL:=twW_1 w p q p' q'
 have ER:=twW_2 w p q p' q'
 have HK:Hid (PlOk p):=hk
 have HK':Hid (PlOk p'):=hk'
 have TX:=TbX.next (w:=w) hT hA
 have PX:=PlX.next (w:=w) hp hA
 have PX':=PlX.next (w:=w) hp' hA
 have DX:=hD.next hA
 have OX:=hO.next hA
 clear hk hk' hT hp hp' hD _hn hO _nO
 unfold plV
 go_enter Tryz.func5,Tryz.ntmps5
 go_upto_region 1 with fail
 generalize (w.alloc (plBx p q)).alloc (plBx p' q')=wA at *
 have con:=alive10_at wA
 go_wp2_with fail
 refine con.mono ?_
 rintro e w1 ⟨rfl,hb⟩
 clear con
 replace hA:=chain hA hb
 replace TX:=TX.next hb
 replace PX:=PX.next hb
 replace PX':=PX'.next hb
 replace DX:=DX.next hb
 replace OX:=OX.next hb
 replace EL:=EL.next hb
 replace ER:=ER.next hb
 clear hb
 have con:=fix_at ts p q p' q' data ta tc da dc w1 TX PX HK.out PX' HK'.out DX
 have HO:Hid ((fixR ts p p' data).2.2=0→FixOk ts p p' data (fun _=>True)):=fun h=>fix_ok h (fun _=>trivial) fun _ _ _ _ _=>trivial
 have HLe:Hid ((fixR ts p p' data).2.2=0→∀ d,risB p'=true→theB data=true→One d→evE (widL ts p) (data ++ [d]) p'=0→witB (dstZ ts data p) d=true→witB (dstZ (widL ts p) (data ++ [d]) p') d=true→witB (fixR ts p p' data).1 d=true):=fun h _ a b c d e f=>fix_least h a b c d e f
 obtain ⟨z,hz⟩:∃ z,(fixR ts p p' data).1=z:=⟨_,rfl⟩
 obtain ⟨n,hn⟩:∃ n,(fixR ts p p' data).2.1=n:=⟨_,rfl⟩
 obtain ⟨er,her⟩:∃ er,(fixR ts p p' data).2.2=er:=⟨_,rfl⟩
 rw [hz,hn,her] at con
 rw [hz,her] at HLe
 rw [her] at HO
 have HZ:Hid ((fixR ts p p' data).1=z):=hz
 clear hz hn her
 obtain ⟨y0,y1,⟨y2,y3,y4,y5,y6,y7⟩,y8,y9,y10⟩:=EL.el
 simp only [Nat.zero_add] at y1 y2 y3 y4 y5 y6 y7 y8 y9 y10
 obtain ⟨x0,x1,⟨x2,x3,x4,x5,x6,x7⟩,x8,x9,x10⟩:=ER.el
 simp only [Nat.zero_add] at x1 x2 x3 x4 x5 x6 x7 x8 x9 x10
 unfold plV at con
 go_wp2_with fail
 refine con.mono ?_
 rintro e w2 ⟨v2,rfl,O2,hb⟩
 clear con y0 y1 y2 y3 y4 y5 y6 y7 y8 y9 y10 x0 x1 x2 x3 x4 x5 x6 x7 x8 x9 x10
 obtain ⟨a2,c2,rfl,Z2,n2⟩:=O2.zs2
 replace hA:=chain hA hb
 replace TX:=TX.next hb
 replace PX:=PX.next hb
 replace PX':=PX'.next hb
 replace DX:=DX.next hb
 replace OX:=OX.next hb
 replace EL:=EL.next hb
 replace ER:=ER.next hb
 clear hb O2
 by_cases h0:er=0
 rotate_left
 ·have hb0:(er != 0)=true:=by simpa using h0
  clear HO HLe HZ Z2
  go_wp2_with fail
  go_ret
  exact ⟨rfl,hA⟩
 have OK:=HO.out h0
 have HL0:Hid (lookE ts p=0):=(wid_ok OK.wid).1
 have HLs:Hid (PlKs p'):=look_ks p' 0 1 (lookE_ok (wid_ok OK.wid).2.1).2
 have l1:ts.length≤8:=tabsL (lookE_ok HL0.out).1
 have l2:data.length≤8:=wid_len OK.wid
 have HSE:Hid (evE ts data p=0):=OK.seed
 have hone:=OK.one
 rw [HZ.out] at hone
 have HR2:Hid (wrongZ (evZ ts data p)=0):=(ev_ok OK.seed).right
 have zl:=hone.len
 have HL1:=HLe.out h0
 have HLf:Hid (∀ d,risB p'=true→theB data=true→One d→evE (widL ts p) (data ++ [d]) p'=0→witB (dstZ ts data p) d=true→witB (dstZ (widL ts p) (data ++ [d]) p') d=true→witB z d=true):=HL1
 subst h0
 clear HO HZ OK hone HLe HL1
 have con:=rising_all p' q' w2 HLs.out PX'
 generalize hrb:risB p'=rb at con
 have HRB:Hid (risB p'=rb):=hrb
 clear hrb
 obtain ⟨x0,x1,⟨x2,x3,x4,x5,x6,x7⟩,x8,x9,x10⟩:=ER.el
 simp only [Nat.zero_add] at x1 x2 x3 x4 x5 x6 x7 x8 x9 x10
 unfold plV at con
 go_wp2_with fail
 refine con.mono ?_
 rintro e w3 ⟨rfl,hb⟩
 clear con x0 x1 x2 x3 x4 x5 x6 x7 x8 x9 x10
 replace hA:=chain hA hb
 replace TX:=TX.next hb
 replace PX:=PX.next hb
 replace PX':=PX'.next hb
 replace DX:=DX.next hb
 replace OX:=OX.next hb
 replace EL:=EL.next hb
 replace ER:=ER.next hb
 replace Z2:=Z2.next hb
 clear hb
 cases rb with
 | false =>
  go_wp2_with fail
  go_ret
  exact ⟨rfl,hA⟩
 | true =>
 have con:=there_at data da dc w3 DX (by omega)
 generalize htb:theB data=tb at con
 have HTB:Hid (theB data=tb):=htb
 clear htb
 go_wp2_with fail
 refine con.mono ?_
 rintro e w4 ⟨rfl,hb⟩
 clear con
 replace hA:=chain hA hb
 replace TX:=TX.next hb
 replace PX:=PX.next hb
 replace PX':=PX'.next hb
 replace DX:=DX.next hb
 replace OX:=OX.next hb
 replace EL:=EL.next hb
 replace ER:=ER.next hb
 replace Z2:=Z2.next hb
 clear hb
 cases tb with
 | false =>
  go_wp2_with fail
  go_ret
  exact ⟨rfl,hA⟩
 | true =>
 obtain ⟨cs,hcs⟩:∃ cs,colsT ts p=cs:=⟨_,rfl⟩
 have HCS:Hid (colsT ts p=cs):=hcs
 clear hcs
 have con:=colsQ_at ts p q ta tc w4 TX PX HK.out
 rw [HL0.out,HCS.out] at con
 obtain ⟨y0,y1,⟨y2,y3,y4,y5,y6,y7⟩,y8,y9,y10⟩:=EL.el
 simp only [Nat.zero_add] at y1 y2 y3 y4 y5 y6 y7 y8 y9 y10
 unfold plV at con
 go_wp2_with fail
 refine con.mono ?_
 rintro e w5 ⟨a5,c5,rfl,I5,hb⟩
 clear con y0 y1 y2 y3 y4 y5 y6 y7 y8 y9 y10
 replace hA:=chain hA hb
 replace TX:=TX.next hb
 replace PX:=PX.next hb
 replace PX':=PX'.next hb
 replace DX:=DX.next hb
 replace OX:=OX.next hb
 replace EL:=EL.next hb
 replace ER:=ER.next hb
 replace Z2:=Z2.next hb
 clear hb
 obtain ⟨fz,hfz⟩:∃ fz,evZ ts data p=fz:=⟨_,rfl⟩
 have HFZ:Hid (evZ ts data p=fz):=hfz
 rw [hfz] at HR2
 clear hfz
 have con:=evalT_at ts data p q ta tc da dc w5 TX DX PX HK.out
 rw [HSE.out,HFZ.out] at con
 obtain ⟨y0,y1,⟨y2,y3,y4,y5,y6,y7⟩,y8,y9,y10⟩:=EL.el
 simp only [Nat.zero_add] at y1 y2 y3 y4 y5 y6 y7 y8 y9 y10
 unfold plV at con
 go_wp2_with fail
 refine con.mono ?_
 rintro e w6 ⟨v6,rfl,O6,hb⟩
 clear con y0 y1 y2 y3 y4 y5 y6 y7 y8 y9 y10
 obtain ⟨x6,c6,rfl,Z6,n6⟩:=O6.zs2
 replace hA:=chain hA hb
 replace TX:=TX.next hb
 replace PX:=PX.next hb
 replace PX':=PX'.next hb
 replace DX:=DX.next hb
 replace OX:=OX.next hb
 replace EL:=EL.next hb
 replace ER:=ER.next hb
 replace Z2:=Z2.next hb
 replace I5:=IX.next I5 hb
 clear hb O6
 have con:=distinct_at oa oc other w6 OX
 have HON:Hid (wrongZ other=0→One (setZ oneF other)):=one_set
 obtain ⟨d,hd⟩:∃ d,setZ oneF other=d:=⟨_,rfl⟩
 rw [hd] at con HON
 generalize wrongZ other=wo at con HON
 clear hd
 go_wp2_with fail
 refine con.mono ?_
 rintro e w7 ⟨v7,rfl,O7,hb⟩
 clear con
 obtain ⟨x7,c7,rfl,Z7,n7⟩:=O7.zs2
 replace hA:=chain hA hb
 replace TX:=TX.next hb
 replace PX:=PX.next hb
 replace PX':=PX'.next hb
 replace DX:=DX.next hb
 replace OX:=OX.next hb
 replace EL:=EL.next hb
 replace ER:=ER.next hb
 replace Z2:=Z2.next hb
 replace Z6:=Z6.next hb
 replace I5:=IX.next I5 hb
 clear hb O7
 by_cases h0:wo=0
 rotate_left
 ·have hb0:(wo != 0)=true:=by simpa using h0
  go_wp2_with fail
  go_ret
  exact ⟨rfl,hA⟩
 have hone:=HON.out h0
 have HONE:Hid (One d):=hone
 have HRd:Hid (Rise d):=hone.set.rise
 have dl:=hone.len
 subst h0
 clear hone HON
 go_wp2_with fail
 rename_i K hK
 refine region11 (cols:=cs) (z:=d) _ _ rfl rfl rfl rfl rfl rfl TX I5 ER PX' HK'.out DX Z7 n7 l1 l2 ?_
 intro a8 w8 v8 hb S8 e19 e13 O8
 refine hK _ _ ?_
 clear hK K
 have HOE:Hid (evE (ts ++ [cs]) (data ++ [d]) p'=0→wrongZ (evZ (ts ++ [cs]) (data ++ [d]) p')=0):=fun h=>(ev_ok h).right
 obtain ⟨ee,hee⟩:∃ ee,evE (ts ++ [cs]) (data ++ [d]) p'=ee:=⟨_,rfl⟩
 obtain ⟨ez,hez⟩:∃ ez,evZ (ts ++ [cs]) (data ++ [d]) p'=ez:=⟨_,rfl⟩
 rw [hee,hez] at HOE
 rw [hee] at e13
 rw [hez] at O8
 have HEE:Hid (evE (ts ++ [cs]) (data ++ [d]) p'=ee):=hee
 have HEZ:Hid (evZ (ts ++ [cs]) (data ++ [d]) p'=ez):=hez
 clear hee hez
 obtain ⟨x8,c8,rfl,Z8,n8⟩:=O8.zs2
 replace hA:=chain hA hb
 replace TX:=TX.next hb
 replace PX:=PX.next hb
 replace PX':=PX'.next hb
 replace DX:=DX.next hb
 replace OX:=OX.next hb
 replace EL:=EL.next hb
 replace ER:=ER.next hb
 replace Z2:=Z2.next hb
 replace Z6:=Z6.next hb
 replace Z7:=Z7.next hb
 clear hb O8
 have ea:=S8.putsT (l:=[some 70,some 71,some 72,some 73,some 74,some 75,some 76,some 77,some 78,some 79,some 80,some 81,some 82,some 83,some 69,some 84,some 85,some 19,some 13]) (by kernel_rfl)
 simp only [putsT,Act.put,List.setIfInBounds_toArray,List.set_cons_zero,List.set_cons_succ,e19,e13] at ea
 generalize a8.tmps.getD 70 undef=u70,a8.tmps.getD 71 undef=u71,a8.tmps.getD 72 undef=u72,a8.tmps.getD 73 undef=u73,a8.tmps.getD 74 undef=u74,a8.tmps.getD 75 undef=u75,a8.tmps.getD 76 undef=u76,a8.tmps.getD 77 undef=u77,a8.tmps.getD 78 undef=u78,a8.tmps.getD 79 undef=u79,a8.tmps.getD 80 undef=u80,a8.tmps.getD 81 undef=u81,a8.tmps.getD 82 undef=u82,a8.tmps.getD 83 undef=u83,a8.tmps.getD 69 undef=u69,a8.tmps.getD 84 undef=u84,a8.tmps.getD 85 undef=u85 at ea
 subst ea
 clear S8 e19 e13
 by_cases h0:ee=0
 rotate_left
 ·have hb0:(ee != 0)=true:=by simpa using h0
  go_wp2_with fail
  go_ret
  exact ⟨rfl,hA⟩
 have HR1:Hid (wrongZ ez=0):=HOE.out h0
 have HEE0:Hid (evE (ts ++ [cs]) (data ++ [d]) p'=0):=by show _=_; rw [HEE.out,h0]
 subst h0
 clear HOE HEE
 have con:=distinct_at x6 c6 fz w8 Z6
 rw [HR2.out] at con
 have HD2:Hid ((setZ oneF fz).length≤100000):=(one_set HR2.out).len
 have HD1:Hid ((setZ oneF ez).length≤100000):=(one_set HR1.out).len
 obtain ⟨g,hg⟩:∃ g,setZ oneF fz=g:=⟨_,rfl⟩
 rw [hg] at con HD2
 have HG:Hid (setZ oneF fz=g):=hg
 clear hg
 go_wp2_with fail
 refine con.mono ?_
 rintro e w9 ⟨v9,rfl,O9,hb⟩
 clear con Z6
 obtain ⟨x9,c9,rfl,Z9,n9⟩:=O9.zs2
 replace hA:=chain hA hb
 replace Z2:=Z2.next hb
 replace Z7:=Z7.next hb
 replace Z8:=Z8.next hb
 clear hb O9
 have con:=distinct_at x8 c8 ez w9 Z8
 rw [HR1.out] at con
 obtain ⟨h,hh⟩:∃ h,setZ oneF ez=h:=⟨_,rfl⟩
 rw [hh] at con HD1
 have HH:Hid (setZ oneF ez=h):=hh
 clear hh
 go_wp2_with fail
 refine con.mono ?_
 rintro e wB ⟨vB,rfl,OB,hb⟩
 clear con Z8
 obtain ⟨xB,cB,rfl,ZB,nB⟩:=OB.zs2
 replace hA:=chain hA hb
 replace Z2:=Z2.next hb
 replace Z7:=Z7.next hb
 replace Z9:=Z9.next hb
 clear hb OB
 have con:=within_at g d x9 c9 x7 c7 wB Z9 Z7 HRd.out dl HD2.out
 generalize hb1:witB g d=b1 at con
 have HB1:Hid (witB g d=b1):=hb1
 clear hb1
 go_wp2_with fail
 refine con.mono ?_
 rintro e wC ⟨rfl,hb⟩
 clear con
 replace hA:=chain hA hb
 replace Z2:=Z2.next hb
 replace Z7:=Z7.next hb
 replace ZB:=ZB.next hb
 clear hb Z9
 cases b1 with
 | false =>
  go_wp2_with fail
  go_ret
  exact ⟨rfl,hA⟩
 | true =>
 have con:=within_at h d xB cB x7 c7 wC ZB Z7 HRd.out dl HD1.out
 generalize hb1:witB h d=b2 at con
 have HB2:Hid (witB h d=b2):=hb1
 clear hb1
 go_wp2_with fail
 refine con.mono ?_
 rintro e wD ⟨rfl,hb⟩
 clear con
 replace hA:=chain hA hb
 replace Z2:=Z2.next hb
 replace Z7:=Z7.next hb
 clear hb ZB
 cases b2 with
 | false =>
  go_wp2_with fail
  go_ret
  exact ⟨rfl,hA⟩
 | true =>
 have con:=within_at z d a2 c2 x7 c7 wD Z2 Z7 HRd.out dl zl
 have HX:witB z d=true:=HLf.out d HRB.out HTB.out HONE.out (by unfold widL; rw [HCS.out]; exact HEE0.out) (by unfold dstZ; rw [HFZ.out,HG.out]; exact HB1.out) (by unfold dstZ widL; rw [HCS.out,HEZ.out,HH.out]; exact HB2.out)
 rw [HX] at con
 clear HX
 go_wp2_with fail
 refine con.mono ?_
 rintro e wE ⟨rfl,hb⟩
 clear con
 go_wp2_with fail
 go_ret
 exact ⟨rfl,chain hA hb⟩
end Go.Proofs.YtohjlfhmnmcndaaGreat
