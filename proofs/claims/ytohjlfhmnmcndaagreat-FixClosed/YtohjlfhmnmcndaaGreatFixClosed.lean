/- The walk of tidelaw10.FixClosed. -/
import Derived.Test.YtohjlfhmnmcndaaGreatB15
import Derived.Test.YtohjlfhmnmcndaaGreatEZ
namespace Go.Proofs.YtohjlfhmnmcndaaGreat
open Go.RowKit Go.Lib Go.Shelf

theorem fix_closed {ts:List (List Int)} {p p':Pl} {data:List (List Zp)} (h:(fixR ts p p' data).2.2=0):FixOk ts p p' data (fun x=>∀ q,wt (dstZ ts data p) q≤wt x q) :=
 fix_ok h (fun _ _=>Int.le_refl _) fun _ hx px h1 h2 q=>Int.le_trans (px q) (uni_more hx h2 (one_dst h1).nonneg q)

set_option maxRecDepth 100000 in
set_option maxHeartbeats 16000000 in
theorem fixClosed_walk (ta:Option Addr) (tc:Nat) (ts:List (List Int)) (p:Pl) (q:Pw) (p':Pl) (q':Pw) (da:Option Addr) (dc:Nat) (data:List (List Zp)) (w:World) (hT:TbAt w.heap.size w ta ts) (hp:PlB w.heap.size w p q) (hk:PlOk p) (hp':PlB w.heap.size w p' q') (hk':PlOk p') (hD:DtAt w da data) (_hn:data.length≤10000000000000) :
  Calls Tryz.prog 4 #[.slice ta ts.length tc,plV p q,plV p' q',.slice da data.length dc] w fun e w'=>e = .returned (.bool true)∧Below w.heap.size w w':=by
 have hA:=twW_below w p q p' q'
 have EL:=twW_1 w p q p' q'
 have ER:=twW_2 w p q p' q'
 have HK:Hid (PlOk p):=hk
 have HK':Hid (PlOk p'):=hk'
 have TX:=TbX.next (w:=w) hT hA
 have PX:=PlX.next (w:=w) hp hA
 have PX':=PlX.next (w:=w) hp' hA
 have DX:=hD.next hA
 clear hk hk' hT hp hp' hD _hn
 unfold plV
 go_enter Tryz.func4,Tryz.ntmps4
 go_upto_region 1 with fail
 generalize (w.alloc (plBx p q)).alloc (plBx p' q')=wA at *
 have con:=alive10_at wA
 go_wp2_with fail
 refine con.mono ?_
 rintro e w1 ⟨rfl,hb⟩
 clear con
 replace hA:=chain hA hb
 replace TX:=TX.next hb
 replace PX:=PX.next hb
 replace PX':=PX'.next hb
 replace DX:=DX.next hb
 replace EL:=EL.next hb
 replace ER:=ER.next hb
 clear hb
 have con:=fix_at ts p q p' q' data ta tc da dc w1 TX PX HK.out PX' HK'.out DX
 have HB:Hid (¬ (fixR ts p p' data).2.2=0→(fixR ts p p' data).1 = []):=fix_bad
 have HO:Hid ((fixR ts p p' data).2.2=0→FixOk ts p p' data (fun x=>∀ q,wt (dstZ ts data p) q≤wt x q)):=fix_closed
 obtain ⟨z,hz⟩:∃ z,(fixR ts p p' data).1=z:=⟨_,rfl⟩
 obtain ⟨n,hn⟩:∃ n,(fixR ts p p' data).2.1=n:=⟨_,rfl⟩
 obtain ⟨er,her⟩:∃ er,(fixR ts p p' data).2.2=er:=⟨_,rfl⟩
 rw [hz,hn,her] at con
 rw [hz,her] at HB
 rw [her] at HO
 have HZ:Hid ((fixR ts p p' data).1=z):=hz
 clear hz hn her
 obtain ⟨y0,y1,⟨y2,y3,y4,y5,y6,y7⟩,y8,y9,y10⟩:=EL.el
 simp only [Nat.zero_add] at y1 y2 y3 y4 y5 y6 y7 y8 y9 y10
 obtain ⟨x0,x1,⟨x2,x3,x4,x5,x6,x7⟩,x8,x9,x10⟩:=ER.el
 simp only [Nat.zero_add] at x1 x2 x3 x4 x5 x6 x7 x8 x9 x10
 unfold plV at con
 go_wp2_with fail
 refine con.mono ?_
 rintro e w2 ⟨v2,rfl,O2,hb⟩
 clear con y0 y1 y2 y3 y4 y5 y6 y7 y8 y9 y10 x0 x1 x2 x3 x4 x5 x6 x7 x8 x9 x10
 obtain ⟨a2,c2,rfl,Z2,n2⟩:=O2.zs2
 replace hA:=chain hA hb
 replace TX:=TX.next hb
 replace PX:=PX.next hb
 replace PX':=PX'.next hb
 replace DX:=DX.next hb
 replace EL:=EL.next hb
 replace ER:=ER.next hb
 clear hb O2
 by_cases h0:er=0
 rotate_left
 ·have e2:=HB.out h0
  subst e2
  have hb0:(er != 0)=true:=by simpa using h0
  clear HB HO HZ Z2
  go_wp2_with fail
  go_ret
  exact ⟨rfl,hA⟩
 have OK:=HO.out h0
 have HL0:Hid (lookE ts p=0):=(wid_ok OK.wid).1
 have l1:ts.length≤8:=tabsL (lookE_ok HL0.out).1
 have l2:data.length≤8:=wid_len OK.wid
 have HSE:Hid (evE ts data p=0):=OK.seed
 have hone:=OK.one
 have hev:=OK.ev
 have hw1:=wit_of (one_dst OK.ev) OK.step
 have hw2:=wit_of (one_dst OK.seed) OK.prop
 have hr2:=(ev_ok OK.seed).right
 have hr1:=(ev_ok OK.ev).right
 unfold dstZ at hw1 hw2
 rw [HZ.out] at hone hev hw1 hw2 hr1
 obtain ⟨cs,hcs⟩:∃ cs,colsT ts p=cs:=⟨_,rfl⟩
 unfold widL at hev hw1 hr1
 rw [hcs] at hev hw1 hr1
 have HCS:Hid (colsT ts p=cs):=hcs
 have HEV:Hid (evE (ts ++ [cs]) (data ++ [z]) p'=0):=hev
 obtain ⟨ez,hez⟩:∃ ez,evZ (ts ++ [cs]) (data ++ [z]) p'=ez:=⟨_,rfl⟩
 rw [hez] at hw1 hr1
 have HEZ:Hid (evZ (ts ++ [cs]) (data ++ [z]) p'=ez):=hez
 obtain ⟨fz,hfz⟩:∃ fz,evZ ts data p=fz:=⟨_,rfl⟩
 rw [hfz] at hw2 hr2
 have HFZ:Hid (evZ ts data p=fz):=hfz
 have HW1:Hid (witB (setZ oneF ez) z=true):=hw1
 have HW2:Hid (witB (setZ oneF fz) z=true):=hw2
 have HR1:Hid (wrongZ ez=0):=hr1
 have HR2:Hid (wrongZ fz=0):=hr2
 have HRi:Hid (Rise z):=hone.set.rise
 have zl:=hone.len
 have HD1:Hid ((setZ oneF ez).length≤100000):=(one_set hr1).len
 have HD2:Hid ((setZ oneF fz).length≤100000):=(one_set hr2).len
 subst h0
 clear HB HO HZ OK hone hev hw1 hw2 hr1 hr2 hcs hez hfz
 have con:=colsQ_at ts p q ta tc w2 TX PX HK.out
 rw [HL0.out,HCS.out] at con
 obtain ⟨y0,y1,⟨y2,y3,y4,y5,y6,y7⟩,y8,y9,y10⟩:=EL.el
 simp only [Nat.zero_add] at y1 y2 y3 y4 y5 y6 y7 y8 y9 y10
 unfold plV at con
 go_wp2_with fail
 refine con.mono ?_
 rintro e w3 ⟨a3,c3,rfl,I3,hb⟩
 clear con y0 y1 y2 y3 y4 y5 y6 y7 y8 y9 y10
 replace hA:=chain hA hb
 replace TX:=TX.next hb
 replace PX:=PX.next hb
 replace PX':=PX'.next hb
 replace DX:=DX.next hb
 replace EL:=EL.next hb
 replace ER:=ER.next hb
 replace Z2:=Z2.next hb
 clear hb
 go_wp2_with fail
 rename_i K hK
 refine region7 (cols:=cs) (z:=z) _ _ rfl rfl rfl rfl rfl rfl TX I3 ER PX' HK'.out DX Z2 n2 l1 l2 ?_
 intro a4 w4 v4 hb S4 e14 e11 O4
 rw [HEV.out] at e11
 rw [HEZ.out] at O4
 refine hK _ _ ?_
 clear hK K
 obtain ⟨x4,c4,rfl,Z4,n4⟩:=O4.zs2
 replace hA:=chain hA hb
 replace TX:=TX.next hb
 replace PX:=PX.next hb
 replace PX':=PX'.next hb
 replace DX:=DX.next hb
 replace EL:=EL.next hb
 replace ER:=ER.next hb
 replace Z2:=Z2.next hb
 clear hb O4
 have ea:=S4.putsT (l:=[some 44,some 45,some 46,some 47,some 48,some 49,some 50,some 51,some 52,some 53,some 54,some 55,some 56,some 57,some 43,some 58,some 59,some 14,some 11]) (by kernel_rfl)
 simp only [putsT,Act.put,List.setIfInBounds_toArray,List.set_cons_zero,List.set_cons_succ,e14,e11] at ea
 generalize a4.tmps.getD 44 undef=u44,a4.tmps.getD 45 undef=u45,a4.tmps.getD 46 undef=u46,a4.tmps.getD 47 undef=u47,a4.tmps.getD 48 undef=u48,a4.tmps.getD 49 undef=u49,a4.tmps.getD 50 undef=u50,a4.tmps.getD 51 undef=u51,a4.tmps.getD 52 undef=u52,a4.tmps.getD 53 undef=u53,a4.tmps.getD 54 undef=u54,a4.tmps.getD 55 undef=u55,a4.tmps.getD 56 undef=u56,a4.tmps.getD 57 undef=u57,a4.tmps.getD 43 undef=u43,a4.tmps.getD 58 undef=u58,a4.tmps.getD 59 undef=u59 at ea
 subst ea
 clear S4 e14 e11
 have con:=distinct_at x4 c4 ez w4 Z4
 rw [HR1.out] at con
 obtain ⟨d1,hd1⟩:∃ d1,setZ oneF ez=d1:=⟨_,rfl⟩
 rw [hd1] at con HW1 HD1
 clear hd1
 go_wp2_with fail
 refine con.mono ?_
 rintro e w5 ⟨v5,rfl,O5,hb⟩
 clear con Z4
 obtain ⟨x5,c5,rfl,Z5,n5⟩:=O5.zs2
 replace hA:=chain hA hb
 replace TX:=TX.next hb
 replace PX:=PX.next hb
 replace PX':=PX'.next hb
 replace DX:=DX.next hb
 replace EL:=EL.next hb
 replace ER:=ER.next hb
 replace Z2:=Z2.next hb
 clear hb O5
 have con:=evalT_at ts data p q ta tc da dc w5 TX DX PX HK.out
 rw [HSE.out,HFZ.out] at con
 obtain ⟨y0,y1,⟨y2,y3,y4,y5,y6,y7⟩,y8,y9,y10⟩:=EL.el
 simp only [Nat.zero_add] at y1 y2 y3 y4 y5 y6 y7 y8 y9 y10
 unfold plV at con
 go_wp2_with fail
 refine con.mono ?_
 rintro e w6 ⟨v6,rfl,O6,hb⟩
 clear con y0 y1 y2 y3 y4 y5 y6 y7 y8 y9 y10
 obtain ⟨x6,c6,rfl,Z6,n6⟩:=O6.zs2
 replace hA:=chain hA hb
 replace TX:=TX.next hb
 replace PX:=PX.next hb
 replace PX':=PX'.next hb
 replace DX:=DX.next hb
 replace EL:=EL.next hb
 replace ER:=ER.next hb
 replace Z2:=Z2.next hb
 replace Z5:=Z5.next hb
 clear hb O6
 have con:=distinct_at x6 c6 fz w6 Z6
 rw [HR2.out] at con
 obtain ⟨d2,hd2⟩:∃ d2,setZ oneF fz=d2:=⟨_,rfl⟩
 rw [hd2] at con HW2 HD2
 clear hd2
 go_wp2_with fail
 refine con.mono ?_
 rintro e w7 ⟨v7,rfl,O7,hb⟩
 clear con Z6
 obtain ⟨x7,c7,rfl,Z7,n7⟩:=O7.zs2
 replace hA:=chain hA hb
 replace Z2:=Z2.next hb
 replace Z5:=Z5.next hb
 clear hb O7
 have con:=within_at d1 z x5 c5 a2 c2 w7 Z5 Z2 HRi.out zl HD1.out
 rw [HW1.out] at con
 go_wp2_with fail
 refine con.mono ?_
 rintro e w8 ⟨rfl,hb⟩
 clear con
 have con:=within_at d2 z x7 c7 a2 c2 w8 (Z7.next hb) (Z2.next hb) HRi.out zl HD2.out
 rw [HW2.out] at con
 replace hA:=chain hA hb
 clear hb Z5 Z7 Z2
 go_wp2_with fail
 refine con.mono ?_
 rintro e w9 ⟨rfl,hb⟩
 clear con
 go_wp2_with fail
 go_ret
 exact ⟨rfl,chain hA hb⟩
end Go.Proofs.YtohjlfhmnmcndaaGreat
