/- The walk of tidelaw6.DeltaRight. -/
import Derived.Test.YtoefpglknaiaeaaGreatB14
import Derived.Test.YtoefpglknaiaeaaGreatC0
namespace Go.Proofs.YtoefpglknaiaeaaGreat
open Go.RowKit Go.Lib Go.Shelf

theorem right_bad {ts:List (List Int)} {p:Pl} {data more:List (List Zp)} (h1:applyE data more=0) (h2:evE ts data p=0) (h3:evE ts (applyZ data more) p=0) (h4:dataE ts more=0):ofDE ts p data more=bothE (-1) (evZ ts (applyZ data more) p) (evZ ts data p):=by
 obtain ⟨l1,l2,_,_⟩:=ev_inv h2
 have hw:wrongD ts p data more=0:=by unfold wrongD; rw [l1,l2,h4]; simp
 unfold ofDE
 rw [hw,h1,h2,h3]
 simp

set_option maxRecDepth 100000 in
set_option maxHeartbeats 8000000 in
theorem deltaRight_walk (ta:Option Addr) (tc:Nat) (ts:List (List Int)) (p:Pl) (q:Pw) (da:Option Addr) (dc:Nat) (data:List (List Zp)) (ma:Option Addr) (mc:Nat) (more:List (List Zp)) (w:World) (hT:TbAt w.heap.size w ta ts) (hp:PlB w.heap.size w p q) (hk:PlOk p) (hD:DtAt w da data) (hn:data.length≤10000000000000) (hM:DtAt w ma more) (hnM:more.length≤10000000000000) :
  Calls Tryz.prog 8 #[.slice ta ts.length tc,plV p q,.slice da data.length dc,.slice ma more.length mc] w fun e w'=>e = .returned (.bool true)∧Below w.heap.size w w':=by
 have TX:TbX w ta ts:=hT
 have PX:PlX w p q:=hp
 have DX:=hD
 have HK:Hid (PlOk p):=hk
 clear hT hp hD hk
 have MX:=hM
 clear hM
 have hA:Below w.heap.size w w:=Below.refl _ _
 have hb:Below w.heap.size w (w.alloc (.cells #[.int .i64 p.k,.int .i64 p.n,.int .i64 p.x.k,.int .i64 p.x.v.1,.int .i64 p.x.v.2.1,.string p.x.v.2.2,.int .i64 p.x.c,.slice q.xa p.x.ks.length q.xc,.slice q.sa p.xs.length q.sc,.slice q.ga p.gs.length q.gc,.slice q.ka p.ks.length q.kc] 31)):=(Below.refl _ _).alloc (Nat.le_refl _) _
 replace TX:=TX.next hb
 replace PX:=PX.next hb
 replace DX:=DX.next hb
 replace MX:=MX.next hb
 replace hA:=chain hA hb
 have EL:ElX (w.alloc (.cells #[.int .i64 p.k,.int .i64 p.n,.int .i64 p.x.k,.int .i64 p.x.v.1,.int .i64 p.x.v.2.1,.string p.x.v.2.2,.int .i64 p.x.c,.slice q.xa p.x.ks.length q.xc,.slice q.sa p.xs.length q.sc,.slice q.ga p.gs.length q.gc,.slice q.ka p.ks.length q.kc] 31)) w.heap.size p q:=⟨Elv.new w p q 31,by simp⟩
 unfold plV
 go_enter Tryz.func8,Tryz.ntmps8
 go_upto_region 1 with fail
 generalize w.alloc (.cells #[.int .i64 p.k,.int .i64 p.n,.int .i64 p.x.k,.int .i64 p.x.v.1,.int .i64 p.x.v.2.1,.string p.x.v.2.2,.int .i64 p.x.c,.slice q.xa p.x.ks.length q.xc,.slice q.sa p.xs.length q.sc,.slice q.ga p.gs.length q.gc,.slice q.ka p.ks.length q.kc] 31)=w1 at *
 clear hb
 have con:=alive6_at w1
 go_wp2_with fail
 refine con.mono ?_
 rintro e w2 ⟨rfl,hb⟩
 clear con
 replace TX:=TX.next hb
 replace PX:=PX.next hb
 replace DX:=DX.next hb
 replace MX:=MX.next hb
 replace EL:=EL.next hb
 replace hA:=chain hA hb
 clear hb
 dsimp only
 have con:=applyT_at (data) (more) da dc ma mc w2 DX MX hn
 generalize hq:applyE (data) (more)=e1 at con
 have HE1:Hid (applyE (data) (more)=e1):=hq
 clear hq
 generalize hq:applyZ (data) (more)=d1 at con
 have HZ1:Hid (applyZ (data) (more)=d1):=hq
 clear hq
 go_wp2_with fail
 refine con.mono ?_
 rintro e w3 ⟨a1,c1,rfl,D1,hb⟩
 clear con
 replace TX:=TX.next hb
 replace PX:=PX.next hb
 replace DX:=DX.next hb
 replace MX:=MX.next hb
 replace EL:=EL.next hb
 replace hA:=chain hA hb
 clear hb
 dsimp only
 by_cases h1:e1=0
 rotate_left
 ·have hb1:(e1 != 0)=true:=by simpa using h1
  go_wp2_with fail
  go_ret
  exact ⟨rfl,hA⟩
 subst h1
 have con:=evalT_at ts (data) p q ta tc da dc w3 TX DX PX HK.out
 generalize hq:evE ts (data) p=e2 at con
 have HE2:Hid (evE ts (data) p=e2):=hq
 clear hq
 generalize hq:evZ ts (data) p=z2 at con
 have HZ2:Hid (evZ ts (data) p=z2):=hq
 clear hq
 try unfold plV at con
 obtain ⟨y0,y1,⟨y2,y3,y4,y5,y6,y7⟩,y8,y9,y10⟩:=EL.el
 simp only [Nat.zero_add] at y1 y2 y3 y4 y5 y6 y7 y8 y9 y10
 go_wp2_with fail
 refine con.mono ?_
 rintro e w4 ⟨v2,rfl,O2,hb⟩
 clear con
 clear y0 y1 y2 y3 y4 y5 y6 y7 y8 y9 y10
 replace TX:=TX.next hb
 replace PX:=PX.next hb
 replace DX:=DX.next hb
 replace MX:=MX.next hb
 replace EL:=EL.next hb
 replace D1:=D1.next hb
 replace hA:=chain hA hb
 clear hb
 obtain ⟨a2,c2,rfl,Z2,n2⟩:=O2.zs2
 clear O2
 dsimp only
 have con:=evalT_at ts (d1) p q ta tc a1 c1 w4 TX D1 PX HK.out
 generalize hq:evE ts (d1) p=e3 at con
 have HE3:Hid (evE ts (d1) p=e3):=hq
 clear hq
 generalize hq:evZ ts (d1) p=z3 at con
 have HZ3:Hid (evZ ts (d1) p=z3):=hq
 clear hq
 try unfold plV at con
 obtain ⟨y0,y1,⟨y2,y3,y4,y5,y6,y7⟩,y8,y9,y10⟩:=EL.el
 simp only [Nat.zero_add] at y1 y2 y3 y4 y5 y6 y7 y8 y9 y10
 go_wp2_with fail
 refine con.mono ?_
 rintro e w5 ⟨v3,rfl,O3,hb⟩
 clear con
 clear y0 y1 y2 y3 y4 y5 y6 y7 y8 y9 y10
 replace TX:=TX.next hb
 replace PX:=PX.next hb
 replace DX:=DX.next hb
 replace MX:=MX.next hb
 replace EL:=EL.next hb
 replace D1:=D1.next hb
 replace Z2:=Z2.next hb
 replace hA:=chain hA hb
 clear hb
 obtain ⟨a3,c3,rfl,Z3,n3⟩:=O3.zs2
 clear O3
 dsimp only
 have con:=ofD_at ts p q (data) (more) ta tc da dc ma mc w5 TX PX HK.out DX MX
 generalize hq:ofDE ts p (data) (more)=e4 at con
 have HE4:Hid (ofDE ts p (data) (more)=e4):=hq
 clear hq
 generalize hq:ofDZ ts p (data) (more)=z4 at con
 have HZ4:Hid (ofDZ ts p (data) (more)=z4):=hq
 clear hq
 try unfold plV at con
 obtain ⟨y0,y1,⟨y2,y3,y4,y5,y6,y7⟩,y8,y9,y10⟩:=EL.el
 simp only [Nat.zero_add] at y1 y2 y3 y4 y5 y6 y7 y8 y9 y10
 go_wp2_with fail
 refine con.mono ?_
 rintro e w6 ⟨v4,rfl,O4,hb⟩
 clear con
 clear y0 y1 y2 y3 y4 y5 y6 y7 y8 y9 y10
 replace TX:=TX.next hb
 replace PX:=PX.next hb
 replace DX:=DX.next hb
 replace MX:=MX.next hb
 replace EL:=EL.next hb
 replace D1:=D1.next hb
 replace Z2:=Z2.next hb
 replace Z3:=Z3.next hb
 replace hA:=chain hA hb
 clear hb
 obtain ⟨a4,c4,rfl,Z4,n4⟩:=O4.zs2
 clear O4
 dsimp only
 by_cases h2:e2=0
 rotate_left
 ·have hb2:(e2 != 0)=true:=by simpa using h2
  go_wp2_with fail
  go_ret
  exact ⟨rfl,hA⟩
 subst h2
 by_cases h3:e3=0
 rotate_left
 ·have hb3:(e3 != 0)=true:=by simpa using h3
  go_wp2_with fail
  go_ret
  exact ⟨rfl,hA⟩
 subst h3
 by_cases h4:e4=0
 rotate_left
 ·have hb4:(e4 != 0)=true:=by simpa using h4
  have con:=sub_at a3 a2 c3 c2 z3 z2 w6 Z3 Z2 n3
  generalize hq:bothE (-1) z3 z2=e5 at con
  have HE5:Hid (bothE (-1) z3 z2=e5):=hq
  clear hq
  generalize hq:bothZ (-1) z3 z2=z5 at con
  have HZ5:Hid (bothZ (-1) z3 z2=z5):=hq
  clear hq
  go_wp2_with fail
  refine con.mono ?_
  rintro e w7 ⟨v5,rfl,O5,hb⟩
  clear con
  replace TX:=TX.next hb
  replace PX:=PX.next hb
  replace DX:=DX.next hb
  replace MX:=MX.next hb
  replace EL:=EL.next hb
  replace D1:=D1.next hb
  replace Z2:=Z2.next hb
  replace Z3:=Z3.next hb
  replace Z4:=Z4.next hb
  replace hA:=chain hA hb
  clear hb
  obtain ⟨a5,c5,rfl,Z5,n5⟩:=O5.zs2
  clear O5
  dsimp only
  by_cases h5:e5=0
  rotate_left
  ·have hb5:(e5 != 0)=true:=by simpa using h5
   go_wp2_with fail
   go_ret
   exact ⟨rfl,hA⟩
  have hdm:¬ dataE ts more=0:=fun c=>by
   have h:=right_bad HE1.out HE2.out (by rw [HZ1.out]; exact HE3.out) c
   rw [HE4.out,HZ1.out,HZ3.out,HZ2.out,HE5.out] at h
   exact h4 (h.trans h5)
  have hb5:(e5 != 0)=false:=by simp [h5]
  have HDM:Hid (¬ dataE ts more=0):=hdm
  clear hdm h5 h4
  have con:=refData_at ts more ta tc ma mc w7 TX MX hnM
  generalize hq:dataE ts more=dm at con
  have HDE:Hid (dataE ts more=dm):=hq
  clear hq
  go_wp2_with fail
  refine con.mono ?_
  rintro e w8 ⟨rfl,hb⟩
  clear con
  replace TX:=TX.next hb
  replace PX:=PX.next hb
  replace DX:=DX.next hb
  replace MX:=MX.next hb
  replace EL:=EL.next hb
  replace D1:=D1.next hb
  replace Z2:=Z2.next hb
  replace Z3:=Z3.next hb
  replace Z4:=Z4.next hb
  replace Z5:=Z5.next hb
  replace hA:=chain hA hb
  clear hb
  dsimp only
  have hdb:(dm != 0)=true:=by
   have:=HDM.out
   rw [HDE.out] at this
   simpa using this
  clear HDM HDE
  go_wp2_with fail
  go_ret
  exact ⟨rfl,hA⟩
 subst h4
 have con:=add_at a2 a4 c2 c4 z2 z4 w6 Z2 Z4 n2
 generalize hq:bothE 1 z2 z4=e6 at con
 have HE6:Hid (bothE 1 z2 z4=e6):=hq
 clear hq
 generalize hq:bothZ 1 z2 z4=z6 at con
 have HZ6:Hid (bothZ 1 z2 z4=z6):=hq
 clear hq
 go_wp2_with fail
 refine con.mono ?_
 rintro e w9 ⟨v6,rfl,O6,hb⟩
 clear con
 replace TX:=TX.next hb
 replace PX:=PX.next hb
 replace DX:=DX.next hb
 replace MX:=MX.next hb
 replace EL:=EL.next hb
 replace D1:=D1.next hb
 replace Z2:=Z2.next hb
 replace Z3:=Z3.next hb
 replace Z4:=Z4.next hb
 replace hA:=chain hA hb
 clear hb
 obtain ⟨a6,c6,rfl,Z6,n6⟩:=O6.zs2
 clear O6
 dsimp only
 have f:e6=0∧z6=z3:=by
  obtain ⟨f1,f2⟩:=right_fact HE4.out
  rw [HZ2.out,HZ4.out] at f1 f2
  rw [HZ1.out,HZ3.out,HZ6.out] at f2
  rw [HE6.out] at f1
  exact ⟨f1,f2⟩
 obtain ⟨f1,f2⟩:=f
 subst f1 f2
 go_wp2_with fail
 refine (same_eq a6 a3 c6 c3 z6 w9 Z6 Z3).mono ?_
 rintro e wz ⟨rfl,hb⟩
 replace hA:=chain hA hb
 go_wp2_with fail
 go_ret
 exact ⟨rfl,hA⟩
end Go.Proofs.YtoefpglknaiaeaaGreat
