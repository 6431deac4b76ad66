/- The walk of tidelaw6.DeltaLinear. -/
import Derived.Test.YtoefpglknaiaeaaGreatB14
namespace Go.Proofs.YtoefpglknaiaeaaGreat
open Go.RowKit Go.Lib Go.Shelf

set_option maxRecDepth 100000 in
set_option maxHeartbeats 8000000 in
theorem deltaLinear_walk (ta:Option Addr) (tc:Nat) (ts:List (List Int)) (p:Pl) (q:Pw) (da:Option Addr) (dc:Nat) (data:List (List Zp)) (ma:Option Addr) (mc:Nat) (more:List (List Zp)) (w:World) (hT:TbAt w.heap.size w ta ts) (hp:PlB w.heap.size w p q) (hk:PlOk p) (hD:DtAt w da data) (hn:data.length≤10000000000000) (hM:DtAt w ma more) (_hnM:more.length≤10000000000000) :
  Calls Tryz.prog 11 #[.slice ta ts.length tc,plV p q,.slice da data.length dc,.slice ma more.length mc] w fun e w'=>e = .returned (.bool true)∧Below w.heap.size w w':=by
 have TX:TbX w ta ts:=hT
 have PX:PlX w p q:=hp
 have DX:=hD
 have HK:Hid (PlOk p):=hk
 clear hT hp hD hk
 have MX:=hM
 clear hM
 have hA:Below w.heap.size w w:=Below.refl _ _
 have hb:Below w.heap.size w (w.alloc (.cells #[.int .i64 p.k,.int .i64 p.n,.int .i64 p.x.k,.int .i64 p.x.v.1,.int .i64 p.x.v.2.1,.string p.x.v.2.2,.int .i64 p.x.c,.slice q.xa p.x.ks.length q.xc,.slice q.sa p.xs.length q.sc,.slice q.ga p.gs.length q.gc,.slice q.ka p.ks.length q.kc] 31)):=(Below.refl _ _).alloc (Nat.le_refl _) _
 replace TX:=TX.next hb
 replace PX:=PX.next hb
 replace DX:=DX.next hb
 replace MX:=MX.next hb
 replace hA:=chain hA hb
 have EL:ElX (w.alloc (.cells #[.int .i64 p.k,.int .i64 p.n,.int .i64 p.x.k,.int .i64 p.x.v.1,.int .i64 p.x.v.2.1,.string p.x.v.2.2,.int .i64 p.x.c,.slice q.xa p.x.ks.length q.xc,.slice q.sa p.xs.length q.sc,.slice q.ga p.gs.length q.gc,.slice q.ka p.ks.length q.kc] 31)) w.heap.size p q:=⟨Elv.new w p q 31,by simp⟩
 unfold plV
 go_enter Tryz.func11,Tryz.ntmps11
 go_upto_region 1 with fail
 generalize w.alloc (.cells #[.int .i64 p.k,.int .i64 p.n,.int .i64 p.x.k,.int .i64 p.x.v.1,.int .i64 p.x.v.2.1,.string p.x.v.2.2,.int .i64 p.x.c,.slice q.xa p.x.ks.length q.xc,.slice q.sa p.xs.length q.sc,.slice q.ga p.gs.length q.gc,.slice q.ka p.ks.length q.kc] 31)=w1 at *
 clear hb
 have con:=alive6_at w1
 go_wp2_with fail
 refine con.mono ?_
 rintro e w2 ⟨rfl,hb⟩
 clear con
 replace TX:=TX.next hb
 replace PX:=PX.next hb
 replace DX:=DX.next hb
 replace MX:=MX.next hb
 replace EL:=EL.next hb
 replace hA:=chain hA hb
 clear hb
 dsimp only
 have con:=ofD_at ts p q (data) (more) ta tc da dc ma mc w2 TX PX HK.out DX MX
 generalize hq:ofDE ts p (data) (more)=e1 at con
 have HE1:Hid (ofDE ts p (data) (more)=e1):=hq
 clear hq
 generalize hq:ofDZ ts p (data) (more)=z1 at con
 have HZ1:Hid (ofDZ ts p (data) (more)=z1):=hq
 clear hq
 try unfold plV at con
 obtain ⟨y0,y1,⟨y2,y3,y4,y5,y6,y7⟩,y8,y9,y10⟩:=EL.el
 simp only [Nat.zero_add] at y1 y2 y3 y4 y5 y6 y7 y8 y9 y10
 go_wp2_with fail
 refine con.mono ?_
 rintro e w3 ⟨v1,rfl,O1,hb⟩
 clear con
 clear y0 y1 y2 y3 y4 y5 y6 y7 y8 y9 y10
 replace TX:=TX.next hb
 replace PX:=PX.next hb
 replace DX:=DX.next hb
 replace MX:=MX.next hb
 replace EL:=EL.next hb
 replace hA:=chain hA hb
 clear hb
 obtain ⟨a1,c1,rfl,Z1,n1⟩:=O1.zs2
 clear O1
 dsimp only
 have con:=evalT_at ts (more) p q ta tc ma mc w3 TX MX PX HK.out
 generalize hq:evE ts (more) p=e2 at con
 have HE2:Hid (evE ts (more) p=e2):=hq
 clear hq
 generalize hq:evZ ts (more) p=z2 at con
 have HZ2:Hid (evZ ts (more) p=z2):=hq
 clear hq
 try unfold plV at con
 obtain ⟨y0,y1,⟨y2,y3,y4,y5,y6,y7⟩,y8,y9,y10⟩:=EL.el
 simp only [Nat.zero_add] at y1 y2 y3 y4 y5 y6 y7 y8 y9 y10
 go_wp2_with fail
 refine con.mono ?_
 rintro e w4 ⟨v2,rfl,O2,hb⟩
 clear con
 clear y0 y1 y2 y3 y4 y5 y6 y7 y8 y9 y10
 replace TX:=TX.next hb
 replace PX:=PX.next hb
 replace DX:=DX.next hb
 replace MX:=MX.next hb
 replace EL:=EL.next hb
 replace Z1:=Z1.next hb
 replace hA:=chain hA hb
 clear hb
 obtain ⟨a2,c2,rfl,Z2,n2⟩:=O2.zs2
 clear O2
 dsimp only
 have con:=applyT_at (data) (more) da dc ma mc w4 DX MX hn
 generalize hq:applyE (data) (more)=e3 at con
 have HE3:Hid (applyE (data) (more)=e3):=hq
 clear hq
 generalize hq:applyZ (data) (more)=d3 at con
 have HZ3:Hid (applyZ (data) (more)=d3):=hq
 clear hq
 go_wp2_with fail
 refine con.mono ?_
 rintro e w5 ⟨a3,c3,rfl,D3,hb⟩
 clear con
 replace TX:=TX.next hb
 replace PX:=PX.next hb
 replace DX:=DX.next hb
 replace MX:=MX.next hb
 replace EL:=EL.next hb
 replace Z1:=Z1.next hb
 replace Z2:=Z2.next hb
 replace hA:=chain hA hb
 clear hb
 dsimp only
 by_cases h1:e1=0
 rotate_left
 ·have hb1:(e1 != 0)=true:=by simpa using h1
  go_wp2_with fail
  go_ret
  exact ⟨rfl,hA⟩
 subst h1
 by_cases h2:e2=0
 rotate_left
 ·have hb2:(e2 != 0)=true:=by simpa using h2
  go_wp2_with fail
  go_ret
  exact ⟨rfl,hA⟩
 subst h2
 by_cases h3:e3=0
 rotate_left
 ·have hb3:(e3 != 0)=true:=by simpa using h3
  go_wp2_with fail
  go_ret
  exact ⟨rfl,hA⟩
 subst h3
 have con:=linear_all ts p q 0 1 w5 (lookE_ok (wrongD_ok (ofD_inv HE1.out).1).1).2 PX
 generalize hq:linB p=lb at con
 have HL:Hid (linB p=lb):=hq
 clear hq
 try unfold plV at con
 obtain ⟨y0,y1,⟨y2,y3,y4,y5,y6,y7⟩,y8,y9,y10⟩:=EL.el
 simp only [Nat.zero_add] at y1 y2 y3 y4 y5 y6 y7 y8 y9 y10
 go_wp2_with fail
 refine con.mono ?_
 rintro e w6 ⟨rfl,hb⟩
 clear con
 clear y0 y1 y2 y3 y4 y5 y6 y7 y8 y9 y10
 replace TX:=TX.next hb
 replace PX:=PX.next hb
 replace DX:=DX.next hb
 replace MX:=MX.next hb
 replace EL:=EL.next hb
 replace Z1:=Z1.next hb
 replace Z2:=Z2.next hb
 replace D3:=D3.next hb
 replace hA:=chain hA hb
 clear hb
 dsimp only
 cases lb with
 | false =>
  go_wp2_with fail
  go_ret
  exact ⟨rfl,hA⟩
 | true =>
  have con:=evalT_at ts (data) p q ta tc da dc w6 TX DX PX HK.out
  generalize hq:evE ts (data) p=e4 at con
  have HE4:Hid (evE ts (data) p=e4):=hq
  clear hq
  generalize hq:evZ ts (data) p=z4 at con
  have HZ4:Hid (evZ ts (data) p=z4):=hq
  clear hq
  try unfold plV at con
  obtain ⟨y0,y1,⟨y2,y3,y4,y5,y6,y7⟩,y8,y9,y10⟩:=EL.el
  simp only [Nat.zero_add] at y1 y2 y3 y4 y5 y6 y7 y8 y9 y10
  go_wp2_with fail
  refine con.mono ?_
  rintro e w7 ⟨v4,rfl,O4,hb⟩
  clear con
  clear y0 y1 y2 y3 y4 y5 y6 y7 y8 y9 y10
  replace TX:=TX.next hb
  replace PX:=PX.next hb
  replace DX:=DX.next hb
  replace MX:=MX.next hb
  replace EL:=EL.next hb
  replace Z1:=Z1.next hb
  replace Z2:=Z2.next hb
  replace D3:=D3.next hb
  replace hA:=chain hA hb
  clear hb
  obtain ⟨a4,c4,rfl,Z4,n4⟩:=O4.zs2
  clear O4
  dsimp only
  by_cases h4:e4=0
  rotate_left
  ·have hb4:(e4 != 0)=true:=by simpa using h4
   go_wp2_with fail
   go_ret
   exact ⟨rfl,hA⟩
  subst h4
  have con:=evalT_at ts (d3) p q ta tc a3 c3 w7 TX D3 PX HK.out
  generalize hq:evE ts (d3) p=e5 at con
  have HE5:Hid (evE ts (d3) p=e5):=hq
  clear hq
  generalize hq:evZ ts (d3) p=z5 at con
  have HZ5:Hid (evZ ts (d3) p=z5):=hq
  clear hq
  try unfold plV at con
  obtain ⟨y0,y1,⟨y2,y3,y4,y5,y6,y7⟩,y8,y9,y10⟩:=EL.el
  simp only [Nat.zero_add] at y1 y2 y3 y4 y5 y6 y7 y8 y9 y10
  go_wp2_with fail
  refine con.mono ?_
  rintro e w8 ⟨v5,rfl,O5,hb⟩
  clear con
  clear y0 y1 y2 y3 y4 y5 y6 y7 y8 y9 y10
  replace TX:=TX.next hb
  replace PX:=PX.next hb
  replace DX:=DX.next hb
  replace MX:=MX.next hb
  replace EL:=EL.next hb
  replace Z1:=Z1.next hb
  replace Z2:=Z2.next hb
  replace D3:=D3.next hb
  replace Z4:=Z4.next hb
  replace hA:=chain hA hb
  clear hb
  obtain ⟨a5,c5,rfl,Z5,n5⟩:=O5.zs2
  clear O5
  dsimp only
  by_cases h5:e5=0
  rotate_left
  ·have hb5:(e5 != 0)=true:=by simpa using h5
   go_wp2_with fail
   go_ret
   exact ⟨rfl,hA⟩
  subst h5
  have ez:z1=z2:=by rw [← HZ1.out,← HZ2.out]; exact linear_fact HL.out HE1.out HE2.out
  subst ez
  go_wp2_with fail
  refine (same_eq a1 a2 c1 c2 z1 w8 Z1 Z2).mono ?_
  rintro e wz ⟨rfl,hb⟩
  replace hA:=chain hA hb
  go_wp2_with fail
  go_ret
  exact ⟨rfl,hA⟩
end Go.Proofs.YtoefpglknaiaeaaGreat
