/- The walk of tidelaw6.DeltaChain. -/
import Derived.Test.YtoefpglknaiaeaaGreatB14
namespace Go.Proofs.YtoefpglknaiaeaaGreat
open Go.RowKit Go.Lib Go.Shelf

set_option maxRecDepth 100000 in
set_option maxHeartbeats 8000000 in
theorem deltaChain_walk (ta:Option Addr) (tc:Nat) (ts:List (List Int)) (p:Pl) (q:Pw) (da:Option Addr) (dc:Nat) (data:List (List Zp)) (oa:Option Addr) (oc:Nat) (one:List (List Zp)) (ua:Option Addr) (uc:Nat) (two:List (List Zp)) (w:World) (hT:TbAt w.heap.size w ta ts) (hp:PlB w.heap.size w p q) (hk:PlOk p) (hD:DtAt w da data) (hn:data.length≤10000000000000) (hO:DtAt w oa one) (hn1:one.length≤10000000000000) (hU:DtAt w ua two) (_hnU:two.length≤10000000000000) :
  Calls Tryz.prog 10 #[.slice ta ts.length tc,plV p q,.slice da data.length dc,.slice oa one.length oc,.slice ua two.length uc] w fun e w'=>e = .returned (.bool true)∧Below w.heap.size w w':=by
 have TX:TbX w ta ts:=hT
 have PX:PlX w p q:=hp
 have DX:=hD
 have HK:Hid (PlOk p):=hk
 clear hT hp hD hk
 have OX:=hO
 clear hO
 have UX:=hU
 clear hU
 have hA:Below w.heap.size w w:=Below.refl _ _
 have hb:Below w.heap.size w (w.alloc (.cells #[.int .i64 p.k,.int .i64 p.n,.int .i64 p.x.k,.int .i64 p.x.v.1,.int .i64 p.x.v.2.1,.string p.x.v.2.2,.int .i64 p.x.c,.slice q.xa p.x.ks.length q.xc,.slice q.sa p.xs.length q.sc,.slice q.ga p.gs.length q.gc,.slice q.ka p.ks.length q.kc] 31)):=(Below.refl _ _).alloc (Nat.le_refl _) _
 replace TX:=TX.next hb
 replace PX:=PX.next hb
 replace DX:=DX.next hb
 replace OX:=OX.next hb
 replace UX:=UX.next hb
 replace hA:=chain hA hb
 have EL:ElX (w.alloc (.cells #[.int .i64 p.k,.int .i64 p.n,.int .i64 p.x.k,.int .i64 p.x.v.1,.int .i64 p.x.v.2.1,.string p.x.v.2.2,.int .i64 p.x.c,.slice q.xa p.x.ks.length q.xc,.slice q.sa p.xs.length q.sc,.slice q.ga p.gs.length q.gc,.slice q.ka p.ks.length q.kc] 31)) w.heap.size p q:=⟨Elv.new w p q 31,by simp⟩
 unfold plV
 go_enter Tryz.func10,Tryz.ntmps10
 go_upto_region 1 with fail
 generalize w.alloc (.cells #[.int .i64 p.k,.int .i64 p.n,.int .i64 p.x.k,.int .i64 p.x.v.1,.int .i64 p.x.v.2.1,.string p.x.v.2.2,.int .i64 p.x.c,.slice q.xa p.x.ks.length q.xc,.slice q.sa p.xs.length q.sc,.slice q.ga p.gs.length q.gc,.slice q.ka p.ks.length q.kc] 31)=w1 at *
 clear hb
 have con:=alive6_at w1
 go_wp2_with fail
 refine con.mono ?_
 rintro e w2 ⟨rfl,hb⟩
 clear con
 replace TX:=TX.next hb
 replace PX:=PX.next hb
 replace DX:=DX.next hb
 replace OX:=OX.next hb
 replace UX:=UX.next hb
 replace EL:=EL.next hb
 replace hA:=chain hA hb
 clear hb
 dsimp only
 have con:=applyT_at (data) (one) da dc oa oc w2 DX OX hn
 generalize hq:applyE (data) (one)=e1 at con
 have HE1:Hid (applyE (data) (one)=e1):=hq
 clear hq
 generalize hq:applyZ (data) (one)=d1 at con
 have HZ1:Hid (applyZ (data) (one)=d1):=hq
 clear hq
 go_wp2_with fail
 refine con.mono ?_
 rintro e w3 ⟨a1,c1,rfl,D1,hb⟩
 clear con
 replace TX:=TX.next hb
 replace PX:=PX.next hb
 replace DX:=DX.next hb
 replace OX:=OX.next hb
 replace UX:=UX.next hb
 replace EL:=EL.next hb
 replace hA:=chain hA hb
 clear hb
 dsimp only
 have con:=applyT_at (one) (two) oa oc ua uc w3 OX UX hn1
 generalize hq:applyE (one) (two)=e2 at con
 have HE2:Hid (applyE (one) (two)=e2):=hq
 clear hq
 generalize hq:applyZ (one) (two)=d2 at con
 have HZ2:Hid (applyZ (one) (two)=d2):=hq
 clear hq
 go_wp2_with fail
 refine con.mono ?_
 rintro e w4 ⟨a2,c2,rfl,D2,hb⟩
 clear con
 replace TX:=TX.next hb
 replace PX:=PX.next hb
 replace DX:=DX.next hb
 replace OX:=OX.next hb
 replace UX:=UX.next hb
 replace EL:=EL.next hb
 replace D1:=D1.next hb
 replace hA:=chain hA hb
 clear hb
 dsimp only
 by_cases h1:e1=0
 rotate_left
 ·have hb1:(e1 != 0)=true:=by simpa using h1
  go_wp2_with fail
  go_ret
  exact ⟨rfl,hA⟩
 subst h1
 by_cases h2:e2=0
 rotate_left
 ·have hb2:(e2 != 0)=true:=by simpa using h2
  go_wp2_with fail
  go_ret
  exact ⟨rfl,hA⟩
 subst h2
 have con:=ofD_at ts p q (data) (one) ta tc da dc oa oc w4 TX PX HK.out DX OX
 generalize hq:ofDE ts p (data) (one)=e3 at con
 have HE3:Hid (ofDE ts p (data) (one)=e3):=hq
 clear hq
 generalize hq:ofDZ ts p (data) (one)=z3 at con
 have HZ3:Hid (ofDZ ts p (data) (one)=z3):=hq
 clear hq
 try unfold plV at con
 obtain ⟨y0,y1,⟨y2,y3,y4,y5,y6,y7⟩,y8,y9,y10⟩:=EL.el
 simp only [Nat.zero_add] at y1 y2 y3 y4 y5 y6 y7 y8 y9 y10
 go_wp2_with fail
 refine con.mono ?_
 rintro e w5 ⟨v3,rfl,O3,hb⟩
 clear con
 clear y0 y1 y2 y3 y4 y5 y6 y7 y8 y9 y10
 replace TX:=TX.next hb
 replace PX:=PX.next hb
 replace DX:=DX.next hb
 replace OX:=OX.next hb
 replace UX:=UX.next hb
 replace EL:=EL.next hb
 replace D1:=D1.next hb
 replace D2:=D2.next hb
 replace hA:=chain hA hb
 clear hb
 obtain ⟨a3,c3,rfl,Z3,n3⟩:=O3.zs2
 clear O3
 dsimp only
 have con:=ofD_at ts p q (d1) (two) ta tc a1 c1 ua uc w5 TX PX HK.out D1 UX
 generalize hq:ofDE ts p (d1) (two)=e4 at con
 have HE4:Hid (ofDE ts p (d1) (two)=e4):=hq
 clear hq
 generalize hq:ofDZ ts p (d1) (two)=z4 at con
 have HZ4:Hid (ofDZ ts p (d1) (two)=z4):=hq
 clear hq
 try unfold plV at con
 obtain ⟨y0,y1,⟨y2,y3,y4,y5,y6,y7⟩,y8,y9,y10⟩:=EL.el
 simp only [Nat.zero_add] at y1 y2 y3 y4 y5 y6 y7 y8 y9 y10
 go_wp2_with fail
 refine con.mono ?_
 rintro e w6 ⟨v4,rfl,O4,hb⟩
 clear con
 clear y0 y1 y2 y3 y4 y5 y6 y7 y8 y9 y10
 replace TX:=TX.next hb
 replace PX:=PX.next hb
 replace DX:=DX.next hb
 replace OX:=OX.next hb
 replace UX:=UX.next hb
 replace EL:=EL.next hb
 replace D1:=D1.next hb
 replace D2:=D2.next hb
 replace Z3:=Z3.next hb
 replace hA:=chain hA hb
 clear hb
 obtain ⟨a4,c4,rfl,Z4,n4⟩:=O4.zs2
 clear O4
 dsimp only
 have con:=ofD_at ts p q (data) (d2) ta tc da dc a2 c2 w6 TX PX HK.out DX D2
 generalize hq:ofDE ts p (data) (d2)=e5 at con
 have HE5:Hid (ofDE ts p (data) (d2)=e5):=hq
 clear hq
 generalize hq:ofDZ ts p (data) (d2)=z5 at con
 have HZ5:Hid (ofDZ ts p (data) (d2)=z5):=hq
 clear hq
 try unfold plV at con
 obtain ⟨y0,y1,⟨y2,y3,y4,y5,y6,y7⟩,y8,y9,y10⟩:=EL.el
 simp only [Nat.zero_add] at y1 y2 y3 y4 y5 y6 y7 y8 y9 y10
 go_wp2_with fail
 refine con.mono ?_
 rintro e w7 ⟨v5,rfl,O5,hb⟩
 clear con
 clear y0 y1 y2 y3 y4 y5 y6 y7 y8 y9 y10
 replace TX:=TX.next hb
 replace PX:=PX.next hb
 replace DX:=DX.next hb
 replace OX:=OX.next hb
 replace UX:=UX.next hb
 replace EL:=EL.next hb
 replace D1:=D1.next hb
 replace D2:=D2.next hb
 replace Z3:=Z3.next hb
 replace Z4:=Z4.next hb
 replace hA:=chain hA hb
 clear hb
 obtain ⟨a5,c5,rfl,Z5,n5⟩:=O5.zs2
 clear O5
 dsimp only
 have con:=applyT_at (data) (d2) da dc a2 c2 w7 DX D2 hn
 generalize hq:applyE (data) (d2)=e6 at con
 have HE6:Hid (applyE (data) (d2)=e6):=hq
 clear hq
 generalize hq:applyZ (data) (d2)=d6 at con
 have HZ6:Hid (applyZ (data) (d2)=d6):=hq
 clear hq
 go_wp2_with fail
 refine con.mono ?_
 rintro e w8 ⟨a6,c6,rfl,D6,hb⟩
 clear con
 replace TX:=TX.next hb
 replace PX:=PX.next hb
 replace DX:=DX.next hb
 replace OX:=OX.next hb
 replace UX:=UX.next hb
 replace EL:=EL.next hb
 replace D1:=D1.next hb
 replace D2:=D2.next hb
 replace Z3:=Z3.next hb
 replace Z4:=Z4.next hb
 replace Z5:=Z5.next hb
 replace hA:=chain hA hb
 clear hb
 dsimp only
 by_cases h3:e3=0
 rotate_left
 ·have hb3:(e3 != 0)=true:=by simpa using h3
  go_wp2_with fail
  go_ret
  exact ⟨rfl,hA⟩
 subst h3
 by_cases h4:e4=0
 rotate_left
 ·have hb4:(e4 != 0)=true:=by simpa using h4
  go_wp2_with fail
  go_ret
  exact ⟨rfl,hA⟩
 subst h4
 by_cases h5:e5=0
 rotate_left
 ·have hb5:(e5 != 0)=true:=by simpa using h5
  go_wp2_with fail
  go_ret
  exact ⟨rfl,hA⟩
 subst h5
 by_cases h6:e6=0
 rotate_left
 ·have hb6:(e6 != 0)=true:=by simpa using h6
  go_wp2_with fail
  go_ret
  exact ⟨rfl,hA⟩
 subst h6
 have hb:Below w8.heap.size w8 (w8.alloc (.cells #[.slice da data.length dc,.slice a1 d1.length c1,.slice a6 d6.length c6] 32)):=(Below.refl _ _).alloc (Nat.le_refl _) _
 have Q3:=heap_new w8 #[.slice da data.length dc,.slice a1 d1.length c1,.slice a6 d6.length c6] 32
 go_upto_region 14 with fail
 replace TX:=TX.next hb
 replace PX:=PX.next hb
 replace DX:=DX.next hb
 replace OX:=OX.next hb
 replace UX:=UX.next hb
 replace EL:=EL.next hb
 replace D1:=D1.next hb
 replace D2:=D2.next hb
 replace Z3:=Z3.next hb
 replace Z4:=Z4.next hb
 replace Z5:=Z5.next hb
 replace D6:=D6.next hb
 replace hA:=chain hA hb
 generalize w8.alloc (.cells #[.slice da data.length dc,.slice a1 d1.length c1,.slice a6 d6.length c6] 32)=w9 at *
 clear hb
 generalize hgb:w8.heap.size=gb at *
 clear hgb
 have k0:=cell_of (i:=0) Q3 rfl
 have k1:=cell_of (i:=1) Q3 rfl
 have k2:=cell_of (i:=2) Q3 rfl
 have kl:=lt_of_heap Q3
 clear Q3
 refine wp_loop_rounds 4 ?_
 rw [rounds_succ]
 have con:=evalT_at ts (data) p q ta tc da dc w9 TX DX PX HK.out
 generalize hq:evE ts (data) p=e10 at con
 clear hq
 try unfold plV at con
 obtain ⟨y0,y1,⟨y2,y3,y4,y5,y6,y7⟩,y8,y9,y10⟩:=EL.el
 simp only [Nat.zero_add] at y1 y2 y3 y4 y5 y6 y7 y8 y9 y10
 go_wp2_with fail
 refine con.mono ?_
 rintro e w10 ⟨v10,rfl,O10,hb⟩
 clear con O10
 clear y0 y1 y2 y3 y4 y5 y6 y7 y8 y9 y10
 replace k0:=(hb.cell (p:=⟨gb,0,none⟩) kl).trans k0
 replace k1:=(hb.cell (p:=⟨gb,1,none⟩) kl).trans k1
 replace k2:=(hb.cell (p:=⟨gb,2,none⟩) kl).trans k2
 replace kl:=Nat.lt_of_lt_of_le kl hb.size
 replace TX:=TX.next hb
 replace PX:=PX.next hb
 replace DX:=DX.next hb
 replace OX:=OX.next hb
 replace UX:=UX.next hb
 replace EL:=EL.next hb
 replace D1:=D1.next hb
 replace D2:=D2.next hb
 replace Z3:=Z3.next hb
 replace Z4:=Z4.next hb
 replace Z5:=Z5.next hb
 replace D6:=D6.next hb
 replace hA:=chain hA hb
 clear hb
 dsimp only
 by_cases h10:e10=0
 rotate_left
 ·have hb10:(e10 != 0)=true:=by simpa using h10
  go_wp2_with fail
  go_ret
  exact ⟨rfl,hA⟩
 subst h10
 go_wp2_with fail
 rw [rounds_succ]
 have con:=evalT_at ts (d1) p q ta tc a1 c1 w10 TX D1 PX HK.out
 generalize hq:evE ts (d1) p=e11 at con
 clear hq
 try unfold plV at con
 obtain ⟨y0,y1,⟨y2,y3,y4,y5,y6,y7⟩,y8,y9,y10⟩:=EL.el
 simp only [Nat.zero_add] at y1 y2 y3 y4 y5 y6 y7 y8 y9 y10
 go_wp2_with fail
 refine con.mono ?_
 rintro e w11 ⟨v11,rfl,O11,hb⟩
 clear con O11
 clear y0 y1 y2 y3 y4 y5 y6 y7 y8 y9 y10
 replace k0:=(hb.cell (p:=⟨gb,0,none⟩) kl).trans k0
 replace k1:=(hb.cell (p:=⟨gb,1,none⟩) kl).trans k1
 replace k2:=(hb.cell (p:=⟨gb,2,none⟩) kl).trans k2
 replace kl:=Nat.lt_of_lt_of_le kl hb.size
 replace TX:=TX.next hb
 replace PX:=PX.next hb
 replace DX:=DX.next hb
 replace OX:=OX.next hb
 replace UX:=UX.next hb
 replace EL:=EL.next hb
 replace D1:=D1.next hb
 replace D2:=D2.next hb
 replace Z3:=Z3.next hb
 replace Z4:=Z4.next hb
 replace Z5:=Z5.next hb
 replace D6:=D6.next hb
 replace hA:=chain hA hb
 clear hb
 dsimp only
 by_cases h11:e11=0
 rotate_left
 ·have hb11:(e11 != 0)=true:=by simpa using h11
  go_wp2_with fail
  go_ret
  exact ⟨rfl,hA⟩
 subst h11
 go_wp2_with fail
 rw [rounds_succ]
 have con:=evalT_at ts (d6) p q ta tc a6 c6 w11 TX D6 PX HK.out
 generalize hq:evE ts (d6) p=e12 at con
 clear hq
 try unfold plV at con
 obtain ⟨y0,y1,⟨y2,y3,y4,y5,y6,y7⟩,y8,y9,y10⟩:=EL.el
 simp only [Nat.zero_add] at y1 y2 y3 y4 y5 y6 y7 y8 y9 y10
 go_wp2_with fail
 refine con.mono ?_
 rintro e w12 ⟨v12,rfl,O12,hb⟩
 clear con O12
 clear y0 y1 y2 y3 y4 y5 y6 y7 y8 y9 y10
 replace k0:=(hb.cell (p:=⟨gb,0,none⟩) kl).trans k0
 replace k1:=(hb.cell (p:=⟨gb,1,none⟩) kl).trans k1
 replace k2:=(hb.cell (p:=⟨gb,2,none⟩) kl).trans k2
 replace kl:=Nat.lt_of_lt_of_le kl hb.size
 replace TX:=TX.next hb
 replace PX:=PX.next hb
 replace DX:=DX.next hb
 replace OX:=OX.next hb
 replace UX:=UX.next hb
 replace EL:=EL.next hb
 replace D1:=D1.next hb
 replace D2:=D2.next hb
 replace Z3:=Z3.next hb
 replace Z4:=Z4.next hb
 replace Z5:=Z5.next hb
 replace D6:=D6.next hb
 replace hA:=chain hA hb
 clear hb
 dsimp only
 by_cases h12:e12=0
 rotate_left
 ·have hb12:(e12 != 0)=true:=by simpa using h12
  go_wp2_with fail
  go_ret
  exact ⟨rfl,hA⟩
 subst h12
 go_wp2_with fail
 rw [rounds_succ]
 clear k0 k1 k2
 have con:=add_at a3 a4 c3 c4 z3 z4 w12 Z3 Z4 n3
 generalize hq:bothE 1 z3 z4=e20 at con
 have HE20:Hid (bothE 1 z3 z4=e20):=hq
 clear hq
 generalize hq:bothZ 1 z3 z4=z20 at con
 have HZ20:Hid (bothZ 1 z3 z4=z20):=hq
 clear hq
 go_wp2_with fail
 refine con.mono ?_
 rintro e w13 ⟨v20,rfl,O20,hb⟩
 clear con
 replace TX:=TX.next hb
 replace PX:=PX.next hb
 replace DX:=DX.next hb
 replace OX:=OX.next hb
 replace UX:=UX.next hb
 replace EL:=EL.next hb
 replace D1:=D1.next hb
 replace D2:=D2.next hb
 replace Z3:=Z3.next hb
 replace Z4:=Z4.next hb
 replace Z5:=Z5.next hb
 replace D6:=D6.next hb
 replace hA:=chain hA hb
 clear hb
 obtain ⟨a20,c20,rfl,Z20,n20⟩:=O20.zs2
 clear O20
 dsimp only
 by_cases h20:e20=0
 rotate_left
 ·have hb20:(e20 != 0)=true:=by simpa using h20
  go_wp2_with fail
  go_ret
  exact ⟨rfl,hA⟩
 subst h20
 have ez:z20=z5:=by
  have hb:=HE4.out
  rw [← HZ1.out] at hb
  have hc:=HE5.out
  rw [← HZ2.out] at hc
  have hs:=HE20.out
  rw [← HZ3.out,← HZ4.out,← HZ1.out] at hs
  have f:=chain_fact HE2.out HE3.out hb hc hs
  rw [← HZ20.out,← HZ5.out,← HZ3.out,← HZ4.out,← HZ1.out,← HZ2.out]
  exact f
 subst ez
 go_wp2_with fail
 refine (same_eq a20 a5 c20 c5 z20 w13 Z20 Z5).mono ?_
 rintro e wz ⟨rfl,hb⟩
 replace hA:=chain hA hb
 go_wp2_with fail
 go_ret
 exact ⟨rfl,hA⟩
end Go.Proofs.YtoefpglknaiaeaaGreat
