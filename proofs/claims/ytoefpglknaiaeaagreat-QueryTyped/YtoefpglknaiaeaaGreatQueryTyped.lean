/- The walk of tidelaw5.QueryTyped. -/
import Derived.Test.YtoefpglknaiaeaaGreatB14
namespace Go.Proofs.YtoefpglknaiaeaaGreat
open Go.RowKit Go.Lib Go.Shelf

set_option maxRecDepth 100000 in
set_option maxHeartbeats 8000000 in
theorem queryTyped_walk (ta:Option Addr) (tc:Nat) (ts:List (List Int)) (p:Pl) (q:Pw) (da:Option Addr) (dc:Nat) (data:List (List Zp)) (w:World) (hT:TbAt w.heap.size w ta ts) (hp:PlB w.heap.size w p q) (hk:PlOk p) (hD:DtAt w da data) (_hn:data.length≤10000000000000) :
  Calls Tryz.prog 4 #[.slice ta ts.length tc,plV p q,.slice da data.length dc] w fun e w'=>e = .returned (.bool true)∧Below w.heap.size w w':=by
 have TX:TbX w ta ts:=hT
 have PX:PlX w p q:=hp
 have DX:=hD
 have HK:Hid (PlOk p):=hk
 clear hT hp hD hk
 have hA:Below w.heap.size w w:=Below.refl _ _
 have hb:Below w.heap.size w (w.alloc (.cells #[.int .i64 p.k,.int .i64 p.n,.int .i64 p.x.k,.int .i64 p.x.v.1,.int .i64 p.x.v.2.1,.string p.x.v.2.2,.int .i64 p.x.c,.slice q.xa p.x.ks.length q.xc,.slice q.sa p.xs.length q.sc,.slice q.ga p.gs.length q.gc,.slice q.ka p.ks.length q.kc] 31)):=(Below.refl _ _).alloc (Nat.le_refl _) _
 replace TX:=TX.next hb
 replace PX:=PX.next hb
 replace DX:=DX.next hb
 replace hA:=chain hA hb
 have EL:ElX (w.alloc (.cells #[.int .i64 p.k,.int .i64 p.n,.int .i64 p.x.k,.int .i64 p.x.v.1,.int .i64 p.x.v.2.1,.string p.x.v.2.2,.int .i64 p.x.c,.slice q.xa p.x.ks.length q.xc,.slice q.sa p.xs.length q.sc,.slice q.ga p.gs.length q.gc,.slice q.ka p.ks.length q.kc] 31)) w.heap.size p q:=⟨Elv.new w p q 31,by simp⟩
 unfold plV
 go_enter Tryz.func4,Tryz.ntmps4
 go_upto_region 1 with fail
 generalize w.alloc (.cells #[.int .i64 p.k,.int .i64 p.n,.int .i64 p.x.k,.int .i64 p.x.v.1,.int .i64 p.x.v.2.1,.string p.x.v.2.2,.int .i64 p.x.c,.slice q.xa p.x.ks.length q.xc,.slice q.sa p.xs.length q.sc,.slice q.ga p.gs.length q.gc,.slice q.ka p.ks.length q.kc] 31)=w1 at *
 clear hb
 have con:=alive5_at w1
 go_wp2_with fail
 refine con.mono ?_
 rintro e w2 ⟨rfl,hb⟩
 clear con
 replace TX:=TX.next hb
 replace PX:=PX.next hb
 replace DX:=DX.next hb
 replace EL:=EL.next hb
 replace hA:=chain hA hb
 clear hb
 dsimp only
 have con:=colsQ_at ts p q ta tc w2 TX PX HK.out
 generalize hq:colsT ts p=cs at con
 have HC:Hid (colsT ts p=cs):=hq
 clear hq
 generalize hq:lookE ts p=e1 at con
 have HE1:Hid (lookE ts p=e1):=hq
 clear hq
 try unfold plV at con
 obtain ⟨y0,y1,⟨y2,y3,y4,y5,y6,y7⟩,y8,y9,y10⟩:=EL.el
 simp only [Nat.zero_add] at y1 y2 y3 y4 y5 y6 y7 y8 y9 y10
 go_wp2_with fail
 refine con.mono ?_
 rintro e w3 ⟨a1,c1,rfl,I1,hb⟩
 clear con
 clear y0 y1 y2 y3 y4 y5 y6 y7 y8 y9 y10
 replace TX:=TX.next hb
 replace PX:=PX.next hb
 replace DX:=DX.next hb
 replace EL:=EL.next hb
 replace hA:=chain hA hb
 clear hb
 replace I1:IX _ a1 cs:=I1
 dsimp only
 have con:=evalT_at ts (data) p q ta tc da dc w3 TX DX PX HK.out
 generalize hq:evE ts (data) p=e2 at con
 have HE2:Hid (evE ts (data) p=e2):=hq
 clear hq
 generalize hq:evZ ts (data) p=z2 at con
 have HZ2:Hid (evZ ts (data) p=z2):=hq
 clear hq
 try unfold plV at con
 obtain ⟨y0,y1,⟨y2,y3,y4,y5,y6,y7⟩,y8,y9,y10⟩:=EL.el
 simp only [Nat.zero_add] at y1 y2 y3 y4 y5 y6 y7 y8 y9 y10
 go_wp2_with fail
 refine con.mono ?_
 rintro e w4 ⟨v2,rfl,O2,hb⟩
 clear con
 clear y0 y1 y2 y3 y4 y5 y6 y7 y8 y9 y10
 replace TX:=TX.next hb
 replace PX:=PX.next hb
 replace DX:=DX.next hb
 replace EL:=EL.next hb
 replace I1:=I1.next hb
 replace hA:=chain hA hb
 clear hb
 obtain ⟨a2,c2,rfl,Z2,n2⟩:=O2.zs2
 clear O2
 dsimp only
 by_cases h1:e1=0
 rotate_left
 ·have hb1:(e1 != 0)=true:=by simpa using h1
  have hl:¬ lookE ts p=0:=by rw [HE1.out]; exact h1
  have x1:e2=e1:=by rw [← HE2.out,(evE_look hl).1,HE1.out]
  have x2:z2 = []:=by rw [← HZ2.out,(evE_look hl).2]
  have x3:cs = []:=by rw [← HC.out]; unfold colsT; rw [if_neg hl]
  subst x1 x2 x3
  clear HE1 HE2 HZ2 HC Z2 I1
  go_wp2_with fail
  go_ret
  exact ⟨rfl,hA⟩
 subst h1
 by_cases h2:e2=0
 rotate_left
 ·have hb2:(e2 != 0)=true:=by simpa using h2
  have x2:z2 = []:=by rw [← HZ2.out]; exact ev_none (by rw [HE2.out]; exact h2)
  subst x2
  clear HE1 HE2 HZ2 HC Z2 I1
  go_wp2_with fail
  go_ret
  exact ⟨rfl,hA⟩
 subst h2
 have ok:ZOk cs z2:=by
  have h:=ev_ok HE2.out
  rw [HZ2.out] at h
  have hc:colsP ts p=cs:=by rw [← HC.out]; unfold colsT; rw [if_pos HE1.out]
  rwa [hc] at h
 have OK:Hid (ZOk cs z2):=ok
 have hzl:z2.length≤400:=((wrongZ_iff _).1 ok.right).1
 clear ok HE1 HE2 HZ2 HC
 have con:=zWrong_at a2 c2 z2 w4 Z2
 rw [OK.out.right] at con
 go_wp2_with fail
 refine con.mono ?_
 rintro e w5 ⟨rfl,hb⟩
 clear con
 replace TX:=TX.next hb
 replace PX:=PX.next hb
 replace DX:=DX.next hb
 replace EL:=EL.next hb
 replace I1:=I1.next hb
 replace Z2:=Z2.next hb
 replace hA:=chain hA hb
 clear hb
 go_wp2_with fail
 go_loopw [51] (fun i wr=>∃ j:Nat,j≤z2.length∧i = .int .i64 j∧Below w5.heap.size w5 wr) (fun i _=>z2.length - (intOf i).toNat)
 case atStart=>exact ⟨0,Nat.zero_le _,rfl,Below.refl _ _⟩
 case round =>
  obtain ⟨j,hj,rfl,hb⟩:=hrel
  by_cases hlt:j<z2.length
  ·obtain ⟨b,off,rfl,hbl,x1,ar,cr,x0,sr⟩:=(Z2.next hb).elem hlt
   have hjz:(j:Int)<(z2.length:Int):=by omega
   have hal:Below wr.heap.size wr (wr.alloc (.cells #[.slice ar z2[j].1.length cr,.int .i64 z2[j].2] 47)):=(Below.refl _ _).alloc (Nat.le_refl _) _
   have cc:=cell_of (i:=0) (heap_new wr #[.slice ar z2[j].1.length cr,.int .i64 z2[j].2] 47) rfl
   have con:=fits_at cs z2[j].1 a1 c1 ar cr _ ((I1.next hb).next hal) (sr.next hal)
   rw [(fitsL_ok _ _).2 (OK.out.inp.fit z2[j] (List.getElem_mem hlt))] at con
   go_upto_region 14 with fail
   clear x0 x1
   generalize wr.alloc (.cells #[.slice ar z2[j].1.length cr,.int .i64 z2[j].2] 47)=wk at *
   go_wp2_with fail
   refine con.mono ?_
   rintro e w9 ⟨rfl,hb9⟩
   clear con cc
   have hb9':=chain hb (chain hal hb9)
   go_wp2_with fail
   go_roundw
   case rel=>exact ⟨j+1,by omega,by go_num,hb9'⟩
   case measure=>simp [intOf]; omega
  ·have hjn:¬ (j:Int)<(z2.length:Int):=by omega
   go_wp2_with fail
   go_ret
   exact ⟨rfl,chain hA hb⟩
end Go.Proofs.YtoefpglknaiaeaaGreat
