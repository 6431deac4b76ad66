/- The walk of tidelaw6.DeltaNothing. -/
import Derived.Test.YtoefpglknaiaeaaGreatB14
namespace Go.Proofs.YtoefpglknaiaeaaGreat
open Go.RowKit Go.Lib Go.Shelf

theorem make_sets8 {n:Nat} (h:n≤8) (w:World):(Instr.makeSlice 32 (.int .i64 n) (.int .i64 n)).run Tryz.prog w = .ok (.slice (some ⟨w.heap.size,0,none⟩) n n) (w.alloc (.cells (Array.replicate n (.slice none 0 0)) 38)):=by
 obtain rfl | rfl | rfl | rfl | rfl | rfl | rfl | rfl | rfl:n=0∨n=1∨n=2∨n=3∨n=4∨n=5∨n=6∨n=7∨n=8:=by omega
 all_goals kernel_rfl
theorem dt_nils (w:World) (n:Nat):DtAt (w.alloc (.cells (Array.replicate n (.slice none 0 0)) 38)) (some ⟨w.heap.size,0,none⟩) (List.replicate n []):=by
 have q:=heap_new w (Array.replicate n (.slice none 0 0)) 38
 refine .inr ⟨w.heap.size,0,fun _=>none,fun _=>0,rfl,by simp,fun i hi=>?_⟩
 have hi':i<n:=by simpa using hi
 rw [Nat.zero_add,List.getElem_replicate]
 exact ⟨cell_of (i:=i) q (by simp [hi']),⟨by simp,.inl rfl⟩,fun _=>rfl⟩

set_option maxRecDepth 100000 in
set_option maxHeartbeats 16000000 in
theorem deltaNothing_walk (ta:Option Addr) (tc:Nat) (ts:List (List Int)) (p:Pl) (q:Pw) (da:Option Addr) (dc:Nat) (data:List (List Zp)) (w:World) (hT:TbAt w.heap.size w ta ts) (hp:PlB w.heap.size w p q) (hk:PlOk p) (hD:DtAt w da data) (_hn:data.length≤10000000000000) :
  Calls Tryz.prog 9 #[.slice ta ts.length tc,plV p q,.slice da data.length dc] w fun e w'=>e = .returned (.bool true)∧Below w.heap.size w w':=by
 have TX:TbX w ta ts:=hT
 have PX:PlX w p q:=hp
 have DX:=hD
 have HK:Hid (PlOk p):=hk
 clear hT hp hD hk
 have hA:Below w.heap.size w w:=Below.refl _ _
 have hb:Below w.heap.size w (w.alloc (.cells #[.int .i64 p.k,.int .i64 p.n,.int .i64 p.x.k,.int .i64 p.x.v.1,.int .i64 p.x.v.2.1,.string p.x.v.2.2,.int .i64 p.x.c,.slice q.xa p.x.ks.length q.xc,.slice q.sa p.xs.length q.sc,.slice q.ga p.gs.length q.gc,.slice q.ka p.ks.length q.kc] 31)):=(Below.refl _ _).alloc (Nat.le_refl _) _
 replace TX:=TX.next hb
 replace PX:=PX.next hb
 replace DX:=DX.next hb
 replace hA:=chain hA hb
 have EL:ElX (w.alloc (.cells #[.int .i64 p.k,.int .i64 p.n,.int .i64 p.x.k,.int .i64 p.x.v.1,.int .i64 p.x.v.2.1,.string p.x.v.2.2,.int .i64 p.x.c,.slice q.xa p.x.ks.length q.xc,.slice q.sa p.xs.length q.sc,.slice q.ga p.gs.length q.gc,.slice q.ka p.ks.length q.kc] 31)) w.heap.size p q:=⟨Elv.new w p q 31,by simp⟩
 unfold plV
 go_enter Tryz.func9,Tryz.ntmps9
 go_upto_region 1 with fail
 generalize w.alloc (.cells #[.int .i64 p.k,.int .i64 p.n,.int .i64 p.x.k,.int .i64 p.x.v.1,.int .i64 p.x.v.2.1,.string p.x.v.2.2,.int .i64 p.x.c,.slice q.xa p.x.ks.length q.xc,.slice q.sa p.xs.length q.sc,.slice q.ga p.gs.length q.gc,.slice q.ka p.ks.length q.kc] 31)=w1 at *
 clear hb
 have con:=alive6_at w1
 go_wp2_with fail
 refine con.mono ?_
 rintro e w2 ⟨rfl,hb⟩
 clear con
 replace TX:=TX.next hb
 replace PX:=PX.next hb
 replace DX:=DX.next hb
 replace EL:=EL.next hb
 replace hA:=chain hA hb
 clear hb
 dsimp only
 have con:=evalT_at ts (data) p q ta tc da dc w2 TX DX PX HK.out
 generalize hq:evE ts (data) p=e1 at con
 have HE1:Hid (evE ts (data) p=e1):=hq
 clear hq
 generalize hq:evZ ts (data) p=z1 at con
 have HZ1:Hid (evZ ts (data) p=z1):=hq
 clear hq
 try unfold plV at con
 obtain ⟨y0,y1,⟨y2,y3,y4,y5,y6,y7⟩,y8,y9,y10⟩:=EL.el
 simp only [Nat.zero_add] at y1 y2 y3 y4 y5 y6 y7 y8 y9 y10
 go_wp2_with fail
 refine con.mono ?_
 rintro e w3 ⟨v1,rfl,O1,hb⟩
 clear con
 clear y0 y1 y2 y3 y4 y5 y6 y7 y8 y9 y10
 replace TX:=TX.next hb
 replace PX:=PX.next hb
 replace DX:=DX.next hb
 replace EL:=EL.next hb
 replace hA:=chain hA hb
 clear hb
 obtain ⟨a1,c1,rfl,Z1,n1⟩:=O1.zs2
 clear O1
 dsimp only
 by_cases h1:e1=0
 rotate_left
 ·have hb1:(e1 != 0)=true:=by simpa using h1
  go_wp2_with fail
  go_ret
  exact ⟨rfl,hA⟩
 subst h1
 have h8:data.length≤8:=by
  obtain ⟨l1,l2,_,_⟩:=ev_inv HE1.out
  rw [(dataE_ok l2).1]
  exact tabsL (lookE_ok l1).1
 obtain ⟨f1,f2⟩:=nothing_fact HE1.out
 have F1:Hid (ofDE ts p data (List.replicate data.length [])=0):=f1
 have F2:Hid (ofDZ ts p data (List.replicate data.length []) = []):=f2
 clear f1 f2 HE1 HZ1 Z1 n1
 obtain ⟨V,hV⟩:∃ V,V=Value.agg #[.int .i64 p.k,.int .i64 p.n,.int .i64 p.x.k,.int .i64 p.x.v.1,.int .i64 p.x.v.2.1,.string p.x.v.2.2,.int .i64 p.x.c,.slice q.xa p.x.ks.length q.xc,.slice q.sa p.xs.length q.sc,.slice q.ga p.gs.length q.gc,.slice q.ka p.ks.length q.kc]:=⟨_,rfl⟩
 have HV:Hid (V=Value.agg #[.int .i64 p.k,.int .i64 p.n,.int .i64 p.x.k,.int .i64 p.x.v.1,.int .i64 p.x.v.2.1,.string p.x.v.2.2,.int .i64 p.x.c,.slice q.xa p.x.ks.length q.xc,.slice q.sa p.xs.length q.sc,.slice q.ga p.gs.length q.gc,.slice q.ka p.ks.length q.kc]):=hV
 clear hV
 generalize hgb:w.heap.size=gb at EL ⊢
 have HGB:Hid (w.heap.size=gb):=hgb
 clear hgb
 go_wp2_with fail
 have hCC:∀ W W':World,ElX W gb p q→Below W.heap.size W W'→ElX W' gb p q:=fun W W' h hb=>h.next hb
 have hd:Below w3.heap.size w3 w3.drew:=(Below.refl _ _).drew
 have CW:=hCC _ _ EL hd
 refine wp_region_cls (fun W=>ElX W gb p q) (by kernel_rfl) ?_
 refine wpY_take hCC (some 23) (i:=0) (v:=.slice ta ts.length tc) rfl rfl (by kernel_rfl) (by kernel_rfl) (by kernel_rfl) (fun _ _ _ h=>h) (Or.inl ⟨rfl,fun n hn=>?_⟩) CW ?_
 ·clear hn CW hCC TX PX DX EL HK F1 F2 HV
  go_simp
 simp only [Act.put,pA,pB,pC]
 refine wpY_take hCC (some 24) (i:=1) (v:=V) rfl rfl (by kernel_rfl) (by kernel_rfl) (by kernel_rfl) (fun _ _ _ h=>h) (Or.inl ⟨rfl,fun n hn=>?_⟩) CW ?_
 ·obtain ⟨y0,y1,⟨y2,y3,y4,y5,y6,y7⟩,y8,y9,y10⟩:=hn.el
  simp only [Nat.zero_add] at y1 y2 y3 y4 y5 y6 y7 y8 y9 y10
  rw [HV.out]
  clear hn CW hCC TX PX DX EL HK F1 F2 HV
  go_simp
 simp only [Act.put,pA,pB,pC]
 refine wpY_take hCC (some 25) (i:=2) (v:=.slice da data.length dc) rfl rfl (by kernel_rfl) (by kernel_rfl) (by kernel_rfl) (fun _ _ _ h=>h) (Or.inl ⟨rfl,fun n hn=>?_⟩) CW ?_
 ·clear hn CW hCC TX PX DX EL HK F1 F2 HV
  go_simp
 simp only [Act.put,pA,pB,pC]
 refine wpY_take hCC (some 26) (i:=3) (v:=.slice da data.length dc) rfl rfl (by kernel_rfl) (by kernel_rfl) (by kernel_rfl) (fun _ _ _ h=>h) (Or.inl ⟨rfl,fun n hn=>?_⟩) CW ?_
 ·clear hn CW hCC TX PX DX EL HK F1 F2 HV
  go_simp
 simp only [Act.put,pA,pB,pC]
 refine wpY_take hCC (some 27) (i:=4) (v:=.int .i64 data.length) rfl rfl (by kernel_rfl) (by kernel_rfl) (by kernel_rfl) (fun _ _ _ h=>h) (Or.inl ⟨rfl,fun n hn=>?_⟩) CW ?_
 ·clear hn CW hCC TX PX DX EL HK F1 F2 HV
  go_simp
 simp only [Act.put,pA,pB,pC]
 refine wpY_step (rs:=[5]) (by kernel_rfl) (by simp) ?_
 intro w6 hb6 jj hjj
 obtain rfl:jj=5:=by simpa using hjj
 clear hjj
 have CW6:=hCC _ _ CW hb6
 have D6:=chain hd hb6
 have hmk:=make_sets8 h8 w6
 have hal:Below w6.heap.size w6 (w6.alloc (.cells (Array.replicate data.length (.slice none 0 0)) 38)):=(Below.refl _ _).alloc (Nat.le_refl _) _
 have DN:=dt_nils w6 data.length
 refine wpOp_step rfl (fun K hK=>?_)
 go_simp
 have CW7:=hCC _ _ CW6 hal
 refine hK _ _ ⟨CW7,?_⟩
 clear hK K CW6 CW hmk
 have D7:=chain D6 hal
 generalize w6.alloc (.cells (Array.replicate data.length (.slice none 0 0)) 38)=w7 at *
 generalize w6.heap.size=gn at *
 refine wpY_step (rs:=[6]) (by kernel_rfl) (by simp) ?_
 intro w8 hb8 jj hjj
 obtain rfl:jj=6:=by simpa using hjj
 clear hjj
 have D8:=chain D7 hb8
 have con:=ofD_at ts p q data (List.replicate data.length []) ta tc da dc (some ⟨gn,0,none⟩) data.length w8 (TX.next D8) (PX.next D8) HK.out (DX.next D8) (DN.next hb8)
 rw [F1.out,F2.out,List.length_replicate] at con
 unfold plV at con
 rw [← HV.out] at con
 refine wpOp_step rfl (fun K hK=>?_)
 go_simp
 refine con.mono ?_
 rintro e w9 ⟨v9,rfl,O9,hb9⟩
 clear con
 obtain ⟨a9,c9,rfl,_,_⟩:=O9.zs2
 have CW9:=hCC _ _ CW7 (chain hb8 hb9)
 refine hK _ _ ⟨CW9,?_⟩
 clear hK K CW7 O9
 have D9:=chain D8 hb9
 try simp only [Act.put,pA,pB,pC]
 refine wpY_take hCC (some 22) (i:=7) (v:=.tuple #[.slice a9 0 c9,.int .i64 0]) rfl rfl (by kernel_rfl) (by kernel_rfl) (by kernel_rfl) (fun _ _ _ h=>h) (Or.inl ⟨rfl,fun n hn=>?_⟩) CW9 ?_
 ·clear hn CW9 hCC TX PX DX EL HK F1 F2 HV DN
  go_simp
 simp only [Act.put,pA,pB,pC]
 refine wpY_take hCC (some 30) (i:=8) (v:=.slice a9 0 c9) rfl rfl (by kernel_rfl) (by kernel_rfl) (by kernel_rfl) (fun _ _ _ h=>h) (Or.inl ⟨rfl,fun n hn=>?_⟩) CW9 ?_
 ·clear hn CW9 hCC TX PX DX EL HK F1 F2 HV DN
  go_simp
 simp only [Act.put,pA,pB,pC]
 refine wpY_take hCC (some 31) (i:=9) (v:=.int .i64 0) rfl rfl (by kernel_rfl) (by kernel_rfl) (by kernel_rfl) (fun _ _ _ h=>h) (Or.inl ⟨rfl,fun n hn=>?_⟩) CW9 ?_
 ·clear hn CW9 hCC TX PX DX EL HK F1 F2 HV DN
  go_simp
 simp only [Act.put,pA,pB,pC]
 refine wpY_take hCC (some 9) (i:=10) (v:=.slice a9 0 c9) rfl rfl (by kernel_rfl) (by kernel_rfl) (by kernel_rfl) (fun _ _ _ h=>h) (Or.inl ⟨rfl,fun n hn=>?_⟩) CW9 ?_
 ·clear hn CW9 hCC TX PX DX EL HK F1 F2 HV DN
  go_simp
 simp only [Act.put,pA,pB,pC]
 refine wpY_take hCC (some 10) (i:=11) (v:=.int .i64 0) rfl rfl (by kernel_rfl) (by kernel_rfl) (by kernel_rfl) (fun _ _ _ h=>h) (Or.inl ⟨rfl,fun n hn=>?_⟩) CW9 ?_
 ·clear hn CW9 hCC TX PX DX EL HK F1 F2 HV DN
  go_simp
 simp only [Act.put,pA,pB,pC]
 refine wpY_done (by kernel_rfl) ?_
 intro w10 hb10
 have hA:=chain hA (chain D9 hb10)
 clear CW9 hCC hb10
 go_wp2_with fail
 go_ret
 exact ⟨rfl,hA⟩
end Go.Proofs.YtoefpglknaiaeaaGreat
