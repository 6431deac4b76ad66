/- The walk of tidelaw5.QueryPlaces. -/
import Derived.Test.YtoefpglknaiaeaaGreatB14
namespace Go.Proofs.YtoefpglknaiaeaaGreat
open Go.RowKit Go.Lib Go.Shelf

theorem raw_sets {W:World} {a:Option Addr} {l:List (List Zp)} (h:DtAt W a l):∃ cs:List Value,Raw W a l.length 1 cs∧∀ (i:Nat) (hi:i<l.length),∃ ai ci,cs[i]? = some (.slice ai l[i].length ci)∧ZsAt W ai l[i]∧(ai=none→ci=0):=by
 rcases h with h | ⟨b,off,ai,ci,e,hlt,h⟩
 ·subst h
  exact ⟨[],⟨rfl,fun u hu=>(by cases hu),fun _=>rfl,fun ad _ j u hj=>(by simp at hj)⟩,fun i hi=>(by simp at hi)⟩
 ·refine ⟨(List.range l.length).map fun i=>.slice (ai i) (l.getD i []).length (ci i),⟨by simp,fun u hu=>?_,fun e'=>(by rw [e] at e'; cases e'),fun ad e' j u hj=>?_⟩,fun i hi=>⟨ai i,ci i,?_,(h i hi).2.1,(h i hi).2.2⟩⟩
  ·obtain ⟨i,_,rfl⟩:=List.mem_map.1 hu
   rfl
  ·rw [e] at e'
   have e':=Option.some.inj e'
   subst e'
   rw [List.getElem?_map] at hj
   by_cases hi:j<l.length
   ·rw [List.getElem?_eq_getElem (by simpa using hi),List.getElem_range] at hj
    have hj:=Option.some.inj hj
    rw [← hj,addr_addX,(h j hi).1]
    show _=some (Value.slice (ai j) (l.getD j []).length (ci j))
    rw [List.getD_eq_getElem?_getD,List.getElem?_eq_getElem hi]
    rfl
   ·rw [List.getElem?_eq_none (by simpa using hi)] at hj
    cases hj
  ·rw [List.getElem?_map,List.getElem?_eq_getElem (by simpa using hi),List.getElem_range]
   show some (Value.slice (ai i) (l.getD i []).length (ci i))=_
   rw [List.getD_eq_getElem?_getD,List.getElem?_eq_getElem hi]
   rfl
theorem dt_put {w w5:World} {l:List (List Zp)} {cs:List Value} {v:Value} {k:Nat} {ra:Option Addr} {rc:Nat} {rows:List Zp} (hc:∀ (i:Nat) (hi:i<l.length),∃ ai ci,cs[i]? = some (.slice ai l[i].length ci)∧ZsAt w ai l[i]∧(ai=none→ci=0))
  (ho:w5.ownsRow w.heap.size 38 1 v l.length cs) (hb:Below w.heap.size w w5) (hk:k<l.length) (hz:ZsAt w ra rows) (hn:ra=none→rc=0) :
  ∃ g cap,v = .slice (some ⟨g,0,none⟩) l.length cap∧(∃ u,w5.cell? ⟨g,k,none⟩=some u)∧w5.frozen? ⟨g,k,none⟩=false∧Below w.heap.size w (w5.setCell ⟨g,k,none⟩ (.slice ra rows.length rc))∧DtAt (w5.setCell ⟨g,k,none⟩ (.slice ra rows.length rc)) (some ⟨g,0,none⟩) (l.set k rows):=by
 have ho':=ho
 obtain ⟨hx,⟨rfl,h0⟩ | ⟨g,cap,cur,rfl,hg,hh,hn',hcc,hs,ht⟩⟩:=ho
 ·omega
 have cell:∀ (i:Nat) (hi:i<l.length),w5.cell? ⟨g,i,none⟩=cs[i]?:=fun i hi=>ho'.cellAt i (by omega)
 have hb6:Below w.heap.size w (w5.setCell ⟨g,k,none⟩ (.slice ra rows.length rc)):=hb.setCell (p:=⟨g,k,none⟩) hg _
 obtain ⟨ak,ck,ek,_⟩:=hc k hk
 have ck5:w5.cell? ⟨g,k,none⟩=some (.slice ak l[k].length ck):=(cell k hk).trans ek
 refine ⟨g,cap,rfl,⟨_,ck5⟩,frozen_of_row w5 g k _ _ hh,hb6,?_⟩
 have key:∀ (i:Nat) (hi:i<(l.set k rows).length),∃ (y:Option Addr × Nat),(w5.setCell ⟨g,k,none⟩ (.slice ra rows.length rc)).cell? ⟨g,i,none⟩=some (.slice y.1 (l.set k rows)[i].length y.2)∧ZsAt (w5.setCell ⟨g,k,none⟩ (.slice ra rows.length rc)) y.1 (l.set k rows)[i]∧(y.1=none→y.2=0):=fun i hi=>by
  have hi':i<l.length:=by simpa using hi
  by_cases e:i=k
  ·subst e
   rw [List.getElem_set_self]
   exact ⟨(ra,rc),World.cell?_setCell_same _ _ _ ck5,hz.next hb6,hn⟩
  ·obtain ⟨ai,ci,e1,e2,e3⟩:=hc i hi'
   rw [List.getElem_set_ne (Ne.symm e)]
   exact ⟨(ai,ci),by rw [World.cell?_setCell_other _ _ _ _ (by intro e'; injection e' with _ e'; exact e e'.symm),cell i hi',e1],e2.next hb6,e3⟩
 obtain ⟨f,hf⟩:=Go.Deep.choose_lt (α:=Option Addr × Nat) (n:=(l.set k rows).length) (p:=fun i y=>∃ hi:i<(l.set k rows).length,(w5.setCell ⟨g,k,none⟩ (.slice ra rows.length rc)).cell? ⟨g,i,none⟩=some (.slice y.1 (l.set k rows)[i].length y.2)∧ZsAt (w5.setCell ⟨g,k,none⟩ (.slice ra rows.length rc)) y.1 (l.set k rows)[i]∧(y.1=none→y.2=0)) (fun i hi=>by obtain ⟨y,hy⟩:=key i hi; exact ⟨y,hi,hy⟩)
 refine .inr ⟨g,0,fun i=>(f i).1,fun i=>(f i).2,rfl,?_,fun i hi=>?_⟩
 ·exact Nat.lt_of_lt_of_le (lt_of_heap hh) (by simp)
 ·obtain ⟨_,h1⟩:=hf i hi
  rw [Nat.zero_add]
  exact h1

set_option maxRecDepth 100000 in
set_option maxHeartbeats 8000000 in
theorem queryPlaces_walk (ta:Option Addr) (tc:Nat) (ts:List (List Int)) (p:Pl) (q:Pw) (da:Option Addr) (dc:Nat) (data:List (List Zp)) (k:Int) (ra:Option Addr) (rc:Nat) (rows:List Zp) (w:World) (hT:TbAt w.heap.size w ta ts) (hp:PlB w.heap.size w p q) (hk:PlOk p) (hD:DtAt w da data) (hn:data.length≤10000000000000) (hR:ZsAt w ra rows) (nR:ra=none→rc=0) :
  Calls Tryz.prog 5 #[.slice ta ts.length tc,plV p q,.slice da data.length dc,.int .i64 k,.slice ra rows.length rc] w fun e w'=>e = .returned (.bool true)∧Below w.heap.size w w':=by
 have TX:TbX w ta ts:=hT
 have PX:PlX w p q:=hp
 have DX:=hD
 have HK:Hid (PlOk p):=hk
 clear hT hp hD hk
 have RX:=hR
 clear hR
 obtain ⟨i0,hi,hj0,hj1,hj2⟩:=info_parts infoS
 have hA:Below w.heap.size w w:=Below.refl _ _
 have hb:Below w.heap.size w (w.alloc (.cells #[.int .i64 p.k,.int .i64 p.n,.int .i64 p.x.k,.int .i64 p.x.v.1,.int .i64 p.x.v.2.1,.string p.x.v.2.2,.int .i64 p.x.c,.slice q.xa p.x.ks.length q.xc,.slice q.sa p.xs.length q.sc,.slice q.ga p.gs.length q.gc,.slice q.ka p.ks.length q.kc] 31)):=(Below.refl _ _).alloc (Nat.le_refl _) _
 replace TX:=TX.next hb
 replace PX:=PX.next hb
 replace DX:=DX.next hb
 replace RX:=RX.next hb
 replace hA:=chain hA hb
 have EL:ElX (w.alloc (.cells #[.int .i64 p.k,.int .i64 p.n,.int .i64 p.x.k,.int .i64 p.x.v.1,.int .i64 p.x.v.2.1,.string p.x.v.2.2,.int .i64 p.x.c,.slice q.xa p.x.ks.length q.xc,.slice q.sa p.xs.length q.sc,.slice q.ga p.gs.length q.gc,.slice q.ka p.ks.length q.kc] 31)) w.heap.size p q:=⟨Elv.new w p q 31,by simp⟩
 unfold plV
 go_enter Tryz.func5,Tryz.ntmps5
 go_upto_region 1 with fail
 generalize w.alloc (.cells #[.int .i64 p.k,.int .i64 p.n,.int .i64 p.x.k,.int .i64 p.x.v.1,.int .i64 p.x.v.2.1,.string p.x.v.2.2,.int .i64 p.x.c,.slice q.xa p.x.ks.length q.xc,.slice q.sa p.xs.length q.sc,.slice q.ga p.gs.length q.gc,.slice q.ka p.ks.length q.kc] 31)=w1 at *
 clear hb
 have con:=alive5_at w1
 go_wp2_with fail
 refine con.mono ?_
 rintro e w2 ⟨rfl,hb⟩
 clear con
 replace TX:=TX.next hb
 replace PX:=PX.next hb
 replace DX:=DX.next hb
 replace RX:=RX.next hb
 replace EL:=EL.next hb
 replace hA:=chain hA hb
 clear hb
 dsimp only
 have con:=evalT_at ts (data) p q ta tc da dc w2 TX DX PX HK.out
 generalize hq:evE ts (data) p=e1 at con
 have HE1:Hid (evE ts (data) p=e1):=hq
 clear hq
 generalize hq:evZ ts (data) p=z1 at con
 have HZ1:Hid (evZ ts (data) p=z1):=hq
 clear hq
 try unfold plV at con
 obtain ⟨y0,y1,⟨y2,y3,y4,y5,y6,y7⟩,y8,y9,y10⟩:=EL.el
 simp only [Nat.zero_add] at y1 y2 y3 y4 y5 y6 y7 y8 y9 y10
 go_wp2_with fail
 refine con.mono ?_
 rintro e w3 ⟨v1,rfl,O1,hb⟩
 clear con
 clear y0 y1 y2 y3 y4 y5 y6 y7 y8 y9 y10
 replace TX:=TX.next hb
 replace PX:=PX.next hb
 replace DX:=DX.next hb
 replace RX:=RX.next hb
 replace EL:=EL.next hb
 replace hA:=chain hA hb
 clear hb
 obtain ⟨a1,c1,rfl,Z1,n1⟩:=O1.zs2
 clear O1
 dsimp only
 by_cases h1:e1=0
 rotate_left
 ·have hb1:(e1 != 0)=true:=by simpa using h1
  go_wp2_with fail
  go_ret
  exact ⟨rfl,hA⟩
 subst h1
 by_cases hk0:k<0
 ·go_wp2_with fail
  go_ret
  exact ⟨rfl,hA⟩
 by_cases hkl:(data.length:Int)≤k
 ·go_wp2_with fail
  go_ret
  exact ⟨rfl,hA⟩
 obtain ⟨j,rfl⟩:∃ j:Nat,k=j:=⟨k.toNat,by omega⟩
 have hj:j<data.length:=by omega
 have hjz:(j:Int)<(data.length:Int):=by omega
 have con:=speaks_all ts j p q 0 1 w3 (lookE_ok (ev_inv HE1.out).1).2 PX
 generalize hq:spkB j p=sb at con
 have HS:Hid (spkB j p=sb):=hq
 clear hq
 try unfold plV at con
 obtain ⟨y0,y1,⟨y2,y3,y4,y5,y6,y7⟩,y8,y9,y10⟩:=EL.el
 simp only [Nat.zero_add] at y1 y2 y3 y4 y5 y6 y7 y8 y9 y10
 go_wp2_with fail
 refine con.mono ?_
 rintro e w4 ⟨rfl,hb⟩
 clear con
 clear y0 y1 y2 y3 y4 y5 y6 y7 y8 y9 y10
 replace TX:=TX.next hb
 replace PX:=PX.next hb
 replace DX:=DX.next hb
 replace RX:=RX.next hb
 replace EL:=EL.next hb
 replace Z1:=Z1.next hb
 replace hA:=chain hA hb
 clear hb
 dsimp only
 cases sb with
 | true =>
  go_wp2_with fail
  go_ret
  exact ⟨rfl,hA⟩
 | false =>
  have h8:data.length≤8:=by
   obtain ⟨l1,l2,_,_⟩:=ev_inv HE1.out
   rw [(dataE_ok l2).1]
   exact tabsL (lookE_ok l1).1
  have hal:Below w4.heap.size w4 (w4.alloc (.cells #[] 38)):=(Below.refl _ _).alloc (Nat.le_refl _) _
  obtain ⟨cs,R,hcs⟩:=raw_sets DX
  have R1:=R.next hal
  have ho:(w4.alloc (.cells #[] 38)).ownsRow w4.heap.size 38 1 (.slice (some ⟨w4.heap.size,0,none⟩) 0 0) 0 []:=World.ownsRow_made w4 #[] 0 (Nat.le_refl _) (by decide) rfl
  go_upto_region 7 with (at_builtin; refine wpList_append_raw rfl _ _ 32 rfl w4.heap.size 38 i0 _ 1 24 Tryz.underlying32 hi hj0 hj1 hj2 rfl (by decide) _ _ _ rfl ho _ _ _ _ rfl R1 (by unfold maxLen; omega) (by omega) (by simp) ?_)
  intro v' w5 ho5 hg5
  have hb5:Below w4.heap.size w4 w5:=hal.grown hg5 (by simp) (fun q hq=>(ho.lt q hq).1)
  have ho5':w5.ownsRow w4.heap.size 38 1 v' data.length cs:=by simpa using ho5
  obtain ⟨gb,gc,rfl,⟨u5,cu⟩,fz,hb6,D6⟩:=dt_put hcs ho5' hb5 hj RX nR
  clear hal R R1 ho ho5 hg5 hcs ho5' hb5
  go_upto_region 8 with fail
  clear cu fz
  generalize w5.setCell ⟨gb,j,none⟩ (.slice ra rows.length rc)=w6 at *
  replace TX:=TX.next hb6
  replace PX:=PX.next hb6
  replace DX:=DX.next hb6
  replace RX:=RX.next hb6
  replace EL:=EL.next hb6
  replace Z1:=Z1.next hb6
  replace hA:=chain hA hb6
  clear hb6
  have hls:(data.set j rows).length=data.length:=List.length_set ..
  have HLS:Hid ((data.set j rows).length=data.length):=hls
  clear hls
  have con:=evalT_at ts (data.set j rows) p q ta tc (some ⟨gb,0,none⟩) gc w6 TX D6 PX HK.out
  rw [HLS.out] at con
  generalize hq:evE ts (data.set j rows) p=e2 at con
  have HE2:Hid (evE ts (data.set j rows) p=e2):=hq
  clear hq
  generalize hq:evZ ts (data.set j rows) p=z2 at con
  have HZ2:Hid (evZ ts (data.set j rows) p=z2):=hq
  clear hq
  unfold plV at con
  obtain ⟨y0,y1,⟨y2,y3,y4,y5,y6,y7⟩,y8,y9,y10⟩:=EL.el
  simp only [Nat.zero_add] at y1 y2 y3 y4 y5 y6 y7 y8 y9 y10
  go_wp2_with fail
  refine con.mono ?_
  rintro e w7 ⟨v2,rfl,O2,hb⟩
  clear con
  clear y0 y1 y2 y3 y4 y5 y6 y7 y8 y9 y10
  obtain ⟨a2,c2,rfl,Z2,n2⟩:=O2.zs2
  clear O2
  replace Z1:=Z1.next hb
  replace hA:=chain hA hb
  clear hb
  by_cases h2:e2=0
  rotate_left
  ·have hb2:(e2 != 0)=true:=by simpa using h2
   go_wp2_with fail
   go_ret
   exact ⟨rfl,hA⟩
  subst h2
  have ez:z2=z1:=by
   have f:=places_fact HE1.out HE2.out HS.out
   rwa [HZ1.out,HZ2.out] at f
  subst ez
  go_wp2_with fail
  refine (same_eq a1 a2 c1 c2 z2 w7 Z1 Z2).mono ?_
  rintro e wz ⟨rfl,hb⟩
  replace hA:=chain hA hb
  go_wp2_with fail
  go_ret
  exact ⟨rfl,hA⟩
end Go.Proofs.YtoefpglknaiaeaaGreat
