/- The walk of tidelaw7.KeepOrder. -/
import Derived.Test.YtoefpglknaiaeaaGreatE9
import Derived.Test.YtoefpglknaiaeaaGreatE10
namespace Go.Proofs.YtoefpglknaiaeaaGreat
open Go.RowKit Go.Lib Go.Shelf

theorem order_fact {ts:List (List Int)} {p:Pl} {data one two:List (List Zp)} (h:KOk ts p data [one,two]) (k:KOk ts p data [two,one]):keepD data [one,two] 2=keepD data [two,one] 2:=by
 have a1:=apply_ok (h.step 0 (by simp)).app
 have a2:=apply_ok (h.step 1 (by simp)).app
 have b1:=apply_ok (k.step 0 (by simp)).app
 have b2:=apply_ok (k.step 1 (by simp)).app
 simp only [keepD,List.getElem_cons_zero,List.getElem_cons_succ,List.getD_cons_zero,List.getD_cons_succ] at a1 a2 b1 b2 ⊢
 refine list_sets ?_ (fun i hi=>a2.set i hi) (fun i hi=>b2.set i hi) fun i k=>?_
 ·rw [a2.nlen,a1.nlen,b2.nlen,b1.nlen]
 ·rw [a2.wt,a1.wt,b2.wt,b1.wt]; omega

set_option maxRecDepth 100000 in
set_option maxHeartbeats 16000000 in
theorem keepOrder_walk (ta:Option Addr) (tc:Nat) (ts:List (List Int)) (p:Pl) (q:Pw) (da:Option Addr) (dc:Nat) (data:List (List Zp)) (oa:Option Addr) (oc:Nat) (one:List (List Zp)) (ua:Option Addr) (uc:Nat) (two:List (List Zp)) (w:World) (hT:TbAt w.heap.size w ta ts) (hp:PlB w.heap.size w p q) (hk:PlOk p) (hD:DtAt w da data) (_hn:data.length≤10000000000000) (hO:DtAt w oa one) (_hn1:one.length≤10000000000000) (hU:DtAt w ua two) (_hnU:two.length≤10000000000000) :
  Calls Tryz.prog 15 #[.slice ta ts.length tc,plV p q,.slice da data.length dc,.slice oa one.length oc,.slice ua two.length uc] w fun e w'=>e = .returned (.bool true)∧Below w.heap.size w w':=by
 have TX:TbX w ta ts:=hT
 have PX:PlX w p q:=hp
 have DX:=hD
 have HK:Hid (PlOk p):=hk
 clear hT hp hD hk
 have OX:=hO
 clear hO
 have UX:=hU
 clear hU
 have hA:Below w.heap.size w w:=Below.refl _ _
 have hb:Below w.heap.size w (w.alloc (.cells #[.int .i64 p.k,.int .i64 p.n,.int .i64 p.x.k,.int .i64 p.x.v.1,.int .i64 p.x.v.2.1,.string p.x.v.2.2,.int .i64 p.x.c,.slice q.xa p.x.ks.length q.xc,.slice q.sa p.xs.length q.sc,.slice q.ga p.gs.length q.gc,.slice q.ka p.ks.length q.kc] 31)):=(Below.refl _ _).alloc (Nat.le_refl _) _
 replace TX:=TX.next hb
 replace PX:=PX.next hb
 replace DX:=DX.next hb
 replace OX:=OX.next hb
 replace UX:=UX.next hb
 replace hA:=chain hA hb
 have EL:ElX (w.alloc (.cells #[.int .i64 p.k,.int .i64 p.n,.int .i64 p.x.k,.int .i64 p.x.v.1,.int .i64 p.x.v.2.1,.string p.x.v.2.2,.int .i64 p.x.c,.slice q.xa p.x.ks.length q.xc,.slice q.sa p.xs.length q.sc,.slice q.ga p.gs.length q.gc,.slice q.ka p.ks.length q.kc] 31)) w.heap.size p q:=⟨Elv.new w p q 31,by simp⟩
 unfold plV
 go_enter Tryz.func15,Tryz.ntmps15
 go_upto_region 1 with fail
 generalize w.alloc (.cells #[.int .i64 p.k,.int .i64 p.n,.int .i64 p.x.k,.int .i64 p.x.v.1,.int .i64 p.x.v.2.1,.string p.x.v.2.2,.int .i64 p.x.c,.slice q.xa p.x.ks.length q.xc,.slice q.sa p.xs.length q.sc,.slice q.ga p.gs.length q.gc,.slice q.ka p.ks.length q.kc] 31)=w1 at *
 clear hb
 have con:=alive7_at w1
 go_wp2_with fail
 refine con.mono ?_
 rintro e w2 ⟨rfl,hb⟩
 clear con
 replace TX:=TX.next hb
 replace PX:=PX.next hb
 replace DX:=DX.next hb
 replace OX:=OX.next hb
 replace UX:=UX.next hb
 replace EL:=EL.next hb
 replace hA:=chain hA hb
 clear hb
 dsimp only
 have hb:Below w2.heap.size w2 (w2.alloc (.cells #[.slice oa one.length oc,.slice ua two.length uc] 32)):=(Below.refl _ _).alloc (Nat.le_refl _) _
 have CX:ChAt (w2.alloc (.cells #[.slice oa one.length oc,.slice ua two.length uc] 32)) (some ⟨w2.heap.size,0,none⟩) [one,two]:=ch_two OX UX
 have zz:(w2.alloc (.cells #[.slice oa one.length oc,.slice ua two.length uc] 32)).heap.size=w2.heap.size+1:=by simp
 go_upto_region 4 with fail
 replace TX:=TX.next hb
 replace PX:=PX.next hb
 replace DX:=DX.next hb
 replace OX:=OX.next hb
 replace UX:=UX.next hb
 replace EL:=EL.next hb
 replace hA:=chain hA hb
 generalize w2.alloc (.cells #[.slice oa one.length oc,.slice ua two.length uc] 32)=w3 at *
 clear hb
 have hb:Below w3.heap.size w3 (w3.alloc (.cells #[.slice ua two.length uc,.slice oa one.length oc] 32)):=(Below.refl _ _).alloc (Nat.le_refl _) _
 have EX:ChAt (w3.alloc (.cells #[.slice ua two.length uc,.slice oa one.length oc] 32)) (some ⟨w3.heap.size,0,none⟩) [two,one]:=ch_two UX OX
 rw [zz] at EX
 clear zz
 replace TX:=TX.next hb
 replace PX:=PX.next hb
 replace DX:=DX.next hb
 replace OX:=OX.next hb
 replace UX:=UX.next hb
 replace EL:=EL.next hb
 replace CX:=CX.next hb
 replace hA:=chain hA hb
 generalize w3.alloc (.cells #[.slice ua two.length uc,.slice oa one.length oc] 32)=w4 at *
 clear hb
 generalize hgc:w2.heap.size=gc at *
 clear hgc
 have con:=all_at ts p q data [one,two] ta tc da dc (some ⟨gc,0,none⟩) 2 w4 TX PX HK.out DX CX
 try unfold plV at con
 obtain ⟨y0,y1,⟨y2,y3,y4,y5,y6,y7⟩,y8,y9,y10⟩:=EL.el
 simp only [Nat.zero_add] at y1 y2 y3 y4 y5 y6 y7 y8 y9 y10
 go_wp2_with fail
 refine con.mono ?_
 rintro e w5 ⟨v1,b1,rfl,A1,hb⟩
 clear con
 clear y0 y1 y2 y3 y4 y5 y6 y7 y8 y9 y10
 replace TX:=TX.next hb
 replace PX:=PX.next hb
 replace DX:=DX.next hb
 replace OX:=OX.next hb
 replace UX:=UX.next hb
 replace EL:=EL.next hb
 replace CX:=CX.next hb
 replace EX:=EX.next hb
 replace hA:=chain hA hb
 clear hb
 cases b1 with
 | false =>
  clear A1
  go_wp2_with fail
  go_ret
  exact ⟨rfl,hA⟩
 | true =>
  have OK1:Hid (KOk ts p data [one,two]):=(A1 rfl).1
  clear A1
  have con:=all_at ts p q data [two,one] ta tc da dc (some ⟨gc+1,0,none⟩) 2 w5 TX PX HK.out DX EX
  try unfold plV at con
  obtain ⟨y0,y1,⟨y2,y3,y4,y5,y6,y7⟩,y8,y9,y10⟩:=EL.el
  simp only [Nat.zero_add] at y1 y2 y3 y4 y5 y6 y7 y8 y9 y10
  go_wp2_with fail
  refine con.mono ?_
  rintro e w6 ⟨v2,b2,rfl,A2,hb⟩
  clear con
  clear y0 y1 y2 y3 y4 y5 y6 y7 y8 y9 y10
  replace TX:=TX.next hb
  replace PX:=PX.next hb
  replace DX:=DX.next hb
  replace OX:=OX.next hb
  replace UX:=UX.next hb
  replace EL:=EL.next hb
  replace CX:=CX.next hb
  replace EX:=EX.next hb
  replace hA:=chain hA hb
  clear hb
  cases b2 with
  | false =>
   clear A2
   go_wp2_with fail
   go_ret
   exact ⟨rfl,hA⟩
  | true =>
   have OK2:Hid (KOk ts p data [two,one]):=(A2 rfl).1
   clear A2
   have con:=keep_at ts p q data [one,two] ta tc da dc (some ⟨gc,0,none⟩) 2 w6 TX PX HK.out DX CX OK1.out
   try unfold plV at con
   obtain ⟨y0,y1,⟨y2,y3,y4,y5,y6,y7⟩,y8,y9,y10⟩:=EL.el
   simp only [Nat.zero_add] at y1 y2 y3 y4 y5 y6 y7 y8 y9 y10
   go_wp2_with fail
   refine con.mono ?_
   rintro e w7 ⟨gk1,cap1,base1,cs1,rfl,K1,hb⟩
   clear con
   clear y0 y1 y2 y3 y4 y5 y6 y7 y8 y9 y10
   replace TX:=TX.next hb
   replace PX:=PX.next hb
   replace DX:=DX.next hb
   replace OX:=OX.next hb
   replace UX:=UX.next hb
   replace EL:=EL.next hb
   replace CX:=CX.next hb
   replace EX:=EX.next hb
   replace hA:=chain hA hb
   clear hb
   have hb:Below w7.heap.size w7 (w7.alloc (.cells #[.int .i64 0,.int .i64 0] 67)):=(Below.refl _ _).alloc (Nat.le_refl _) _
   have F1:=cell_of (i:=0) (heap_new w7 #[.int .i64 0,.int .i64 0] 67) rfl
   have lf1:w7.heap.size<(w7.alloc (.cells #[.int .i64 0,.int .i64 0] 67)).heap.size:=by simp
   replace K1:=K1.next hb
   replace TX:=TX.next hb
   replace PX:=PX.next hb
   replace DX:=DX.next hb
   replace OX:=OX.next hb
   replace UX:=UX.next hb
   replace EL:=EL.next hb
   replace CX:=CX.next hb
   replace EX:=EX.next hb
   replace hA:=chain hA hb
   go_upto_region 11 with fail
   generalize w7.alloc (.cells #[.int .i64 0,.int .i64 0] 67)=w8 at *
   clear hb
   generalize hgf:w7.heap.size=gf1 at *
   clear hgf
   have e3:[one,two].length+1=3:=rfl
   have con:=keep_at ts p q data [two,one] ta tc da dc (some ⟨gc+1,0,none⟩) 2 w8 TX PX HK.out DX EX OK2.out
   try unfold plV at con
   obtain ⟨y0,y1,⟨y2,y3,y4,y5,y6,y7⟩,y8,y9,y10⟩:=EL.el
   simp only [Nat.zero_add] at y1 y2 y3 y4 y5 y6 y7 y8 y9 y10
   go_wp2_with fail
   refine con.mono ?_
   rintro e w9 ⟨gk2,cap2,base2,cs2,rfl,K2,hb⟩
   clear con
   clear y0 y1 y2 y3 y4 y5 y6 y7 y8 y9 y10
   replace TX:=TX.next hb
   replace PX:=PX.next hb
   replace DX:=DX.next hb
   replace OX:=OX.next hb
   replace UX:=UX.next hb
   replace EL:=EL.next hb
   replace CX:=CX.next hb
   replace EX:=EX.next hb
   replace K1:=K1.next hb
   replace hA:=chain hA hb
   replace F1:=(hb.cell (p:=⟨gf1,0,none⟩) lf1).trans F1
   replace lf1:=Nat.lt_of_lt_of_le lf1 hb.size
   clear hb
   have hb:Below w9.heap.size w9 (w9.alloc (.cells #[.int .i64 0,.int .i64 0] 67)):=(Below.refl _ _).alloc (Nat.le_refl _) _
   have F2:=cell_of (i:=0) (heap_new w9 #[.int .i64 0,.int .i64 0] 67) rfl
   have lf2:w9.heap.size<(w9.alloc (.cells #[.int .i64 0,.int .i64 0] 67)).heap.size:=by simp
   replace K2:=K2.next hb
   replace TX:=TX.next hb
   replace PX:=PX.next hb
   replace DX:=DX.next hb
   replace OX:=OX.next hb
   replace UX:=UX.next hb
   replace EL:=EL.next hb
   replace CX:=CX.next hb
   replace EX:=EX.next hb
   replace K1:=K1.next hb
   replace hA:=chain hA hb
   replace F1:=(hb.cell (p:=⟨gf1,0,none⟩) lf1).trans F1
   replace lf1:=Nat.lt_of_lt_of_le lf1 hb.size
   go_upto_region 12 with fail
   generalize w9.alloc (.cells #[.int .i64 0,.int .i64 0] 67)=w10 at *
   clear hb
   generalize hgf:w9.heap.size=gf2 at *
   clear hgf
   have ez:keepD data [two,one] 2=keepD data [one,two] 2:=(order_fact OK1.out OK2.out).symm
   obtain ⟨x1,y1,r1,Y1,_⟩:=K1.read (i:=2) (by rw [keepZ_len]; simp)
   obtain ⟨x2,y2,r2,Y2,_⟩:=K2.read (i:=2) (by rw [keepZ_len]; simp)
   rw [keepZ_get] at r1 Y1 r2 Y2
   rw [ez] at r2 Y2
   generalize evZ ts (keepD data [one,two] 2) p=zf at *
   try simp only [List.length_cons,List.length_nil,Nat.zero_add,Nat.reduceAdd]
   clear ez K1 K2 OK1 OK2 CX EX e3
   have con:∀ n:Past w10,Calls Tryz.prog 21 #[.slice x1 zf.length y1,.slice x2 zf.length y2] n.now fun e w'=>e = .returned (.bool true)∧Below n.now.heap.size n.now w':=fun n=>same_eq x1 x2 y1 y2 zf n.now (Y1.next n.ok) (Y2.next n.ok)
   have p1:=past_cell r1
   have p2:=past_cell r2
   have p3:=past_cell F1
   have p4:=past_cell F2
   haveI:Nonempty (Past w10):=⟨⟨_,Below.refl _ _⟩⟩
   clear r1 r2 F1 F2 Y1 Y2
   refine wp_region_past (by kernel_rfl) (by kernel_rfl) ?_
   repeat (go_big_quiet_step (first | (go_at_call 21; exact in_past (con _))))
   refine wpQuiet_nil ?_
   rintro wz ⟨⟨vz,hbz⟩,hz⟩
   obtain rfl:wz=vz:=hz
   clear p1 p2 p3 p4 this con
   replace hA:=chain hA hbz
   go_wp2_with fail
   go_ret
   exact ⟨rfl,hA⟩
end Go.Proofs.YtoefpglknaiaeaaGreat
