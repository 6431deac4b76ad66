/- The walk of tidelaw7.KeepRight. -/
import Derived.Test.YtoefpglknaiaeaaGreatE9
namespace Go.Proofs.YtoefpglknaiaeaaGreat
open Go.RowKit Go.Lib Go.Shelf

set_option maxRecDepth 100000 in
set_option maxHeartbeats 16000000 in
theorem keepRight_walk (ta:Option Addr) (tc:Nat) (ts:List (List Int)) (p:Pl) (q:Pw) (da:Option Addr) (dc:Nat) (data:List (List Zp)) (ha:Option Addr) (hc:Nat) (chs:List (List (List Zp))) (w:World) (hT:TbAt w.heap.size w ta ts) (hp:PlB w.heap.size w p q) (hk:PlOk p) (hD:DtAt w da data) (_hn:data.length≤10000000000000) (hH:ChAt w ha chs) :
  Calls Tryz.prog 13 #[.slice ta ts.length tc,plV p q,.slice da data.length dc,.slice ha chs.length hc] w fun e w'=>e = .returned (.bool true)∧Below w.heap.size w w':=by
 have TX:TbX w ta ts:=hT
 have PX:PlX w p q:=hp
 have DX:=hD
 have HK:Hid (PlOk p):=hk
 clear hT hp hD hk
 have CX:=hH
 clear hH
 have hA:Below w.heap.size w w:=Below.refl _ _
 have hb:Below w.heap.size w (w.alloc (.cells #[.int .i64 p.k,.int .i64 p.n,.int .i64 p.x.k,.int .i64 p.x.v.1,.int .i64 p.x.v.2.1,.string p.x.v.2.2,.int .i64 p.x.c,.slice q.xa p.x.ks.length q.xc,.slice q.sa p.xs.length q.sc,.slice q.ga p.gs.length q.gc,.slice q.ka p.ks.length q.kc] 31)):=(Below.refl _ _).alloc (Nat.le_refl _) _
 replace TX:=TX.next hb
 replace PX:=PX.next hb
 replace DX:=DX.next hb
 replace CX:=CX.next hb
 replace hA:=chain hA hb
 have EL:ElX (w.alloc (.cells #[.int .i64 p.k,.int .i64 p.n,.int .i64 p.x.k,.int .i64 p.x.v.1,.int .i64 p.x.v.2.1,.string p.x.v.2.2,.int .i64 p.x.c,.slice q.xa p.x.ks.length q.xc,.slice q.sa p.xs.length q.sc,.slice q.ga p.gs.length q.gc,.slice q.ka p.ks.length q.kc] 31)) w.heap.size p q:=⟨Elv.new w p q 31,by simp⟩
 unfold plV
 go_enter Tryz.func13,Tryz.ntmps13
 go_upto_region 1 with fail
 generalize w.alloc (.cells #[.int .i64 p.k,.int .i64 p.n,.int .i64 p.x.k,.int .i64 p.x.v.1,.int .i64 p.x.v.2.1,.string p.x.v.2.2,.int .i64 p.x.c,.slice q.xa p.x.ks.length q.xc,.slice q.sa p.xs.length q.sc,.slice q.ga p.gs.length q.gc,.slice q.ka p.ks.length q.kc] 31)=w1 at *
 clear hb
 have con:=alive7_at w1
 go_wp2_with fail
 refine con.mono ?_
 rintro e w2 ⟨rfl,hb⟩
 clear con
 replace TX:=TX.next hb
 replace PX:=PX.next hb
 replace DX:=DX.next hb
 replace CX:=CX.next hb
 replace EL:=EL.next hb
 replace hA:=chain hA hb
 clear hb
 dsimp only
 have con:=all_at ts p q data chs ta tc da dc ha hc w2 TX PX HK.out DX CX
 unfold plV at con
 obtain ⟨y0,y1,⟨y2,y3,y4,y5,y6,y7⟩,y8,y9,y10⟩:=EL.el
 simp only [Nat.zero_add] at y1 y2 y3 y4 y5 y6 y7 y8 y9 y10
 go_wp2_with fail
 refine con.mono ?_
 rintro e w3 ⟨v1,b1,rfl,A1,hb⟩
 clear con
 clear y0 y1 y2 y3 y4 y5 y6 y7 y8 y9 y10
 replace TX:=TX.next hb
 replace PX:=PX.next hb
 replace DX:=DX.next hb
 replace CX:=CX.next hb
 replace EL:=EL.next hb
 replace hA:=chain hA hb
 clear hb
 cases b1 with
 | false =>
  clear A1
  go_wp2_with fail
  go_ret
  exact ⟨rfl,hA⟩
 | true =>
  obtain ⟨ok,gd,capd,based,csd,rfl,KD⟩:=A1 rfl
  have OK1:Hid (KOk ts p data chs):=ok
  have l30:=ok.len
  clear A1 ok
  have con:=keep_at ts p q data chs ta tc da dc ha hc w3 TX PX HK.out DX CX OK1.out
  unfold plV at con
  obtain ⟨y0,y1,⟨y2,y3,y4,y5,y6,y7⟩,y8,y9,y10⟩:=EL.el
  simp only [Nat.zero_add] at y1 y2 y3 y4 y5 y6 y7 y8 y9 y10
  go_wp2_with fail
  refine con.mono ?_
  rintro e w4 ⟨gk,capk,basek,csk,rfl,KK,hb⟩
  clear con
  clear y0 y1 y2 y3 y4 y5 y6 y7 y8 y9 y10
  replace TX:=TX.next hb
  replace PX:=PX.next hb
  replace DX:=DX.next hb
  replace CX:=CX.next hb
  replace EL:=EL.next hb
  replace KD:=KD.next hb
  replace hA:=chain hA hb
  clear hb
  have hb:Below w4.heap.size w4 (w4.alloc (.cells #[.int .i64 0,.int .i64 0] 67)):=(Below.refl _ _).alloc (Nat.le_refl _) _
  have F1:=cell_of (i:=0) (heap_new w4 #[.int .i64 0,.int .i64 0] 67) rfl
  replace KK:=KK.next hb
  replace TX:=TX.next hb
  replace PX:=PX.next hb
  replace DX:=DX.next hb
  replace CX:=CX.next hb
  replace EL:=EL.next hb
  replace KD:=KD.next hb
  replace hA:=chain hA hb
  go_upto_region 7 with fail
  generalize w4.alloc (.cells #[.int .i64 0,.int .i64 0] 67)=w5 at *
  clear hb
  generalize hgf:w4.heap.size=gf at *
  clear hgf
  obtain ⟨V,hV⟩:∃ V,V=Value.agg #[.int .i64 p.k,.int .i64 p.n,.int .i64 p.x.k,.int .i64 p.x.v.1,.int .i64 p.x.v.2.1,.string p.x.v.2.2,.int .i64 p.x.c,.slice q.xa p.x.ks.length q.xc,.slice q.sa p.xs.length q.sc,.slice q.ga p.gs.length q.gc,.slice q.ka p.ks.length q.kc]:=⟨_,rfl⟩
  have HV:Hid (V=Value.agg #[.int .i64 p.k,.int .i64 p.n,.int .i64 p.x.k,.int .i64 p.x.v.1,.int .i64 p.x.v.2.1,.string p.x.v.2.2,.int .i64 p.x.c,.slice q.xa p.x.ks.length q.xc,.slice q.sa p.xs.length q.sc,.slice q.ga p.gs.length q.gc,.slice q.ka p.ks.length q.kc]):=hV
  clear hV
  generalize hgb:w.heap.size=gb at EL ⊢
  have HGB:Hid (w.heap.size=gb):=hgb
  clear hgb
  go_wp2_with fail
  clear F1
  go_loopw [48] (fun i wr=>∃ j:Nat,j≤chs.length+1∧i = .int .i64 j∧Below w5.heap.size w5 wr) (fun i _=>chs.length+1 - (intOf i).toNat)
  case atStart=>exact ⟨0,Nat.zero_le _,rfl,Below.refl _ _⟩
  case round =>
   obtain ⟨j,hj,rfl,hb⟩:=hrel
   by_cases hlt:j<chs.length+1
   ·have hjz:(j:Int)<(chs.length:Int)+1:=by omega
    have hj0:(0:Int)≤(j:Int):=by omega
    have KDr:=KD.next hb
    have hgd:=KDr.lt
    obtain ⟨ad,cd,rd,Dd⟩:=KDr.read (i:=j) (by rw [keepDs_len]; exact hlt)
    obtain ⟨ak,ck,rk,Zk,_⟩:=(KK.next hb).read (i:=j) (by rw [keepZ_len]; exact hlt)
    rw [keepDs_get] at rd Dd
    rw [keepZ_get] at rk Zk
    have HEv:Hid (evE ts (keepD data chs j) p=0):=OK1.out.evs j (by omega)
    generalize keepD data chs j=dj at *
    have ELr:=EL.next hb
    have hkk:=(KK.next hb).lt
    clear KDr
    go_wp2_with fail
    have hCC:∀ W W':World,(ElX W gb p q∧W.cell? ⟨gd,j,none⟩=some (.slice ad dj.length cd)∧gd<W.heap.size)→Below W.heap.size W W'→(ElX W' gb p q∧W'.cell? ⟨gd,j,none⟩=some (.slice ad dj.length cd)∧gd<W'.heap.size):=fun W W' h hb=>⟨h.1.next hb,(hb.cell (p:=⟨gd,j,none⟩) h.2.2).trans h.2.1,Nat.lt_of_lt_of_le h.2.2 hb.size⟩
    have hd:Below wr.heap.size wr wr.drew:=(Below.refl _ _).drew
    have CW:=hCC _ _ ⟨ELr,rd,hgd⟩ hd
    refine wp_region_cls (fun W=>ElX W gb p q∧W.cell? ⟨gd,j,none⟩=some (.slice ad dj.length cd)∧gd<W.heap.size) (by kernel_rfl) ?_
    refine wpY_take hCC (some 52) (i:=0) (v:=.slice ta ts.length tc) rfl rfl (by kernel_rfl) (by kernel_rfl) (by kernel_rfl) (fun _ _ _ h=>h) (Or.inl ⟨rfl,fun n hn=>?_⟩) CW ?_
    ·clear hn CW hCC TX PX DX EL ELr HK HV CX KD KK Dd Zk OK1 HEv
     go_simp
    simp only [Act.put,pA,pB,pC]
    refine wpY_take hCC (some 53) (i:=1) (v:=V) rfl rfl (by kernel_rfl) (by kernel_rfl) (by kernel_rfl) (fun _ _ _ h=>h) (Or.inl ⟨rfl,fun n hn=>?_⟩) CW ?_
    ·obtain ⟨y0,y1,⟨y2,y3,y4,y5,y6,y7⟩,y8,y9,y10⟩:=hn.1.el
     simp only [Nat.zero_add] at y1 y2 y3 y4 y5 y6 y7 y8 y9 y10
     rw [HV.out]
     clear hn CW hCC TX PX DX EL ELr HK HV CX KD KK Dd Zk OK1 HEv
     go_simp
    simp only [Act.put,pA,pB,pC]
    refine wpY_take hCC (some 54) (i:=2) (v:=.slice (some ⟨gd,0,none⟩) (chs.length+1) capd) rfl rfl (by kernel_rfl) (by kernel_rfl) (by kernel_rfl) (fun _ _ _ h=>h) (Or.inl ⟨rfl,fun n hn=>?_⟩) CW ?_
    ·clear hn CW hCC TX PX DX EL ELr HK HV CX KD KK Dd Zk OK1 HEv
     go_simp
    simp only [Act.put,pA,pB,pC]
    refine wpY_take hCC (some 55) (i:=3) (v:=.int .i64 j) rfl rfl (by kernel_rfl) (by kernel_rfl) (by kernel_rfl) (fun _ _ _ h=>h) (Or.inl ⟨rfl,fun n hn=>?_⟩) CW ?_
    ·clear hn CW hCC TX PX DX EL ELr HK HV CX KD KK Dd Zk OK1 HEv
     go_simp
    simp only [Act.put,pA,pB,pC]
    refine wpY_take hCC (some 56) (i:=4) (v:=.pointer (some ⟨gd,j,none⟩)) rfl rfl (by kernel_rfl) (by kernel_rfl) (by kernel_rfl) (fun _ _ _ h=>h) (Or.inl ⟨rfl,fun n hn=>?_⟩) CW ?_
    ·clear hn CW hCC TX PX DX EL ELr HK HV CX KD KK Dd Zk OK1 HEv
     go_simp
    simp only [Act.put,pA,pB,pC]
    refine wpY_take hCC (some 57) (i:=5) (v:=.slice ad dj.length cd) rfl rfl (by kernel_rfl) (by kernel_rfl) (by kernel_rfl) (fun _ _ _ h=>h) (Or.inl ⟨rfl,fun n hn=>?_⟩) CW ?_
    ·have hcd:=hn.2.1
     clear hn CW hCC TX PX DX EL ELr HK HV CX KD KK Dd Zk OK1 HEv
     go_simp
    simp only [Act.put,pA,pB,pC]
    refine wpY_step (rs:=[6]) (by kernel_rfl) (by simp) ?_
    intro w6 hb6 jj hjj
    obtain rfl:jj=6:=by simpa using hjj
    clear hjj
    have CW6:=hCC _ _ CW hb6
    have D6:=chain hd hb6
    have D6w:=chain hb D6
    have con:=evalT_at ts dj p q ta tc ad cd w6 (TX.next D6w) (Dd.next D6) (PX.next D6w) HK.out
    rw [HEv.out] at con
    generalize evZ ts dj p=zf at *
    unfold plV at con
    rw [← HV.out] at con
    refine wpOp_step rfl (fun K hK=>?_)
    go_simp
    refine con.mono ?_
    rintro e w9 ⟨v9,rfl,O9,hb9⟩
    clear con
    obtain ⟨a9,c9,rfl,Z9,_⟩:=O9.zs2
    have CW9:=hCC _ _ CW6 hb9
    refine hK _ _ ⟨CW9,?_⟩
    clear hK K CW6 CW O9
    have D9:=chain D6 hb9
    try simp only [Act.put,pA,pB,pC]
    refine wpY_take hCC (some 51) (i:=7) (v:=.tuple #[.slice a9 zf.length c9,.int .i64 0]) rfl rfl (by kernel_rfl) (by kernel_rfl) (by kernel_rfl) (fun _ _ _ h=>h) (Or.inl ⟨rfl,fun n hn=>?_⟩) CW9 ?_
    ·clear hn CW9 hCC TX PX DX EL ELr HK HV CX KD KK Dd Zk OK1 HEv Z9
     go_simp
    simp only [Act.put,pA,pB,pC]
    refine wpY_take hCC (some 59) (i:=8) (v:=.slice a9 zf.length c9) rfl rfl (by kernel_rfl) (by kernel_rfl) (by kernel_rfl) (fun _ _ _ h=>h) (Or.inl ⟨rfl,fun n hn=>?_⟩) CW9 ?_
    ·clear hn CW9 hCC TX PX DX EL ELr HK HV CX KD KK Dd Zk OK1 HEv Z9
     go_simp
    simp only [Act.put,pA,pB,pC]
    refine wpY_take hCC (some 60) (i:=9) (v:=.int .i64 0) rfl rfl (by kernel_rfl) (by kernel_rfl) (by kernel_rfl) (fun _ _ _ h=>h) (Or.inl ⟨rfl,fun n hn=>?_⟩) CW9 ?_
    ·clear hn CW9 hCC TX PX DX EL ELr HK HV CX KD KK Dd Zk OK1 HEv Z9
     go_simp
    simp only [Act.put,pA,pB,pC]
    refine wpY_take hCC (some 14) (i:=10) (v:=.slice a9 zf.length c9) rfl rfl (by kernel_rfl) (by kernel_rfl) (by kernel_rfl) (fun _ _ _ h=>h) (Or.inl ⟨rfl,fun n hn=>?_⟩) CW9 ?_
    ·clear hn CW9 hCC TX PX DX EL ELr HK HV CX KD KK Dd Zk OK1 HEv Z9
     go_simp
    simp only [Act.put,pA,pB,pC]
    refine wpY_take hCC (some 15) (i:=11) (v:=.int .i64 0) rfl rfl (by kernel_rfl) (by kernel_rfl) (by kernel_rfl) (fun _ _ _ h=>h) (Or.inl ⟨rfl,fun n hn=>?_⟩) CW9 ?_
    ·clear hn CW9 hCC TX PX DX EL ELr HK HV CX KD KK Dd Zk OK1 HEv Z9
     go_simp
    simp only [Act.put,pA,pB,pC]
    refine wpY_done (by kernel_rfl) ?_
    intro w10 hb10
    have D10:=chain D9 hb10
    have hb10':=chain hb D10
    have rk10:=(D10.cell (p:=⟨gk,j,none⟩) hkk).trans rk
    have Zk10:=Zk.next D10
    have Z10:=Z9.next hb10
    clear CW9 hCC hb10 rd rk Zk Z9
    go_wp2_with fail
    refine (same_eq a9 ak c9 ck zf w10 Z10 Zk10).mono ?_
    rintro e wz ⟨rfl,hbz⟩
    have hbz':=chain hb10' hbz
    clear rk10 Zk10 Z10
    go_wp2_with fail
    go_roundw
    case rel=>exact ⟨j+1,by omega,by go_num,hbz'⟩
    case measure=>simp [intOf]; omega
   ·have hjn:¬ (j:Int)<(chs.length:Int)+1:=by omega
    go_wp2_with fail
    go_ret
    exact ⟨rfl,chain hA hb⟩
end Go.Proofs.YtoefpglknaiaeaaGreat
