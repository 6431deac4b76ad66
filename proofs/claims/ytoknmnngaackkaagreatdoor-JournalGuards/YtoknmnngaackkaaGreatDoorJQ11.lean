/- Together: DN, DO, DP, DQ, DR, DS, RTd. -/
import Derived.Deep.LoopGhost
import Derived.Test.YtoknmnngaackkaaGreatDoorJQ10
import Derived.Test.YtoknmnngaackkaaGreatDoorJQ9
namespace Go.Proofs.YtoknmnngaackkaaGreatDoor
open Go.RowKit Go.Lib Go.Shelf
set_option maxRecDepth 100000
set_option maxHeartbeats 16000000
set_option maxRecDepth 100000
set_option maxHeartbeats 8000000
def dZ (l:List Vl):List ByteArray:=[⟨#[40]⟩] ++ cr cF l ++ [⟨#[41]⟩]
theorem sF (l:List Vl) (hl:l.length≤1000) (hok:∀ x ∈ l,jF x) (a:Option Addr) (c:Nat) {PB:Nat} {v:Value} {bs:List UInt8} {w:World} (hG:GP w PB) (hP:ax w PB v bs) (hk:aI eU 3 (fun b=>b<PB) w a l) (hb:(an bs (dZ l)).length≤fW):Calls Tryz.prog 62 #[.pointer (some ⟨PB,0,none⟩),.slice a l.length c] w (aC w PB v (an bs (dZ l))):=by
 rw [dZ] at hb ⊢;have hmf:∀ (fn:Fn) (first cap:Array Value) (w:World),(Instr.makeFunc fn first cap).run Tryz.prog w = .ok (.func fn first cap) w:=fun _ _ _ _=>rfl
 have HOK:Hid (∀ x ∈ l,jF x):=hok;clear hok;have Hb:Hid _:=hb;clear hb;have P0:Hid (ax w PB v bs):=hP;have S0:Hid (St PB v w v w):=St.refl _ _ _;have G0:Hid (GP w PB):=hG;have L00:Hid (aI eU 3 (fun b=>b<PB) w a l):=hk;clear hP hG hk;go_enter Tryz.func62,Tryz.ntmps62;have con1:Calls Tryz.prog 57 #[.pointer (some ⟨PB,0,none⟩),.slice (some ⟨w.heap.size,0,none⟩) 1 1] (w.alloc (.cells #[.string ⟨#[40]⟩] 9)) (aC w PB v (an bs ([⟨#[40]⟩]))):=aW [⟨#[40]⟩] P0.out (cH (cH (Hb.out))) (by simp);go_wp2_with fail
 refine con1.mono ?_;rintro e w2 ⟨rfl,v3,P_,S_⟩;have P4:Hid (ax w2 PB v3 (an bs ([⟨#[40]⟩]))):=P_;have S5:Hid (St PB v w v3 w2):=S0.out.trans S_;have G6:Hid (GP w2 PB):=G0.out.st S_;have L7:Hid (aI eU 3 (fun b=>b<PB) w2 a l):=(L00.out).bJ fP S_;clear con1 P_ S_  P0 S0 G0 L00;have con8:Calls Tryz.prog 94 #[.pointer (some ⟨PB,0,none⟩),.slice a l.length c,.func (.func 95) #[.pointer (some ⟨PB,0,none⟩)] #[]] w2 (aC w2 PB v3 (an (an bs ([⟨#[40]⟩])) (cr cF l))):=ru l hl HOK.out a c (G6.out) (P4.out) L7.out (by rw [← ak]; exact cH (Hb.out));go_wp2_with fail
 refine con8.mono ?_;rintro e w9 ⟨rfl,v10,P_,S_⟩;have P11:Hid (ax w9 PB v10 (an bs ([⟨#[40]⟩] ++ cr cF l))):=by show ax _ _ _ _; rw [ak]; exact P_
 have S12:Hid (St PB v w v10 w9):=S5.out.trans S_;have G13:Hid (GP w9 PB):=G6.out.st S_;have L14:Hid (aI eU 3 (fun b=>b<PB) w9 a l):=(L7.out).bJ fP S_;clear con8 P_ S_  P4 S5 G6 L7;have con15:Calls Tryz.prog 57 #[.pointer (some ⟨PB,0,none⟩),.slice (some ⟨w9.heap.size,0,none⟩) 1 1] (w9.alloc (.cells #[.string ⟨#[41]⟩] 9)) (aC w9 PB v10 (an (an bs ([⟨#[40]⟩] ++ cr cF l)) ([⟨#[41]⟩]))):=aW [⟨#[41]⟩] P11.out (by rw [← ak]; exact Hb.out) (by simp);go_wp2_with fail
 refine con15.mono ?_;rintro e w16 ⟨rfl,v17,P_,S_⟩;have P18:Hid (ax w16 PB v17 (an bs ([⟨#[40]⟩] ++ cr cF l ++ [⟨#[41]⟩]))):=by show ax _ _ _ _; rw [ak]; exact P_
 have S19:Hid (St PB v w v17 w16):=S12.out.trans S_;have G20:Hid (GP w16 PB):=G13.out.st S_;have L21:Hid (aI eU 3 (fun b=>b<PB) w16 a l):=(L14.out).bJ fP S_;clear con15 P_ S_  P11 S12 G13 L14;go_wp2_with fail
 go_end0
 exact ⟨rfl,v17,P18.out,S19.out⟩
theorem rv (l:List (List Vl)) (hl:l.length≤1000) (hok:∀ x ∈ l,x.length≤1000∧∀ y ∈ x,jF y) (a:Option Addr) (c:Nat) {PB:Nat} {v:Value} {bs:List UInt8} {w:World} (hG:GP w PB) (hP:ax w PB v bs) (hk:aI (bo eU 3) 1 (fun b=>b<PB) w a l) (hb:(an bs (cr dZ l)).length≤fW):Calls Tryz.prog 61 #[.pointer (some ⟨PB,0,none⟩),.slice a l.length c,.func (.func 62) #[.pointer (some ⟨PB,0,none⟩)] #[]] w (aC w PB v (an bs (cr dZ l))):=by
 have HOK:Hid _:=hok;have HG:Hid (GP w PB):=hG;have HP:Hid (ax w PB v bs):=hP;have HK:Hid (aI (bo eU 3) 1 (fun b=>b<PB) w a l):=hk;have HB:Hid (∀ j,j<l.length→(an bs (bR dZ l (j+1))).length≤fW):=fun j hj=>Dt (jA bs dZ l (j+1) l.length hj) hb
 clear hG hP hk hb hok;go_enter Tryz.func61,Tryz.ntmps61;go_wp2_with fail
 go_loopw [10] (fun i wr=>∃ (j:Nat) (v':Value),j≤l.length∧i = .int .i64 j∧Hid (ax wr PB v' (an bs (bR dZ l j)))∧Hid (St PB v w v' wr)) (fun i _=>l.length - (RowKit.intOf i).toNat)
 case atStart=>exact ⟨0,v,Dm _,rfl,HP,St.refl _ _ _⟩
 case round =>
  obtain ⟨j,v1,hj,rfl,hP1,hS1⟩:=hrel;have hG1:Hid (GP wr PB):=HG.out.st hS1.out;by_cases hlt:j<l.length
  ·have hBj:=HB.out j hlt;obtain ⟨b1,o1,_,rfl,t1,ai,ci,rfl,kk⟩:=(HK.out.bJ (bd fP 3) hS1.out).get hlt;have hsj:=kB dZ l j hlt;rw [hsj] at hBj;have HSJ:Hid (bR dZ l (j+1)=_):=hsj;have hOk:=HOK.out _ (DC hlt);have hjz:(j:Int)<(l.length:Int):=by omega
   generalize l[j]=y at *;have Hb:Hid _:=hBj;have HOY:Hid _:=hOk;clear hBj hsj hOk;have z0:wr.cell? ⟨b1,o1+j,none⟩=some (.slice ai y.length ci):=by have:=t1.2 0 _ rfl; simpa using this
   have KK:Hid (aI eU 3 (fun b=>b<PB) wr ai y):=kk;clear kk;clear t1;by_cases hj0:j=0
   ·rw [if_pos hj0] at Hb HSJ;subst hj0;simp only [DJ] at z0;have con1:Calls Tryz.prog 86 #[.pointer (some ⟨PB,0,none⟩),.bool false,.string ⟨#[44]⟩] wr (aC wr PB v1 (an (an bs (bR dZ l 0)) ([]))):=dd false ⟨#[44]⟩ hP1.out (by rw [← ak]; exact cH (Hb.out));go_wp2_with fail
    refine con1.mono ?_;rintro e w2 ⟨rfl,v3,P_,S_⟩;have P4:Hid (ax w2 PB v3 (an bs (bR dZ l 0 ++ []))):=by show ax _ _ _ _; rw [ak]; exact P_
    have S5:Hid (St PB v w v3 w2):=hS1.out.trans S_;have G6:Hid (GP w2 PB):=hG1.out.st S_;have L7:Hid (aI eU 3 (fun b=>b<PB) w2 ai y):=(KK.out).bJ fP S_;clear con1 P_ S_ z0 hP1 hS1 hG1 KK;have con8:Calls Tryz.prog 62 #[.pointer (some ⟨PB,0,none⟩),.slice ai y.length ci] w2 (aC w2 PB v3 (an (an bs (bR dZ l 0 ++ [])) (dZ y))):=sF y HOY.out.1 HOY.out.2 ai ci (G6.out) (P4.out) L7.out (by rw [← ak]; exact Hb.out);go_wp2_with fail
    refine con8.mono ?_;rintro e w9 ⟨rfl,v10,P_,S_⟩;have P11:Hid (ax w9 PB v10 (an bs (bR dZ l 0 ++ [] ++ dZ y))):=by show ax _ _ _ _; rw [ak]; exact P_
    have S12:Hid (St PB v w v10 w9):=S5.out.trans S_;have G13:Hid (GP w9 PB):=G6.out.st S_;have L14:Hid (aI eU 3 (fun b=>b<PB) w9 ai y):=(L7.out).bJ fP S_;clear con8 P_ S_  P4 S5 G6 L7;have PZ:Hid (ax w9 PB v10 (an bs (bR dZ l (0+1)))):=by show ax _ _ _ _; rw [HSJ.out]; exact P11.out
    clear P11;go_wp2_with fail
    go_roundw
    case rel=>exact ⟨0+1,v10,by omega,by go_num,PZ,S12⟩
    case measure=>simp [RowKit.intOf]; omega
   ·rw [if_neg hj0] at Hb HSJ;have hz:decide (0<j)=true:=by simp; omega
    have con15:Calls Tryz.prog 86 #[.pointer (some ⟨PB,0,none⟩),.bool true,.string ⟨#[44]⟩] wr (aC wr PB v1 (an (an bs (bR dZ l j)) ([⟨#[44]⟩]))):=dd true ⟨#[44]⟩ hP1.out (by rw [← ak]; exact cH (Hb.out));go_wp2_with fail
    refine con15.mono ?_;rintro e w16 ⟨rfl,v17,P_,S_⟩;have P18:Hid (ax w16 PB v17 (an bs (bR dZ l j ++ [⟨#[44]⟩]))):=by show ax _ _ _ _; rw [ak]; exact P_
    have S19:Hid (St PB v w v17 w16):=hS1.out.trans S_;have G20:Hid (GP w16 PB):=hG1.out.st S_;have L21:Hid (aI eU 3 (fun b=>b<PB) w16 ai y):=(KK.out).bJ fP S_;clear con15 P_ S_ z0 hP1 hS1 hG1 KK;have con22:Calls Tryz.prog 62 #[.pointer (some ⟨PB,0,none⟩),.slice ai y.length ci] w16 (aC w16 PB v17 (an (an bs (bR dZ l j ++ [⟨#[44]⟩])) (dZ y))):=sF y HOY.out.1 HOY.out.2 ai ci (G20.out) (P18.out) L21.out (by rw [← ak]; exact Hb.out);go_wp2_with fail
    refine con22.mono ?_;rintro e w23 ⟨rfl,v24,P_,S_⟩;have P25:Hid (ax w23 PB v24 (an bs (bR dZ l j ++ [⟨#[44]⟩] ++ dZ y))):=by show ax _ _ _ _; rw [ak]; exact P_
    have S26:Hid (St PB v w v24 w23):=S19.out.trans S_;have G27:Hid (GP w23 PB):=G20.out.st S_;have L28:Hid (aI eU 3 (fun b=>b<PB) w23 ai y):=(L21.out).bJ fP S_;clear con22 P_ S_  P18 S19 G20 L21;have PZ:Hid (ax w23 PB v24 (an bs (bR dZ l (j+1)))):=by show ax _ _ _ _; rw [HSJ.out]; exact P25.out
    clear P25;go_wp2_with fail
    go_roundw
    case rel=>exact ⟨j+1,v24,by omega,by go_num,PZ,S26⟩
    case measure=>simp [RowKit.intOf]; omega
  ·have ej:j=l.length:=by omega
   subst ej;go_wp2_with fail
   go_end0
   exact ⟨rfl,v1,hP1.out,hS1.out⟩
def ix (op:Int):List ByteArray:=(if op=1∨op=2 then [⟨#[117,110,105,111,110]⟩] else [⟨#[101,120,99,101,112,116]⟩]) ++ (if op=1∨op=3 then [⟨#[97,108,108]⟩] else [])
theorem px (op:Int) (h1:1≤op) (h4:op≤4) {PB:Nat} {v:Value} {bs:List UInt8} {w:World} (hG:GP w PB) (hP:ax w PB v bs) (hb:(an bs (ix op)).length≤fW):Calls Tryz.prog 89 #[.pointer (some ⟨PB,0,none⟩),.int .i64 op] w (aC w PB v (an bs (ix op))):=by
 rcases (show op=1∨op=2∨op=3∨op=4 by omega) with rfl | rfl | rfl | rfl
 ·have ev:ix 1 = [⟨#[117,110,105,111,110]⟩] ++ [⟨#[97,108,108]⟩]:=rfl;rw [ev] at hb ⊢;clear ev h1 h4;have Hb:Hid _:=hb;clear hb;have P0:Hid (ax w PB v bs):=hP;have S0:Hid (St PB v w v w):=St.refl _ _ _;have G0:Hid (GP w PB):=hG;clear hP hG;go_enter Tryz.func89,Tryz.ntmps89;have con1:Calls Tryz.prog 57 #[.pointer (some ⟨PB,0,none⟩),.slice (some ⟨w.heap.size,0,none⟩) 1 1] (w.alloc (.cells #[.string ⟨#[117,110,105,111,110]⟩] 9)) (aC w PB v (an bs ([⟨#[117,110,105,111,110]⟩]))):=aW [⟨#[117,110,105,111,110]⟩] P0.out (cH (Hb.out)) (by simp);go_wp2_with fail
  refine con1.mono ?_;rintro e w2 ⟨rfl,v3,P_,S_⟩;have P4:Hid (ax w2 PB v3 (an bs ([⟨#[117,110,105,111,110]⟩]))):=P_;have S5:Hid (St PB v w v3 w2):=S0.out.trans S_;have G6:Hid (GP w2 PB):=G0.out.st S_;clear con1 P_ S_  P0 S0 G0;have con7:Calls Tryz.prog 86 #[.pointer (some ⟨PB,0,none⟩),.bool true,.string ⟨#[97,108,108]⟩] w2 (aC w2 PB v3 (an (an bs ([⟨#[117,110,105,111,110]⟩])) ([⟨#[97,108,108]⟩]))):=dd true ⟨#[97,108,108]⟩ P4.out (by rw [← ak]; exact Hb.out);go_wp2_with fail
  refine con7.mono ?_;rintro e w8 ⟨rfl,v9,P_,S_⟩;have P10:Hid (ax w8 PB v9 (an bs ([⟨#[117,110,105,111,110]⟩] ++ [⟨#[97,108,108]⟩]))):=by show ax _ _ _ _; rw [ak]; exact P_
  have S11:Hid (St PB v w v9 w8):=S5.out.trans S_;have G12:Hid (GP w8 PB):=G6.out.st S_;clear con7 P_ S_  P4 S5 G6;go_wp2_with fail
  go_end0
  exact ⟨rfl,v9,P10.out,S11.out⟩
 ·have ev:ix 2 = [⟨#[117,110,105,111,110]⟩] ++ []:=rfl;rw [ev] at hb ⊢;clear ev h1 h4;have Hb:Hid _:=hb;clear hb;have P0:Hid (ax w PB v bs):=hP;have S0:Hid (St PB v w v w):=St.refl _ _ _;have G0:Hid (GP w PB):=hG;clear hP hG;go_enter Tryz.func89,Tryz.ntmps89;have con13:Calls Tryz.prog 57 #[.pointer (some ⟨PB,0,none⟩),.slice (some ⟨w.heap.size,0,none⟩) 1 1] (w.alloc (.cells #[.string ⟨#[117,110,105,111,110]⟩] 9)) (aC w PB v (an bs ([⟨#[117,110,105,111,110]⟩]))):=aW [⟨#[117,110,105,111,110]⟩] P0.out (cH (Hb.out)) (by simp);go_wp2_with fail
  refine con13.mono ?_;rintro e w14 ⟨rfl,v15,P_,S_⟩;have P16:Hid (ax w14 PB v15 (an bs ([⟨#[117,110,105,111,110]⟩]))):=P_;have S17:Hid (St PB v w v15 w14):=S0.out.trans S_;have G18:Hid (GP w14 PB):=G0.out.st S_;clear con13 P_ S_  P0 S0 G0;have con19:Calls Tryz.prog 86 #[.pointer (some ⟨PB,0,none⟩),.bool false,.string ⟨#[97,108,108]⟩] w14 (aC w14 PB v15 (an (an bs ([⟨#[117,110,105,111,110]⟩])) ([]))):=dd false ⟨#[97,108,108]⟩ P16.out (by rw [← ak]; exact Hb.out);go_wp2_with fail
  refine con19.mono ?_;rintro e w20 ⟨rfl,v21,P_,S_⟩;have P22:Hid (ax w20 PB v21 (an bs ([⟨#[117,110,105,111,110]⟩] ++ []))):=by show ax _ _ _ _; rw [ak]; exact P_
  have S23:Hid (St PB v w v21 w20):=S17.out.trans S_;have G24:Hid (GP w20 PB):=G18.out.st S_;clear con19 P_ S_  P16 S17 G18;go_wp2_with fail
  go_end0
  exact ⟨rfl,v21,P22.out,S23.out⟩
 ·have ev:ix 3 = [⟨#[101,120,99,101,112,116]⟩] ++ [⟨#[97,108,108]⟩]:=rfl;rw [ev] at hb ⊢;clear ev h1 h4;have Hb:Hid _:=hb;clear hb;have P0:Hid (ax w PB v bs):=hP;have S0:Hid (St PB v w v w):=St.refl _ _ _;have G0:Hid (GP w PB):=hG;clear hP hG;go_enter Tryz.func89,Tryz.ntmps89;have con25:Calls Tryz.prog 57 #[.pointer (some ⟨PB,0,none⟩),.slice (some ⟨w.heap.size,0,none⟩) 1 1] (w.alloc (.cells #[.string ⟨#[101,120,99,101,112,116]⟩] 9)) (aC w PB v (an bs ([⟨#[101,120,99,101,112,116]⟩]))):=aW [⟨#[101,120,99,101,112,116]⟩] P0.out (cH (Hb.out)) (by simp);go_wp2_with fail
  refine con25.mono ?_;rintro e w26 ⟨rfl,v27,P_,S_⟩;have P28:Hid (ax w26 PB v27 (an bs ([⟨#[101,120,99,101,112,116]⟩]))):=P_;have S29:Hid (St PB v w v27 w26):=S0.out.trans S_;have G30:Hid (GP w26 PB):=G0.out.st S_;clear con25 P_ S_  P0 S0 G0;have con31:Calls Tryz.prog 86 #[.pointer (some ⟨PB,0,none⟩),.bool true,.string ⟨#[97,108,108]⟩] w26 (aC w26 PB v27 (an (an bs ([⟨#[101,120,99,101,112,116]⟩])) ([⟨#[97,108,108]⟩]))):=dd true ⟨#[97,108,108]⟩ P28.out (by rw [← ak]; exact Hb.out);go_wp2_with fail
  refine con31.mono ?_;rintro e w32 ⟨rfl,v33,P_,S_⟩;have P34:Hid (ax w32 PB v33 (an bs ([⟨#[101,120,99,101,112,116]⟩] ++ [⟨#[97,108,108]⟩]))):=by show ax _ _ _ _; rw [ak]; exact P_
  have S35:Hid (St PB v w v33 w32):=S29.out.trans S_;have G36:Hid (GP w32 PB):=G30.out.st S_;clear con31 P_ S_  P28 S29 G30;go_wp2_with fail
  go_end0
  exact ⟨rfl,v33,P34.out,S35.out⟩
 ·have ev:ix 4 = [⟨#[101,120,99,101,112,116]⟩] ++ []:=rfl;rw [ev] at hb ⊢;clear ev h1 h4;have Hb:Hid _:=hb;clear hb;have P0:Hid (ax w PB v bs):=hP;have S0:Hid (St PB v w v w):=St.refl _ _ _;have G0:Hid (GP w PB):=hG;clear hP hG;go_enter Tryz.func89,Tryz.ntmps89;have con37:Calls Tryz.prog 57 #[.pointer (some ⟨PB,0,none⟩),.slice (some ⟨w.heap.size,0,none⟩) 1 1] (w.alloc (.cells #[.string ⟨#[101,120,99,101,112,116]⟩] 9)) (aC w PB v (an bs ([⟨#[101,120,99,101,112,116]⟩]))):=aW [⟨#[101,120,99,101,112,116]⟩] P0.out (cH (Hb.out)) (by simp);go_wp2_with fail
  refine con37.mono ?_;rintro e w38 ⟨rfl,v39,P_,S_⟩;have P40:Hid (ax w38 PB v39 (an bs ([⟨#[101,120,99,101,112,116]⟩]))):=P_;have S41:Hid (St PB v w v39 w38):=S0.out.trans S_;have G42:Hid (GP w38 PB):=G0.out.st S_;clear con37 P_ S_  P0 S0 G0;have con43:Calls Tryz.prog 86 #[.pointer (some ⟨PB,0,none⟩),.bool false,.string ⟨#[97,108,108]⟩] w38 (aC w38 PB v39 (an (an bs ([⟨#[101,120,99,101,112,116]⟩])) ([]))):=dd false ⟨#[97,108,108]⟩ P40.out (by rw [← ak]; exact Hb.out);go_wp2_with fail
  refine con43.mono ?_;rintro e w44 ⟨rfl,v45,P_,S_⟩;have P46:Hid (ax w44 PB v45 (an bs ([⟨#[101,120,99,101,112,116]⟩] ++ []))):=by show ax _ _ _ _; rw [ak]; exact P_
  have S47:Hid (St PB v w v45 w44):=S41.out.trans S_;have G48:Hid (GP w44 PB):=G42.out.st S_;clear con43 P_ S_  P40 S41 G42;go_wp2_with fail
  go_end0
  exact ⟨rfl,v45,P46.out,S47.out⟩
def gH (first:Bool) (x:Src):List ByteArray:=if first then [x.name] ++ iP x.alias ++ [] else (if x.kind=2 then [] else [bK x.kind uP]) ++ [⟨#[106,111,105,110]⟩] ++ [x.name] ++ iP x.alias ++ ([⟨#[111,110]⟩] ++ bm x.on)
theorem rU (x:Src) (a:Option Addr) (c:Nat) {PB:Nat} {v:Value} {bs:List UInt8} {w:World} (hG:GP w PB) (hP:ax w PB v bs) (hk:aD (fun b=>b<PB) w a x.on.ks) (hb:(an bs (gH true x)).length≤fW):Calls Tryz.prog 119 #[.pointer (some ⟨PB,0,none⟩),.agg (fB x a c),.bool true] w (aC w PB v (an bs (gH true x))):=by
 have ev:gH true x = [x.name] ++ iP x.alias ++ []:=rfl;rw [ev] at hb ⊢;clear ev;have Hb:Hid _:=hb;clear hb;have hal:=ab w (.cells (fB x a c) 105);have B0:Hid (Bx (w.alloc (.cells (fB x a c) 105)) PB v w.heap.size (fB x a c) 105):=Bx.new hP (fB x a c) 105;have P0:Hid (ax (w.alloc (.cells (fB x a c) 105)) PB v bs):=hP.next hal;have S0:Hid (St PB v w v (w.alloc (.cells (fB x a c) 105))):=St.of hal hP.lt;have G0:Hid (GP (w.alloc (.cells (fB x a c) 105)) PB):=hG.nx hal hP.lt
 have L00:Hid (aD (fun b=>b<PB) (w.alloc (.cells (fB x a c) 105)) a x.on.ks):=aD.next hal hk;clear hP hG hal hk;go_enter Tryz.func119,Tryz.ntmps119;go_upto_region 1 with fail
 generalize (w.alloc (.cells (fB x a c) 105))=w0 at *;have f1:w0.cell? ⟨w.heap.size,1,none⟩=some (.string x.name):=B0.out.c 1 rfl;have con2:Calls Tryz.prog 57 #[.pointer (some ⟨PB,0,none⟩),.slice (some ⟨w0.heap.size,0,none⟩) 1 1] (w0.alloc (.cells #[.string x.name] 9)) (aC w0 PB v (an bs ([x.name]))):=aW [x.name] P0.out (cH (cH (Hb.out))) (by simp);go_wp2_with fail
 refine con2.mono ?_;rintro e w3 ⟨rfl,v4,P_,S_⟩;have P5:Hid (ax w3 PB v4 (an bs ([x.name]))):=P_;have S6:Hid (St PB v w v4 w3):=S0.out.trans S_;have G7:Hid (GP w3 PB):=G0.out.st S_;have B8:Hid (Bx w3 PB v4 (w.heap.size) (fB x a c) 105):=B0.out.st S_;have L9:Hid (aD (fun b=>b<PB) w3 a x.on.ks):=aD.bJ L00.out S_;clear con2 P_ S_ f1 P0 S0 G0 B0 L00;have f10:w3.cell? ⟨w.heap.size,2,none⟩=some (.string x.alias):=B8.out.c 2 rfl
 have con11:Calls Tryz.prog 143 #[.pointer (some ⟨PB,0,none⟩),.string x.alias] w3 (aC w3 PB v4 (an (an bs ([x.name])) (iP x.alias))):=iQ x.alias (P5.out) (by rw [← ak]; exact cH (Hb.out));go_wp2_with fail
 refine con11.mono ?_;rintro e w12 ⟨rfl,v13,P_,S_⟩;have P14:Hid (ax w12 PB v13 (an bs ([x.name] ++ iP x.alias))):=by show ax _ _ _ _; rw [ak]; exact P_
 have S15:Hid (St PB v w v13 w12):=S6.out.trans S_;have G16:Hid (GP w12 PB):=G7.out.st S_;have B17:Hid (Bx w12 PB v13 (w.heap.size) (fB x a c) 105):=B8.out.st S_;have L18:Hid (aD (fun b=>b<PB) w12 a x.on.ks):=aD.bJ L9.out S_;clear con11 P_ S_ f10 P5 S6 G7 B8 L9;have f19:w12.cell? ⟨w.heap.size,3,none⟩=some (.int .i64 x.on.k):=B17.out.c 3 rfl;have f20:w12.cell? ⟨w.heap.size,4,none⟩=some (.int .i64 x.on.v.1):=B17.out.c 4 rfl;have f21:w12.cell? ⟨w.heap.size,5,none⟩=some (.int .i64 x.on.v.2.1):=B17.out.c 5 rfl;have f22:w12.cell? ⟨w.heap.size,6,none⟩=some (.string x.on.v.2.2):=B17.out.c 6 rfl
 have f23:w12.cell? ⟨w.heap.size,7,none⟩=some (.string x.on.aH):=B17.out.c 7 rfl;have f24:w12.cell? ⟨w.heap.size,8,none⟩=some (.string x.on.name):=B17.out.c 8 rfl;have f25:w12.cell? ⟨w.heap.size,9,none⟩=some (.slice a x.on.ks.length c):=B17.out.c 9 rfl;have con26:Calls Tryz.prog 63 #[.pointer (some ⟨PB,0,none⟩),.string ⟨#[111,110]⟩,.bool false,.agg (aT x.on a c)] w12 (aC w12 PB v13 (an (an bs ([x.name] ++ iP x.alias)) ([]))):=dF ⟨#[111,110]⟩ false x.on (fun h=>by cases h) a c (G16.out) (P14.out) L18.out (by rw [← ak]; exact Hb.out);go_wp2_with fail
 refine con26.mono ?_;rintro e w27 ⟨rfl,v28,P_,S_⟩;have P29:Hid (ax w27 PB v28 (an bs ([x.name] ++ iP x.alias ++ []))):=by show ax _ _ _ _; rw [ak]; exact P_
 have S30:Hid (St PB v w v28 w27):=S15.out.trans S_;have G31:Hid (GP w27 PB):=G16.out.st S_;have B32:Hid (Bx w27 PB v28 (w.heap.size) (fB x a c) 105):=B17.out.st S_;have L33:Hid (aD (fun b=>b<PB) w27 a x.on.ks):=aD.bJ L18.out S_;clear con26 P_ S_ f19 f20 f21 f22 f23 f24 f25 P14 S15 G16 B17 L18;go_wp2_with fail
 go_end0
 exact ⟨rfl,v28,P29.out,S30.out⟩
theorem rT (x:Src) (hx:lN x.on) (a:Option Addr) (c:Nat) {PB:Nat} {v:Value} {bs:List UInt8} {w:World} (hG:GP w PB) (hP:ax w PB v bs) (hk:aD (fun b=>b<PB) w a x.on.ks) (hb:(an bs (gH false x)).length≤fW):Calls Tryz.prog 119 #[.pointer (some ⟨PB,0,none⟩),.agg (fB x a c),.bool false] w (aC w PB v (an bs (gH false x))):=by
 have HO:Hid (lN x.on):=hx;clear hx;by_cases h2:x.kind=2
 ·have ev:gH false x = [] ++ [⟨#[106,111,105,110]⟩] ++ [x.name] ++ iP x.alias ++ ([⟨#[111,110]⟩] ++ bm x.on):=by unfold gH; simp only [De,if_false,if_pos h2]
  rw [ev] at hb ⊢;clear ev;have b2:(x.kind != 2)=false:=by simpa using h2
  clear h2;have Hb:Hid _:=hb;clear hb;have hal:=ab w (.cells (fB x a c) 105);have B0:Hid (Bx (w.alloc (.cells (fB x a c) 105)) PB v w.heap.size (fB x a c) 105):=Bx.new hP (fB x a c) 105;have P0:Hid (ax (w.alloc (.cells (fB x a c) 105)) PB v bs):=hP.next hal;have S0:Hid (St PB v w v (w.alloc (.cells (fB x a c) 105))):=St.of hal hP.lt;have G0:Hid (GP (w.alloc (.cells (fB x a c) 105)) PB):=hG.nx hal hP.lt;have L00:Hid (aD (fun b=>b<PB) (w.alloc (.cells (fB x a c) 105)) a x.on.ks):=aD.next hal hk;clear hP hG hal hk
  go_enter Tryz.func119,Tryz.ntmps119;go_upto_region 1 with fail
  generalize (w.alloc (.cells (fB x a c) 105))=w0 at *;go_upto_region 2 with fail
  obtain ⟨C,hCC,hCP,hC0⟩:∃ C:World→Prop,(∀ W W':World,C W→Below W.heap.size W W'→C W')∧(∀ W,C W↔j4 W (w.heap.size) (fB x a c) 105)∧C w0:=⟨fun W=>j4 W (w.heap.size) (fB x a c) 105,fun W W' h hb=>h.nx hb,fun _=>Iff.rfl,B0.out.q⟩
  have hdr:Below w0.heap.size w0 w0.drew:=(CY _ _).drew;have CW:=hCC _ _ hC0 hdr;clear hC0;refine cK C (by kernel_rfl) ?_;refine ae hCC 8 (i:=0) (v:=.pointer (some ⟨PB,0,none⟩)) (fun n hn=>?_) CW ?_
  ·go_simp
  simp only [Act.put,pA,pB,pC];refine ae hCC 9 (i:=1) (v:=.pointer (some ⟨w.heap.size,0,none⟩)) (fun n hn=>?_) CW ?_
  ·go_simp
  simp only [Act.put,pA,pB,pC];refine ae hCC 10 (i:=2) (v:=.int .i64 x.kind) (fun n hn=>?_) CW ?_
  ·have z0:n.cell? ⟨w.heap.size,0,none⟩=some (.int .i64 x.kind):=((hCP n).1 hn).c 0 rfl;go_simp
  simp only [Act.put,pA,pB,pC];refine ae hCC 11 (i:=3) (v:=.bool false) (fun n hn=>?_) CW ?_
  ·go_simp
  simp only [Act.put,pA,pB,pC];refine ae hCC 13 (i:=5) (v:=.pointer (some ⟨w.heap.size,0,none⟩)) (fun n hn=>?_) CW ?_
  ·go_simp
  simp only [Act.put,pA,pB,pC];refine ae hCC 14 (i:=6) (v:=.int .i64 x.kind) (fun n hn=>?_) CW ?_
  ·have z0:n.cell? ⟨w.heap.size,0,none⟩=some (.int .i64 x.kind):=((hCP n).1 hn).c 0 rfl;go_simp
  simp only [Act.put,pA,pB,pC];refine bA (rs:=[4]) (by kernel_rfl) (by simp) ?_;intro w5 hb5 jj hj;obtain rfl:jj=4:=by simpa using hj
  clear hj;have D5:=chain hdr hb5;have con:=nL w5;refine wpOp_step rfl (fun K hK=>?_);go_simp;refine con.mono ?_;rintro e w6 ⟨g6,rfl,q6,_,hb6⟩;have CW6:=hCC _ _ (hCC _ _ CW hb5) hb6;refine hK _ _ ⟨CW6,?_⟩;clear hK K con CW;have D6:=chain D5 hb6;clear hb6 D5 hb5;try simp only [Act.put,pA,pB,pC]
  refine bA (rs:=[7]) (by kernel_rfl) (by simp) ?_;intro w7 hb7 jj hj;obtain rfl:jj=7:=by simpa using hj
  clear hj;have q7:=(hb7.block _ (lt_of_heap q6)).trans q6;have con:=fC (x.kind) uP (by decide) (some ⟨g6,0,none⟩) uP.length _ (iX q7);refine wpOp_step rfl (fun K hK=>?_);go_simp;refine con.mono ?_;rintro e w8 ⟨rfl,hb8⟩;have CW8:=hCC _ _ (hCC _ _ CW6 hb7) hb8;refine hK _ _ ⟨CW8,?_⟩;have D8:=chain D6 (chain hb7 hb8);clear hK K con CW6 hb7 hb8 D6 q6 q7;generalize (bK x.kind uP)=wd at *;try simp only [Act.put,pA,pB,pC]
  refine bA (rs:=[8]) (by kernel_rfl) (by simp) ?_;intro wB hbB jj hj;obtain rfl:jj=8:=by simpa using hj
  clear hj;have DB:=chain D8 hbB;have con:Calls Tryz.prog 86 #[.pointer (some ⟨PB,0,none⟩),.bool false,.string wd] wB (aC wB PB v (an bs ([]))):=dd false wd (P0.out.next DB) (cH (cH (cH (cH (Hb.out)))));refine wpOp_step rfl (fun K hK=>?_);go_simp;refine con.mono ?_;rintro e wC ⟨rfl,vC,PC,SC⟩;have SB:St PB v w0 v wB:=St.of DB P0.out.lt;refine hK _ _ ⟨(hCP _).2 ((B0.out.st SB).st SC).q,?_⟩;refine fq (by kernel_rfl) ?_;intro wD hbD;have S_:St PB v w0 vC wD:=SB.trans (SC.trans (St.of hbD PC.lt))
  have P1:Hid (ax wD PB vC (an bs ([]))):=by show ax _ _ _ _; exact PC.next hbD
  have S2:Hid (St PB v w vC wD):=S0.out.trans S_;have G3:Hid (GP wD PB):=G0.out.st S_;have B4:Hid (Bx wD PB vC (w.heap.size) (fB x a c) 105):=B0.out.st S_;have L5:Hid (aD (fun b=>b<PB) wD a x.on.ks):=aD.bJ L00.out S_;clear con hK K CW8 hCC hCP SB SC PC S_ DB D8 hdr hbB hbD P0 S0 G0 B0 L00
  have con6:Calls Tryz.prog 57 #[.pointer (some ⟨PB,0,none⟩),.slice (some ⟨wD.heap.size,0,none⟩) 1 1] (wD.alloc (.cells #[.string ⟨#[106,111,105,110]⟩] 9)) (aC wD PB vC (an (an bs ([])) ([⟨#[106,111,105,110]⟩]))):=aW [⟨#[106,111,105,110]⟩] P1.out (by rw [← ak]; exact cH (cH (cH (Hb.out)))) (by simp);go_wp2_with fail
  refine con6.mono ?_;rintro e w7 ⟨rfl,v8,P_,S_⟩;have P9:Hid (ax w7 PB v8 (an bs ([] ++ [⟨#[106,111,105,110]⟩]))):=by show ax _ _ _ _; rw [ak]; exact P_
  have S10:Hid (St PB v w v8 w7):=S2.out.trans S_;have G11:Hid (GP w7 PB):=G3.out.st S_;have B12:Hid (Bx w7 PB v8 (w.heap.size) (fB x a c) 105):=B4.out.st S_;have L13:Hid (aD (fun b=>b<PB) w7 a x.on.ks):=aD.bJ L5.out S_;clear con6 P_ S_  P1 S2 G3 B4 L5;have f14:w7.cell? ⟨w.heap.size,1,none⟩=some (.string x.name):=B12.out.c 1 rfl
  have con15:Calls Tryz.prog 57 #[.pointer (some ⟨PB,0,none⟩),.slice (some ⟨w7.heap.size,0,none⟩) 1 1] (w7.alloc (.cells #[.string x.name] 9)) (aC w7 PB v8 (an (an bs ([] ++ [⟨#[106,111,105,110]⟩])) ([x.name]))):=aW [x.name] P9.out (by rw [← ak]; exact cH (cH (Hb.out))) (by simp);go_wp2_with fail
  refine con15.mono ?_;rintro e w16 ⟨rfl,v17,P_,S_⟩;have P18:Hid (ax w16 PB v17 (an bs ([] ++ [⟨#[106,111,105,110]⟩] ++ [x.name]))):=by show ax _ _ _ _; rw [ak]; exact P_
  have S19:Hid (St PB v w v17 w16):=S10.out.trans S_;have G20:Hid (GP w16 PB):=G11.out.st S_;have B21:Hid (Bx w16 PB v17 (w.heap.size) (fB x a c) 105):=B12.out.st S_;have L22:Hid (aD (fun b=>b<PB) w16 a x.on.ks):=aD.bJ L13.out S_;clear con15 P_ S_ f14 P9 S10 G11 B12 L13;have f23:w16.cell? ⟨w.heap.size,2,none⟩=some (.string x.alias):=B21.out.c 2 rfl
  have con24:Calls Tryz.prog 143 #[.pointer (some ⟨PB,0,none⟩),.string x.alias] w16 (aC w16 PB v17 (an (an bs ([] ++ [⟨#[106,111,105,110]⟩] ++ [x.name])) (iP x.alias))):=iQ x.alias (P18.out) (by rw [← ak]; exact cH (Hb.out));go_wp2_with fail
  refine con24.mono ?_;rintro e w25 ⟨rfl,v26,P_,S_⟩;have P27:Hid (ax w25 PB v26 (an bs ([] ++ [⟨#[106,111,105,110]⟩] ++ [x.name] ++ iP x.alias))):=by show ax _ _ _ _; rw [ak]; exact P_
  have S28:Hid (St PB v w v26 w25):=S19.out.trans S_;have G29:Hid (GP w25 PB):=G20.out.st S_;have B30:Hid (Bx w25 PB v26 (w.heap.size) (fB x a c) 105):=B21.out.st S_;have L31:Hid (aD (fun b=>b<PB) w25 a x.on.ks):=aD.bJ L22.out S_;clear con24 P_ S_ f23 P18 S19 G20 B21 L22;have f32:w25.cell? ⟨w.heap.size,3,none⟩=some (.int .i64 x.on.k):=B30.out.c 3 rfl;have f33:w25.cell? ⟨w.heap.size,4,none⟩=some (.int .i64 x.on.v.1):=B30.out.c 4 rfl;have f34:w25.cell? ⟨w.heap.size,5,none⟩=some (.int .i64 x.on.v.2.1):=B30.out.c 5 rfl
  have f35:w25.cell? ⟨w.heap.size,6,none⟩=some (.string x.on.v.2.2):=B30.out.c 6 rfl;have f36:w25.cell? ⟨w.heap.size,7,none⟩=some (.string x.on.aH):=B30.out.c 7 rfl;have f37:w25.cell? ⟨w.heap.size,8,none⟩=some (.string x.on.name):=B30.out.c 8 rfl;have f38:w25.cell? ⟨w.heap.size,9,none⟩=some (.slice a x.on.ks.length c):=B30.out.c 9 rfl
  have con39:Calls Tryz.prog 63 #[.pointer (some ⟨PB,0,none⟩),.string ⟨#[111,110]⟩,.bool true,.agg (aT x.on a c)] w25 (aC w25 PB v26 (an (an bs ([] ++ [⟨#[106,111,105,110]⟩] ++ [x.name] ++ iP x.alias)) (([⟨#[111,110]⟩] ++ bm x.on)))):=dF ⟨#[111,110]⟩ true x.on (fun _=>HO.out) a c (G29.out) (P27.out) L31.out (by rw [← ak]; exact Hb.out);go_wp2_with fail
  refine con39.mono ?_;rintro e w40 ⟨rfl,v41,P_,S_⟩;have P42:Hid (ax w40 PB v41 (an bs ([] ++ [⟨#[106,111,105,110]⟩] ++ [x.name] ++ iP x.alias ++ ([⟨#[111,110]⟩] ++ bm x.on)))):=by show ax _ _ _ _; rw [ak]; exact P_
  have S43:Hid (St PB v w v41 w40):=S28.out.trans S_;have G44:Hid (GP w40 PB):=G29.out.st S_;have B45:Hid (Bx w40 PB v41 (w.heap.size) (fB x a c) 105):=B30.out.st S_;have L46:Hid (aD (fun b=>b<PB) w40 a x.on.ks):=aD.bJ L31.out S_;clear con39 P_ S_ f32 f33 f34 f35 f36 f37 f38 P27 S28 G29 B30 L31;go_wp2_with fail
  go_end0
  exact ⟨rfl,v41,P42.out,S43.out⟩
 ·have ev:gH false x = [bK x.kind uP] ++ [⟨#[106,111,105,110]⟩] ++ [x.name] ++ iP x.alias ++ ([⟨#[111,110]⟩] ++ bm x.on):=by unfold gH; simp only [De,if_false,if_neg h2]
  rw [ev] at hb ⊢;clear ev;have b2:(x.kind != 2)=true:=by simpa using h2
  clear h2;have Hb:Hid _:=hb;clear hb;have hal:=ab w (.cells (fB x a c) 105);have B0:Hid (Bx (w.alloc (.cells (fB x a c) 105)) PB v w.heap.size (fB x a c) 105):=Bx.new hP (fB x a c) 105;have P0:Hid (ax (w.alloc (.cells (fB x a c) 105)) PB v bs):=hP.next hal;have S0:Hid (St PB v w v (w.alloc (.cells (fB x a c) 105))):=St.of hal hP.lt;have G0:Hid (GP (w.alloc (.cells (fB x a c) 105)) PB):=hG.nx hal hP.lt;have L00:Hid (aD (fun b=>b<PB) (w.alloc (.cells (fB x a c) 105)) a x.on.ks):=aD.next hal hk;clear hP hG hal hk
  go_enter Tryz.func119,Tryz.ntmps119;go_upto_region 1 with fail
  generalize (w.alloc (.cells (fB x a c) 105))=w0 at *;go_upto_region 2 with fail
  obtain ⟨C,hCC,hCP,hC0⟩:∃ C:World→Prop,(∀ W W':World,C W→Below W.heap.size W W'→C W')∧(∀ W,C W↔j4 W (w.heap.size) (fB x a c) 105)∧C w0:=⟨fun W=>j4 W (w.heap.size) (fB x a c) 105,fun W W' h hb=>h.nx hb,fun _=>Iff.rfl,B0.out.q⟩
  have hdr:Below w0.heap.size w0 w0.drew:=(CY _ _).drew;have CW:=hCC _ _ hC0 hdr;clear hC0;refine cK C (by kernel_rfl) ?_;refine ae hCC 8 (i:=0) (v:=.pointer (some ⟨PB,0,none⟩)) (fun n hn=>?_) CW ?_
  ·go_simp
  simp only [Act.put,pA,pB,pC];refine ae hCC 9 (i:=1) (v:=.pointer (some ⟨w.heap.size,0,none⟩)) (fun n hn=>?_) CW ?_
  ·go_simp
  simp only [Act.put,pA,pB,pC];refine ae hCC 10 (i:=2) (v:=.int .i64 x.kind) (fun n hn=>?_) CW ?_
  ·have z0:n.cell? ⟨w.heap.size,0,none⟩=some (.int .i64 x.kind):=((hCP n).1 hn).c 0 rfl;go_simp
  simp only [Act.put,pA,pB,pC];refine ae hCC 11 (i:=3) (v:=.bool true) (fun n hn=>?_) CW ?_
  ·go_simp
  simp only [Act.put,pA,pB,pC];refine ae hCC 13 (i:=5) (v:=.pointer (some ⟨w.heap.size,0,none⟩)) (fun n hn=>?_) CW ?_
  ·go_simp
  simp only [Act.put,pA,pB,pC];refine ae hCC 14 (i:=6) (v:=.int .i64 x.kind) (fun n hn=>?_) CW ?_
  ·have z0:n.cell? ⟨w.heap.size,0,none⟩=some (.int .i64 x.kind):=((hCP n).1 hn).c 0 rfl;go_simp
  simp only [Act.put,pA,pB,pC];refine bA (rs:=[4]) (by kernel_rfl) (by simp) ?_;intro w5 hb5 jj hj;obtain rfl:jj=4:=by simpa using hj
  clear hj;have D5:=chain hdr hb5;have con:=nL w5;refine wpOp_step rfl (fun K hK=>?_);go_simp;refine con.mono ?_;rintro e w6 ⟨g6,rfl,q6,_,hb6⟩;have CW6:=hCC _ _ (hCC _ _ CW hb5) hb6;refine hK _ _ ⟨CW6,?_⟩;clear hK K con CW;have D6:=chain D5 hb6;clear hb6 D5 hb5;try simp only [Act.put,pA,pB,pC]
  refine bA (rs:=[7]) (by kernel_rfl) (by simp) ?_;intro w7 hb7 jj hj;obtain rfl:jj=7:=by simpa using hj
  clear hj;have q7:=(hb7.block _ (lt_of_heap q6)).trans q6;have con:=fC (x.kind) uP (by decide) (some ⟨g6,0,none⟩) uP.length _ (iX q7);refine wpOp_step rfl (fun K hK=>?_);go_simp;refine con.mono ?_;rintro e w8 ⟨rfl,hb8⟩;have CW8:=hCC _ _ (hCC _ _ CW6 hb7) hb8;refine hK _ _ ⟨CW8,?_⟩;have D8:=chain D6 (chain hb7 hb8);clear hK K con CW6 hb7 hb8 D6 q6 q7;generalize (bK x.kind uP)=wd at *;try simp only [Act.put,pA,pB,pC]
  refine bA (rs:=[8]) (by kernel_rfl) (by simp) ?_;intro wB hbB jj hj;obtain rfl:jj=8:=by simpa using hj
  clear hj;have DB:=chain D8 hbB;have con:Calls Tryz.prog 86 #[.pointer (some ⟨PB,0,none⟩),.bool true,.string wd] wB (aC wB PB v (an bs ([wd]))):=dd true wd (P0.out.next DB) (cH (cH (cH (cH (Hb.out)))));refine wpOp_step rfl (fun K hK=>?_);go_simp;refine con.mono ?_;rintro e wC ⟨rfl,vC,PC,SC⟩;have SB:St PB v w0 v wB:=St.of DB P0.out.lt;refine hK _ _ ⟨(hCP _).2 ((B0.out.st SB).st SC).q,?_⟩;refine fq (by kernel_rfl) ?_;intro wD hbD;have S_:St PB v w0 vC wD:=SB.trans (SC.trans (St.of hbD PC.lt))
  have P47:Hid (ax wD PB vC (an bs ([wd]))):=by show ax _ _ _ _; exact PC.next hbD
  have S48:Hid (St PB v w vC wD):=S0.out.trans S_;have G49:Hid (GP wD PB):=G0.out.st S_;have B50:Hid (Bx wD PB vC (w.heap.size) (fB x a c) 105):=B0.out.st S_;have L51:Hid (aD (fun b=>b<PB) wD a x.on.ks):=aD.bJ L00.out S_;clear con hK K CW8 hCC hCP SB SC PC S_ DB D8 hdr hbB hbD P0 S0 G0 B0 L00
  have con52:Calls Tryz.prog 57 #[.pointer (some ⟨PB,0,none⟩),.slice (some ⟨wD.heap.size,0,none⟩) 1 1] (wD.alloc (.cells #[.string ⟨#[106,111,105,110]⟩] 9)) (aC wD PB vC (an (an bs ([wd])) ([⟨#[106,111,105,110]⟩]))):=aW [⟨#[106,111,105,110]⟩] P47.out (by rw [← ak]; exact cH (cH (cH (Hb.out)))) (by simp);go_wp2_with fail
  refine con52.mono ?_;rintro e w53 ⟨rfl,v54,P_,S_⟩;have P55:Hid (ax w53 PB v54 (an bs ([wd] ++ [⟨#[106,111,105,110]⟩]))):=by show ax _ _ _ _; rw [ak]; exact P_
  have S56:Hid (St PB v w v54 w53):=S48.out.trans S_;have G57:Hid (GP w53 PB):=G49.out.st S_;have B58:Hid (Bx w53 PB v54 (w.heap.size) (fB x a c) 105):=B50.out.st S_;have L59:Hid (aD (fun b=>b<PB) w53 a x.on.ks):=aD.bJ L51.out S_;clear con52 P_ S_  P47 S48 G49 B50 L51;have f60:w53.cell? ⟨w.heap.size,1,none⟩=some (.string x.name):=B58.out.c 1 rfl
  have con61:Calls Tryz.prog 57 #[.pointer (some ⟨PB,0,none⟩),.slice (some ⟨w53.heap.size,0,none⟩) 1 1] (w53.alloc (.cells #[.string x.name] 9)) (aC w53 PB v54 (an (an bs ([wd] ++ [⟨#[106,111,105,110]⟩])) ([x.name]))):=aW [x.name] P55.out (by rw [← ak]; exact cH (cH (Hb.out))) (by simp);go_wp2_with fail
  refine con61.mono ?_;rintro e w62 ⟨rfl,v63,P_,S_⟩;have P64:Hid (ax w62 PB v63 (an bs ([wd] ++ [⟨#[106,111,105,110]⟩] ++ [x.name]))):=by show ax _ _ _ _; rw [ak]; exact P_
  have S65:Hid (St PB v w v63 w62):=S56.out.trans S_;have G66:Hid (GP w62 PB):=G57.out.st S_;have B67:Hid (Bx w62 PB v63 (w.heap.size) (fB x a c) 105):=B58.out.st S_;have L68:Hid (aD (fun b=>b<PB) w62 a x.on.ks):=aD.bJ L59.out S_;clear con61 P_ S_ f60 P55 S56 G57 B58 L59;have f69:w62.cell? ⟨w.heap.size,2,none⟩=some (.string x.alias):=B67.out.c 2 rfl
  have con70:Calls Tryz.prog 143 #[.pointer (some ⟨PB,0,none⟩),.string x.alias] w62 (aC w62 PB v63 (an (an bs ([wd] ++ [⟨#[106,111,105,110]⟩] ++ [x.name])) (iP x.alias))):=iQ x.alias (P64.out) (by rw [← ak]; exact cH (Hb.out));go_wp2_with fail
  refine con70.mono ?_;rintro e w71 ⟨rfl,v72,P_,S_⟩;have P73:Hid (ax w71 PB v72 (an bs ([wd] ++ [⟨#[106,111,105,110]⟩] ++ [x.name] ++ iP x.alias))):=by show ax _ _ _ _; rw [ak]; exact P_
  have S74:Hid (St PB v w v72 w71):=S65.out.trans S_;have G75:Hid (GP w71 PB):=G66.out.st S_;have B76:Hid (Bx w71 PB v72 (w.heap.size) (fB x a c) 105):=B67.out.st S_;have L77:Hid (aD (fun b=>b<PB) w71 a x.on.ks):=aD.bJ L68.out S_;clear con70 P_ S_ f69 P64 S65 G66 B67 L68;have f78:w71.cell? ⟨w.heap.size,3,none⟩=some (.int .i64 x.on.k):=B76.out.c 3 rfl;have f79:w71.cell? ⟨w.heap.size,4,none⟩=some (.int .i64 x.on.v.1):=B76.out.c 4 rfl;have f80:w71.cell? ⟨w.heap.size,5,none⟩=some (.int .i64 x.on.v.2.1):=B76.out.c 5 rfl
  have f81:w71.cell? ⟨w.heap.size,6,none⟩=some (.string x.on.v.2.2):=B76.out.c 6 rfl;have f82:w71.cell? ⟨w.heap.size,7,none⟩=some (.string x.on.aH):=B76.out.c 7 rfl;have f83:w71.cell? ⟨w.heap.size,8,none⟩=some (.string x.on.name):=B76.out.c 8 rfl;have f84:w71.cell? ⟨w.heap.size,9,none⟩=some (.slice a x.on.ks.length c):=B76.out.c 9 rfl
  have con85:Calls Tryz.prog 63 #[.pointer (some ⟨PB,0,none⟩),.string ⟨#[111,110]⟩,.bool true,.agg (aT x.on a c)] w71 (aC w71 PB v72 (an (an bs ([wd] ++ [⟨#[106,111,105,110]⟩] ++ [x.name] ++ iP x.alias)) (([⟨#[111,110]⟩] ++ bm x.on)))):=dF ⟨#[111,110]⟩ true x.on (fun _=>HO.out) a c (G75.out) (P73.out) L77.out (by rw [← ak]; exact Hb.out);go_wp2_with fail
  refine con85.mono ?_;rintro e w86 ⟨rfl,v87,P_,S_⟩;have P88:Hid (ax w86 PB v87 (an bs ([wd] ++ [⟨#[106,111,105,110]⟩] ++ [x.name] ++ iP x.alias ++ ([⟨#[111,110]⟩] ++ bm x.on)))):=by show ax _ _ _ _; rw [ak]; exact P_
  have S89:Hid (St PB v w v87 w86):=S74.out.trans S_;have G90:Hid (GP w86 PB):=G75.out.st S_;have B91:Hid (Bx w86 PB v87 (w.heap.size) (fB x a c) 105):=B76.out.st S_;have L92:Hid (aD (fun b=>b<PB) w86 a x.on.ks):=aD.bJ L77.out S_;clear con85 P_ S_ f78 f79 f80 f81 f82 f83 f84 P73 S74 G75 B76 L77;go_wp2_with fail
  go_end0
  exact ⟨rfl,v87,P88.out,S89.out⟩
def jx (b:Bool) (s:ByteArray):List ByteArray:=if b then [s] else []
theorem tm (has:Bool) (s:ByteArray) {PB:Nat} {v:Value} {bs:List UInt8} {w:World} (hP:ax w PB v bs) (hb:(an bs (jx has s)).length≤fW):Calls Tryz.prog 86 #[.pointer (some ⟨PB,0,none⟩),.bool has,.string s] w (aC w PB v (an bs (jx has s))):=dd has s hP hb
def ed (l:List Src):Nat→List ByteArray
 | 0=>[]
 | i+1=>ed l i ++ (match l[i]? with | some x=>gH (i == 0) x | none=>[])
theorem sU (bs:List UInt8) (l:List Src) (i:Nat):∀ n,i≤n→(an bs (ed l i)).length≤(an bs (ed l n)).length
 | 0,h=>by rw [Nat.le_zero.1 h]; exact CX _
 | n+1,h=>by
  by_cases e:i=n+1
  ·rw [e]; exact CX _
  ·refine Dt (sU bs l i n (by omega)) ?_
   rw [ed,ak]
   exact fp _ _
theorem yl (l:List Src) (j:Nat) (h:j<l.length):ed l (j+1)=ed l j ++ gH (j == 0) l[j]:=by rw [ed,Dj h]
def iY (l:List SX):List ByteArray:=if l.length=0 then [] else [⟨#[103,114,111,117,112]⟩,⟨#[98,121]⟩] ++ cr bm l
def eT (x:fD):List ByteArray:=if x.star then [⟨#[42]⟩] else cr eR x.items
def fK (x:fD):List ByteArray:=[⟨#[115,101,108,101,99,116]⟩] ++ jx x.distinct ⟨#[100,105,115,116,105,110,99,116]⟩ ++ eT x ++ [⟨#[102,114,111,109]⟩] ++ ed x.sources x.sources.length ++ dV ⟨#[119,104,101,114,101]⟩ x.aB x.ah ++ iY x.group ++ dV ⟨#[104,97,118,105,110,103]⟩ x.aG x.aj
structure p9 (x:fD):Prop where
 items:x.star=false→x.items.length≤1000∧∀ y ∈ x.items,lN y.1
 sources:x.sources.length≤1000∧∀ (i:Nat) (h:i<x.sources.length),0<i→lN x.sources[i].on
 ah:x.aB=true→lN x.ah
 aj:x.aG=true→lN x.aj
 group:x.group.length≤1000∧∀ y ∈ x.group,lN y
theorem ky (x:fD) (ok:p9 x) (a1 a2 a3 a4 a5:Option Addr) (c1 c2 c3 c4 c5:Nat) {PB:Nat} {v:Value} {bs:List UInt8} {w:World} (hG:GP w PB) (hP:ax w PB v bs) (k1:aI fy 8 (fun b=>b<PB) w a1 x.items) (k2:aI cQ 10 (fun b=>b<PB) w a2 x.sources) (k3:aD (fun b=>b<PB) w a3 x.ah.ks) (k4:aD (fun b=>b<PB) w a4 x.aj.ks) (k5:aI bO 7 (fun b=>b<PB) w a5 x.group) (hb:(an bs (fK x)).length≤fW):Calls Tryz.prog 90 #[.pointer (some ⟨PB,0,none⟩),.agg (eE x a1 a2 a3 a4 a5 c1 c2 c3 c4 c5)] w (aC w PB v (an bs (fK x))):=by
 rw [fK] at hb ⊢;have hmf:∀ (fn:Fn) (first cap:Array Value) (w:World),(Instr.makeFunc fn first cap).run Tryz.prog w = .ok (.func fn first cap) w:=fun _ _ _ _=>rfl
 have HO:Hid (p9 x):=ok;have ns:=ok.sources.1;clear ok;have Hb:Hid _:=hb;clear hb;have hal:=ab w (.cells (eE x a1 a2 a3 a4 a5 c1 c2 c3 c4 c5) 79);have B0:Hid (Bx (w.alloc (.cells (eE x a1 a2 a3 a4 a5 c1 c2 c3 c4 c5) 79)) PB v w.heap.size (eE x a1 a2 a3 a4 a5 c1 c2 c3 c4 c5) 79):=Bx.new hP (eE x a1 a2 a3 a4 a5 c1 c2 c3 c4 c5) 79;have P0:Hid (ax (w.alloc (.cells (eE x a1 a2 a3 a4 a5 c1 c2 c3 c4 c5) 79)) PB v bs):=hP.next hal
 have S0:Hid (St PB v w v (w.alloc (.cells (eE x a1 a2 a3 a4 a5 c1 c2 c3 c4 c5) 79))):=St.of hal hP.lt;have G0:Hid (GP (w.alloc (.cells (eE x a1 a2 a3 a4 a5 c1 c2 c3 c4 c5) 79)) PB):=hG.nx hal hP.lt;have L00:Hid (aI fy 8 (fun b=>b<PB) (w.alloc (.cells (eE x a1 a2 a3 a4 a5 c1 c2 c3 c4 c5) 79)) a1 x.items):=(k1).nx gh hal;have L01:Hid (aI cQ 10 (fun b=>b<PB) (w.alloc (.cells (eE x a1 a2 a3 a4 a5 c1 c2 c3 c4 c5) 79)) a2 x.sources):=(k2).nx dq hal;have L02:Hid (aD (fun b=>b<PB) (w.alloc (.cells (eE x a1 a2 a3 a4 a5 c1 c2 c3 c4 c5) 79)) a3 x.ah.ks):=aD.next hal k3
 have L03:Hid (aD (fun b=>b<PB) (w.alloc (.cells (eE x a1 a2 a3 a4 a5 c1 c2 c3 c4 c5) 79)) a4 x.aj.ks):=aD.next hal k4;have L04:Hid (aI bO 7 (fun b=>b<PB) (w.alloc (.cells (eE x a1 a2 a3 a4 a5 c1 c2 c3 c4 c5) 79)) a5 x.group):=(k5).nx bX hal;clear hP hG hal k1 k2 k3 k4 k5;go_enter Tryz.func90,Tryz.ntmps90;go_upto_region 1 with fail
 generalize (w.alloc (.cells (eE x a1 a2 a3 a4 a5 c1 c2 c3 c4 c5) 79))=w0 at *;have con1:Calls Tryz.prog 57 #[.pointer (some ⟨PB,0,none⟩),.slice (some ⟨w0.heap.size,0,none⟩) 1 1] (w0.alloc (.cells #[.string ⟨#[115,101,108,101,99,116]⟩] 9)) (aC w0 PB v (an bs ([⟨#[115,101,108,101,99,116]⟩]))):=aW [⟨#[115,101,108,101,99,116]⟩] P0.out (cH (cH (cH (cH (cH (cH (cH (Hb.out)))))))) (by simp);go_wp2_with fail
 refine con1.mono ?_;rintro e w2 ⟨rfl,v3,P_,S_⟩;have P4:Hid (ax w2 PB v3 (an bs ([⟨#[115,101,108,101,99,116]⟩]))):=P_;have S5:Hid (St PB v w v3 w2):=S0.out.trans S_;have G6:Hid (GP w2 PB):=G0.out.st S_;have B7:Hid (Bx w2 PB v3 (w.heap.size) (eE x a1 a2 a3 a4 a5 c1 c2 c3 c4 c5) 79):=B0.out.st S_;have L8:Hid (aI fy 8 (fun b=>b<PB) w2 a1 x.items):=(L00.out).bJ gh S_;have L9:Hid (aI cQ 10 (fun b=>b<PB) w2 a2 x.sources):=(L01.out).bJ dq S_;have L10:Hid (aD (fun b=>b<PB) w2 a3 x.ah.ks):=aD.bJ L02.out S_;have L11:Hid (aD (fun b=>b<PB) w2 a4 x.aj.ks):=aD.bJ L03.out S_
 have L12:Hid (aI bO 7 (fun b=>b<PB) w2 a5 x.group):=(L04.out).bJ bX S_;clear con1 P_ S_  P0 S0 G0 B0 L00 L01 L02 L03 L04;have f13:w2.cell? ⟨w.heap.size,0,none⟩=some (.bool x.distinct):=B7.out.c 0 rfl;have con14:Calls Tryz.prog 86 #[.pointer (some ⟨PB,0,none⟩),.bool x.distinct,.string ⟨#[100,105,115,116,105,110,99,116]⟩] w2 (aC w2 PB v3 (an (an bs ([⟨#[115,101,108,101,99,116]⟩])) (jx x.distinct ⟨#[100,105,115,116,105,110,99,116]⟩))):=tm x.distinct ⟨#[100,105,115,116,105,110,99,116]⟩ P4.out (by rw [← ak]; exact cH (cH (cH (cH (cH (cH (Hb.out)))))))
 go_wp2_with fail
 refine con14.mono ?_;rintro e w15 ⟨rfl,v16,P_,S_⟩;have P17:Hid (ax w15 PB v16 (an bs ([⟨#[115,101,108,101,99,116]⟩] ++ jx x.distinct ⟨#[100,105,115,116,105,110,99,116]⟩))):=by show ax _ _ _ _; rw [ak]; exact P_
 have S18:Hid (St PB v w v16 w15):=S5.out.trans S_;have G19:Hid (GP w15 PB):=G6.out.st S_;have B20:Hid (Bx w15 PB v16 (w.heap.size) (eE x a1 a2 a3 a4 a5 c1 c2 c3 c4 c5) 79):=B7.out.st S_;have L21:Hid (aI fy 8 (fun b=>b<PB) w15 a1 x.items):=(L8.out).bJ gh S_;have L22:Hid (aI cQ 10 (fun b=>b<PB) w15 a2 x.sources):=(L9.out).bJ dq S_;have L23:Hid (aD (fun b=>b<PB) w15 a3 x.ah.ks):=aD.bJ L10.out S_;have L24:Hid (aD (fun b=>b<PB) w15 a4 x.aj.ks):=aD.bJ L11.out S_;have L25:Hid (aI bO 7 (fun b=>b<PB) w15 a5 x.group):=(L12.out).bJ bX S_
 clear con14 P_ S_ f13 P4 S5 G6 B7 L8 L9 L10 L11 L12;have f26:w15.cell? ⟨w.heap.size,1,none⟩=some (.bool x.star):=B20.out.c 1 rfl;go_upto_if 14 with fail
 clear f26;go_cut [1,14] (fun _ _ wc=>∃ vc,Hid (ax wc PB vc (an bs ([⟨#[115,101,108,101,99,116]⟩] ++ jx x.distinct ⟨#[100,105,115,116,105,110,99,116]⟩ ++ eT x)))∧Hid (St PB v w vc wc)∧Hid (GP wc PB)∧Hid (Bx wc PB vc (w.heap.size) (eE x a1 a2 a3 a4 a5 c1 c2 c3 c4 c5) 79)∧Hid (aI fy 8 (fun b=>b<PB) wc a1 x.items)∧Hid (aI cQ 10 (fun b=>b<PB) wc a2 x.sources)∧Hid (aD (fun b=>b<PB) wc a3 x.ah.ks)∧Hid (aD (fun b=>b<PB) wc a4 x.aj.ks)∧Hid (aI bO 7 (fun b=>b<PB) wc a5 x.group))
 case first=>as_aux_lemma =>
  cases hs:x.star
  ·have ei:eT x=cr eR x.items:=by unfold eT; rw [hs]; rfl
   rw [ei] at Hb;have f27:w15.cell? ⟨w.heap.size,2,none⟩=some (.slice a1 x.items.length c1):=B20.out.c 2 rfl;have con28:Calls Tryz.prog 117 #[.pointer (some ⟨PB,0,none⟩),.slice a1 x.items.length c1,.func (.func 118) #[.pointer (some ⟨PB,0,none⟩)] #[]] w15 (aC w15 PB v16 (an (an bs ([⟨#[115,101,108,101,99,116]⟩] ++ jx x.distinct ⟨#[100,105,115,116,105,110,99,116]⟩)) (cr eR x.items))):=rK x.items (HO.out.items hs).1 (HO.out.items hs).2 a1 c1 (G19.out) (P17.out) L21.out (by rw [← ak]; exact cH (cH (cH (cH (cH (Hb.out))))));go_wp2_with fail
   refine con28.mono ?_;rintro e w29 ⟨rfl,v30,P_,S_⟩;have P31:Hid (ax w29 PB v30 (an bs ([⟨#[115,101,108,101,99,116]⟩] ++ jx x.distinct ⟨#[100,105,115,116,105,110,99,116]⟩ ++ cr eR x.items))):=by show ax _ _ _ _; rw [ak]; exact P_
   have S32:Hid (St PB v w v30 w29):=S18.out.trans S_;have G33:Hid (GP w29 PB):=G19.out.st S_;have B34:Hid (Bx w29 PB v30 (w.heap.size) (eE x a1 a2 a3 a4 a5 c1 c2 c3 c4 c5) 79):=B20.out.st S_;have L35:Hid (aI fy 8 (fun b=>b<PB) w29 a1 x.items):=(L21.out).bJ gh S_;have L36:Hid (aI cQ 10 (fun b=>b<PB) w29 a2 x.sources):=(L22.out).bJ dq S_;have L37:Hid (aD (fun b=>b<PB) w29 a3 x.ah.ks):=aD.bJ L23.out S_;have L38:Hid (aD (fun b=>b<PB) w29 a4 x.aj.ks):=aD.bJ L24.out S_;have L39:Hid (aI bO 7 (fun b=>b<PB) w29 a5 x.group):=(L25.out).bJ bX S_
   clear con28 P_ S_ f27 P17 S18 G19 B20 L21 L22 L23 L24 L25;go_wp2_with fail
   go_meet
   case rel=>exact ⟨v30,by show ax _ _ _ _; rw [ei]; exact P31.out,S32,G33,B34,L35,L36,L37,L38,L39⟩
  ·have ei:eT x = [⟨#[42]⟩]:=by unfold eT; rw [hs]; rfl
   rw [ei] at Hb
   skip
   have con40:Calls Tryz.prog 57 #[.pointer (some ⟨PB,0,none⟩),.slice (some ⟨w15.heap.size,0,none⟩) 1 1] (w15.alloc (.cells #[.string ⟨#[42]⟩] 9)) (aC w15 PB v16 (an (an bs ([⟨#[115,101,108,101,99,116]⟩] ++ jx x.distinct ⟨#[100,105,115,116,105,110,99,116]⟩)) ([⟨#[42]⟩]))):=aW [⟨#[42]⟩] P17.out (by rw [← ak]; exact cH (cH (cH (cH (cH (Hb.out)))))) (by simp);go_wp2_with fail
   refine con40.mono ?_;rintro e w41 ⟨rfl,v42,P_,S_⟩;have P43:Hid (ax w41 PB v42 (an bs ([⟨#[115,101,108,101,99,116]⟩] ++ jx x.distinct ⟨#[100,105,115,116,105,110,99,116]⟩ ++ [⟨#[42]⟩]))):=by show ax _ _ _ _; rw [ak]; exact P_
   have S44:Hid (St PB v w v42 w41):=S18.out.trans S_;have G45:Hid (GP w41 PB):=G19.out.st S_;have B46:Hid (Bx w41 PB v42 (w.heap.size) (eE x a1 a2 a3 a4 a5 c1 c2 c3 c4 c5) 79):=B20.out.st S_;have L47:Hid (aI fy 8 (fun b=>b<PB) w41 a1 x.items):=(L21.out).bJ gh S_;have L48:Hid (aI cQ 10 (fun b=>b<PB) w41 a2 x.sources):=(L22.out).bJ dq S_;have L49:Hid (aD (fun b=>b<PB) w41 a3 x.ah.ks):=aD.bJ L23.out S_;have L50:Hid (aD (fun b=>b<PB) w41 a4 x.aj.ks):=aD.bJ L24.out S_;have L51:Hid (aI bO 7 (fun b=>b<PB) w41 a5 x.group):=(L25.out).bJ bX S_
   clear con40 P_ S_  P17 S18 G19 B20 L21 L22 L23 L24 L25;go_wp2_with fail
   go_meet
   case rel=>exact ⟨v42,by show ax _ _ _ _; rw [ei]; exact P43.out,S44,G45,B46,L47,L48,L49,L50,L51⟩
 case rest=>as_aux_lemma =>
  obtain ⟨vc,Pc,Sc,Gc,Bc,Lc0,Lc1,Lc2,Lc3,Lc4⟩:=hcut;clear P17 S18 G19 B20 L21 L22 L23 L24 L25;have con52:Calls Tryz.prog 57 #[.pointer (some ⟨PB,0,none⟩),.slice (some ⟨wc.heap.size,0,none⟩) 1 1] (wc.alloc (.cells #[.string ⟨#[102,114,111,109]⟩] 9)) (aC wc PB vc (an (an bs ([⟨#[115,101,108,101,99,116]⟩] ++ jx x.distinct ⟨#[100,105,115,116,105,110,99,116]⟩ ++ eT x)) ([⟨#[102,114,111,109]⟩]))):=aW [⟨#[102,114,111,109]⟩] Pc.out (by rw [← ak]; exact cH (cH (cH (cH (Hb.out))))) (by simp);go_wp2_with fail
  refine con52.mono ?_;rintro e w53 ⟨rfl,v54,P_,S_⟩;have P55:Hid (ax w53 PB v54 (an bs ([⟨#[115,101,108,101,99,116]⟩] ++ jx x.distinct ⟨#[100,105,115,116,105,110,99,116]⟩ ++ eT x ++ [⟨#[102,114,111,109]⟩]))):=by show ax _ _ _ _; rw [ak]; exact P_
  have S56:Hid (St PB v w v54 w53):=Sc.out.trans S_;have G57:Hid (GP w53 PB):=Gc.out.st S_;have B58:Hid (Bx w53 PB v54 (w.heap.size) (eE x a1 a2 a3 a4 a5 c1 c2 c3 c4 c5) 79):=Bc.out.st S_;have L59:Hid (aI fy 8 (fun b=>b<PB) w53 a1 x.items):=(Lc0.out).bJ gh S_;have L60:Hid (aI cQ 10 (fun b=>b<PB) w53 a2 x.sources):=(Lc1.out).bJ dq S_;have L61:Hid (aD (fun b=>b<PB) w53 a3 x.ah.ks):=aD.bJ Lc2.out S_;have L62:Hid (aD (fun b=>b<PB) w53 a4 x.aj.ks):=aD.bJ Lc3.out S_;have L63:Hid (aI bO 7 (fun b=>b<PB) w53 a5 x.group):=(Lc4.out).bJ bX S_
  clear con52 P_ S_  Pc Sc Gc Bc Lc0 Lc1 Lc2 Lc3 Lc4;have f64:w53.cell? ⟨w.heap.size,3,none⟩=some (.slice a2 x.sources.length c2):=B58.out.c 3 rfl;have HB:Hid (∀ j,j<x.sources.length→(an bs ([⟨#[115,101,108,101,99,116]⟩] ++ jx x.distinct ⟨#[100,105,115,116,105,110,99,116]⟩ ++ eT x ++ [⟨#[102,114,111,109]⟩] ++ ed x.sources (j+1))).length≤fW):=fun j hj=>by
   have h:=cH (cH (cH Hb.out));rw [ak] at h ⊢;exact Dt (sU _ x.sources (j+1) x.sources.length hj) h
  go_wp2_with fail
  clear f64;go_loopw [30] (fun i wr=>∃ (j:Nat) (v':Value),j≤x.sources.length∧i = .int .i64 j∧Hid (ax wr PB v' (an bs ([⟨#[115,101,108,101,99,116]⟩] ++ jx x.distinct ⟨#[100,105,115,116,105,110,99,116]⟩ ++ eT x ++ [⟨#[102,114,111,109]⟩] ++ ed x.sources j)))∧Hid (St PB v54 w53 v' wr)) (fun i _=>x.sources.length - (RowKit.intOf i).toNat)
  case atStart=>exact ⟨0,v54,Dm _,rfl,by show ax _ _ _ _; rw [ed,List.append_nil]; exact P55.out,St.refl _ _ _⟩
  case round =>
   obtain ⟨j,v1,hj,rfl,hP1,hS1⟩:=hrel;have hG1:Hid (GP wr PB):=G57.out.st hS1.out;by_cases hlt:j<x.sources.length
   ·as_aux_lemma =>
     have hBj:=HB.out j hlt;have hoj:=fun h=>HO.out.sources.2 j hlt h
     obtain ⟨b1,o1,_,rfl,t1,ai,ci,rfl,kk⟩:=(L60.out.bJ dq hS1.out).get hlt;have hsj:=yl x.sources j hlt;rw [hsj,← Dc] at hBj;have hjz:(j:Int)<(x.sources.length:Int):=by omega
     generalize x.sources[j]=y at *;have Hb2:Hid _:=hBj;have HSJ:Hid (ed x.sources (j+1)=_):=hsj;have HOJ:Hid (0<j→lN y.on):=hoj;have KK:Hid (aD (fun b=>b<PB) wr ai y.on.ks):=kk;clear hBj hsj hoj kk Hb;have z0:wr.cell? ⟨b1,o1+j*10,none⟩=some (.int .i64 y.kind):=t1.2 0 _ rfl;have z1:wr.cell? ⟨b1,o1+j*10+1,none⟩=some (.string y.name):=t1.2 1 _ rfl;have z2:wr.cell? ⟨b1,o1+j*10+2,none⟩=some (.string y.alias):=t1.2 2 _ rfl;have z3:wr.cell? ⟨b1,o1+j*10+3,none⟩=some (.int .i64 y.on.k):=t1.2 3 _ rfl;have z4:wr.cell? ⟨b1,o1+j*10+4,none⟩=some (.int .i64 y.on.v.1):=t1.2 4 _ rfl
     have z5:wr.cell? ⟨b1,o1+j*10+5,none⟩=some (.int .i64 y.on.v.2.1):=t1.2 5 _ rfl;have z6:wr.cell? ⟨b1,o1+j*10+6,none⟩=some (.string y.on.v.2.2):=t1.2 6 _ rfl;have z7:wr.cell? ⟨b1,o1+j*10+7,none⟩=some (.string y.on.aH):=t1.2 7 _ rfl;have z8:wr.cell? ⟨b1,o1+j*10+8,none⟩=some (.string y.on.name):=t1.2 8 _ rfl;have z9:wr.cell? ⟨b1,o1+j*10+9,none⟩=some (.slice ai y.on.ks.length ci):=t1.2 9 _ rfl;clear t1;have hal:=ab wr (.cells (fB y ai ci) 105);go_upto_region 10 with fail
     have B0:Hid (Bx (wr.alloc (.cells (fB y ai ci) 105)) PB v1 wr.heap.size (fB y ai ci) 105):=Bx.new hP1.out (fB y ai ci) 105;have P0:Hid (ax (wr.alloc (.cells (fB y ai ci) 105)) PB v1 (an bs ([⟨#[115,101,108,101,99,116]⟩] ++ jx x.distinct ⟨#[100,105,115,116,105,110,99,116]⟩ ++ eT x ++ [⟨#[102,114,111,109]⟩] ++ ed x.sources j))):=hP1.out.next hal;have S0:Hid (St PB v54 w53 v1 (wr.alloc (.cells (fB y ai ci) 105))):=hS1.out.trans (St.of hal hP1.out.lt);have G0:Hid (GP (wr.alloc (.cells (fB y ai ci) 105)) PB):=hG1.out.nx hal hP1.out.lt
     have L00:Hid (aD (fun b=>b<PB) (wr.alloc (.cells (fB y ai ci) 105)) ai y.on.ks):=aD.next hal KK.out;clear hP1 hS1 hG1 hal KK z0 z1 z2 z3 z4 z5 z6 z7 z8 z9;generalize (wr.alloc (.cells (fB y ai ci) 105))=w00 at *;by_cases hj0:j=0
     ·subst hj0;rw [show ((0:Nat) == 0)=true from rfl] at Hb2 HSJ;have q0:w00.cell? ⟨wr.heap.size,0,none⟩=some (.int .i64 y.kind):=B0.out.c 0 rfl;have q1:w00.cell? ⟨wr.heap.size,1,none⟩=some (.string y.name):=B0.out.c 1 rfl;have q2:w00.cell? ⟨wr.heap.size,2,none⟩=some (.string y.alias):=B0.out.c 2 rfl;have q3:w00.cell? ⟨wr.heap.size,3,none⟩=some (.int .i64 y.on.k):=B0.out.c 3 rfl;have q4:w00.cell? ⟨wr.heap.size,4,none⟩=some (.int .i64 y.on.v.1):=B0.out.c 4 rfl;have q5:w00.cell? ⟨wr.heap.size,5,none⟩=some (.int .i64 y.on.v.2.1):=B0.out.c 5 rfl
      have q6:w00.cell? ⟨wr.heap.size,6,none⟩=some (.string y.on.v.2.2):=B0.out.c 6 rfl;have q7:w00.cell? ⟨wr.heap.size,7,none⟩=some (.string y.on.aH):=B0.out.c 7 rfl;have q8:w00.cell? ⟨wr.heap.size,8,none⟩=some (.string y.on.name):=B0.out.c 8 rfl;have q9:w00.cell? ⟨wr.heap.size,9,none⟩=some (.slice ai y.on.ks.length ci):=B0.out.c 9 rfl
      have con:Calls Tryz.prog 119 #[.pointer (some ⟨PB,0,none⟩),.agg (fB y ai ci),.bool true] w00 (aC w00 PB v1 (an (an bs ([⟨#[115,101,108,101,99,116]⟩] ++ jx x.distinct ⟨#[100,105,115,116,105,110,99,116]⟩ ++ eT x ++ [⟨#[102,114,111,109]⟩] ++ ed x.sources 0)) (gH true y))):=rU y ai ci G0.out P0.out L00.out (by rw [← ak]; exact Hb2.out);go_wp2_with fail
      refine con.mono ?_;rintro e wX ⟨rfl,vX,PX,SX_⟩;have PZ:Hid (ax wX PB vX (an bs ([⟨#[115,101,108,101,99,116]⟩] ++ jx x.distinct ⟨#[100,105,115,116,105,110,99,116]⟩ ++ eT x ++ [⟨#[102,114,111,109]⟩] ++ ed x.sources (0+1)))):=by show ax _ _ _ _; rw [HSJ.out,← Dc,ak]; exact PX
      have SZ:Hid (St PB v54 w53 vX wX):=S0.out.trans SX_;clear con PX SX_ P0 S0 q0 q1 q2 q3 q4 q5 q6 q7 q8 q9;go_wp2_with fail
      go_roundw
      case rel=>exact ⟨0+1,vX,by omega,by go_num,PZ,SZ⟩
      case measure=>simp [RowKit.intOf]; omega
     ·have hz1:((j:Int) == 0)=false:=by rw [beq_eq_false_iff_ne]; omega
      have hz2:(j == 0)=false:=by rw [beq_eq_false_iff_ne]; omega
      have HO2:=HOJ.out (by omega);rw [hz2] at Hb2 HSJ;have q0:w00.cell? ⟨wr.heap.size,0,none⟩=some (.int .i64 y.kind):=B0.out.c 0 rfl;have q1:w00.cell? ⟨wr.heap.size,1,none⟩=some (.string y.name):=B0.out.c 1 rfl;have q2:w00.cell? ⟨wr.heap.size,2,none⟩=some (.string y.alias):=B0.out.c 2 rfl;have q3:w00.cell? ⟨wr.heap.size,3,none⟩=some (.int .i64 y.on.k):=B0.out.c 3 rfl;have q4:w00.cell? ⟨wr.heap.size,4,none⟩=some (.int .i64 y.on.v.1):=B0.out.c 4 rfl;have q5:w00.cell? ⟨wr.heap.size,5,none⟩=some (.int .i64 y.on.v.2.1):=B0.out.c 5 rfl
      have q6:w00.cell? ⟨wr.heap.size,6,none⟩=some (.string y.on.v.2.2):=B0.out.c 6 rfl;have q7:w00.cell? ⟨wr.heap.size,7,none⟩=some (.string y.on.aH):=B0.out.c 7 rfl;have q8:w00.cell? ⟨wr.heap.size,8,none⟩=some (.string y.on.name):=B0.out.c 8 rfl;have q9:w00.cell? ⟨wr.heap.size,9,none⟩=some (.slice ai y.on.ks.length ci):=B0.out.c 9 rfl
      have con:Calls Tryz.prog 119 #[.pointer (some ⟨PB,0,none⟩),.agg (fB y ai ci),.bool false] w00 (aC w00 PB v1 (an (an bs ([⟨#[115,101,108,101,99,116]⟩] ++ jx x.distinct ⟨#[100,105,115,116,105,110,99,116]⟩ ++ eT x ++ [⟨#[102,114,111,109]⟩] ++ ed x.sources j)) (gH false y))):=rT y HO2 ai ci G0.out P0.out L00.out (by rw [← ak]; exact Hb2.out);go_wp2_with fail
      refine con.mono ?_;rintro e wX ⟨rfl,vX,PX,SX_⟩;have PZ:Hid (ax wX PB vX (an bs ([⟨#[115,101,108,101,99,116]⟩] ++ jx x.distinct ⟨#[100,105,115,116,105,110,99,116]⟩ ++ eT x ++ [⟨#[102,114,111,109]⟩] ++ ed x.sources (j+1)))):=by show ax _ _ _ _; rw [HSJ.out,← Dc,ak]; exact PX
      have SZ:Hid (St PB v54 w53 vX wX):=S0.out.trans SX_;clear con PX SX_ P0 S0 q0 q1 q2 q3 q4 q5 q6 q7 q8 q9;go_wp2_with fail
      go_roundw
      case rel=>exact ⟨j+1,vX,by omega,by go_num,PZ,SZ⟩
      case measure=>simp [RowKit.intOf]; omega
   ·as_aux_lemma =>
     have ej:j=x.sources.length:=by omega
     subst ej;have Se:Hid (St PB v w v1 wr):=S56.out.trans hS1.out;have Be:Hid (Bx wr PB v1 (w.heap.size) (eE x a1 a2 a3 a4 a5 c1 c2 c3 c4 c5) 79):=B58.out.st hS1.out;have Le2:Hid (aD (fun b=>b<PB) wr a3 x.ah.ks):=aD.bJ L61.out hS1.out;have Le3:Hid (aD (fun b=>b<PB) wr a4 x.aj.ks):=aD.bJ L62.out hS1.out;have Le4:Hid (aI bO 7 (fun b=>b<PB) wr a5 x.group):=(L63.out).bJ bX hS1.out;clear hS1 HB P55 S56 G57 B58 L59 L60 L61 L62 L63;have f65:wr.cell? ⟨w.heap.size,4,none⟩=some (.bool x.aB):=Be.out.c 4 rfl
     have f66:wr.cell? ⟨w.heap.size,6,none⟩=some (.int .i64 x.ah.k):=Be.out.c 6 rfl;have f67:wr.cell? ⟨w.heap.size,7,none⟩=some (.int .i64 x.ah.v.1):=Be.out.c 7 rfl;have f68:wr.cell? ⟨w.heap.size,8,none⟩=some (.int .i64 x.ah.v.2.1):=Be.out.c 8 rfl;have f69:wr.cell? ⟨w.heap.size,9,none⟩=some (.string x.ah.v.2.2):=Be.out.c 9 rfl;have f70:wr.cell? ⟨w.heap.size,10,none⟩=some (.string x.ah.aH):=Be.out.c 10 rfl;have f71:wr.cell? ⟨w.heap.size,11,none⟩=some (.string x.ah.name):=Be.out.c 11 rfl
     have f72:wr.cell? ⟨w.heap.size,12,none⟩=some (.slice a3 x.ah.ks.length c3):=Be.out.c 12 rfl
     have con73:Calls Tryz.prog 63 #[.pointer (some ⟨PB,0,none⟩),.string ⟨#[119,104,101,114,101]⟩,.bool x.aB,.agg (aT x.ah a3 c3)] wr (aC wr PB v1 (an (an bs ([⟨#[115,101,108,101,99,116]⟩] ++ jx x.distinct ⟨#[100,105,115,116,105,110,99,116]⟩ ++ eT x ++ [⟨#[102,114,111,109]⟩] ++ ed x.sources x.sources.length)) (dV ⟨#[119,104,101,114,101]⟩ x.aB x.ah))):=dF ⟨#[119,104,101,114,101]⟩ x.aB x.ah HO.out.ah a3 c3 (hG1.out) (hP1.out) Le2.out (by rw [← ak]; exact cH (cH (Hb.out)));go_wp2_with fail
     refine con73.mono ?_;rintro e w74 ⟨rfl,v75,P_,S_⟩;have P76:Hid (ax w74 PB v75 (an bs ([⟨#[115,101,108,101,99,116]⟩] ++ jx x.distinct ⟨#[100,105,115,116,105,110,99,116]⟩ ++ eT x ++ [⟨#[102,114,111,109]⟩] ++ ed x.sources x.sources.length ++ dV ⟨#[119,104,101,114,101]⟩ x.aB x.ah))):=by show ax _ _ _ _; rw [ak]; exact P_
     have S77:Hid (St PB v w v75 w74):=Se.out.trans S_;have G78:Hid (GP w74 PB):=hG1.out.st S_;have B79:Hid (Bx w74 PB v75 (w.heap.size) (eE x a1 a2 a3 a4 a5 c1 c2 c3 c4 c5) 79):=Be.out.st S_;have L80:Hid (aD (fun b=>b<PB) w74 a3 x.ah.ks):=aD.bJ Le2.out S_;have L81:Hid (aD (fun b=>b<PB) w74 a4 x.aj.ks):=aD.bJ Le3.out S_;have L82:Hid (aI bO 7 (fun b=>b<PB) w74 a5 x.group):=(Le4.out).bJ bX S_;clear con73 P_ S_ f65 f66 f67 f68 f69 f70 f71 f72 hP1 Se hG1 Be Le2 Le3 Le4;by_cases hg:x.group.length=0
     ·have eg:iY x.group = []:=by unfold iY; rw [if_pos hg]
      have HEG:Hid _:=eg;rw [eg] at Hb;clear eg;have hz:¬ (0:Int)<(x.group.length:Int):=by omega
      have P76x:Hid (ax w74 PB v75 (an bs ([⟨#[115,101,108,101,99,116]⟩] ++ jx x.distinct ⟨#[100,105,115,116,105,110,99,116]⟩ ++ eT x ++ [⟨#[102,114,111,109]⟩] ++ ed x.sources x.sources.length ++ dV ⟨#[119,104,101,114,101]⟩ x.aB x.ah ++ []))):=by show ax _ _ _ _; rw [List.append_nil]; exact P76.out
      have f83:w74.cell? ⟨w.heap.size,20,none⟩=some (.slice a5 x.group.length c5):=B79.out.c 20 rfl;clear hg;have f84:w74.cell? ⟨w.heap.size,5,none⟩=some (.bool x.aG):=B79.out.c 5 rfl;have f85:w74.cell? ⟨w.heap.size,13,none⟩=some (.int .i64 x.aj.k):=B79.out.c 13 rfl;have f86:w74.cell? ⟨w.heap.size,14,none⟩=some (.int .i64 x.aj.v.1):=B79.out.c 14 rfl;have f87:w74.cell? ⟨w.heap.size,15,none⟩=some (.int .i64 x.aj.v.2.1):=B79.out.c 15 rfl;have f88:w74.cell? ⟨w.heap.size,16,none⟩=some (.string x.aj.v.2.2):=B79.out.c 16 rfl
      have f89:w74.cell? ⟨w.heap.size,17,none⟩=some (.string x.aj.aH):=B79.out.c 17 rfl;have f90:w74.cell? ⟨w.heap.size,18,none⟩=some (.string x.aj.name):=B79.out.c 18 rfl;have f91:w74.cell? ⟨w.heap.size,19,none⟩=some (.slice a4 x.aj.ks.length c4):=B79.out.c 19 rfl
      have con92:Calls Tryz.prog 63 #[.pointer (some ⟨PB,0,none⟩),.string ⟨#[104,97,118,105,110,103]⟩,.bool x.aG,.agg (aT x.aj a4 c4)] w74 (aC w74 PB v75 (an (an bs ([⟨#[115,101,108,101,99,116]⟩] ++ jx x.distinct ⟨#[100,105,115,116,105,110,99,116]⟩ ++ eT x ++ [⟨#[102,114,111,109]⟩] ++ ed x.sources x.sources.length ++ dV ⟨#[119,104,101,114,101]⟩ x.aB x.ah ++ [])) (dV ⟨#[104,97,118,105,110,103]⟩ x.aG x.aj))):=dF ⟨#[104,97,118,105,110,103]⟩ x.aG x.aj HO.out.aj a4 c4 (G78.out) (P76x.out) L81.out (by rw [← ak]; exact Hb.out)
      go_wp2_with fail
      refine con92.mono ?_;rintro e w93 ⟨rfl,v94,P_,S_⟩;have P95:Hid (ax w93 PB v94 (an bs ([⟨#[115,101,108,101,99,116]⟩] ++ jx x.distinct ⟨#[100,105,115,116,105,110,99,116]⟩ ++ eT x ++ [⟨#[102,114,111,109]⟩] ++ ed x.sources x.sources.length ++ dV ⟨#[119,104,101,114,101]⟩ x.aB x.ah ++ [] ++ dV ⟨#[104,97,118,105,110,103]⟩ x.aG x.aj))):=by show ax _ _ _ _; rw [ak]; exact P_
      have S96:Hid (St PB v w v94 w93):=S77.out.trans S_;have G97:Hid (GP w93 PB):=G78.out.st S_;have B98:Hid (Bx w93 PB v94 (w.heap.size) (eE x a1 a2 a3 a4 a5 c1 c2 c3 c4 c5) 79):=B79.out.st S_;have L99:Hid (aD (fun b=>b<PB) w93 a3 x.ah.ks):=aD.bJ L80.out S_;have L100:Hid (aD (fun b=>b<PB) w93 a4 x.aj.ks):=aD.bJ L81.out S_;have L101:Hid (aI bO 7 (fun b=>b<PB) w93 a5 x.group):=(L82.out).bJ bX S_;clear con92 P_ S_ f84 f85 f86 f87 f88 f89 f90 f91 f83 P76x S77 G78 B79 L80 L81 L82;go_wp2_with fail
      go_end0
      exact ⟨rfl,v94,by rw [HEG.out]; exact P95.out,S96.out⟩
     ·have eg:iY x.group = [⟨#[103,114,111,117,112]⟩,⟨#[98,121]⟩] ++ cr bm x.group:=by unfold iY; rw [if_neg hg]
      have HEG:Hid _:=eg;rw [eg,← Dc] at Hb;clear eg;have hz:(0:Int)<(x.group.length:Int):=by omega
      clear hg;have f102:w74.cell? ⟨w.heap.size,20,none⟩=some (.slice a5 x.group.length c5):=B79.out.c 20 rfl
      have con103:Calls Tryz.prog 57 #[.pointer (some ⟨PB,0,none⟩),.slice (some ⟨w74.heap.size,0,none⟩) 2 2] (w74.alloc (.cells #[.string ⟨#[103,114,111,117,112]⟩,.string ⟨#[98,121]⟩] 9)) (aC w74 PB v75 (an (an bs ([⟨#[115,101,108,101,99,116]⟩] ++ jx x.distinct ⟨#[100,105,115,116,105,110,99,116]⟩ ++ eT x ++ [⟨#[102,114,111,109]⟩] ++ ed x.sources x.sources.length ++ dV ⟨#[119,104,101,114,101]⟩ x.aB x.ah)) ([⟨#[103,114,111,117,112]⟩,⟨#[98,121]⟩]))):=aW [⟨#[103,114,111,117,112]⟩,⟨#[98,121]⟩] P76.out (by rw [← ak]; exact cH (cH (Hb.out))) (by simp)
      go_wp2_with fail
      refine con103.mono ?_;rintro e w104 ⟨rfl,v105,P_,S_⟩;have P106:Hid (ax w104 PB v105 (an bs ([⟨#[115,101,108,101,99,116]⟩] ++ jx x.distinct ⟨#[100,105,115,116,105,110,99,116]⟩ ++ eT x ++ [⟨#[102,114,111,109]⟩] ++ ed x.sources x.sources.length ++ dV ⟨#[119,104,101,114,101]⟩ x.aB x.ah ++ [⟨#[103,114,111,117,112]⟩,⟨#[98,121]⟩]))):=by show ax _ _ _ _; rw [ak]; exact P_
      have S107:Hid (St PB v w v105 w104):=S77.out.trans S_;have G108:Hid (GP w104 PB):=G78.out.st S_;have B109:Hid (Bx w104 PB v105 (w.heap.size) (eE x a1 a2 a3 a4 a5 c1 c2 c3 c4 c5) 79):=B79.out.st S_;have L110:Hid (aD (fun b=>b<PB) w104 a3 x.ah.ks):=aD.bJ L80.out S_;have L111:Hid (aD (fun b=>b<PB) w104 a4 x.aj.ks):=aD.bJ L81.out S_;have L112:Hid (aI bO 7 (fun b=>b<PB) w104 a5 x.group):=(L82.out).bJ bX S_;clear con103 P_ S_ f102 P76 S77 G78 B79 L80 L81 L82;have f113:w104.cell? ⟨w.heap.size,20,none⟩=some (.slice a5 x.group.length c5):=B109.out.c 20 rfl
      have con114:Calls Tryz.prog 91 #[.pointer (some ⟨PB,0,none⟩),.slice a5 x.group.length c5,.func (.func 92) #[.pointer (some ⟨PB,0,none⟩)] #[]] w104 (aC w104 PB v105 (an (an bs ([⟨#[115,101,108,101,99,116]⟩] ++ jx x.distinct ⟨#[100,105,115,116,105,110,99,116]⟩ ++ eT x ++ [⟨#[102,114,111,109]⟩] ++ ed x.sources x.sources.length ++ dV ⟨#[119,104,101,114,101]⟩ x.aB x.ah ++ [⟨#[103,114,111,117,112]⟩,⟨#[98,121]⟩])) (cr bm x.group))):=my x.group HO.out.group.1 HO.out.group.2 a5 c5 (G108.out) (P106.out) L112.out (by rw [← ak]; exact cH (Hb.out))
      go_wp2_with fail
      refine con114.mono ?_;rintro e w115 ⟨rfl,v116,P_,S_⟩;have P117:Hid (ax w115 PB v116 (an bs ([⟨#[115,101,108,101,99,116]⟩] ++ jx x.distinct ⟨#[100,105,115,116,105,110,99,116]⟩ ++ eT x ++ [⟨#[102,114,111,109]⟩] ++ ed x.sources x.sources.length ++ dV ⟨#[119,104,101,114,101]⟩ x.aB x.ah ++ [⟨#[103,114,111,117,112]⟩,⟨#[98,121]⟩] ++ cr bm x.group))):=by show ax _ _ _ _; rw [ak]; exact P_
      have S118:Hid (St PB v w v116 w115):=S107.out.trans S_;have G119:Hid (GP w115 PB):=G108.out.st S_;have B120:Hid (Bx w115 PB v116 (w.heap.size) (eE x a1 a2 a3 a4 a5 c1 c2 c3 c4 c5) 79):=B109.out.st S_;have L121:Hid (aD (fun b=>b<PB) w115 a3 x.ah.ks):=aD.bJ L110.out S_;have L122:Hid (aD (fun b=>b<PB) w115 a4 x.aj.ks):=aD.bJ L111.out S_;have L123:Hid (aI bO 7 (fun b=>b<PB) w115 a5 x.group):=(L112.out).bJ bX S_;clear con114 P_ S_ f113 P106 S107 G108 B109 L110 L111 L112;have f124:w115.cell? ⟨w.heap.size,5,none⟩=some (.bool x.aG):=B120.out.c 5 rfl
      have f125:w115.cell? ⟨w.heap.size,13,none⟩=some (.int .i64 x.aj.k):=B120.out.c 13 rfl;have f126:w115.cell? ⟨w.heap.size,14,none⟩=some (.int .i64 x.aj.v.1):=B120.out.c 14 rfl;have f127:w115.cell? ⟨w.heap.size,15,none⟩=some (.int .i64 x.aj.v.2.1):=B120.out.c 15 rfl;have f128:w115.cell? ⟨w.heap.size,16,none⟩=some (.string x.aj.v.2.2):=B120.out.c 16 rfl;have f129:w115.cell? ⟨w.heap.size,17,none⟩=some (.string x.aj.aH):=B120.out.c 17 rfl;have f130:w115.cell? ⟨w.heap.size,18,none⟩=some (.string x.aj.name):=B120.out.c 18 rfl
      have f131:w115.cell? ⟨w.heap.size,19,none⟩=some (.slice a4 x.aj.ks.length c4):=B120.out.c 19 rfl
      have con132:Calls Tryz.prog 63 #[.pointer (some ⟨PB,0,none⟩),.string ⟨#[104,97,118,105,110,103]⟩,.bool x.aG,.agg (aT x.aj a4 c4)] w115 (aC w115 PB v116 (an (an bs ([⟨#[115,101,108,101,99,116]⟩] ++ jx x.distinct ⟨#[100,105,115,116,105,110,99,116]⟩ ++ eT x ++ [⟨#[102,114,111,109]⟩] ++ ed x.sources x.sources.length ++ dV ⟨#[119,104,101,114,101]⟩ x.aB x.ah ++ [⟨#[103,114,111,117,112]⟩,⟨#[98,121]⟩] ++ cr bm x.group)) (dV ⟨#[104,97,118,105,110,103]⟩ x.aG x.aj))):=dF ⟨#[104,97,118,105,110,103]⟩ x.aG x.aj HO.out.aj a4 c4 (G119.out) (P117.out) L122.out (by rw [← ak]; exact Hb.out)
      go_wp2_with fail
      refine con132.mono ?_;rintro e w133 ⟨rfl,v134,P_,S_⟩;have P135:Hid (ax w133 PB v134 (an bs ([⟨#[115,101,108,101,99,116]⟩] ++ jx x.distinct ⟨#[100,105,115,116,105,110,99,116]⟩ ++ eT x ++ [⟨#[102,114,111,109]⟩] ++ ed x.sources x.sources.length ++ dV ⟨#[119,104,101,114,101]⟩ x.aB x.ah ++ [⟨#[103,114,111,117,112]⟩,⟨#[98,121]⟩] ++ cr bm x.group ++ dV ⟨#[104,97,118,105,110,103]⟩ x.aG x.aj))):=by show ax _ _ _ _; rw [ak]; exact P_
      have S136:Hid (St PB v w v134 w133):=S118.out.trans S_;have G137:Hid (GP w133 PB):=G119.out.st S_;have B138:Hid (Bx w133 PB v134 (w.heap.size) (eE x a1 a2 a3 a4 a5 c1 c2 c3 c4 c5) 79):=B120.out.st S_;have L139:Hid (aD (fun b=>b<PB) w133 a3 x.ah.ks):=aD.bJ L121.out S_;have L140:Hid (aD (fun b=>b<PB) w133 a4 x.aj.ks):=aD.bJ L122.out S_;have L141:Hid (aI bO 7 (fun b=>b<PB) w133 a5 x.group):=(L123.out).bJ bX S_;clear con132 P_ S_ f124 f125 f126 f127 f128 f129 f130 f131 P117 S118 G119 B120 L121 L122 L123;go_wp2_with fail
      go_end0
      exact ⟨rfl,v134,by rw [HEG.out,← Dc]; exact P135.out,S136.out⟩
def eO (l:List fD) (ops:List Int):Nat→List ByteArray
 | 0=>[]
 | i+1=>eO l ops i ++ (if i=0 then [] else ix (ops.getD (i - 1) 0)) ++ (match l[i]? with | some x=>fK x | none=>[])
theorem rZ (bs:List UInt8) (l:List fD) (ops:List Int) (i:Nat):∀ n,i≤n→(an bs (eO l ops i)).length≤(an bs (eO l ops n)).length
 | 0,h=>by rw [Nat.le_zero.1 h]; exact CX _
 | n+1,h=>by
  by_cases e:i=n+1
  ·rw [e]; exact CX _
  ·refine Dt (rZ bs l ops i n (by omega)) ?_
   rw [eO,ak,ak]
   exact Dt (fp _ _) (fp _ _)
theorem xY (l:List fD) (ops:List Int) (j:Nat) (h:j<l.length):eO l ops (j+1)=eO l ops j ++ (if j=0 then [] else ix (ops.getD (j - 1) 0)) ++ fK l[j]:=by rw [eO,Dj h]
def jX (q:j3):List ByteArray:=if 0≤q.aE then [⟨#[111,114,100,101,114]⟩,⟨#[98,121]⟩] ++ cr bm q.order ++ [⟨#[108,105,109,105,116]⟩] ++ gZ q.aE else []
def fm (q:j3):List ByteArray:=eO q.parts q.ops q.parts.length ++ jX q
structure zt (q:j3):Prop where
 parts:q.parts.length≤1000∧∀ y ∈ q.parts,p9 y
 ops:q.parts.length≤q.ops.length+1∧∀ y ∈ q.ops,1≤y∧y≤4
 order:0≤q.aE→q.order.length≤1000∧∀ y ∈ q.order,lN y
 aE:q.aE≤1000000000000000
theorem nM (q:j3) (ok:zt q) (p1 p2 p3:Option Addr) (d1 d2 d3:Nat) {PB:Nat} {v:Value} {bs:List UInt8} {w:World} (hG:GP w PB) (hP:ax w PB v bs) (k1:aI b7 21 (fun b=>b<PB) w p1 q.parts) (k2:aI fJ 1 (fun b=>b<PB) w p2 q.ops) (k3:aI bO 7 (fun b=>b<PB) w p3 q.order) (hb:(an bs (fm q)).length≤fW):Calls Tryz.prog 60 #[.pointer (some ⟨PB,0,none⟩),.agg #[.slice p1 q.parts.length d1,.slice p2 q.ops.length d2,.slice p3 q.order.length d3,.int .i64 q.aE]] w (aC w PB v (an bs (fm q))):=by
 rw [fm] at hb ⊢;have hmf:∀ (fn:Fn) (first cap:Array Value) (w:World),(Instr.makeFunc fn first cap).run Tryz.prog w = .ok (.func fn first cap) w:=fun _ _ _ _=>rfl
 have HO:Hid (zt q):=ok;have np:=ok.parts.1;clear ok;have Hb:Hid _:=hb;clear hb;have hal:=ab w (.cells #[.slice p1 q.parts.length d1,.slice p2 q.ops.length d2,.slice p3 q.order.length d3,.int .i64 q.aE] 50)
 have B0:Hid (Bx (w.alloc (.cells #[.slice p1 q.parts.length d1,.slice p2 q.ops.length d2,.slice p3 q.order.length d3,.int .i64 q.aE] 50)) PB v w.heap.size #[.slice p1 q.parts.length d1,.slice p2 q.ops.length d2,.slice p3 q.order.length d3,.int .i64 q.aE] 50):=Bx.new hP #[.slice p1 q.parts.length d1,.slice p2 q.ops.length d2,.slice p3 q.order.length d3,.int .i64 q.aE] 50;have P0:Hid (ax (w.alloc (.cells #[.slice p1 q.parts.length d1,.slice p2 q.ops.length d2,.slice p3 q.order.length d3,.int .i64 q.aE] 50)) PB v bs):=hP.next hal
 have S0:Hid (St PB v w v (w.alloc (.cells #[.slice p1 q.parts.length d1,.slice p2 q.ops.length d2,.slice p3 q.order.length d3,.int .i64 q.aE] 50))):=St.of hal hP.lt;have G0:Hid (GP (w.alloc (.cells #[.slice p1 q.parts.length d1,.slice p2 q.ops.length d2,.slice p3 q.order.length d3,.int .i64 q.aE] 50)) PB):=hG.nx hal hP.lt;have L00:Hid (aI b7 21 (fun b=>b<PB) (w.alloc (.cells #[.slice p1 q.parts.length d1,.slice p2 q.ops.length d2,.slice p3 q.order.length d3,.int .i64 q.aE] 50)) p1 q.parts):=(k1).nx cf hal
 have L01:Hid (aI fJ 1 (fun b=>b<PB) (w.alloc (.cells #[.slice p1 q.parts.length d1,.slice p2 q.ops.length d2,.slice p3 q.order.length d3,.int .i64 q.aE] 50)) p2 q.ops):=(k2).nx fV hal;have L02:Hid (aI bO 7 (fun b=>b<PB) (w.alloc (.cells #[.slice p1 q.parts.length d1,.slice p2 q.ops.length d2,.slice p3 q.order.length d3,.int .i64 q.aE] 50)) p3 q.order):=(k3).nx bX hal;clear hP hG hal k1 k2 k3;go_enter Tryz.func60,Tryz.ntmps60;go_upto_region 1 with fail
 generalize (w.alloc (.cells #[.slice p1 q.parts.length d1,.slice p2 q.ops.length d2,.slice p3 q.order.length d3,.int .i64 q.aE] 50))=w0 at *;have HB:Hid (∀ j,j<q.parts.length→(an bs (eO q.parts q.ops (j+1))).length≤fW):=fun j hj=>Dt (rZ bs q.parts q.ops (j+1) q.parts.length hj) (cH Hb.out)
 have f1:w0.cell? ⟨w.heap.size,0,none⟩=some (.slice p1 q.parts.length d1):=B0.out.c 0 rfl;go_wp2_with fail
 clear f1;go_loopw [9] (fun i wr=>∃ (j:Nat) (v':Value),j≤q.parts.length∧i = .int .i64 j∧Hid (ax wr PB v' (an bs (eO q.parts q.ops j)))∧Hid (St PB v w v' wr)∧Hid (GP wr PB)∧Hid (Bx wr PB v' (w.heap.size) #[.slice p1 q.parts.length d1,.slice p2 q.ops.length d2,.slice p3 q.order.length d3,.int .i64 q.aE] 50)∧Hid (aI b7 21 (fun b=>b<PB) wr p1 q.parts)∧Hid (aI fJ 1 (fun b=>b<PB) wr p2 q.ops)∧Hid (aI bO 7 (fun b=>b<PB) wr p3 q.order)) (fun i _=>q.parts.length - (RowKit.intOf i).toNat)
 case atStart=>exact ⟨0,v,Dm _,rfl,P0,S0,G0,B0,L00,L01,L02⟩
 case round =>
  clear P0 S0 G0 B0 L00 L01 L02;obtain ⟨j,v1,hj,rfl,hP1,hS1,hG1,hB1,K1,K2,K3⟩:=hrel;by_cases hlt:j<q.parts.length
  ·as_aux_lemma =>
    have hBj:=HB.out j hlt;have hoj:=HO.out.parts.2 _ (DC hlt);obtain ⟨b1,o1,_,rfl,t1,e1,kf1,e2,kf2,e3,kf3,e4,kf4,e5,kf5,rfl,m1,m2,m3,m4,m5⟩:=K1.out.get hlt;have hsj:=xY q.parts q.ops j hlt;rw [hsj] at hBj;have hjz:(j:Int)<(q.parts.length:Int):=by omega
    generalize q.parts[j]=y at *;have HSJ:Hid (eO q.parts q.ops (j+1)=_):=hsj;have HBJ:Hid _:=hBj;have HOJ:Hid (p9 y):=hoj;have M1:Hid (aI fy 8 (fun b=>b<PB) wr e1 y.items):=m1;have M2:Hid (aI cQ 10 (fun b=>b<PB) wr e2 y.sources):=m2;have M3:Hid (aD (fun b=>b<PB) wr e3 y.ah.ks):=m3;have M4:Hid (aD (fun b=>b<PB) wr e4 y.aj.ks):=m4;have M5:Hid (aI bO 7 (fun b=>b<PB) wr e5 y.group):=m5;clear hBj hsj hoj Hb m1 m2 m3 m4 m5
    have hrg:wr.rangeAt b1 (o1+j*21) [.bool y.distinct,.bool y.star,.slice e1 y.items.length kf1,.slice e2 y.sources.length kf2,.bool y.aB,.bool y.aG,.int .i64 y.ah.k,.int .i64 y.ah.v.1,.int .i64 y.ah.v.2.1,.string y.ah.v.2.2,.string y.ah.aH,.string y.ah.name,.slice e3 y.ah.ks.length kf3,.int .i64 y.aj.k,.int .i64 y.aj.v.1,.int .i64 y.aj.v.2.1,.string y.aj.v.2.2,.string y.aj.aH,.string y.aj.name,.slice e4 y.aj.ks.length kf4,.slice e5 y.group.length kf5]:=fun i u hu=>t1.2 i u hu
    clear t1;have hal:=ab wr (.cells (eE y e1 e2 e3 e4 e5 kf1 kf2 kf3 kf4 kf5) 79);go_upto_region 4 with (first | (refine wpList_load_mid rfl 79 _ rfl b1 (o1+j*21) rfl (eE y e1 e2 e3 e4 e5 kf1 kf2 kf3 kf4 kf5).toList _ hrg Tryz.underlying79 rfl l8 ?_) | (refine bB rfl 79 _ _ rfl nw (eE y e1 e2 e3 e4 e5 kf1 kf2 kf3 kf4 kf5) rfl rfl l8 rfl (fX rfl) ?_))
    have B0:Hid (Bx (wr.alloc (.cells (eE y e1 e2 e3 e4 e5 kf1 kf2 kf3 kf4 kf5) 79)) PB v1 wr.heap.size (eE y e1 e2 e3 e4 e5 kf1 kf2 kf3 kf4 kf5) 79):=Bx.new hP1.out (eE y e1 e2 e3 e4 e5 kf1 kf2 kf3 kf4 kf5) 79;have B1:Hid (Bx (wr.alloc (.cells (eE y e1 e2 e3 e4 e5 kf1 kf2 kf3 kf4 kf5) 79)) PB v1 (w.heap.size) #[.slice (some ⟨b1,o1,none⟩) q.parts.length d1,.slice p2 q.ops.length d2,.slice p3 q.order.length d3,.int .i64 q.aE] 50):=hB1.out.nx hal;have P0:Hid (ax (wr.alloc (.cells (eE y e1 e2 e3 e4 e5 kf1 kf2 kf3 kf4 kf5) 79)) PB v1 (an bs (eO q.parts q.ops j))):=hP1.out.next hal
    have S0:Hid (St PB v w v1 (wr.alloc (.cells (eE y e1 e2 e3 e4 e5 kf1 kf2 kf3 kf4 kf5) 79))):=hS1.out.trans (St.of hal hP1.out.lt);have G0:Hid (GP (wr.alloc (.cells (eE y e1 e2 e3 e4 e5 kf1 kf2 kf3 kf4 kf5) 79)) PB):=hG1.out.nx hal hP1.out.lt;have H0:Hid (aI b7 21 (fun b=>b<PB) (wr.alloc (.cells (eE y e1 e2 e3 e4 e5 kf1 kf2 kf3 kf4 kf5) 79)) (some ⟨b1,o1,none⟩) q.parts):=K1.out.nx cf hal;have H1:Hid (aI fJ 1 (fun b=>b<PB) (wr.alloc (.cells (eE y e1 e2 e3 e4 e5 kf1 kf2 kf3 kf4 kf5) 79)) p2 q.ops):=K2.out.nx fV hal
    have H2:Hid (aI bO 7 (fun b=>b<PB) (wr.alloc (.cells (eE y e1 e2 e3 e4 e5 kf1 kf2 kf3 kf4 kf5) 79)) p3 q.order):=K3.out.nx bX hal;have N0:Hid (aI fy 8 (fun b=>b<PB) (wr.alloc (.cells (eE y e1 e2 e3 e4 e5 kf1 kf2 kf3 kf4 kf5) 79)) e1 y.items):=(M1.out).nx gh hal;have N1:Hid (aI cQ 10 (fun b=>b<PB) (wr.alloc (.cells (eE y e1 e2 e3 e4 e5 kf1 kf2 kf3 kf4 kf5) 79)) e2 y.sources):=(M2.out).nx dq hal;have N2:Hid (aD (fun b=>b<PB) (wr.alloc (.cells (eE y e1 e2 e3 e4 e5 kf1 kf2 kf3 kf4 kf5) 79)) e3 y.ah.ks):=aD.next hal M3.out
    have N3:Hid (aD (fun b=>b<PB) (wr.alloc (.cells (eE y e1 e2 e3 e4 e5 kf1 kf2 kf3 kf4 kf5) 79)) e4 y.aj.ks):=aD.next hal M4.out;have N4:Hid (aI bO 7 (fun b=>b<PB) (wr.alloc (.cells (eE y e1 e2 e3 e4 e5 kf1 kf2 kf3 kf4 kf5) 79)) e5 y.group):=(M5.out).nx bX hal;clear hP1 hS1 hG1 hB1 K1 K2 K3 hal M1 M2 M3 M4 M5 hrg;generalize (wr.alloc (.cells (eE y e1 e2 e3 e4 e5 kf1 kf2 kf3 kf4 kf5) 79))=w00 at *;by_cases hj0:j=0
    ·as_aux_lemma =>
      subst hj0;rw [if_pos rfl,List.append_nil] at HBJ HSJ;have Hb:Hid _:=HBJ.out;have con2:Calls Tryz.prog 90 #[.pointer (some ⟨PB,0,none⟩),.agg (eE y e1 e2 e3 e4 e5 kf1 kf2 kf3 kf4 kf5)] w00 (aC w00 PB v1 (an (an bs (eO q.parts q.ops 0)) (fK y))):=ky y HOJ.out e1 e2 e3 e4 e5 kf1 kf2 kf3 kf4 kf5 (G0.out) (P0.out) N0.out N1.out N2.out N3.out N4.out (by rw [← ak]; exact Hb.out);go_wp2_with (first | (refine wpList_load_row rfl 79 _ rfl wr.heap.size rfl 79 (eE y e1 e2 e3 e4 e5 kf1 kf2 kf3 kf4 kf5) (0,0) _ B0.out.q Tryz.underlying79 rfl l8 ?_))
      refine con2.mono ?_;rintro e w3 ⟨rfl,v4,P_,S_⟩;have P5:Hid (ax w3 PB v4 (an bs (eO q.parts q.ops 0 ++ fK y))):=by show ax _ _ _ _; rw [ak]; exact P_
      have S6:Hid (St PB v w v4 w3):=S0.out.trans S_;have G7:Hid (GP w3 PB):=G0.out.st S_;have B8:Hid (Bx w3 PB v4 (w.heap.size) #[.slice (some ⟨b1,o1,none⟩) q.parts.length d1,.slice p2 q.ops.length d2,.slice p3 q.order.length d3,.int .i64 q.aE] 50):=B1.out.st S_;have B9:Hid (Bx w3 PB v4 (wr.heap.size) (eE y e1 e2 e3 e4 e5 kf1 kf2 kf3 kf4 kf5) 79):=B0.out.st S_;have L10:Hid (aI fy 8 (fun b=>b<PB) w3 e1 y.items):=(N0.out).bJ gh S_;have L11:Hid (aI cQ 10 (fun b=>b<PB) w3 e2 y.sources):=(N1.out).bJ dq S_;have L12:Hid (aD (fun b=>b<PB) w3 e3 y.ah.ks):=aD.bJ N2.out S_
      have L13:Hid (aD (fun b=>b<PB) w3 e4 y.aj.ks):=aD.bJ N3.out S_;have L14:Hid (aI bO 7 (fun b=>b<PB) w3 e5 y.group):=(N4.out).bJ bX S_;have L15:Hid (aI b7 21 (fun b=>b<PB) w3 (some ⟨b1,o1,none⟩) q.parts):=(H0.out).bJ cf S_;have L16:Hid (aI fJ 1 (fun b=>b<PB) w3 p2 q.ops):=(H1.out).bJ fV S_;have L17:Hid (aI bO 7 (fun b=>b<PB) w3 p3 q.order):=(H2.out).bJ bX S_;clear con2 P_ S_  P0 S0 G0 B1 B0 N0 N1 N2 N3 N4 H0 H1 H2;have PZ:Hid (ax w3 PB v4 (an bs (eO q.parts q.ops (0+1)))):=by show ax _ _ _ _; rw [HSJ.out]; exact P5.out
      clear P5;go_wp2_with fail
      go_roundw
      case rel=>exact ⟨0+1,v4,by omega,by go_num,PZ,S6,G7,B8,L15,L16,L17⟩
      case measure=>simp [RowKit.intOf]; omega
    ·as_aux_lemma =>
      obtain ⟨i,rfl⟩:∃ i,j=i+1:=⟨j - 1,by omega⟩
      have hop:i<q.ops.length:=by have:=HO.out.ops.1; omega
      obtain ⟨b2,o2,_,rfl,t2,rfl⟩:=H1.out.get hop;have e2x:q.ops.getD (i+1 - 1) 0=q.ops[i]:=by simp [List.getD,hop]
      have hob:=HO.out.ops.2 _ (DC hop);rw [if_neg (by omega),e2x] at HBJ HSJ;have y0:w00.cell? ⟨b2,o2+i,none⟩=some (.int .i64 q.ops[i]):=by have:=t2.2 0 _ rfl; simpa using this
      generalize q.ops[i]=op at *;have Hb:Hid _:=HBJ.out;have hiz:(i:Int)<(q.ops.length:Int):=by omega
      clear t2 e2x;have f18:w00.cell? ⟨w.heap.size,1,none⟩=some (.slice (some ⟨b2,o2,none⟩) q.ops.length d2):=B1.out.c 1 rfl;have con19:Calls Tryz.prog 89 #[.pointer (some ⟨PB,0,none⟩),.int .i64 op] w00 (aC w00 PB v1 (an (an bs (eO q.parts q.ops (i+1))) (ix op))):=px op hob.1 hob.2 (G0.out) (P0.out) (by rw [← ak]; exact cH (Hb.out));go_wp2_with fail
      refine con19.mono ?_;rintro e w20 ⟨rfl,v21,P_,S_⟩;have P22:Hid (ax w20 PB v21 (an bs (eO q.parts q.ops (i+1) ++ ix op))):=by show ax _ _ _ _; rw [ak]; exact P_
      have S23:Hid (St PB v w v21 w20):=S0.out.trans S_;have G24:Hid (GP w20 PB):=G0.out.st S_;have B25:Hid (Bx w20 PB v21 (w.heap.size) #[.slice (some ⟨b1,o1,none⟩) q.parts.length d1,.slice (some ⟨b2,o2,none⟩) q.ops.length d2,.slice p3 q.order.length d3,.int .i64 q.aE] 50):=B1.out.st S_;have B26:Hid (Bx w20 PB v21 (wr.heap.size) (eE y e1 e2 e3 e4 e5 kf1 kf2 kf3 kf4 kf5) 79):=B0.out.st S_;have L27:Hid (aI fy 8 (fun b=>b<PB) w20 e1 y.items):=(N0.out).bJ gh S_;have L28:Hid (aI cQ 10 (fun b=>b<PB) w20 e2 y.sources):=(N1.out).bJ dq S_
      have L29:Hid (aD (fun b=>b<PB) w20 e3 y.ah.ks):=aD.bJ N2.out S_;have L30:Hid (aD (fun b=>b<PB) w20 e4 y.aj.ks):=aD.bJ N3.out S_;have L31:Hid (aI bO 7 (fun b=>b<PB) w20 e5 y.group):=(N4.out).bJ bX S_;have L32:Hid (aI b7 21 (fun b=>b<PB) w20 (some ⟨b1,o1,none⟩) q.parts):=(H0.out).bJ cf S_;have L33:Hid (aI fJ 1 (fun b=>b<PB) w20 (some ⟨b2,o2,none⟩) q.ops):=(H1.out).bJ fV S_;have L34:Hid (aI bO 7 (fun b=>b<PB) w20 p3 q.order):=(H2.out).bJ bX S_;clear con19 P_ S_ f18 y0 P0 S0 G0 B1 B0 N0 N1 N2 N3 N4 H0 H1 H2
      have con35:Calls Tryz.prog 90 #[.pointer (some ⟨PB,0,none⟩),.agg (eE y e1 e2 e3 e4 e5 kf1 kf2 kf3 kf4 kf5)] w20 (aC w20 PB v21 (an (an bs (eO q.parts q.ops (i+1) ++ ix op)) (fK y))):=ky y HOJ.out e1 e2 e3 e4 e5 kf1 kf2 kf3 kf4 kf5 (G24.out) (P22.out) L27.out L28.out L29.out L30.out L31.out (by rw [← ak]; exact Hb.out);go_wp2_with (first | (refine wpList_load_row rfl 79 _ rfl wr.heap.size rfl 79 (eE y e1 e2 e3 e4 e5 kf1 kf2 kf3 kf4 kf5) (0,0) _ B26.out.q Tryz.underlying79 rfl l8 ?_))
      refine con35.mono ?_;rintro e w36 ⟨rfl,v37,P_,S_⟩;have P38:Hid (ax w36 PB v37 (an bs (eO q.parts q.ops (i+1) ++ ix op ++ fK y))):=by show ax _ _ _ _; rw [ak]; exact P_
      have S39:Hid (St PB v w v37 w36):=S23.out.trans S_;have G40:Hid (GP w36 PB):=G24.out.st S_;have B41:Hid (Bx w36 PB v37 (w.heap.size) #[.slice (some ⟨b1,o1,none⟩) q.parts.length d1,.slice (some ⟨b2,o2,none⟩) q.ops.length d2,.slice p3 q.order.length d3,.int .i64 q.aE] 50):=B25.out.st S_;have B42:Hid (Bx w36 PB v37 (wr.heap.size) (eE y e1 e2 e3 e4 e5 kf1 kf2 kf3 kf4 kf5) 79):=B26.out.st S_;have L43:Hid (aI fy 8 (fun b=>b<PB) w36 e1 y.items):=(L27.out).bJ gh S_;have L44:Hid (aI cQ 10 (fun b=>b<PB) w36 e2 y.sources):=(L28.out).bJ dq S_
      have L45:Hid (aD (fun b=>b<PB) w36 e3 y.ah.ks):=aD.bJ L29.out S_;have L46:Hid (aD (fun b=>b<PB) w36 e4 y.aj.ks):=aD.bJ L30.out S_;have L47:Hid (aI bO 7 (fun b=>b<PB) w36 e5 y.group):=(L31.out).bJ bX S_;have L48:Hid (aI b7 21 (fun b=>b<PB) w36 (some ⟨b1,o1,none⟩) q.parts):=(L32.out).bJ cf S_;have L49:Hid (aI fJ 1 (fun b=>b<PB) w36 (some ⟨b2,o2,none⟩) q.ops):=(L33.out).bJ fV S_;have L50:Hid (aI bO 7 (fun b=>b<PB) w36 p3 q.order):=(L34.out).bJ bX S_;clear con35 P_ S_  P22 S23 G24 B25 B26 L27 L28 L29 L30 L31 L32 L33 L34
      have PZ:Hid (ax w36 PB v37 (an bs (eO q.parts q.ops ((i+1)+1)))):=by show ax _ _ _ _; rw [HSJ.out]; exact P38.out
      clear P38;go_wp2_with fail
      go_roundw
      case rel=>exact ⟨(i+1)+1,v37,by omega,by go_num,PZ,S39,G40,B41,L48,L49,L50⟩
      case measure=>simp [RowKit.intOf]; omega
  ·as_aux_lemma =>
    have ej:j=q.parts.length:=by omega
    subst ej;clear HB K1 K2;by_cases hl0:0≤q.aE
    ·have eo:jX q = [⟨#[111,114,100,101,114]⟩,⟨#[98,121]⟩] ++ cr bm q.order ++ [⟨#[108,105,109,105,116]⟩] ++ gZ q.aE:=by unfold jX; rw [if_pos hl0]
     have HEO:Hid _:=eo;rw [eo] at Hb;clear eo;rw [← Dc,← Dc,← Dc] at Hb;have f51:wr.cell? ⟨w.heap.size,3,none⟩=some (.int .i64 q.aE):=hB1.out.c 3 rfl
     have con52:Calls Tryz.prog 57 #[.pointer (some ⟨PB,0,none⟩),.slice (some ⟨wr.heap.size,0,none⟩) 2 2] (wr.alloc (.cells #[.string ⟨#[111,114,100,101,114]⟩,.string ⟨#[98,121]⟩] 9)) (aC wr PB v1 (an (an bs (eO q.parts q.ops q.parts.length)) ([⟨#[111,114,100,101,114]⟩,⟨#[98,121]⟩]))):=aW [⟨#[111,114,100,101,114]⟩,⟨#[98,121]⟩] hP1.out (by rw [← ak]; exact cH (cH (cH (Hb.out)))) (by simp);go_wp2_with fail
     refine con52.mono ?_;rintro e w53 ⟨rfl,v54,P_,S_⟩;have P55:Hid (ax w53 PB v54 (an bs (eO q.parts q.ops q.parts.length ++ [⟨#[111,114,100,101,114]⟩,⟨#[98,121]⟩]))):=by show ax _ _ _ _; rw [ak]; exact P_
     have S56:Hid (St PB v w v54 w53):=hS1.out.trans S_;have G57:Hid (GP w53 PB):=hG1.out.st S_;have B58:Hid (Bx w53 PB v54 (w.heap.size) #[.slice p1 q.parts.length d1,.slice p2 q.ops.length d2,.slice p3 q.order.length d3,.int .i64 q.aE] 50):=hB1.out.st S_;have L59:Hid (aI bO 7 (fun b=>b<PB) w53 p3 q.order):=(K3.out).bJ bX S_;clear con52 P_ S_ f51 hP1 hS1 hG1 hB1 K3;have f60:w53.cell? ⟨w.heap.size,2,none⟩=some (.slice p3 q.order.length d3):=B58.out.c 2 rfl
     have con61:Calls Tryz.prog 91 #[.pointer (some ⟨PB,0,none⟩),.slice p3 q.order.length d3,.func (.func 92) #[.pointer (some ⟨PB,0,none⟩)] #[]] w53 (aC w53 PB v54 (an (an bs (eO q.parts q.ops q.parts.length ++ [⟨#[111,114,100,101,114]⟩,⟨#[98,121]⟩])) (cr bm q.order))):=my q.order (HO.out.order hl0).1 (HO.out.order hl0).2 p3 d3 (G57.out) (P55.out) L59.out (by rw [← ak]; exact cH (cH (Hb.out)));go_wp2_with fail
     refine con61.mono ?_;rintro e w62 ⟨rfl,v63,P_,S_⟩;have P64:Hid (ax w62 PB v63 (an bs (eO q.parts q.ops q.parts.length ++ [⟨#[111,114,100,101,114]⟩,⟨#[98,121]⟩] ++ cr bm q.order))):=by show ax _ _ _ _; rw [ak]; exact P_
     have S65:Hid (St PB v w v63 w62):=S56.out.trans S_;have G66:Hid (GP w62 PB):=G57.out.st S_;have B67:Hid (Bx w62 PB v63 (w.heap.size) #[.slice p1 q.parts.length d1,.slice p2 q.ops.length d2,.slice p3 q.order.length d3,.int .i64 q.aE] 50):=B58.out.st S_;have L68:Hid (aI bO 7 (fun b=>b<PB) w62 p3 q.order):=(L59.out).bJ bX S_;clear con61 P_ S_ f60 P55 S56 G57 B58 L59
     have con69:Calls Tryz.prog 57 #[.pointer (some ⟨PB,0,none⟩),.slice (some ⟨w62.heap.size,0,none⟩) 1 1] (w62.alloc (.cells #[.string ⟨#[108,105,109,105,116]⟩] 9)) (aC w62 PB v63 (an (an bs (eO q.parts q.ops q.parts.length ++ [⟨#[111,114,100,101,114]⟩,⟨#[98,121]⟩] ++ cr bm q.order)) ([⟨#[108,105,109,105,116]⟩]))):=aW [⟨#[108,105,109,105,116]⟩] P64.out (by rw [← ak]; exact cH (Hb.out)) (by simp);go_wp2_with fail
     refine con69.mono ?_;rintro e w70 ⟨rfl,v71,P_,S_⟩;have P72:Hid (ax w70 PB v71 (an bs (eO q.parts q.ops q.parts.length ++ [⟨#[111,114,100,101,114]⟩,⟨#[98,121]⟩] ++ cr bm q.order ++ [⟨#[108,105,109,105,116]⟩]))):=by show ax _ _ _ _; rw [ak]; exact P_
     have S73:Hid (St PB v w v71 w70):=S65.out.trans S_;have G74:Hid (GP w70 PB):=G66.out.st S_;have B75:Hid (Bx w70 PB v71 (w.heap.size) #[.slice p1 q.parts.length d1,.slice p2 q.ops.length d2,.slice p3 q.order.length d3,.int .i64 q.aE] 50):=B67.out.st S_;have L76:Hid (aI bO 7 (fun b=>b<PB) w70 p3 q.order):=(L68.out).bJ bX S_;clear con69 P_ S_  P64 S65 G66 B67 L68;have f77:w70.cell? ⟨w.heap.size,3,none⟩=some (.int .i64 q.aE):=B75.out.c 3 rfl
     have con78:Calls Tryz.prog 93 #[.pointer (some ⟨PB,0,none⟩),.int .i64 q.aE] w70 (aC w70 PB v71 (an (an bs (eO q.parts q.ops q.parts.length ++ [⟨#[111,114,100,101,114]⟩,⟨#[98,121]⟩] ++ cr bm q.order ++ [⟨#[108,105,109,105,116]⟩])) (gZ q.aE))):=l7 q.aE (G74.out) (P72.out) (by omega) HO.out.aE (by rw [← ak]; exact Hb.out);go_wp2_with fail
     refine con78.mono ?_;rintro e w79 ⟨rfl,v80,P_,S_⟩;have P81:Hid (ax w79 PB v80 (an bs (eO q.parts q.ops q.parts.length ++ [⟨#[111,114,100,101,114]⟩,⟨#[98,121]⟩] ++ cr bm q.order ++ [⟨#[108,105,109,105,116]⟩] ++ gZ q.aE))):=by show ax _ _ _ _; rw [ak]; exact P_
     have S82:Hid (St PB v w v80 w79):=S73.out.trans S_;have G83:Hid (GP w79 PB):=G74.out.st S_;have B84:Hid (Bx w79 PB v80 (w.heap.size) #[.slice p1 q.parts.length d1,.slice p2 q.ops.length d2,.slice p3 q.order.length d3,.int .i64 q.aE] 50):=B75.out.st S_;have L85:Hid (aI bO 7 (fun b=>b<PB) w79 p3 q.order):=(L76.out).bJ bX S_;clear con78 P_ S_ f77 P72 S73 G74 B75 L76;go_wp2_with fail
     go_end0
     exact ⟨rfl,v80,by rw [HEO.out,← Dc,← Dc,← Dc]; exact P81.out,S82.out⟩
    ·have eo:jX q = []:=by unfold jX; rw [if_neg hl0]
     have HEO:Hid _:=eo;rw [eo] at Hb;clear eo;have f86:wr.cell? ⟨w.heap.size,3,none⟩=some (.int .i64 q.aE):=hB1.out.c 3 rfl;go_wp2_with fail
     go_end0
     exact ⟨rfl,v1,by rw [HEO.out,List.append_nil]; exact hP1.out,hS1.out⟩
def ct (x:cW):List ByteArray:=if x.kind=1 then [⟨#[99,114,101,97,116,101]⟩,⟨#[116,97,98,108,101]⟩,x.name,⟨#[40]⟩] ++ cr cB x.bx ++ [⟨#[41]⟩] ++ [⟨#[59]⟩] else if x.kind=2 then [⟨#[99,114,101,97,116,101]⟩,⟨#[118,105,101,119]⟩,x.name,⟨#[97,115]⟩] ++ fm x.query ++ [⟨#[59]⟩] else if x.kind=3 then [⟨#[105,110,115,101,114,116]⟩,⟨#[105,110,116,111]⟩,x.name,⟨#[118,97,108,117,101,115]⟩] ++ cr dZ x.rows ++ [⟨#[59]⟩] else if x.kind=4 then [⟨#[100,101,108,101,116,101]⟩,⟨#[102,114,111,109]⟩,x.name] ++ dV ⟨#[119,104,101,114,101]⟩ x.aB x.ah ++ [⟨#[59]⟩] else if x.kind=5 then [⟨#[115,104,111,119]⟩] ++ fm x.query ++ [⟨#[59]⟩] else []
structure BJ (x:cW):Prop where
 kind:1≤x.kind∧x.kind≤5
 bx:x.kind=1→x.bx.length≤1000
 query:x.kind=2∨x.kind=5→zt x.query
 rows:x.kind=3→x.rows.length≤1000∧∀ l ∈ x.rows,l.length≤1000∧∀ y ∈ l,jF y
 ah:x.kind=4→x.aB=true→lN x.ah
theorem BK (x:cW) (ok:x.bx.length≤1000) (a1 p1 p2 p3 a2 a3:Option Addr) (c1 d1 d2 d3 c2 c3:Nat) {PB:Nat} {v:Value} {bs:List UInt8} {w:World} (hG:GP w PB) (hP:ax w PB v bs) (k1:aI iq 2 (fun b=>b<PB) w a1 x.bx) (hb:(an bs ([⟨#[99,114,101,97,116,101]⟩,⟨#[116,97,98,108,101]⟩,x.name,⟨#[40]⟩] ++ cr cB x.bx ++ [⟨#[41]⟩] ++ [⟨#[59]⟩])).length≤fW):Calls Tryz.prog 32 #[.pointer (some ⟨PB,0,none⟩),.agg (du (1) x a1 c1 p1 d1 p2 d2 p3 d3 a2 c2 a3 c3)] w (aC w PB v (an bs ([⟨#[99,114,101,97,116,101]⟩,⟨#[116,97,98,108,101]⟩,x.name,⟨#[40]⟩] ++ cr cB x.bx ++ [⟨#[41]⟩] ++ [⟨#[59]⟩]))):=by
 have hmf:∀ (fn:Fn) (first cap:Array Value) (w:World),(Instr.makeFunc fn first cap).run Tryz.prog w = .ok (.func fn first cap) w:=fun _ _ _ _=>rfl
 have HO:Hid (x.bx.length≤1000):=ok;clear ok;have Hb:Hid _:=hb;clear hb;have hal:=ab w (.cells (du (1) x a1 c1 p1 d1 p2 d2 p3 d3 a2 c2 a3 c3) 57);have B0:Hid (Bx (w.alloc (.cells (du (1) x a1 c1 p1 d1 p2 d2 p3 d3 a2 c2 a3 c3) 57)) PB v w.heap.size (du (1) x a1 c1 p1 d1 p2 d2 p3 d3 a2 c2 a3 c3) 57):=Bx.new hP (du (1) x a1 c1 p1 d1 p2 d2 p3 d3 a2 c2 a3 c3) 57;have P0:Hid (ax (w.alloc (.cells (du (1) x a1 c1 p1 d1 p2 d2 p3 d3 a2 c2 a3 c3) 57)) PB v bs):=hP.next hal
 have S0:Hid (St PB v w v (w.alloc (.cells (du (1) x a1 c1 p1 d1 p2 d2 p3 d3 a2 c2 a3 c3) 57))):=St.of hal hP.lt;have G0:Hid (GP (w.alloc (.cells (du (1) x a1 c1 p1 d1 p2 d2 p3 d3 a2 c2 a3 c3) 57)) PB):=hG.nx hal hP.lt;have L00:Hid (aI iq 2 (fun b=>b<PB) (w.alloc (.cells (du (1) x a1 c1 p1 d1 p2 d2 p3 d3 a2 c2 a3 c3) 57)) a1 x.bx):=(k1).nx je hal;clear hP hG hal k1;go_enter Tryz.func32,Tryz.ntmps32;go_upto_region 1 with fail
 generalize (w.alloc (.cells (du (1) x a1 c1 p1 d1 p2 d2 p3 d3 a2 c2 a3 c3) 57))=w0 at *;have f1:w0.cell? ⟨w.heap.size,0,none⟩=some (.int .i64 1):=B0.out.c 0 rfl;have f2:w0.cell? ⟨w.heap.size,1,none⟩=some (.string x.name):=B0.out.c 1 rfl
 have con3:Calls Tryz.prog 57 #[.pointer (some ⟨PB,0,none⟩),.slice (some ⟨w0.heap.size,0,none⟩) 4 4] (w0.alloc (.cells #[.string ⟨#[99,114,101,97,116,101]⟩,.string ⟨#[116,97,98,108,101]⟩,.string x.name,.string ⟨#[40]⟩] 9)) (aC w0 PB v (an bs ([⟨#[99,114,101,97,116,101]⟩,⟨#[116,97,98,108,101]⟩,x.name,⟨#[40]⟩]))):=aW [⟨#[99,114,101,97,116,101]⟩,⟨#[116,97,98,108,101]⟩,x.name,⟨#[40]⟩] P0.out (cH (cH (cH (Hb.out)))) (by simp);go_wp2_with fail
 refine con3.mono ?_;rintro e w4 ⟨rfl,v5,P_,S_⟩;have P6:Hid (ax w4 PB v5 (an bs ([⟨#[99,114,101,97,116,101]⟩,⟨#[116,97,98,108,101]⟩,x.name,⟨#[40]⟩]))):=P_;have S7:Hid (St PB v w v5 w4):=S0.out.trans S_;have G8:Hid (GP w4 PB):=G0.out.st S_;have B9:Hid (Bx w4 PB v5 (w.heap.size) (du (1) x a1 c1 p1 d1 p2 d2 p3 d3 a2 c2 a3 c3) 57):=B0.out.st S_;have L10:Hid (aI iq 2 (fun b=>b<PB) w4 a1 x.bx):=(L00.out).bJ je S_;clear con3 P_ S_ f1 f2 P0 S0 G0 B0 L00;have f11:w4.cell? ⟨w.heap.size,2,none⟩=some (.slice a1 x.bx.length c1):=B9.out.c 2 rfl
 have con12:Calls Tryz.prog 58 #[.pointer (some ⟨PB,0,none⟩),.slice a1 x.bx.length c1,.func (.func 59) #[.pointer (some ⟨PB,0,none⟩)] #[]] w4 (aC w4 PB v5 (an (an bs ([⟨#[99,114,101,97,116,101]⟩,⟨#[116,97,98,108,101]⟩,x.name,⟨#[40]⟩])) (cr cB x.bx))):=rA x.bx HO.out (fun _ _=>trivial) a1 c1 (G8.out) (P6.out) L10.out (by rw [← ak]; exact cH (cH (Hb.out)));go_wp2_with fail
 refine con12.mono ?_;rintro e w13 ⟨rfl,v14,P_,S_⟩;have P15:Hid (ax w13 PB v14 (an bs ([⟨#[99,114,101,97,116,101]⟩,⟨#[116,97,98,108,101]⟩,x.name,⟨#[40]⟩] ++ cr cB x.bx))):=by show ax _ _ _ _; rw [ak]; exact P_
 have S16:Hid (St PB v w v14 w13):=S7.out.trans S_;have G17:Hid (GP w13 PB):=G8.out.st S_;have B18:Hid (Bx w13 PB v14 (w.heap.size) (du (1) x a1 c1 p1 d1 p2 d2 p3 d3 a2 c2 a3 c3) 57):=B9.out.st S_;have L19:Hid (aI iq 2 (fun b=>b<PB) w13 a1 x.bx):=(L10.out).bJ je S_;clear con12 P_ S_ f11 P6 S7 G8 B9 L10
 have con20:Calls Tryz.prog 57 #[.pointer (some ⟨PB,0,none⟩),.slice (some ⟨w13.heap.size,0,none⟩) 1 1] (w13.alloc (.cells #[.string ⟨#[41]⟩] 9)) (aC w13 PB v14 (an (an bs ([⟨#[99,114,101,97,116,101]⟩,⟨#[116,97,98,108,101]⟩,x.name,⟨#[40]⟩] ++ cr cB x.bx)) ([⟨#[41]⟩]))):=aW [⟨#[41]⟩] P15.out (by rw [← ak]; exact cH (Hb.out)) (by simp);go_wp2_with fail
 refine con20.mono ?_;rintro e w21 ⟨rfl,v22,P_,S_⟩;have P23:Hid (ax w21 PB v22 (an bs ([⟨#[99,114,101,97,116,101]⟩,⟨#[116,97,98,108,101]⟩,x.name,⟨#[40]⟩] ++ cr cB x.bx ++ [⟨#[41]⟩]))):=by show ax _ _ _ _; rw [ak]; exact P_
 have S24:Hid (St PB v w v22 w21):=S16.out.trans S_;have G25:Hid (GP w21 PB):=G17.out.st S_;have B26:Hid (Bx w21 PB v22 (w.heap.size) (du (1) x a1 c1 p1 d1 p2 d2 p3 d3 a2 c2 a3 c3) 57):=B18.out.st S_;have L27:Hid (aI iq 2 (fun b=>b<PB) w21 a1 x.bx):=(L19.out).bJ je S_;clear con20 P_ S_  P15 S16 G17 B18 L19
 have con28:Calls Tryz.prog 57 #[.pointer (some ⟨PB,0,none⟩),.slice (some ⟨w21.heap.size,0,none⟩) 1 1] (w21.alloc (.cells #[.string ⟨#[59]⟩] 9)) (aC w21 PB v22 (an (an bs ([⟨#[99,114,101,97,116,101]⟩,⟨#[116,97,98,108,101]⟩,x.name,⟨#[40]⟩] ++ cr cB x.bx ++ [⟨#[41]⟩])) ([⟨#[59]⟩]))):=aW [⟨#[59]⟩] P23.out (by rw [← ak]; exact Hb.out) (by simp);go_wp2_with fail
 refine con28.mono ?_;rintro e w29 ⟨rfl,v30,P_,S_⟩;have P31:Hid (ax w29 PB v30 (an bs ([⟨#[99,114,101,97,116,101]⟩,⟨#[116,97,98,108,101]⟩,x.name,⟨#[40]⟩] ++ cr cB x.bx ++ [⟨#[41]⟩] ++ [⟨#[59]⟩]))):=by show ax _ _ _ _; rw [ak]; exact P_
 have S32:Hid (St PB v w v30 w29):=S24.out.trans S_;have G33:Hid (GP w29 PB):=G25.out.st S_;have B34:Hid (Bx w29 PB v30 (w.heap.size) (du (1) x a1 c1 p1 d1 p2 d2 p3 d3 a2 c2 a3 c3) 57):=B26.out.st S_;have L35:Hid (aI iq 2 (fun b=>b<PB) w29 a1 x.bx):=(L27.out).bJ je S_;clear con28 P_ S_  P23 S24 G25 B26 L27;go_wp2_with fail
 go_end0
 exact ⟨rfl,v30,P31.out,S32.out⟩
theorem BE (x:cW) (ok:zt x.query) (a1 p1 p2 p3 a2 a3:Option Addr) (c1 d1 d2 d3 c2 c3:Nat) {PB:Nat} {v:Value} {bs:List UInt8} {w:World} (hG:GP w PB) (hP:ax w PB v bs) (k2:aI b7 21 (fun b=>b<PB) w p1 x.query.parts) (k3:aI fJ 1 (fun b=>b<PB) w p2 x.query.ops) (k4:aI bO 7 (fun b=>b<PB) w p3 x.query.order) (hb:(an bs ([⟨#[99,114,101,97,116,101]⟩,⟨#[118,105,101,119]⟩,x.name,⟨#[97,115]⟩] ++ fm x.query ++ [⟨#[59]⟩])).length≤fW):Calls Tryz.prog 32 #[.pointer (some ⟨PB,0,none⟩),.agg (du (2) x a1 c1 p1 d1 p2 d2 p3 d3 a2 c2 a3 c3)] w (aC w PB v (an bs ([⟨#[99,114,101,97,116,101]⟩,⟨#[118,105,101,119]⟩,x.name,⟨#[97,115]⟩] ++ fm x.query ++ [⟨#[59]⟩]))):=by
 have hmf:∀ (fn:Fn) (first cap:Array Value) (w:World),(Instr.makeFunc fn first cap).run Tryz.prog w = .ok (.func fn first cap) w:=fun _ _ _ _=>rfl
 have HO:Hid (zt x.query):=ok;clear ok;have Hb:Hid _:=hb;clear hb;have hal:=ab w (.cells (du (2) x a1 c1 p1 d1 p2 d2 p3 d3 a2 c2 a3 c3) 57);have B0:Hid (Bx (w.alloc (.cells (du (2) x a1 c1 p1 d1 p2 d2 p3 d3 a2 c2 a3 c3) 57)) PB v w.heap.size (du (2) x a1 c1 p1 d1 p2 d2 p3 d3 a2 c2 a3 c3) 57):=Bx.new hP (du (2) x a1 c1 p1 d1 p2 d2 p3 d3 a2 c2 a3 c3) 57;have P0:Hid (ax (w.alloc (.cells (du (2) x a1 c1 p1 d1 p2 d2 p3 d3 a2 c2 a3 c3) 57)) PB v bs):=hP.next hal
 have S0:Hid (St PB v w v (w.alloc (.cells (du (2) x a1 c1 p1 d1 p2 d2 p3 d3 a2 c2 a3 c3) 57))):=St.of hal hP.lt;have G0:Hid (GP (w.alloc (.cells (du (2) x a1 c1 p1 d1 p2 d2 p3 d3 a2 c2 a3 c3) 57)) PB):=hG.nx hal hP.lt;have L00:Hid (aI b7 21 (fun b=>b<PB) (w.alloc (.cells (du (2) x a1 c1 p1 d1 p2 d2 p3 d3 a2 c2 a3 c3) 57)) p1 x.query.parts):=(k2).nx cf hal;have L01:Hid (aI fJ 1 (fun b=>b<PB) (w.alloc (.cells (du (2) x a1 c1 p1 d1 p2 d2 p3 d3 a2 c2 a3 c3) 57)) p2 x.query.ops):=(k3).nx fV hal
 have L02:Hid (aI bO 7 (fun b=>b<PB) (w.alloc (.cells (du (2) x a1 c1 p1 d1 p2 d2 p3 d3 a2 c2 a3 c3) 57)) p3 x.query.order):=(k4).nx bX hal;clear hP hG hal k2 k3 k4;go_enter Tryz.func32,Tryz.ntmps32;go_upto_region 1 with fail
 generalize (w.alloc (.cells (du (2) x a1 c1 p1 d1 p2 d2 p3 d3 a2 c2 a3 c3) 57))=w0 at *;have f1:w0.cell? ⟨w.heap.size,0,none⟩=some (.int .i64 2):=B0.out.c 0 rfl;have f2:w0.cell? ⟨w.heap.size,1,none⟩=some (.string x.name):=B0.out.c 1 rfl
 have con3:Calls Tryz.prog 57 #[.pointer (some ⟨PB,0,none⟩),.slice (some ⟨w0.heap.size,0,none⟩) 4 4] (w0.alloc (.cells #[.string ⟨#[99,114,101,97,116,101]⟩,.string ⟨#[118,105,101,119]⟩,.string x.name,.string ⟨#[97,115]⟩] 9)) (aC w0 PB v (an bs ([⟨#[99,114,101,97,116,101]⟩,⟨#[118,105,101,119]⟩,x.name,⟨#[97,115]⟩]))):=aW [⟨#[99,114,101,97,116,101]⟩,⟨#[118,105,101,119]⟩,x.name,⟨#[97,115]⟩] P0.out (cH (cH (Hb.out))) (by simp);go_wp2_with fail
 refine con3.mono ?_;rintro e w4 ⟨rfl,v5,P_,S_⟩;have P6:Hid (ax w4 PB v5 (an bs ([⟨#[99,114,101,97,116,101]⟩,⟨#[118,105,101,119]⟩,x.name,⟨#[97,115]⟩]))):=P_;have S7:Hid (St PB v w v5 w4):=S0.out.trans S_;have G8:Hid (GP w4 PB):=G0.out.st S_;have B9:Hid (Bx w4 PB v5 (w.heap.size) (du (2) x a1 c1 p1 d1 p2 d2 p3 d3 a2 c2 a3 c3) 57):=B0.out.st S_;have L10:Hid (aI b7 21 (fun b=>b<PB) w4 p1 x.query.parts):=(L00.out).bJ cf S_;have L11:Hid (aI fJ 1 (fun b=>b<PB) w4 p2 x.query.ops):=(L01.out).bJ fV S_;have L12:Hid (aI bO 7 (fun b=>b<PB) w4 p3 x.query.order):=(L02.out).bJ bX S_
 clear con3 P_ S_ f1 f2 P0 S0 G0 B0 L00 L01 L02;have f13:w4.cell? ⟨w.heap.size,3,none⟩=some (.slice p1 x.query.parts.length d1):=B9.out.c 3 rfl;have f14:w4.cell? ⟨w.heap.size,4,none⟩=some (.slice p2 x.query.ops.length d2):=B9.out.c 4 rfl;have f15:w4.cell? ⟨w.heap.size,5,none⟩=some (.slice p3 x.query.order.length d3):=B9.out.c 5 rfl;have f16:w4.cell? ⟨w.heap.size,6,none⟩=some (.int .i64 x.query.aE):=B9.out.c 6 rfl
 have con17:Calls Tryz.prog 60 #[.pointer (some ⟨PB,0,none⟩),.agg #[.slice p1 x.query.parts.length d1,.slice p2 x.query.ops.length d2,.slice p3 x.query.order.length d3,.int .i64 x.query.aE]] w4 (aC w4 PB v5 (an (an bs ([⟨#[99,114,101,97,116,101]⟩,⟨#[118,105,101,119]⟩,x.name,⟨#[97,115]⟩])) (fm x.query))):=nM x.query HO.out p1 p2 p3 d1 d2 d3 (G8.out) (P6.out) L10.out L11.out L12.out (by rw [← ak]; exact cH (Hb.out));go_wp2_with fail
 refine con17.mono ?_;rintro e w18 ⟨rfl,v19,P_,S_⟩;have P20:Hid (ax w18 PB v19 (an bs ([⟨#[99,114,101,97,116,101]⟩,⟨#[118,105,101,119]⟩,x.name,⟨#[97,115]⟩] ++ fm x.query))):=by show ax _ _ _ _; rw [ak]; exact P_
 have S21:Hid (St PB v w v19 w18):=S7.out.trans S_;have G22:Hid (GP w18 PB):=G8.out.st S_;have B23:Hid (Bx w18 PB v19 (w.heap.size) (du (2) x a1 c1 p1 d1 p2 d2 p3 d3 a2 c2 a3 c3) 57):=B9.out.st S_;have L24:Hid (aI b7 21 (fun b=>b<PB) w18 p1 x.query.parts):=(L10.out).bJ cf S_;have L25:Hid (aI fJ 1 (fun b=>b<PB) w18 p2 x.query.ops):=(L11.out).bJ fV S_;have L26:Hid (aI bO 7 (fun b=>b<PB) w18 p3 x.query.order):=(L12.out).bJ bX S_;clear con17 P_ S_ f13 f14 f15 f16 P6 S7 G8 B9 L10 L11 L12
 have con27:Calls Tryz.prog 57 #[.pointer (some ⟨PB,0,none⟩),.slice (some ⟨w18.heap.size,0,none⟩) 1 1] (w18.alloc (.cells #[.string ⟨#[59]⟩] 9)) (aC w18 PB v19 (an (an bs ([⟨#[99,114,101,97,116,101]⟩,⟨#[118,105,101,119]⟩,x.name,⟨#[97,115]⟩] ++ fm x.query)) ([⟨#[59]⟩]))):=aW [⟨#[59]⟩] P20.out (by rw [← ak]; exact Hb.out) (by simp);go_wp2_with fail
 refine con27.mono ?_;rintro e w28 ⟨rfl,v29,P_,S_⟩;have P30:Hid (ax w28 PB v29 (an bs ([⟨#[99,114,101,97,116,101]⟩,⟨#[118,105,101,119]⟩,x.name,⟨#[97,115]⟩] ++ fm x.query ++ [⟨#[59]⟩]))):=by show ax _ _ _ _; rw [ak]; exact P_
 have S31:Hid (St PB v w v29 w28):=S21.out.trans S_;have G32:Hid (GP w28 PB):=G22.out.st S_;have B33:Hid (Bx w28 PB v29 (w.heap.size) (du (2) x a1 c1 p1 d1 p2 d2 p3 d3 a2 c2 a3 c3) 57):=B23.out.st S_;have L34:Hid (aI b7 21 (fun b=>b<PB) w28 p1 x.query.parts):=(L24.out).bJ cf S_;have L35:Hid (aI fJ 1 (fun b=>b<PB) w28 p2 x.query.ops):=(L25.out).bJ fV S_;have L36:Hid (aI bO 7 (fun b=>b<PB) w28 p3 x.query.order):=(L26.out).bJ bX S_;clear con27 P_ S_  P20 S21 G22 B23 L24 L25 L26;go_wp2_with fail
 go_end0
 exact ⟨rfl,v29,P30.out,S31.out⟩
theorem A1 (x:cW) (ok:x.rows.length≤1000∧∀ l ∈ x.rows,l.length≤1000∧∀ y ∈ l,jF y) (a1 p1 p2 p3 a2 a3:Option Addr) (c1 d1 d2 d3 c2 c3:Nat) {PB:Nat} {v:Value} {bs:List UInt8} {w:World} (hG:GP w PB) (hP:ax w PB v bs) (k5:aI (bo eU 3) 1 (fun b=>b<PB) w a2 x.rows) (hb:(an bs ([⟨#[105,110,115,101,114,116]⟩,⟨#[105,110,116,111]⟩,x.name,⟨#[118,97,108,117,101,115]⟩] ++ cr dZ x.rows ++ [⟨#[59]⟩])).length≤fW):Calls Tryz.prog 32 #[.pointer (some ⟨PB,0,none⟩),.agg (du (3) x a1 c1 p1 d1 p2 d2 p3 d3 a2 c2 a3 c3)] w (aC w PB v (an bs ([⟨#[105,110,115,101,114,116]⟩,⟨#[105,110,116,111]⟩,x.name,⟨#[118,97,108,117,101,115]⟩] ++ cr dZ x.rows ++ [⟨#[59]⟩]))):=by
 have hmf:∀ (fn:Fn) (first cap:Array Value) (w:World),(Instr.makeFunc fn first cap).run Tryz.prog w = .ok (.func fn first cap) w:=fun _ _ _ _=>rfl
 have HO:Hid (x.rows.length≤1000∧∀ l ∈ x.rows,l.length≤1000∧∀ y ∈ l,jF y):=ok;clear ok;have Hb:Hid _:=hb;clear hb;have hal:=ab w (.cells (du (3) x a1 c1 p1 d1 p2 d2 p3 d3 a2 c2 a3 c3) 57);have B0:Hid (Bx (w.alloc (.cells (du (3) x a1 c1 p1 d1 p2 d2 p3 d3 a2 c2 a3 c3) 57)) PB v w.heap.size (du (3) x a1 c1 p1 d1 p2 d2 p3 d3 a2 c2 a3 c3) 57):=Bx.new hP (du (3) x a1 c1 p1 d1 p2 d2 p3 d3 a2 c2 a3 c3) 57;have P0:Hid (ax (w.alloc (.cells (du (3) x a1 c1 p1 d1 p2 d2 p3 d3 a2 c2 a3 c3) 57)) PB v bs):=hP.next hal
 have S0:Hid (St PB v w v (w.alloc (.cells (du (3) x a1 c1 p1 d1 p2 d2 p3 d3 a2 c2 a3 c3) 57))):=St.of hal hP.lt;have G0:Hid (GP (w.alloc (.cells (du (3) x a1 c1 p1 d1 p2 d2 p3 d3 a2 c2 a3 c3) 57)) PB):=hG.nx hal hP.lt;have L00:Hid (aI (bo eU 3) 1 (fun b=>b<PB) (w.alloc (.cells (du (3) x a1 c1 p1 d1 p2 d2 p3 d3 a2 c2 a3 c3) 57)) a2 x.rows):=(k5).nx (bd fP 3) hal;clear hP hG hal k5;go_enter Tryz.func32,Tryz.ntmps32;go_upto_region 1 with fail
 generalize (w.alloc (.cells (du (3) x a1 c1 p1 d1 p2 d2 p3 d3 a2 c2 a3 c3) 57))=w0 at *;have f1:w0.cell? ⟨w.heap.size,0,none⟩=some (.int .i64 3):=B0.out.c 0 rfl;have f2:w0.cell? ⟨w.heap.size,1,none⟩=some (.string x.name):=B0.out.c 1 rfl
 have con3:Calls Tryz.prog 57 #[.pointer (some ⟨PB,0,none⟩),.slice (some ⟨w0.heap.size,0,none⟩) 4 4] (w0.alloc (.cells #[.string ⟨#[105,110,115,101,114,116]⟩,.string ⟨#[105,110,116,111]⟩,.string x.name,.string ⟨#[118,97,108,117,101,115]⟩] 9)) (aC w0 PB v (an bs ([⟨#[105,110,115,101,114,116]⟩,⟨#[105,110,116,111]⟩,x.name,⟨#[118,97,108,117,101,115]⟩]))):=aW [⟨#[105,110,115,101,114,116]⟩,⟨#[105,110,116,111]⟩,x.name,⟨#[118,97,108,117,101,115]⟩] P0.out (cH (cH (Hb.out))) (by simp);go_wp2_with fail
 refine con3.mono ?_;rintro e w4 ⟨rfl,v5,P_,S_⟩;have P6:Hid (ax w4 PB v5 (an bs ([⟨#[105,110,115,101,114,116]⟩,⟨#[105,110,116,111]⟩,x.name,⟨#[118,97,108,117,101,115]⟩]))):=P_;have S7:Hid (St PB v w v5 w4):=S0.out.trans S_;have G8:Hid (GP w4 PB):=G0.out.st S_;have B9:Hid (Bx w4 PB v5 (w.heap.size) (du (3) x a1 c1 p1 d1 p2 d2 p3 d3 a2 c2 a3 c3) 57):=B0.out.st S_;have L10:Hid (aI (bo eU 3) 1 (fun b=>b<PB) w4 a2 x.rows):=(L00.out).bJ (bd fP 3) S_;clear con3 P_ S_ f1 f2 P0 S0 G0 B0 L00;have f11:w4.cell? ⟨w.heap.size,7,none⟩=some (.slice a2 x.rows.length c2):=B9.out.c 7 rfl
 have con12:Calls Tryz.prog 61 #[.pointer (some ⟨PB,0,none⟩),.slice a2 x.rows.length c2,.func (.func 62) #[.pointer (some ⟨PB,0,none⟩)] #[]] w4 (aC w4 PB v5 (an (an bs ([⟨#[105,110,115,101,114,116]⟩,⟨#[105,110,116,111]⟩,x.name,⟨#[118,97,108,117,101,115]⟩])) (cr dZ x.rows))):=rv x.rows HO.out.1 HO.out.2 a2 c2 (G8.out) (P6.out) L10.out (by rw [← ak]; exact cH (Hb.out));go_wp2_with fail
 refine con12.mono ?_;rintro e w13 ⟨rfl,v14,P_,S_⟩;have P15:Hid (ax w13 PB v14 (an bs ([⟨#[105,110,115,101,114,116]⟩,⟨#[105,110,116,111]⟩,x.name,⟨#[118,97,108,117,101,115]⟩] ++ cr dZ x.rows))):=by show ax _ _ _ _; rw [ak]; exact P_
 have S16:Hid (St PB v w v14 w13):=S7.out.trans S_;have G17:Hid (GP w13 PB):=G8.out.st S_;have B18:Hid (Bx w13 PB v14 (w.heap.size) (du (3) x a1 c1 p1 d1 p2 d2 p3 d3 a2 c2 a3 c3) 57):=B9.out.st S_;have L19:Hid (aI (bo eU 3) 1 (fun b=>b<PB) w13 a2 x.rows):=(L10.out).bJ (bd fP 3) S_;clear con12 P_ S_ f11 P6 S7 G8 B9 L10
 have con20:Calls Tryz.prog 57 #[.pointer (some ⟨PB,0,none⟩),.slice (some ⟨w13.heap.size,0,none⟩) 1 1] (w13.alloc (.cells #[.string ⟨#[59]⟩] 9)) (aC w13 PB v14 (an (an bs ([⟨#[105,110,115,101,114,116]⟩,⟨#[105,110,116,111]⟩,x.name,⟨#[118,97,108,117,101,115]⟩] ++ cr dZ x.rows)) ([⟨#[59]⟩]))):=aW [⟨#[59]⟩] P15.out (by rw [← ak]; exact Hb.out) (by simp);go_wp2_with fail
 refine con20.mono ?_;rintro e w21 ⟨rfl,v22,P_,S_⟩;have P23:Hid (ax w21 PB v22 (an bs ([⟨#[105,110,115,101,114,116]⟩,⟨#[105,110,116,111]⟩,x.name,⟨#[118,97,108,117,101,115]⟩] ++ cr dZ x.rows ++ [⟨#[59]⟩]))):=by show ax _ _ _ _; rw [ak]; exact P_
 have S24:Hid (St PB v w v22 w21):=S16.out.trans S_;have G25:Hid (GP w21 PB):=G17.out.st S_;have B26:Hid (Bx w21 PB v22 (w.heap.size) (du (3) x a1 c1 p1 d1 p2 d2 p3 d3 a2 c2 a3 c3) 57):=B18.out.st S_;have L27:Hid (aI (bo eU 3) 1 (fun b=>b<PB) w21 a2 x.rows):=(L19.out).bJ (bd fP 3) S_;clear con20 P_ S_  P15 S16 G17 B18 L19;go_wp2_with fail
 go_end0
 exact ⟨rfl,v22,P23.out,S24.out⟩
theorem BL (x:cW) (ok:x.aB=true→lN x.ah) (a1 p1 p2 p3 a2 a3:Option Addr) (c1 d1 d2 d3 c2 c3:Nat) {PB:Nat} {v:Value} {bs:List UInt8} {w:World} (hG:GP w PB) (hP:ax w PB v bs) (k6:aD (fun b=>b<PB) w a3 x.ah.ks) (hb:(an bs ([⟨#[100,101,108,101,116,101]⟩,⟨#[102,114,111,109]⟩,x.name] ++ dV ⟨#[119,104,101,114,101]⟩ x.aB x.ah ++ [⟨#[59]⟩])).length≤fW):Calls Tryz.prog 32 #[.pointer (some ⟨PB,0,none⟩),.agg (du (4) x a1 c1 p1 d1 p2 d2 p3 d3 a2 c2 a3 c3)] w (aC w PB v (an bs ([⟨#[100,101,108,101,116,101]⟩,⟨#[102,114,111,109]⟩,x.name] ++ dV ⟨#[119,104,101,114,101]⟩ x.aB x.ah ++ [⟨#[59]⟩]))):=by
 have hmf:∀ (fn:Fn) (first cap:Array Value) (w:World),(Instr.makeFunc fn first cap).run Tryz.prog w = .ok (.func fn first cap) w:=fun _ _ _ _=>rfl
 have HO:Hid (x.aB=true→lN x.ah):=ok;clear ok;have Hb:Hid _:=hb;clear hb;have hal:=ab w (.cells (du (4) x a1 c1 p1 d1 p2 d2 p3 d3 a2 c2 a3 c3) 57);have B0:Hid (Bx (w.alloc (.cells (du (4) x a1 c1 p1 d1 p2 d2 p3 d3 a2 c2 a3 c3) 57)) PB v w.heap.size (du (4) x a1 c1 p1 d1 p2 d2 p3 d3 a2 c2 a3 c3) 57):=Bx.new hP (du (4) x a1 c1 p1 d1 p2 d2 p3 d3 a2 c2 a3 c3) 57;have P0:Hid (ax (w.alloc (.cells (du (4) x a1 c1 p1 d1 p2 d2 p3 d3 a2 c2 a3 c3) 57)) PB v bs):=hP.next hal
 have S0:Hid (St PB v w v (w.alloc (.cells (du (4) x a1 c1 p1 d1 p2 d2 p3 d3 a2 c2 a3 c3) 57))):=St.of hal hP.lt;have G0:Hid (GP (w.alloc (.cells (du (4) x a1 c1 p1 d1 p2 d2 p3 d3 a2 c2 a3 c3) 57)) PB):=hG.nx hal hP.lt;have L00:Hid (aD (fun b=>b<PB) (w.alloc (.cells (du (4) x a1 c1 p1 d1 p2 d2 p3 d3 a2 c2 a3 c3) 57)) a3 x.ah.ks):=aD.next hal k6;clear hP hG hal k6;go_enter Tryz.func32,Tryz.ntmps32;go_upto_region 1 with fail
 generalize (w.alloc (.cells (du (4) x a1 c1 p1 d1 p2 d2 p3 d3 a2 c2 a3 c3) 57))=w0 at *;have f1:w0.cell? ⟨w.heap.size,0,none⟩=some (.int .i64 4):=B0.out.c 0 rfl;have f2:w0.cell? ⟨w.heap.size,1,none⟩=some (.string x.name):=B0.out.c 1 rfl
 have con3:Calls Tryz.prog 57 #[.pointer (some ⟨PB,0,none⟩),.slice (some ⟨w0.heap.size,0,none⟩) 3 3] (w0.alloc (.cells #[.string ⟨#[100,101,108,101,116,101]⟩,.string ⟨#[102,114,111,109]⟩,.string x.name] 9)) (aC w0 PB v (an bs ([⟨#[100,101,108,101,116,101]⟩,⟨#[102,114,111,109]⟩,x.name]))):=aW [⟨#[100,101,108,101,116,101]⟩,⟨#[102,114,111,109]⟩,x.name] P0.out (cH (cH (Hb.out))) (by simp);go_wp2_with fail
 refine con3.mono ?_;rintro e w4 ⟨rfl,v5,P_,S_⟩;have P6:Hid (ax w4 PB v5 (an bs ([⟨#[100,101,108,101,116,101]⟩,⟨#[102,114,111,109]⟩,x.name]))):=P_;have S7:Hid (St PB v w v5 w4):=S0.out.trans S_;have G8:Hid (GP w4 PB):=G0.out.st S_;have B9:Hid (Bx w4 PB v5 (w.heap.size) (du (4) x a1 c1 p1 d1 p2 d2 p3 d3 a2 c2 a3 c3) 57):=B0.out.st S_;have L10:Hid (aD (fun b=>b<PB) w4 a3 x.ah.ks):=aD.bJ L00.out S_;clear con3 P_ S_ f1 f2 P0 S0 G0 B0 L00;have f11:w4.cell? ⟨w.heap.size,8,none⟩=some (.bool x.aB):=B9.out.c 8 rfl
 have f12:w4.cell? ⟨w.heap.size,9,none⟩=some (.int .i64 x.ah.k):=B9.out.c 9 rfl;have f13:w4.cell? ⟨w.heap.size,10,none⟩=some (.int .i64 x.ah.v.1):=B9.out.c 10 rfl;have f14:w4.cell? ⟨w.heap.size,11,none⟩=some (.int .i64 x.ah.v.2.1):=B9.out.c 11 rfl;have f15:w4.cell? ⟨w.heap.size,12,none⟩=some (.string x.ah.v.2.2):=B9.out.c 12 rfl;have f16:w4.cell? ⟨w.heap.size,13,none⟩=some (.string x.ah.aH):=B9.out.c 13 rfl;have f17:w4.cell? ⟨w.heap.size,14,none⟩=some (.string x.ah.name):=B9.out.c 14 rfl;have f18:w4.cell? ⟨w.heap.size,15,none⟩=some (.slice a3 x.ah.ks.length c3):=B9.out.c 15 rfl
 have con19:Calls Tryz.prog 63 #[.pointer (some ⟨PB,0,none⟩),.string ⟨#[119,104,101,114,101]⟩,.bool x.aB,.agg (aT x.ah a3 c3)] w4 (aC w4 PB v5 (an (an bs ([⟨#[100,101,108,101,116,101]⟩,⟨#[102,114,111,109]⟩,x.name])) (dV ⟨#[119,104,101,114,101]⟩ x.aB x.ah))):=dF ⟨#[119,104,101,114,101]⟩ x.aB x.ah HO.out a3 c3 (G8.out) (P6.out) L10.out (by rw [← ak]; exact cH (Hb.out));go_wp2_with fail
 refine con19.mono ?_;rintro e w20 ⟨rfl,v21,P_,S_⟩;have P22:Hid (ax w20 PB v21 (an bs ([⟨#[100,101,108,101,116,101]⟩,⟨#[102,114,111,109]⟩,x.name] ++ dV ⟨#[119,104,101,114,101]⟩ x.aB x.ah))):=by show ax _ _ _ _; rw [ak]; exact P_
 have S23:Hid (St PB v w v21 w20):=S7.out.trans S_;have G24:Hid (GP w20 PB):=G8.out.st S_;have B25:Hid (Bx w20 PB v21 (w.heap.size) (du (4) x a1 c1 p1 d1 p2 d2 p3 d3 a2 c2 a3 c3) 57):=B9.out.st S_;have L26:Hid (aD (fun b=>b<PB) w20 a3 x.ah.ks):=aD.bJ L10.out S_;clear con19 P_ S_ f11 f12 f13 f14 f15 f16 f17 f18 P6 S7 G8 B9 L10
 have con27:Calls Tryz.prog 57 #[.pointer (some ⟨PB,0,none⟩),.slice (some ⟨w20.heap.size,0,none⟩) 1 1] (w20.alloc (.cells #[.string ⟨#[59]⟩] 9)) (aC w20 PB v21 (an (an bs ([⟨#[100,101,108,101,116,101]⟩,⟨#[102,114,111,109]⟩,x.name] ++ dV ⟨#[119,104,101,114,101]⟩ x.aB x.ah)) ([⟨#[59]⟩]))):=aW [⟨#[59]⟩] P22.out (by rw [← ak]; exact Hb.out) (by simp);go_wp2_with fail
 refine con27.mono ?_;rintro e w28 ⟨rfl,v29,P_,S_⟩;have P30:Hid (ax w28 PB v29 (an bs ([⟨#[100,101,108,101,116,101]⟩,⟨#[102,114,111,109]⟩,x.name] ++ dV ⟨#[119,104,101,114,101]⟩ x.aB x.ah ++ [⟨#[59]⟩]))):=by show ax _ _ _ _; rw [ak]; exact P_
 have S31:Hid (St PB v w v29 w28):=S23.out.trans S_;have G32:Hid (GP w28 PB):=G24.out.st S_;have B33:Hid (Bx w28 PB v29 (w.heap.size) (du (4) x a1 c1 p1 d1 p2 d2 p3 d3 a2 c2 a3 c3) 57):=B25.out.st S_;have L34:Hid (aD (fun b=>b<PB) w28 a3 x.ah.ks):=aD.bJ L26.out S_;clear con27 P_ S_  P22 S23 G24 B25 L26;go_wp2_with fail
 go_end0
 exact ⟨rfl,v29,P30.out,S31.out⟩
theorem AR (x:cW) (ok:zt x.query) (a1 p1 p2 p3 a2 a3:Option Addr) (c1 d1 d2 d3 c2 c3:Nat) {PB:Nat} {v:Value} {bs:List UInt8} {w:World} (hG:GP w PB) (hP:ax w PB v bs) (k2:aI b7 21 (fun b=>b<PB) w p1 x.query.parts) (k3:aI fJ 1 (fun b=>b<PB) w p2 x.query.ops) (k4:aI bO 7 (fun b=>b<PB) w p3 x.query.order) (hb:(an bs ([⟨#[115,104,111,119]⟩] ++ fm x.query ++ [⟨#[59]⟩])).length≤fW):Calls Tryz.prog 32 #[.pointer (some ⟨PB,0,none⟩),.agg (du (5) x a1 c1 p1 d1 p2 d2 p3 d3 a2 c2 a3 c3)] w (aC w PB v (an bs ([⟨#[115,104,111,119]⟩] ++ fm x.query ++ [⟨#[59]⟩]))):=by
 have hmf:∀ (fn:Fn) (first cap:Array Value) (w:World),(Instr.makeFunc fn first cap).run Tryz.prog w = .ok (.func fn first cap) w:=fun _ _ _ _=>rfl
 have HO:Hid (zt x.query):=ok;clear ok;have Hb:Hid _:=hb;clear hb;have hal:=ab w (.cells (du (5) x a1 c1 p1 d1 p2 d2 p3 d3 a2 c2 a3 c3) 57);have B0:Hid (Bx (w.alloc (.cells (du (5) x a1 c1 p1 d1 p2 d2 p3 d3 a2 c2 a3 c3) 57)) PB v w.heap.size (du (5) x a1 c1 p1 d1 p2 d2 p3 d3 a2 c2 a3 c3) 57):=Bx.new hP (du (5) x a1 c1 p1 d1 p2 d2 p3 d3 a2 c2 a3 c3) 57;have P0:Hid (ax (w.alloc (.cells (du (5) x a1 c1 p1 d1 p2 d2 p3 d3 a2 c2 a3 c3) 57)) PB v bs):=hP.next hal
 have S0:Hid (St PB v w v (w.alloc (.cells (du (5) x a1 c1 p1 d1 p2 d2 p3 d3 a2 c2 a3 c3) 57))):=St.of hal hP.lt;have G0:Hid (GP (w.alloc (.cells (du (5) x a1 c1 p1 d1 p2 d2 p3 d3 a2 c2 a3 c3) 57)) PB):=hG.nx hal hP.lt;have L00:Hid (aI b7 21 (fun b=>b<PB) (w.alloc (.cells (du (5) x a1 c1 p1 d1 p2 d2 p3 d3 a2 c2 a3 c3) 57)) p1 x.query.parts):=(k2).nx cf hal;have L01:Hid (aI fJ 1 (fun b=>b<PB) (w.alloc (.cells (du (5) x a1 c1 p1 d1 p2 d2 p3 d3 a2 c2 a3 c3) 57)) p2 x.query.ops):=(k3).nx fV hal
 have L02:Hid (aI bO 7 (fun b=>b<PB) (w.alloc (.cells (du (5) x a1 c1 p1 d1 p2 d2 p3 d3 a2 c2 a3 c3) 57)) p3 x.query.order):=(k4).nx bX hal;clear hP hG hal k2 k3 k4;go_enter Tryz.func32,Tryz.ntmps32;go_upto_region 1 with fail
 generalize (w.alloc (.cells (du (5) x a1 c1 p1 d1 p2 d2 p3 d3 a2 c2 a3 c3) 57))=w0 at *;have f1:w0.cell? ⟨w.heap.size,0,none⟩=some (.int .i64 5):=B0.out.c 0 rfl;have con2:Calls Tryz.prog 57 #[.pointer (some ⟨PB,0,none⟩),.slice (some ⟨w0.heap.size,0,none⟩) 1 1] (w0.alloc (.cells #[.string ⟨#[115,104,111,119]⟩] 9)) (aC w0 PB v (an bs ([⟨#[115,104,111,119]⟩]))):=aW [⟨#[115,104,111,119]⟩] P0.out (cH (cH (Hb.out))) (by simp);go_wp2_with fail
 refine con2.mono ?_;rintro e w3 ⟨rfl,v4,P_,S_⟩;have P5:Hid (ax w3 PB v4 (an bs ([⟨#[115,104,111,119]⟩]))):=P_;have S6:Hid (St PB v w v4 w3):=S0.out.trans S_;have G7:Hid (GP w3 PB):=G0.out.st S_;have B8:Hid (Bx w3 PB v4 (w.heap.size) (du (5) x a1 c1 p1 d1 p2 d2 p3 d3 a2 c2 a3 c3) 57):=B0.out.st S_;have L9:Hid (aI b7 21 (fun b=>b<PB) w3 p1 x.query.parts):=(L00.out).bJ cf S_;have L10:Hid (aI fJ 1 (fun b=>b<PB) w3 p2 x.query.ops):=(L01.out).bJ fV S_;have L11:Hid (aI bO 7 (fun b=>b<PB) w3 p3 x.query.order):=(L02.out).bJ bX S_;clear con2 P_ S_ f1 P0 S0 G0 B0 L00 L01 L02
 have f12:w3.cell? ⟨w.heap.size,3,none⟩=some (.slice p1 x.query.parts.length d1):=B8.out.c 3 rfl;have f13:w3.cell? ⟨w.heap.size,4,none⟩=some (.slice p2 x.query.ops.length d2):=B8.out.c 4 rfl;have f14:w3.cell? ⟨w.heap.size,5,none⟩=some (.slice p3 x.query.order.length d3):=B8.out.c 5 rfl;have f15:w3.cell? ⟨w.heap.size,6,none⟩=some (.int .i64 x.query.aE):=B8.out.c 6 rfl
 have con16:Calls Tryz.prog 60 #[.pointer (some ⟨PB,0,none⟩),.agg #[.slice p1 x.query.parts.length d1,.slice p2 x.query.ops.length d2,.slice p3 x.query.order.length d3,.int .i64 x.query.aE]] w3 (aC w3 PB v4 (an (an bs ([⟨#[115,104,111,119]⟩])) (fm x.query))):=nM x.query HO.out p1 p2 p3 d1 d2 d3 (G7.out) (P5.out) L9.out L10.out L11.out (by rw [← ak]; exact cH (Hb.out));go_wp2_with fail
 refine con16.mono ?_;rintro e w17 ⟨rfl,v18,P_,S_⟩;have P19:Hid (ax w17 PB v18 (an bs ([⟨#[115,104,111,119]⟩] ++ fm x.query))):=by show ax _ _ _ _; rw [ak]; exact P_
 have S20:Hid (St PB v w v18 w17):=S6.out.trans S_;have G21:Hid (GP w17 PB):=G7.out.st S_;have B22:Hid (Bx w17 PB v18 (w.heap.size) (du (5) x a1 c1 p1 d1 p2 d2 p3 d3 a2 c2 a3 c3) 57):=B8.out.st S_;have L23:Hid (aI b7 21 (fun b=>b<PB) w17 p1 x.query.parts):=(L9.out).bJ cf S_;have L24:Hid (aI fJ 1 (fun b=>b<PB) w17 p2 x.query.ops):=(L10.out).bJ fV S_;have L25:Hid (aI bO 7 (fun b=>b<PB) w17 p3 x.query.order):=(L11.out).bJ bX S_;clear con16 P_ S_ f12 f13 f14 f15 P5 S6 G7 B8 L9 L10 L11
 have con26:Calls Tryz.prog 57 #[.pointer (some ⟨PB,0,none⟩),.slice (some ⟨w17.heap.size,0,none⟩) 1 1] (w17.alloc (.cells #[.string ⟨#[59]⟩] 9)) (aC w17 PB v18 (an (an bs ([⟨#[115,104,111,119]⟩] ++ fm x.query)) ([⟨#[59]⟩]))):=aW [⟨#[59]⟩] P19.out (by rw [← ak]; exact Hb.out) (by simp);go_wp2_with fail
 refine con26.mono ?_;rintro e w27 ⟨rfl,v28,P_,S_⟩;have P29:Hid (ax w27 PB v28 (an bs ([⟨#[115,104,111,119]⟩] ++ fm x.query ++ [⟨#[59]⟩]))):=by show ax _ _ _ _; rw [ak]; exact P_
 have S30:Hid (St PB v w v28 w27):=S20.out.trans S_;have G31:Hid (GP w27 PB):=G21.out.st S_;have B32:Hid (Bx w27 PB v28 (w.heap.size) (du (5) x a1 c1 p1 d1 p2 d2 p3 d3 a2 c2 a3 c3) 57):=B22.out.st S_;have L33:Hid (aI b7 21 (fun b=>b<PB) w27 p1 x.query.parts):=(L23.out).bJ cf S_;have L34:Hid (aI fJ 1 (fun b=>b<PB) w27 p2 x.query.ops):=(L24.out).bJ fV S_;have L35:Hid (aI bO 7 (fun b=>b<PB) w27 p3 x.query.order):=(L25.out).bJ bX S_;clear con26 P_ S_  P19 S20 G21 B22 L23 L24 L25;go_wp2_with fail
 go_end0
 exact ⟨rfl,v28,P29.out,S30.out⟩
theorem nC (x:cW) (ok:BJ x) (a1 p1 p2 p3 a2 a3:Option Addr) (c1 d1 d2 d3 c2 c3:Nat) {PB:Nat} {v:Value} {bs:List UInt8} {w:World} (hG:GP w PB) (hP:ax w PB v bs) (k1:aI iq 2 (fun b=>b<PB) w a1 x.bx) (k2:aI b7 21 (fun b=>b<PB) w p1 x.query.parts) (k3:aI fJ 1 (fun b=>b<PB) w p2 x.query.ops) (k4:aI bO 7 (fun b=>b<PB) w p3 x.query.order) (k5:aI (bo eU 3) 1 (fun b=>b<PB) w a2 x.rows) (k6:aD (fun b=>b<PB) w a3 x.ah.ks) (hb:(an bs (ct x)).length≤fW):Calls Tryz.prog 32 #[.pointer (some ⟨PB,0,none⟩),.agg (du x.kind x a1 c1 p1 d1 p2 d2 p3 d3 a2 c2 a3 c3)] w (aC w PB v (an bs (ct x))):=by
 have hk:=ok.kind;have hc:x.kind=1∨x.kind=2∨x.kind=3∨x.kind=4∨x.kind=5:=by omega
 rcases hc with e | e | e | e | e
 ·have es:ct x = [⟨#[99,114,101,97,116,101]⟩,⟨#[116,97,98,108,101]⟩,x.name,⟨#[40]⟩] ++ cr cB x.bx ++ [⟨#[41]⟩] ++ [⟨#[59]⟩]:=by unfold ct; rw [if_pos e]
  rw [es] at hb ⊢;rw [e];exact BK x (ok.bx e) a1 p1 p2 p3 a2 a3 c1 d1 d2 d3 c2 c3 hG hP k1 hb
 ·have es:ct x = [⟨#[99,114,101,97,116,101]⟩,⟨#[118,105,101,119]⟩,x.name,⟨#[97,115]⟩] ++ fm x.query ++ [⟨#[59]⟩]:=by unfold ct; rw [if_neg (by omega),if_pos e]
  rw [es] at hb ⊢;rw [e];exact BE x (ok.query (.inl e)) a1 p1 p2 p3 a2 a3 c1 d1 d2 d3 c2 c3 hG hP k2 k3 k4 hb
 ·have es:ct x = [⟨#[105,110,115,101,114,116]⟩,⟨#[105,110,116,111]⟩,x.name,⟨#[118,97,108,117,101,115]⟩] ++ cr dZ x.rows ++ [⟨#[59]⟩]:=by unfold ct; rw [if_neg (by omega),if_neg (by omega),if_pos e]
  rw [es] at hb ⊢;rw [e];exact A1 x (ok.rows e) a1 p1 p2 p3 a2 a3 c1 d1 d2 d3 c2 c3 hG hP k5 hb
 ·have es:ct x = [⟨#[100,101,108,101,116,101]⟩,⟨#[102,114,111,109]⟩,x.name] ++ dV ⟨#[119,104,101,114,101]⟩ x.aB x.ah ++ [⟨#[59]⟩]:=by unfold ct; rw [if_neg (by omega),if_neg (by omega),if_neg (by omega),if_pos e]
  rw [es] at hb ⊢;rw [e];exact BL x (ok.ah e) a1 p1 p2 p3 a2 a3 c1 d1 d2 d3 c2 c3 hG hP k6 hb
 ·have es:ct x = [⟨#[115,104,111,119]⟩] ++ fm x.query ++ [⟨#[59]⟩]:=by unfold ct; rw [if_neg (by omega),if_neg (by omega),if_neg (by omega),if_neg (by omega),if_pos e]
  rw [es] at hb ⊢;rw [e];exact AR x (ok.query (.inr e)) a1 p1 p2 p3 a2 a3 c1 d1 d2 d3 c2 c3 hG hP k2 k3 k4 hb
theorem eQ {a b:Int} (h:dy a b=0):a=0∧b=0:=by
 unfold dy at h;by_cases e:a=0
 ·rw [if_pos e] at h; exact ⟨e,h⟩
 ·rw [if_neg e] at h; exact absurd h e
theorem mm {v:Vl} (h:fu v=0):jF v:=by
 unfold fu at h;by_cases h1:v.1=1
 ·exact ⟨by omega,by omega,fun _=>by omega,fun _=>by omega⟩
 rw [if_neg h1] at h;by_cases h2:v.1=2
 ·exact ⟨by omega,by omega,fun _=>by omega,fun _=>by omega⟩
 rw [if_neg h2] at h;by_cases h3:v.1=3
 ·rw [if_pos h3] at h;by_cases hi:oQ v.2.1=true
  ·have hi':=hi;simp only [oQ,Dx,decide_eq_true_eq] at hi';exact ⟨by omega,by omega,fun _=>hi',fun _=>by omega⟩
  ·rw [if_neg hi] at h; exact absurd h (by decide)
 rw [if_neg h3] at h;by_cases h4:v.1=4
 ·rw [if_pos h4] at h;by_cases hs:v.2.2.size > 60
  ·rw [if_pos hs] at h; exact absurd h (by decide)
  ·exact ⟨by omega,by omega,fun _=>by omega,fun _=>by omega⟩
 ·rw [if_neg h4] at h; exact absurd h (by decide)
mutual
def nX:SX→Nat
 | .mk _ _ _ _ ks=>1+oJ ks
def oJ:List SX→Nat
 | []=>0
 | x :: r=>nX x+oJ r
end
inductive nc:SX→Prop
 | mk {k:Int} {v:Vl} {t n:ByteArray} {ks:List SX}:1≤k→k≤23→ks.length=fv k→ga (.mk k v t n ks)=0→(∀ y ∈ ks,nc y)→nc (.mk k v t n ks)
theorem nc.ok {x:SX} (h:nc x):lN x:=by
 induction h with
 | @mk k v t n ks h1 h2 h3 h4 _ ih =>
  refine .mk h1 h2 h3 (fun e=>mm ?_) ih;unfold ga at h4;rw [if_pos (show (SX.mk k v t n ks).k=1 from e)] at h4;exact h4
theorem sO {g:SX→Int→Int × Int} {P:SX→Prop} (hg:∀ y n,(g y n).1=0→P y∧(g y n).2=n+nX y∧(g y n).2≤200):∀ (ks:List SX) (n:Int),n≤200→(gr g ks n).1=0→(∀ y ∈ ks,P y)∧(gr g ks n).2=n+oJ ks∧(gr g ks n).2≤200
 | [],n,hn,_=>⟨by simp,by rw [oJ]; simp [gr],hn⟩
 | y :: r,n,hn,h=>by
  rw [gr] at h ⊢
  by_cases e:(g y n).1=0
  ·rw [if_pos e] at h ⊢
   obtain ⟨p1,p2,p3⟩:=hg y n e
   obtain ⟨q1,q2,q3⟩:=sO hg r _ p3 h
   refine ⟨?_,by rw [q2,p2,oJ]; push_cast; omega,q3⟩
   intro z hz
   rcases List.mem_cons.1 hz with rfl | hz
   ·exact p1
   ·exact q1 z hz
  ·rw [if_neg e] at h; exact absurd h e
theorem sM:∀ (f:Nat) (x:SX) (d n:Int),(eX f x d n).1=0→nc x∧(eX f x d n).2=n+nX x∧(eX f x d n).2≤200
 | 0,x,d,n,h=>by rw [eX] at h; exact absurd h (by simp)
 | f+1,.mk k v t nm ks,d,n,h=>by
  rw [eX] at h ⊢
  by_cases h1:n+1≤200∧d≤20
  ·rw [if_neg (by simpa using h1)] at h ⊢
   by_cases h2:1≤(SX.mk k v t nm ks).k∧(SX.mk k v t nm ks).k≤23
   ·rw [if_neg (by simpa using h2)] at h ⊢
    by_cases h3:(SX.mk k v t nm ks).ks.length=fv (SX.mk k v t nm ks).k
    ·rw [if_neg (by simpa using h3)] at h ⊢
     by_cases h4:ga (SX.mk k v t nm ks)=0
     ·rw [if_neg (by simpa using h4)] at h ⊢
      obtain ⟨q1,q2,q3⟩:=sO (fun y m=>sM f y (d+1) m) _ _ h1.1 h
      exact ⟨.mk h2.1 h2.2 h3 h4 q1,by rw [q2,nX]; show _=n+((1+oJ ks:Nat):Int); push_cast; show n+1+(oJ ks:Int)=_; omega,q3⟩
     ·rw [if_pos h4] at h; exact absurd h h4
    ·rw [if_pos h3] at h; exact absurd h (by simp)
   ·rw [if_pos h2] at h; exact absurd h (by simp)
  ·rw [if_pos h1] at h; exact absurd h (by simp)
theorem jy {x:SX} (h:eh x=0):nc x∧nX x≤200:=by
 obtain ⟨h1,h2,h3⟩:=sM 21 x 1 0 h;exact ⟨h1,by omega⟩
theorem ma:∀ {l:List SX},eA l=0→∀ x ∈ l,nc x∧nX x≤200
 | [],_=>by simp
 | y :: r,h=>by
  rw [eA] at h
  obtain ⟨h1,h2⟩:=eQ h
  intro x hx
  rcases List.mem_cons.1 hx with rfl | hx
  ·exact jy h1
  ·exact ma h2 x hx
theorem jE {b:Bool} {x:SX} (h:dx b x=0) (e:b=true):nc x∧nX x≤200:=by subst e; exact jy h
theorem pw:∀ {l:List kQ},fE l=0→∀ x ∈ l,(nc x.1∧nX x.1≤200)∧cM x.2=0
 | [],_=>by simp
 | y :: r,h=>by
  rw [fE] at h
  obtain ⟨h1,h2⟩:=eQ h
  obtain ⟨h2,h3⟩:=eQ h2
  intro x hx
  rcases List.mem_cons.1 hx with rfl | hx
  ·exact ⟨jy h1,h2⟩
  ·exact pw h3 x hx
structure pR (first:Bool) (x:Src):Prop where
 name:dB x.name=0
 alias:cM x.alias=0
 on:first=false→nc x.on∧nX x.on≤200
theorem tD {first:Bool} {x:Src} (h:dY first x=0):pR first x:=by
 unfold dY at h;obtain ⟨_,h⟩:=eQ h;obtain ⟨h1,h⟩:=eQ h;obtain ⟨h2,h⟩:=eQ h;obtain ⟨h3,_⟩:=eQ h;exact ⟨h1,h2,fun e=>jE h3 (by subst e; rfl)⟩
theorem lZ:∀ {l:List Src} {first:Bool},cL first l=0→∀ (i:Nat) (h:i<l.length),pR (first && i == 0) l[i]
 | [],_,_=>by simp
 | y :: r,first,h=>by
  rw [cL] at h
  obtain ⟨h1,h2⟩:=eQ h
  intro i hi
  match i,hi with
  | 0,_=>simpa using tD h1
  | i+1,hi =>
   have:=lZ h2 i (by simpa using hi)
   simpa using this
structure mA (x:fD):Prop where
 items:x.star=false→x.items.length≤8∧∀ y ∈ x.items,(nc y.1∧nX y.1≤200)∧cM y.2=0
 sources:x.sources.length≤4∧∀ (i:Nat) (h:i<x.sources.length),pR (i == 0) x.sources[i]
 ah:x.aB=true→nc x.ah∧nX x.ah≤200
 aj:x.aG=true→nc x.aj∧nX x.aj≤200
 group:x.group.length≤8∧∀ y ∈ x.group,nc y∧nX y≤200
theorem zx {x:fD} (h:kE x=0):mA x:=by
 unfold kE at h;obtain ⟨h1,h⟩:=eQ h;obtain ⟨h2,h⟩:=eQ h;obtain ⟨h3,h⟩:=eQ h;obtain ⟨h4,h⟩:=eQ h;unfold pG at h;obtain ⟨h5,h⟩:=eQ h;obtain ⟨h6,h⟩:=eQ h;obtain ⟨h7,_⟩:=eQ h;refine ⟨fun e=>?_,⟨by have:=cI h1; omega,fun i hi=>by have:=lZ h4 i hi; simpa using this⟩,jE h5,jE h7,by have:=cI h2; omega,ma h6⟩;unfold kI at h3;rw [e] at h3;rw [if_neg (by decide)] at h3;unfold jw at h3;obtain ⟨g1,g2⟩:=eQ h3;obtain ⟨g2,_⟩:=eQ g2;exact ⟨by have:=cI g1; omega,pw g2⟩
theorem mA.ok {x:fD} (h:mA x):p9 x :=
 ⟨fun e=>⟨by have:=(h.items e).1; omega,fun y hy=>((h.items e).2 y hy).1.1.ok⟩,⟨by have:=h.sources.1; omega,fun i hi h0=>(((h.sources.2 i hi).on (by rw [beq_eq_false_iff_ne]; omega)).1).ok⟩,fun e=>(h.ah e).1.ok,fun e=>(h.aj e).1.ok,by have:=h.group.1; omega,fun y hy=>(h.group.2 y hy).1.ok⟩
theorem pI {ops:List Int}:∀ {l:List fD} {j:Nat},fe ops j l=0→(∀ x ∈ l,mA x)∧∀ i,i<l.length→j+i≠0→1≤ops.getD (j+i - 1) 0∧ops.getD (j+i - 1) 0≤4
 | [],_,_=>by simp
 | y :: r,j,h=>by
  rw [fe] at h
  obtain ⟨h1,h⟩:=eQ h
  obtain ⟨h2,h3⟩:=eQ h
  obtain ⟨q1,q2⟩:=pI h3
  refine ⟨?_,?_⟩
  ·intro x hx
   rcases List.mem_cons.1 hx with rfl | hx
   ·exact zx h2
   ·exact q1 x hx
  ·intro i hi h0
   match i,hi with
   | 0,_ =>
    rw [if_neg (by omega)] at h1
    unfold Bb at h1
    simp only [DJ]
    by_cases hc:(decide (1≤ops.getD (j - 1) 0) && decide (ops.getD (j - 1) 0≤4))=true
    ·simpa using hc
    ·rw [if_neg hc] at h1; exact absurd h1 (by decide)
   | i+1,hi =>
    have:=q2 i (by simpa using hi) (by omega)
    rw [show j+(i+1) - 1=j+1+i - 1 by omega]
    exact this
structure AQ (q:j3):Prop where
 parts:q.parts.length≤4∧∀ y ∈ q.parts,mA y
 ops:q.parts.length=q.ops.length+1∧∀ i,i<q.ops.length→1≤q.ops.getD i 0∧q.ops.getD i 0≤4
 order:0≤q.aE→q.order.length≤8∧∀ y ∈ q.order,nc y∧nX y≤200
 aE:q.aE≤50
theorem Au {q:j3} (h:lG q=0):AQ q:=by
 unfold lG at h;obtain ⟨h1,h⟩:=eQ h;obtain ⟨h2,h⟩:=eQ h;obtain ⟨h3,h⟩:=eQ h;obtain ⟨h4,h⟩:=eQ h;obtain ⟨h5,h⟩:=eQ h;obtain ⟨h6,_⟩:=eQ h;have g1:=cI h1;have g2:=cI h2;obtain ⟨p1,p2⟩:=pI h5;refine ⟨⟨by omega,p1⟩,⟨by omega,fun i hi=>?_⟩,fun hl=>⟨?_,?_⟩,?_⟩
 ·have:=p2 (i+1) (by omega) (by omega)
  simpa using this
 ·unfold uv at h3;rw [if_pos hl] at h3;have:=cI h3;omega
 ·unfold nj at h6;rw [if_pos hl] at h6;exact ma h6
 ·unfold rR at h4;by_cases e:q.aE≤50
  ·exact e
  ·rw [if_neg e] at h4; exact absurd h4 (by decide)
theorem AQ.ok {q:j3} (h:AQ q):zt q :=
 ⟨⟨by have:=h.parts.1; omega,fun y hy=>(h.parts.2 y hy).ok⟩,⟨by have:=h.ops.1; omega,fun y hy=>by
  obtain ⟨i,hi,rfl⟩:=List.mem_iff_getElem.1 hy
  have:=h.ops.2 i hi
  simpa [List.getD,hi] using this⟩,fun hl=>⟨by have:=(h.order hl).1; omega,fun y hy=>((h.order hl).2 y hy).1.ok⟩,by have:=h.aE; omega⟩
theorem oM:∀ {l:List Vl},ia l=0→∀ x ∈ l,fu x=0
 | [],_=>by simp
 | y :: r,h=>by
  rw [ia] at h
  obtain ⟨h1,h2⟩:=eQ h
  intro x hx
  rcases List.mem_cons.1 hx with rfl | hx
  ·exact h1
  ·exact oM h2 x hx
theorem sq:∀ {l:List (List Vl)},gv l=0→∀ x ∈ l,x.length≤8∧∀ y ∈ x,fu y=0
 | [],_=>by simp
 | y :: r,h=>by
  rw [gv] at h
  obtain ⟨h1,h⟩:=eQ h
  obtain ⟨h2,h3⟩:=eQ h
  intro x hx
  rcases List.mem_cons.1 hx with rfl | hx
  ·exact ⟨by have:=cI h1; omega,oM h2⟩
  ·exact sq h3 x hx
theorem sz:∀ {l:List qs},ju l=0→∀ x ∈ l,dB x.1=0
 | [],_=>by simp
 | y :: r,h=>by
  rw [ju] at h
  obtain ⟨h1,h⟩:=eQ h
  obtain ⟨_,h3⟩:=eQ h
  intro x hx
  rcases List.mem_cons.1 hx with rfl | hx
  ·exact h1
  ·exact sz h3 x hx
structure pb (x:cW):Prop where
 kind:1≤x.kind∧x.kind≤5
 name:x.kind≠5→dB x.name=0
 bx:x.kind=1→x.bx.length≤8∧∀ y ∈ x.bx,dB y.1=0
 query:x.kind=2∨x.kind=5→AQ x.query
 rows:x.kind=3→x.rows.length≤400∧∀ l ∈ x.rows,l.length≤8∧∀ y ∈ l,fu y=0
 ah:x.kind=4→x.aB=true→nc x.ah∧nX x.ah≤200
theorem zP {x:cW} (h:hH x=0):pb x:=by
 unfold hH at h;obtain ⟨h1,h⟩:=eQ h;obtain ⟨h2,h⟩:=eQ h;obtain ⟨h3,_⟩:=eQ h;have hk:1≤x.kind∧x.kind≤5:=by
  unfold xP at h1;by_cases hc:(decide (1≤x.kind) && decide (x.kind≤5))=true
  ·simpa using hc
  ·rw [if_neg hc] at h1; exact absurd h1 (by decide)
 unfold iJ at h3;refine ⟨hk,fun e=>?_,fun e=>?_,fun e=>?_,fun e=>?_,fun e=>?_⟩
 ·unfold jG at h2; rw [if_neg e] at h2; exact h2
 ·rw [if_pos e] at h3;unfold mo at h3;obtain ⟨g1,g2⟩:=eQ h3;exact ⟨by have:=cI g1; omega,sz (eQ g2).1⟩
 ·rw [if_neg (by omega),if_neg (by omega),if_neg (by omega)] at h3;exact Au h3
 ·rw [if_neg (by omega),if_pos e] at h3;unfold lE at h3;obtain ⟨g1,g2⟩:=eQ h3;exact ⟨by have:=cI g1; omega,sq (eQ g2).1⟩
 ·rw [if_neg (by omega),if_neg (by omega),if_pos e] at h3;exact jE h3
theorem pb.ok {x:cW} (h:pb x):BJ x :=
 ⟨h.kind,fun e=>by have:=(h.bx e).1; omega,fun e=>(h.query e).ok,fun e=>⟨by have:=(h.rows e).1; omega,fun l hl=>⟨by have:=((h.rows e).2 l hl).1; omega,fun y hy=>mm (((h.rows e).2 l hl).2 y hy)⟩⟩,fun e b=>(h.ah e b).1.ok⟩
set_option maxHeartbeats 4000000
mutual
def dX:SX→Nat
 | .mk _ _ _ _ ks=>1+qP ks
def qP:List SX→Nat
 | []=>0
 | x :: r=>max (dX x) (qP r)
end
theorem vG {g:SX→Int→Int × Int} {d:Int} (hg:∀ y n,(g y n).1=0→d+dX y≤21) (hd:d≤21):∀ (ks:List SX) (n:Int),(gr g ks n).1=0→d+qP ks≤21
 | [],n,h=>by rw [qP]; omega
 | y :: r,n,h=>by
  rw [gr] at h
  by_cases e:(g y n).1=0
  ·rw [if_pos e] at h
   have h1:=hg y n e
   have h2:=vG hg hd r _ h
   rw [qP]; omega
  ·rw [if_neg e] at h; exact absurd h e
theorem vg:∀ (f:Nat) (x:SX) (d n:Int),(eX f x d n).1=0→d+dX x≤21
 | 0,x,d,n,h=>by rw [eX] at h; exact absurd h (by simp)
 | f+1,.mk k v t nm ks,d,n,h=>by
  rw [eX] at h
  by_cases h1:n+1≤200∧d≤20
  ·rw [if_neg (by simpa using h1)] at h
   by_cases h2:1≤(SX.mk k v t nm ks).k∧(SX.mk k v t nm ks).k≤23
   ·rw [if_neg (by simpa using h2)] at h
    by_cases h3:(SX.mk k v t nm ks).ks.length=fv (SX.mk k v t nm ks).k
    ·rw [if_neg (by simpa using h3)] at h
     by_cases h4:ga (SX.mk k v t nm ks)=0
     ·rw [if_neg (by simpa using h4)] at h
      have:=vG (d:=d+1) (fun y m=>vg f y (d+1) m) (by omega) _ _ h
      rw [dX]
      show d+((1+qP ks:Nat):Int)≤21
      have e:(SX.mk k v t nm ks).ks=ks:=rfl
      rw [e] at this
      push_cast; omega
     ·rw [if_pos h4] at h; exact absurd h h4
    ·rw [if_pos h3] at h; exact absurd h (by simp)
   ·rw [if_pos h2] at h; exact absurd h (by simp)
  ·rw [if_pos h1] at h; exact absurd h (by simp)
structure kP (x:SX):Prop where
 Ab:∀ l,1≤l→l≤8→nt l (100*nX x) (2*dX x) (en l (aZ x.k,aU x)) (bY x)
 fst:∀ l,l≤8→gC (decide (4≤l)) (en l (aZ x.k,aU x))
 gw:∀ l,∀ w ∈ en l (aZ x.k,aU x),GW w
theorem AF (k:Int):1≤aZ k∧aZ k≤8:=by
 by_cases h:4≤k∧k≤15
 ·have:k=4∨k=5∨k=6∨k=7∨k=8∨k=9∨k=10∨k=11∨k=12∨k=13∨k=14∨k=15:=by omega
  rcases this with rfl | rfl | rfl | rfl | rfl | rfl | rfl | rfl | rfl | rfl | rfl | rfl
  all_goals decide
 ·unfold aZ
  split
  ·decide
  ·split
   ·decide
   ·have e:dS k=yx:=by
     have:∀ l:List (Int × ByteArray × Int),(∀ i ∈ l,i.1≠k)→iD k l=yx:=by
      intro l
      induction l with
      | nil=>intro _; rfl
      | cons i r ih=>intro hl; rw [iD,if_neg (hl i (by simp))]; exact ih fun j hj=>hl j (by simp [hj])
     refine this cJ fun i hi=>?_
     have hb:cJ.all (fun i=>decide (4≤i.1) && decide (i.1≤15))=true:=by decide
     have:=List.all_eq_true.1 hb i hi;simp only [Dx,decide_eq_true_eq] at this;omega
    rw [e]; decide
theorem mK {x:SX} {F:Nat} {D:Int} (hl:nt (aZ x.k) F D (aU x) (bY x)) (hf:gC (decide (4≤aZ x.k)) (aU x)) (hg:∀ w ∈ aU x,GW w) (hF:F+30≤100*nX x) (hD:D+1≤2*dX x) (hD0:0≤D):kP x:=by
 have hlev:=AF x.k;refine ⟨fun l h1 h8=>?_,fun l h8=>?_,fun l=>?_⟩
 ·unfold en;by_cases h:l≤aZ x.k
  ·rw [if_pos h];exact hl.mono h (by omega) (by omega)
  ·rw [if_neg h];have hp:=pV (hl.expr hlev.1 hD0);exact (Bn hp (gC.app (gC.lit (by decide) _) _)).mono h8 (by omega) (by omega)
 ·unfold en;by_cases h:l≤aZ x.k
  ·rw [if_pos h];by_cases h4:4≤l
   ·rw [show decide (4≤aZ x.k)=true by rw [decide_eq_true_eq]; omega] at hf;exact hf.mono
   ·rw [show decide (4≤l)=false by rw [decide_eq_false_iff_not]; exact h4];by_cases h5:4≤aZ x.k
    ·rw [show decide (4≤aZ x.k)=true by rw [decide_eq_true_eq]; omega] at hf;exact hf.mono
    ·rw [show decide (4≤aZ x.k)=false by rw [decide_eq_false_iff_not]; exact h5] at hf;exact hf
  ·rw [if_neg h]; exact gC.mono (gC.app (gC.lit (by decide) _) _)
 ·unfold en
  split
  ·exact hg
  ·intro w hw;rcases List.mem_append.1 hw with hw | hw
   ·rcases List.mem_append.1 hw with hw | hw
    ·rw [DD] at hw; subst hw; exact .sign (by decide)
    ·exact hg w hw
   ·rw [DD] at hw; subst hw; exact .sign (by decide)
theorem kP.expr {x:SX} (h:kP x):mh (100*nX x+2) (2*dX x+1) (en 1 (aZ x.k,aU x)) (bY x):=(h.Ab 1 (by decide) (by decide)).expr (Dp _) (by omega)
theorem xV {ks:List SX} (h:ks.length=0):ks = []:=List.length_eq_zero_iff.1 h
theorem ug {ks:List SX} (h:ks.length=1):∃ y,ks = [y]:=by
 match ks,h with
 | [y],_=>exact ⟨y,rfl⟩
theorem pJ {ks:List SX} (h:ks.length=2):∃ y z,ks = [y,z]:=by
 match ks,h with
 | [y,z],_=>exact ⟨y,z,rfl⟩
theorem Ca {ks:List SX} (h:ks.length=3):∃ y z u,ks = [y,z,u]:=by
 match ks,h with
 | [y,z,u],_=>exact ⟨y,z,u,rfl⟩
theorem Am (k:Int) (v:Vl) (t n:ByteArray) (y:SX):nX (.mk k v t n [y])=1+nX y∧dX (.mk k v t n [y])=1+dX y:=by
 rw [nX,oJ,oJ,dX,qP,qP]; constructor <;> omega
theorem Ag (k:Int) (v:Vl) (t n:ByteArray) (y z:SX):nX (.mk k v t n [y,z])=1+nX y+nX z∧dX (.mk k v t n [y,z])=1+max (dX y) (dX z):=by
 rw [nX,oJ,oJ,oJ,dX,qP,qP,qP]; constructor <;> omega
theorem Co (k:Int) (v:Vl) (t n:ByteArray) (y z u:SX):nX (.mk k v t n [y,z,u])=1+nX y+nX z+nX u∧dX (.mk k v t n [y,z,u])=1+max (dX y) (max (dX z) (dX u)):=by
 rw [nX,oJ,oJ,oJ,oJ,dX,qP,qP,qP,qP]; constructor <;> omega
theorem zR (k:Int) (v:Vl) (t n:ByteArray):nX (.mk k v t n [])=1∧dX (.mk k v t n [])=1:=by
 rw [nX,oJ,dX,qP]; constructor <;> omega
theorem tK {k L:Int} (hi:uE k) (hL:(dS k).2.2=L) (h5:L=1∨L=2∨L=5∨L=6∨L=7) {y z:SX} (hy:kP y) (hz:kP z) {D:Int} (hDy:2*(dX y:Int)≤D) (hDz:2*(dX z:Int)≤D) :
  dJ L (100*nX y+100*nX z+2) D (en L (aZ y.k,aU y) ++ [(dS k).2.1] ++ en (L+1) (aZ z.k,aU z)) (nd k [bY y,bY z]):=by
 intro n o ts rest ht hf ho hn;replace ht:=ht.app;obtain ⟨t1,tb,rfl,h1,hb⟩:=ht;replace h1:=h1.app;obtain ⟨ta,t2,rfl,ha,h2⟩:=h1;replace h2:=h2.cons;obtain ⟨p,t3,rfl,h2⟩:=h2;obtain rfl:=h2.nil;have e:ta ++ [br (dS k).2.1 p] ++ tb ++ rest=ta ++ (br (dS k).2.1 p :: (tb ++ rest)):=by simp
 rw [e];obtain ⟨f1,f2,_,_⟩:=hi.yT (l:=L+1) (by omega) p (tb ++ rest);obtain ⟨m,hm,e1⟩:=(hy.Ab L (by omega) (by omega)).zn L h5 (Dp _) n o ta _ ha f1 (by omega) (by omega);obtain ⟨m,rfl⟩:∃ q,m=q+1:=⟨m - 1,by omega⟩
 rw [hL] at f2;refine ⟨m,by omega,?_⟩;rw [e1,gE,f2,if_neg hi.ne];rw [bq _ ((hz.Ab (L+1) (by omega) (by omega)).A9 (L+1) (by omega) (Dp _) m o tb rest hb hf (by omega) (by omega))]
theorem yJ {k:Int} (hi:uE k) (hL:(dS k).2.2=4) {y z:SX} (hy:kP y) (hz:kP z) {D:Int} (hDy:2*(dX y:Int)≤D) (hDz:2*(dX z:Int)≤D) :
  pF (100*nX y+100*nX z+2) D (en 5 (aZ y.k,aU y) ++ [(dS k).2.1] ++ en 5 (aZ z.k,aU z)) (nd k [bY y,bY z]):=by
 intro n o ts rest ht hf ho hn;replace ht:=ht.app;obtain ⟨t1,tb,rfl,h1,hb⟩:=ht;replace h1:=h1.app;obtain ⟨ta,t2,rfl,ha,h2⟩:=h1;replace h2:=h2.cons;obtain ⟨p,t3,rfl,h2⟩:=h2;obtain rfl:=h2.nil;have e:ta ++ [br (dS k).2.1 p] ++ tb ++ rest=ta ++ (br (dS k).2.1 p :: (tb ++ rest)):=by simp
 rw [e];obtain ⟨f1,f2,_,f4⟩:=hi.yT (l:=5) (by omega) p (tb ++ rest);rw [hL] at f2;obtain ⟨m,rfl⟩:∃ q,n=q+1:=⟨n - 1,by omega⟩
 have hny:1≤nX y:=by cases y; rw [nX]; omega
 have hnz:1≤nX z:=by cases z; rw [nX]; omega
 rw [cO,bq _ (((hy.Ab 5 (by decide) (by decide)).zn 5 (by decide) (Dp _)).done m o ta _ ha f1 (by omega) (by omega)),f4,if_neg (by decide),f2,if_neg hi.ne,
  bq _ (((hz.Ab 5 (by decide) (by decide)).zn 5 (by decide) (Dp _)).done m o tb rest hb (hf.mono (by decide)) (by omega) (by omega))]
theorem xl {y:SX} (hy:kP y) {D:Int} (hDy:2*(dX y:Int)≤D):pF (100*nX y+2) D (en 5 (aZ y.k,aU y) ++ [⟨#[105,115]⟩,⟨#[110,117,108,108]⟩]) (nd 16 [bY y]):=by
 intro n o ts rest ht hf ho hn;replace ht:=ht.app;obtain ⟨ta,tb,rfl,ha,hb⟩:=ht;replace hb:=hb.cons;obtain ⟨p,t2,rfl,hb⟩:=hb;replace hb:=hb.cons;obtain ⟨q,t3,rfl,hb⟩:=hb;obtain rfl:=hb.nil;obtain ⟨m,rfl⟩:∃ q,n=q+1:=⟨n - 1,by omega⟩
 rw [Dc];show cO (m+1) o (ta ++ (br ⟨#[105,115]⟩ p :: br ⟨#[110,117,108,108]⟩ q :: rest))=_;have e1:bu ⟨#[110,111,116]⟩ (br ⟨#[110,117,108,108]⟩ q :: rest)=false:=by rw [aO]; decide
 rw [cO,bq _ (((hy.Ab 5 (by decide) (by decide)).zn 5 (by decide) (Dp _)).done m o ta _ ha (Ax _ _) (by omega) (by omega)),if_pos (by rw [aO]; decide),bc,hU,e1];simp only [De,if_false];rw [b8 (by decide)];rfl
theorem xU {y:SX} (hy:kP y) {D:Int} (hDy:2*(dX y:Int)+1≤D):jr 3 (100*nX y+3) D ([⟨#[110,111,116]⟩] ++ en 3 (aZ y.k,aU y)) (nd 3 [bY y]):=by
 intro n o ts rest ht hf ho hn;change TW (⟨#[110,111,116]⟩ :: en 3 (aZ y.k,aU y)) ts at ht;replace ht:=ht.cons;obtain ⟨p,ta,rfl,ha⟩:=ht;obtain ⟨m,rfl⟩:∃ q,n=q+2:=⟨n - 2,by omega⟩
 have h:=(hy.Ab 3 (by decide) (by decide)).A9 3 (by decide) (Dp _) (m+1) (o+1) ta rest ha hf (by omega) (by omega);rw [dG,if_pos rfl] at h;rw [dG,if_pos rfl];show dz (m+1) o (br ⟨#[110,111,116]⟩ p :: (ta ++ rest))=_;rw [dz,if_pos (by rw [aO]; decide),if_neg (by omega),bc,bq _ h]
theorem rn {y z u:SX} (hy:kP y) (hz:kP z) (hu:kP u) {D:Int} (h1:2*(dX y:Int)+1≤D) (h2:2*(dX z:Int)+1≤D) (h3:2*(dX u:Int)+1≤D) :
  gj (100*nX y+100*nX z+100*nX u+10) D ([⟨#[99,97,115,101]⟩] ++ dK [(aZ y.k,aU y),(aZ z.k,aU z),(aZ u.k,aU u)] [⟨#[119,104,101,110]⟩,⟨#[116,104,101,110]⟩,⟨#[101,108,115,101]⟩,⟨#[101,110,100]⟩]) (nd 17 [bY y,bY z,bY u]):=by
 intro n o ts rest ht hf ho hn;have e:[(⟨#[99,97,115,101]⟩:ByteArray)] ++ dK [(aZ y.k,aU y),(aZ z.k,aU z),(aZ u.k,aU u)] [⟨#[119,104,101,110]⟩,⟨#[116,104,101,110]⟩,⟨#[101,108,115,101]⟩,⟨#[101,110,100]⟩]=⟨#[99,97,115,101]⟩ :: ⟨#[119,104,101,110]⟩ :: (en 1 (aZ y.k,aU y) ++ (⟨#[116,104,101,110]⟩ :: (en 1 (aZ z.k,aU z) ++ (⟨#[101,108,115,101]⟩ :: (en 1 (aZ u.k,aU u) ++ [⟨#[101,110,100]⟩]))))):=by
  simp [dK,gF]
 rw [e] at ht;clear e;replace ht:=ht.cons;obtain ⟨p1,t1,rfl,ht⟩:=ht;replace ht:=ht.cons;obtain ⟨p2,t2,rfl,ht⟩:=ht;replace ht:=ht.app;obtain ⟨ta,t3,rfl,ha,ht⟩:=ht;replace ht:=ht.cons;obtain ⟨p3,t4,rfl,ht⟩:=ht;replace ht:=ht.app;obtain ⟨tb,t5,rfl,hb,ht⟩:=ht;replace ht:=ht.cons;obtain ⟨p4,t6,rfl,ht⟩:=ht;replace ht:=ht.app;obtain ⟨tc,t7,rfl,hc,ht⟩:=ht;replace ht:=ht.cons;obtain ⟨p5,t8,rfl,ht⟩:=ht;obtain rfl:=ht.nil;obtain ⟨m,rfl⟩:∃ q,n=q+6:=⟨n - 6,by omega⟩
 have e:br ⟨#[99,97,115,101]⟩ p1 :: br ⟨#[119,104,101,110]⟩ p2 :: (ta ++ br ⟨#[116,104,101,110]⟩ p3 :: (tb ++ br ⟨#[101,108,115,101]⟩ p4 :: (tc ++ [br ⟨#[101,110,100]⟩ p5]))) ++ rest=br ⟨#[99,97,115,101]⟩ p1 :: br ⟨#[119,104,101,110]⟩ p2 :: (ta ++ (br ⟨#[116,104,101,110]⟩ p3 :: (tb ++ (br ⟨#[101,108,115,101]⟩ p4 :: (tc ++ (br ⟨#[101,110,100]⟩ p5 :: rest)))))):=by simp
 rw [e,cE,if_neg (by rw [fG]; decide),if_neg (by rw [aO]; decide),if_pos (by rw [aO]; decide),bc,dc,b8 (by decide)];show bf (dA (m+4) o _ [] _) _=_;rw [gU hy.expr (by decide) (by decide) _ _ ha p3 _ (by omega) (by omega),gU hz.expr (by decide) (by decide) _ _ hb p4 _ (by omega) (by omega),gU hu.expr (by decide) (by decide) _ _ hc p5 _ (by omega) (by omega),n7 (by omega)];rfl
theorem re {y z:SX} (hy:kP y) (hz:kP z) {D:Int} (h1:2*(dX y:Int)+1≤D) (h2:2*(dX z:Int)+1≤D) :
  gj (100*nX y+100*nX z+10) D ([⟨#[99,111,97,108,101,115,99,101]⟩] ++ dK [(aZ y.k,aU y),(aZ z.k,aU z)] [⟨#[40]⟩,⟨#[44]⟩,⟨#[41]⟩]) (nd 18 [bY y,bY z]):=by
 intro n o ts rest ht hf ho hn;have e:[(⟨#[99,111,97,108,101,115,99,101]⟩:ByteArray)] ++ dK [(aZ y.k,aU y),(aZ z.k,aU z)] [⟨#[40]⟩,⟨#[44]⟩,⟨#[41]⟩]=⟨#[99,111,97,108,101,115,99,101]⟩ :: ⟨#[40]⟩ :: (en 1 (aZ y.k,aU y) ++ (⟨#[44]⟩ :: (en 1 (aZ z.k,aU z) ++ [⟨#[41]⟩]))):=by
  simp [dK,gF]
 rw [e] at ht;clear e;replace ht:=ht.cons;obtain ⟨p1,t1,rfl,ht⟩:=ht;replace ht:=ht.cons;obtain ⟨p2,t2,rfl,ht⟩:=ht;replace ht:=ht.app;obtain ⟨ta,t3,rfl,ha,ht⟩:=ht;replace ht:=ht.cons;obtain ⟨p3,t4,rfl,ht⟩:=ht;replace ht:=ht.app;obtain ⟨tb,t5,rfl,hb,ht⟩:=ht;replace ht:=ht.cons;obtain ⟨p4,t6,rfl,ht⟩:=ht;obtain rfl:=ht.nil;obtain ⟨m,rfl⟩:∃ q,n=q+6:=⟨n - 6,by omega⟩
 have e:br ⟨#[99,111,97,108,101,115,99,101]⟩ p1 :: br ⟨#[40]⟩ p2 :: (ta ++ br ⟨#[44]⟩ p3 :: (tb ++ [br ⟨#[41]⟩ p4])) ++ rest=br ⟨#[99,111,97,108,101,115,99,101]⟩ p1 :: br ⟨#[40]⟩ p2 :: (ta ++ (br ⟨#[44]⟩ p3 :: (tb ++ (br ⟨#[41]⟩ p4 :: rest)))):=by simp
 rw [e,cE,if_neg (by rw [fG]; decide),if_neg (by rw [aO]; decide),if_neg (by rw [aO]; decide),if_pos (by rw [aO]; decide),bc,dc,b8 (by decide)];show bf (dA (m+4) o _ [] _) _=_;rw [gU hy.expr (by decide) (by decide) _ _ ha p3 _ (by omega) (by omega),gU hz.expr (by decide) (by decide) _ _ hb p4 _ (by omega) (by omega),n7 (by omega)];rfl
theorem rE:gj 10 0 [⟨#[99,111,117,110,116]⟩,⟨#[40]⟩,⟨#[42]⟩,⟨#[41]⟩] (nd 19 []):=by
 intro n o ts rest ht hf ho hn;replace ht:=ht.cons;obtain ⟨p1,t1,rfl,ht⟩:=ht;replace ht:=ht.cons;obtain ⟨p2,t2,rfl,ht⟩:=ht;replace ht:=ht.cons;obtain ⟨p3,t3,rfl,ht⟩:=ht;replace ht:=ht.cons;obtain ⟨p4,t4,rfl,ht⟩:=ht;obtain rfl:=ht.nil;obtain ⟨m,rfl⟩:∃ q,n=q+6:=⟨n - 6,by omega⟩
 show cE (m+6) o (br ⟨#[99,111,117,110,116]⟩ p1 :: br ⟨#[40]⟩ p2 :: br ⟨#[42]⟩ p3 :: br ⟨#[41]⟩ p4 :: rest)=_;have e:bu ⟨#[42]⟩ (br ⟨#[42]⟩ p3 :: br ⟨#[41]⟩ p4 :: rest)=true:=by rw [aO]; decide
 rw [cE,if_neg (by rw [fG]; decide),if_neg (by rw [aO]; decide),if_neg (by rw [aO]; decide),if_neg (by rw [aO]; decide),if_pos (by rw [aO]; decide),bc,iC,b8 (by decide)];show (if (20:Int)=20∧bu ⟨#[42]⟩ (br ⟨#[42]⟩ p3 :: br ⟨#[41]⟩ p4 :: rest)=true then _ else _)=_;rw [if_pos ⟨rfl,e⟩,bc,b8 (by decide)];rfl
theorem Ak {y:SX} (hy:kP y) {D:Int} (h1:2*(dX y:Int)+1≤D) (kind:Int) {n:Nat} {o:Int} {ta:List Tk} (ha:TW (en 1 (aZ y.k,aU y)) ta) (p q:Int) (rest:List Tk) (ho:o+D≤100) (hn:100*nX y+3≤n):iC n kind o (br ⟨#[40]⟩ p :: (ta ++ (br ⟨#[41]⟩ q :: rest))) = .ok (nd kind [bY y],rest):=by
 obtain ⟨m,rfl⟩:∃ q,n=q+1:=⟨n - 1,by omega⟩
 have hs:bu ⟨#[42]⟩ (ta ++ (br ⟨#[41]⟩ q :: rest))=false:=(hy.fst 1 (by decide)).tw ha (.inl rfl) _;rw [iC,b8 (by decide)];show (if kind=20∧bu ⟨#[42]⟩ (ta ++ (br ⟨#[41]⟩ q :: rest))=true then _ else _)=_;rw [if_neg (by rw [hs]; simp),bq _ (hy.expr m o ta _ ha (kh (by decide) _ _ _) (by omega) (by omega)),b8 (by decide)];rfl
theorem uL {k:Int} (hk:k=20∨k=21∨k=22∨k=23) {y:SX} (hy:kP y) {D:Int} (h1:2*(dX y:Int)+1≤D) :
  gj (100*nX y+10) D ([bK k fc] ++ dK [(aZ y.k,aU y)] [⟨#[40]⟩,⟨#[41]⟩]) (nd k [bY y]):=by
 intro n o ts rest ht hf ho hn;have e:[bK k fc] ++ dK [(aZ y.k,aU y)] [⟨#[40]⟩,⟨#[41]⟩]=bK k fc :: ⟨#[40]⟩ :: (en 1 (aZ y.k,aU y) ++ [⟨#[41]⟩]):=by
  simp [dK,gF]
 rw [e] at ht;clear e;replace ht:=ht.cons;obtain ⟨p1,t1,rfl,ht⟩:=ht;replace ht:=ht.cons;obtain ⟨p2,t2,rfl,ht⟩:=ht;replace ht:=ht.app;obtain ⟨ta,t3,rfl,ha,ht⟩:=ht;replace ht:=ht.cons;obtain ⟨p3,t4,rfl,ht⟩:=ht;obtain rfl:=ht.nil;obtain ⟨m,rfl⟩:∃ q,n=q+1:=⟨n - 1,by omega⟩
 have e:br (bK k fc) p1 :: br ⟨#[40]⟩ p2 :: (ta ++ [br ⟨#[41]⟩ p3]) ++ rest=br (bK k fc) p1 :: (br ⟨#[40]⟩ p2 :: (ta ++ (br ⟨#[41]⟩ p3 :: rest))):=by simp
 have ag:=fun kind=>Ak hy h1 kind (n:=m) (o:=o) ha p2 p3 rest ho (by omega)
 rw [e];rcases hk with rfl | rfl | rfl | rfl
 ·show cE (m+1) o (br ⟨#[99,111,117,110,116]⟩ p1 :: _)=_;rw [cE,if_neg (by rw [fG]; decide),if_neg (by rw [aO]; decide),if_neg (by rw [aO]; decide),if_neg (by rw [aO]; decide),if_pos (by rw [aO]; decide),bc,ag]
 ·show cE (m+1) o (br ⟨#[115,117,109]⟩ p1 :: _)=_;rw [cE,if_neg (by rw [fG]; decide),if_neg (by rw [aO]; decide),if_neg (by rw [aO]; decide),if_neg (by rw [aO]; decide),if_neg (by rw [aO]; decide),if_pos (by rw [aO]; decide),bc,ag]
 ·show cE (m+1) o (br ⟨#[109,105,110]⟩ p1 :: _)=_;rw [cE,if_neg (by rw [fG]; decide),if_neg (by rw [aO]; decide),if_neg (by rw [aO]; decide),if_neg (by rw [aO]; decide),if_neg (by rw [aO]; decide),if_neg (by rw [aO]; decide),if_pos (by rw [aO]; decide),bc,ag]
 ·show cE (m+1) o (br ⟨#[109,97,120]⟩ p1 :: _)=_;rw [cE,if_neg (by rw [fG]; decide),if_neg (by rw [aO]; decide),if_neg (by rw [aO]; decide),if_neg (by rw [aO]; decide),if_neg (by rw [aO]; decide),if_neg (by rw [aO]; decide),if_neg (by rw [aO]; decide),if_pos (by rw [aO]; decide),bc,ag]
end Go.Proofs.YtoknmnngaackkaaGreatDoor
