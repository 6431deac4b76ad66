/- Together: DC, DD, DE, DF, DG, DH, RT0, RTb, RTc. -/
import Derived.Shelf.Strconv.Itoa4
import Derived.Shelf.Strings.Replace
import Derived.Deep.LoopGhost
import Derived.Shelf.Lay
import Derived.Ground.NamesProg
import Derived.Lib.SmallJoins
import Derived.Lib.AppendIntMem
import Derived.Lib.SplitLaws
import Derived.Test.YtoknmnngaackkaaGreatDoorJQ8
import Derived.Test.YtoknmnngaackkaaGreatDoorJQ0
namespace Go.Proofs.YtoknmnngaackkaaGreatDoor
open Go.RowKit Go.Lib Go.Shelf
set_option maxRecDepth 100000
set_option maxHeartbeats 16000000
set_option maxRecDepth 100000
set_option maxHeartbeats 8000000
abbrev yx:Int × ByteArray × Int:=(0,⟨#[]⟩,0)
def iD (k:Int):List (Int × ByteArray × Int)→Int × ByteArray × Int
 | []=>yx
 | i :: r=>if i.1=k then i else iD k r
def dS (k:Int):Int × ByteArray × Int:=iD k cJ
theorem vE (k:Int) (j:Nat) (h:j<cJ.length):iD k (cJ.drop j)=if cJ[j].1=k then cJ[j] else iD k (cJ.drop (j+1)):=by
 rw [Da h,iD]
abbrev xj (i:Int × ByteArray × Int):Array Value:=#[.int .i64 i.1,.string i.2.1,.int .i64 i.2.2]
theorem mn (kk:Int) {w:World} (hg:Gl w):Calls Tryz.prog 172 #[.int .i64 kk] w fun e w'=>e = .returned (.agg (xj (dS kk)))∧Below w.heap.size w w':=by
 generalize hM:dS kk=M;have HM:Hid (iD kk (cJ.drop 0)=M):=hM;have hal:=ab w (.cells #[.int .i64 0,.string ⟨#[]⟩,.int .i64 0] 201);have hr:=(hg.next hal).range;have Q0:j4 (w.alloc (.cells #[.int .i64 0,.string ⟨#[]⟩,.int .i64 0] 201)) w.heap.size #[.int .i64 0,.string ⟨#[]⟩,.int .i64 0] 201:=ar w _ _;clear hM hg;go_enter Tryz.func172,Tryz.ntmps172;go_upto_region 1 with fail
 generalize w.alloc (.cells #[.int .i64 0,.string ⟨#[]⟩,.int .i64 0] 201)=w1 at *;refine wp_region_lit ?_;refine wpList_load_mid rfl 232 _ rfl 1 0 rfl rz (.array 12 201) hr (by kernel_rfl) rfl (by kernel_rfl) ?_;simp only [Act.put,pA,pB,pC];go_wp2_with fail
 clear hr;go_loopw [6] (fun i wr=>∃ k:Nat,k≤12∧i = .int .i64 k∧Hid (iD kk (cJ.drop k)=M)∧Below w1.heap.size w1 wr) (fun i _=>12 - (RowKit.intOf i).toNat)
 case atStart=>exact ⟨0,by omega,rfl,HM,CY _ _⟩
 case round =>
  obtain ⟨k,hk,rfl,HK,hx⟩:=hrel;have Q1:=Q0.nx hx;by_cases hlt:k<12
  ·have hkz:(k:Int)<12:=by omega
   have hid:=se k hlt wr;have hkl:k<cJ.length:=by simpa [cJ] using hlt
   have HG:=vE kk k hkl;have HG2:Hid ((if cJ[k].1=kk then cJ[k] else iD kk (cJ.drop (k+1)))=M):=HG.symm.trans HK.out;clear HG HK;generalize cJ[k]=e at *;have hal2:=ab wr (.cells #[.int .i64 e.1,.string e.2.1,.int .i64 e.2.2] 201);have hq:j4 (wr.alloc (.cells #[.int .i64 e.1,.string e.2.1,.int .i64 e.2.2] 201)) wr.heap.size #[.int .i64 e.1,.string e.2.1,.int .i64 e.2.2] 201:=ar wr _ _;have Q2:=Q1.nx hal2;rcases hl:e.1 == kk with _ | _
   ·have HG3:Hid (iD kk (cJ.drop (k+1))=M):=by
     show _=_;rw [← HG2.out,if_neg (fun c=>by rw [c] at hl; simp at hl)]
    clear HG2;go_wp2_with fail
    go_roundw
    case rel=>exact ⟨k+1,by omega,by go_num,HG3,chain hx hal2⟩
    case measure=>simp [RowKit.intOf]; omega
   ·have hle:e.1=kk:=by simpa using hl
    have HG3:Hid (e=M):=by
     show _=_;rw [← HG2.out,if_pos hle]
    clear HG2 hl;subst hle;go_upto_region 4 with fail
    generalize wr.alloc (.cells #[.int .i64 e.1,.string e.2.1,.int .i64 e.2.2] 201)=w2 at *;have x0:w2.cell? ⟨wr.heap.size,0,none⟩=some (.int .i64 e.1):=hq.c 0 rfl;have x1:w2.cell? ⟨wr.heap.size,1,none⟩=some (.string e.2.1):=hq.c 1 rfl;have x2:w2.cell? ⟨wr.heap.size,2,none⟩=some (.int .i64 e.2.2):=hq.c 2 rfl;obtain ⟨z0,z1,z2⟩:=cu Q2;obtain ⟨y0,y1,y2⟩:=gS Q2;go_wp2_with fail
    have QE:=eV Q2 (.int .i64 e.1) (.string e.2.1) (.int .i64 e.2.2);have hbE:=jH (g:=w.heap.size) (chain hal (chain hx hal2)) (CX _) (.int .i64 e.1) (.string e.2.1) (.int .i64 e.2.2);generalize (((w2.setCell ⟨w.heap.size,0,none⟩ (.int .i64 e.1)).setCell ⟨w.heap.size,1,none⟩ (.string e.2.1)).setCell ⟨w.heap.size,2,none⟩ (.int .i64 e.2.2))=wE at *;obtain ⟨u0,u1,u2⟩:=cu QE;exact C0 (v:=.agg #[.int .i64 e.1,.string e.2.1,.int .i64 e.2.2]) (by simp [results,Tryz.results172,go_sem,u0,u1,u2]) rfl ⟨by rw [← HG3.out],hbE⟩
  ·have e12:k=12:=by omega
   subst e12;have HG3:Hid (yx=M):=HK.out;obtain ⟨z0,z1,z2⟩:=cu Q1;obtain ⟨y0,y1,y2⟩:=gS Q1;clear HK;go_wp2_with fail
   have QE:=eV Q1 (.int .i64 0) (.string ⟨#[]⟩) (.int .i64 0);have hbE:=jH (g:=w.heap.size) (chain hal hx) (CX _) (.int .i64 0) (.string ⟨#[]⟩) (.int .i64 0);generalize (((wr.setCell ⟨w.heap.size,0,none⟩ (.int .i64 0)).setCell ⟨w.heap.size,1,none⟩ (.string ⟨#[]⟩)).setCell ⟨w.heap.size,2,none⟩ (.int .i64 0))=wE at *;obtain ⟨u0,u1,u2⟩:=cu QE;exact C0 (v:=.agg #[.int .i64 0,.string ⟨#[]⟩,.int .i64 0]) (by simp [results,Tryz.results172,go_sem,u0,u1,u2]) rfl ⟨by rw [← HG3.out],hbE⟩
def aZ (k:Int):Int:=if k=3 then 3 else if k=16 then 4 else if (dS k).2.2=0 then 8 else (dS k).2.2
theorem lW (k:Int) {w:World} (hg:Gl w):Calls Tryz.prog 145 #[.int .i64 k] w fun e w'=>e = .returned (.int .i64 (aZ k))∧Below w.heap.size w w':=by
 have con:=mn k hg;generalize hM:aZ k=M;rw [aZ] at hM;clear hg;by_cases h3:k=3
 ·rw [if_pos h3] at hM;subst hM;subst h3;clear con;go_enter Tryz.func145,Tryz.ntmps145;go_wp2_with fail
  exact C0 (results_tmp rfl _ _ _) rfl ⟨by first | rfl | trivial,CY _ _⟩
 rw [if_neg h3] at hM;by_cases h16:k=16
 ·rw [if_pos h16] at hM;subst hM;subst h16;clear con;go_enter Tryz.func145,Tryz.ntmps145;go_wp2_with fail
  exact C0 (results_tmp rfl _ _ _) rfl ⟨by first | rfl | trivial,CY _ _⟩
 rw [if_neg h16] at hM;have b3:(k == 3)=false:=by simpa using h3
 have b16:(k == 16)=false:=by simpa using h16
 generalize dS k=i at *;simp only [xj] at con;by_cases h0:i.2.2=0
 ·rw [if_pos h0] at hM;subst hM;have b0:(i.2.2 != 0)=false:=by simpa using h0
  clear h0 h3 h16;go_enter Tryz.func145,Tryz.ntmps145;go_wp2_with fail
  refine con.mono ?_;rintro e w1 ⟨rfl,hb1⟩;have hfd:(Instr.field 201 (.agg #[.int .i64 i.1,.string i.2.1,.int .i64 i.2.2]) 2).run Tryz.prog w1 = .ok (.int .i64 i.2.2) w1:=by kernel_rfl
  go_wp2_with fail
  exact C0 (results_tmp rfl _ _ _) rfl ⟨by first | rfl | trivial,hb1⟩
 ·rw [if_neg h0] at hM;subst hM;have b0:(i.2.2 != 0)=true:=by simpa using h0
  clear h0 h3 h16;go_enter Tryz.func145,Tryz.ntmps145;go_wp2_with fail
  refine con.mono ?_;rintro e w1 ⟨rfl,hb1⟩;have hfd:(Instr.field 201 (.agg #[.int .i64 i.1,.string i.2.1,.int .i64 i.2.2]) 2).run Tryz.prog w1 = .ok (.int .i64 i.2.2) w1:=by kernel_rfl
  go_wp2_with fail
  exact C0 (results_tmp rfl _ _ _) rfl ⟨by first | rfl | trivial,hb1⟩
theorem cH {bs:List UInt8} {a b:List ByteArray} (h:(an bs (a ++ b)).length≤fW):(an bs a).length≤fW:=by rw [ak] at h; exact Dt (fp _ _) h
theorem ml {W W':World} (h:Lib.TabIs Tryz.prog W "internal/strconv.uint64pow10" .u64 Lib.pow10Tab) (hb:W'.heap[2]? = W.heap[2]?):Lib.TabIs Tryz.prog W' "internal/strconv.uint64pow10" .u64 Lib.pow10Tab:=by
 have hg:Tryz.prog.globalNamed "internal/strconv.uint64pow10" = some 2:=by kernel_rfl
 unfold Lib.TabIs World.var? at h ⊢;rw [hg] at h ⊢;simp only [Option.bind_some] at h ⊢;rw [hb];exact h
structure GP (W:World) (PB:Nat):Prop where
 gl:Gl W
 aH:Lib.TabIs Tryz.prog W "internal/strconv.uint64pow10" .u64 Lib.pow10Tab
 mx:∃ m,W.cell? ⟨3,0,none⟩=some (.int .i64 m)
 p:9<PB
theorem GP.nx {W W':World} {PB:Nat} (h:GP W PB) (hb:Below W.heap.size W W') (hp:PB<W.heap.size):GP W' PB:=by
 have:=h.p;exact ⟨h.gl.next hb,ml h.aH (hb.block 2 (by omega)),by obtain ⟨m,hm⟩:=h.mx; exact ⟨m,(Dq (a:=⟨3,0,none⟩) (hb.block 3 (by omega))).trans hm⟩,h.p⟩
theorem GP.st {W W':World} {PB:Nat} {v v':Value} (h:GP W PB) (s:St PB v W v' W'):GP W' PB:=by
 have:=h.p;exact ⟨⟨Dg h.gl.lt s.kD.size,fun j hj=>(Dq (a:=⟨1,j,none⟩) (s.kD.block 1 (by omega))).trans (h.gl.inf j hj),fun j hj=>(Dq (a:=⟨0,j,none⟩) (s.kD.block 0 (by omega))).trans (h.gl.sig j hj)⟩,ml h.aH (s.kD.block 2 (by omega)),by obtain ⟨m,hm⟩:=h.mx; exact ⟨m,(Dq (a:=⟨3,0,none⟩) (s.kD.block 3 (by omega))).trans hm⟩,h.p⟩
def j1 (t n:ByteArray):List ByteArray:=if t.size=0 then [n] else [t,⟨#[46]⟩] ++ [n]
theorem BB {s : ByteArray} (h : s.size = 0) : s.toList.isEmpty = true := by
  rw [Lib.toList_data]
  cases hc : s.data.toList with
  | nil => rfl
  | cons a l => have : s.data.toList.length = 0 := by rw [Dl]; exact h
                rw [hc] at this; simp at this
theorem zk {s:ByteArray} (h:s.size≠0):s.toList.isEmpty=false:=by
 rw [Lib.toList_data];cases hc:s.data.toList with
 | nil=>exact absurd (show s.data.size=0 by rw [← Dl (xs:=s.data),hc]; rfl) h
 | cons _ _=>rfl
theorem mI (x:SX) (a:Option Addr) (c:Nat) {PB:Nat} {v:Value} {bs:List UInt8} {w:World} (hG:GP w PB) (hP:ax w PB v bs) (hb:(an bs (j1 x.aH x.name)).length≤fW):Calls Tryz.prog 173 #[.pointer (some ⟨PB,0,none⟩),.agg (aT x a c)] w (aC w PB v (an bs (j1 x.aH x.name))):=by
 by_cases hs:x.aH.size=0
 ·rw [j1,if_pos hs] at hb ⊢;have he:=BB hs;have Hb:Hid _:=hb;clear hb;have hal:=ab w (.cells (aT x a c) 55);have B0:Hid (Bx (w.alloc (.cells (aT x a c) 55)) PB v w.heap.size (aT x a c) 55):=Bx.new hP (aT x a c) 55;have P0:Hid (ax (w.alloc (.cells (aT x a c) 55)) PB v bs):=hP.next hal;have S0:Hid (St PB v w v (w.alloc (.cells (aT x a c) 55))):=St.of hal hP.lt;have G0:Hid (GP (w.alloc (.cells (aT x a c) 55)) PB):=hG.nx hal hP.lt;clear hP hG hal;go_enter Tryz.func173,Tryz.ntmps173;go_upto_region 1 with fail
  generalize (w.alloc (.cells (aT x a c) 55))=w0 at *;have f1:w0.cell? ⟨w.heap.size,4,none⟩=some (.string x.aH):=B0.out.c 4 rfl;have f2:w0.cell? ⟨w.heap.size,5,none⟩=some (.string x.name):=B0.out.c 5 rfl;have con3:Calls Tryz.prog 57 #[.pointer (some ⟨PB,0,none⟩),.slice (some ⟨w0.heap.size,0,none⟩) 1 1] (w0.alloc (.cells #[.string x.name] 9)) (aC w0 PB v (an bs ([x.name]))):=aW [x.name] P0.out (Hb.out) (by simp);go_wp2_with fail
  refine con3.mono ?_;rintro e w4 ⟨rfl,v5,P_,S_⟩;have P6:Hid (ax w4 PB v5 (an bs ([x.name]))):=P_;have S7:Hid (St PB v w v5 w4):=S0.out.trans S_;have G8:Hid (GP w4 PB):=G0.out.st S_;have B9:Hid (Bx w4 PB v5 (w.heap.size) (aT x a c) 55):=B0.out.st S_;clear con3 P_ S_ f2 f1 P0 S0 G0 B0;go_wp2_with fail
  go_end0
  exact ⟨rfl,v5,P6.out,S7.out⟩
 ·rw [j1,if_neg hs] at hb ⊢;have he:=zk hs;have Hb:Hid _:=hb;clear hb;have hal:=ab w (.cells (aT x a c) 55);have B0:Hid (Bx (w.alloc (.cells (aT x a c) 55)) PB v w.heap.size (aT x a c) 55):=Bx.new hP (aT x a c) 55;have P0:Hid (ax (w.alloc (.cells (aT x a c) 55)) PB v bs):=hP.next hal;have S0:Hid (St PB v w v (w.alloc (.cells (aT x a c) 55))):=St.of hal hP.lt;have G0:Hid (GP (w.alloc (.cells (aT x a c) 55)) PB):=hG.nx hal hP.lt;clear hP hG hal;go_enter Tryz.func173,Tryz.ntmps173;go_upto_region 1 with fail
  generalize (w.alloc (.cells (aT x a c) 55))=w0 at *;have f10:w0.cell? ⟨w.heap.size,4,none⟩=some (.string x.aH):=B0.out.c 4 rfl;have con11:Calls Tryz.prog 57 #[.pointer (some ⟨PB,0,none⟩),.slice (some ⟨w0.heap.size,0,none⟩) 2 2] (w0.alloc (.cells #[.string x.aH,.string ⟨#[46]⟩] 9)) (aC w0 PB v (an bs ([x.aH,⟨#[46]⟩]))):=aW [x.aH,⟨#[46]⟩] P0.out (cH (Hb.out)) (by simp);go_wp2_with fail
  refine con11.mono ?_;rintro e w12 ⟨rfl,v13,P_,S_⟩;have P14:Hid (ax w12 PB v13 (an bs ([x.aH,⟨#[46]⟩]))):=P_;have S15:Hid (St PB v w v13 w12):=S0.out.trans S_;have G16:Hid (GP w12 PB):=G0.out.st S_;have B17:Hid (Bx w12 PB v13 (w.heap.size) (aT x a c) 55):=B0.out.st S_;clear con11 P_ S_ f10 P0 S0 G0 B0;have f18:w12.cell? ⟨w.heap.size,5,none⟩=some (.string x.name):=B17.out.c 5 rfl
  have con19:Calls Tryz.prog 57 #[.pointer (some ⟨PB,0,none⟩),.slice (some ⟨w12.heap.size,0,none⟩) 1 1] (w12.alloc (.cells #[.string x.name] 9)) (aC w12 PB v13 (an (an bs ([x.aH,⟨#[46]⟩])) ([x.name]))):=aW [x.name] P14.out (by rw [← ak]; exact Hb.out) (by simp);go_wp2_with fail
  refine con19.mono ?_;rintro e w20 ⟨rfl,v21,P_,S_⟩;have P22:Hid (ax w20 PB v21 (an bs ([x.aH,⟨#[46]⟩] ++ [x.name]))):=by show ax _ _ _ _; rw [ak]; exact P_
  have S23:Hid (St PB v w v21 w20):=S15.out.trans S_;have G24:Hid (GP w20 PB):=G16.out.st S_;have B25:Hid (Bx w20 PB v21 (w.heap.size) (aT x a c) 55):=B17.out.st S_;clear con19 P_ S_ f18 P14 S15 G16 B17;go_wp2_with fail
  go_end0
  exact ⟨rfl,v21,P22.out,S23.out⟩
def en (l:Int) (p:Int × List ByteArray):List ByteArray:=if l≤p.1 then p.2 else [⟨#[40]⟩] ++ p.2 ++ [⟨#[41]⟩]
def dw (bw:List ByteArray) (x:SX):Prop:=∀ (a:Option Addr) (c PB:Nat) (v:Value) (bs:List UInt8) (w:World),GP w PB→ax w PB v bs→aD (fun b=>b<PB) w a x.ks→(an bs bw).length≤fW→Calls Tryz.prog 146 #[.pointer (some ⟨PB,0,none⟩),.agg (aT x a c)] w (aC w PB v (an bs bw))
theorem gb (l:Int) (x:SX) (bw:List ByteArray) (hB:dw bw x) (a:Option Addr) (c:Nat) {PB:Nat} {v:Value} {bs:List UInt8} {w:World} (hG:GP w PB) (hP:ax w PB v bs) (hk:aD (fun b=>b<PB) w a x.ks) (hb:(an bs (en l (aZ x.k,bw))).length≤fW):Calls Tryz.prog 120 #[.pointer (some ⟨PB,0,none⟩),.int .i64 l,.agg (aT x a c)] w (aC w PB v (an bs (en l (aZ x.k,bw)))):=by
 have HBA:Hid (dw bw x):=hB;clear hB;by_cases hl:l≤aZ x.k
 ·rw [en,if_pos hl] at hb ⊢;have Hb:Hid _:=hb;clear hb;have hal:=ab w (.cells (aT x a c) 55);have B0:Hid (Bx (w.alloc (.cells (aT x a c) 55)) PB v w.heap.size (aT x a c) 55):=Bx.new hP (aT x a c) 55;have P0:Hid (ax (w.alloc (.cells (aT x a c) 55)) PB v bs):=hP.next hal;have S0:Hid (St PB v w v (w.alloc (.cells (aT x a c) 55))):=St.of hal hP.lt;have G0:Hid (GP (w.alloc (.cells (aT x a c) 55)) PB):=hG.nx hal hP.lt;have L00:Hid (aD (fun b=>b<PB) (w.alloc (.cells (aT x a c) 55)) a x.ks):=aD.next hal hk
  clear hP hG hal hk;go_enter Tryz.func120,Tryz.ntmps120;go_upto_region 1 with fail
  generalize (w.alloc (.cells (aT x a c) 55))=w0 at *;have f1:w0.cell? ⟨w.heap.size,0,none⟩=some (.int .i64 x.k):=B0.out.c 0 rfl;have con2:=lW x.k (G0.out).gl;go_wp2_with fail
  refine con2.mono ?_;rintro e w3 ⟨rfl,hb4⟩;have P5:Hid (ax w3 PB v bs):=P0.out.next hb4;have S_:St PB v w0 v w3:=St.of hb4 P0.out.lt;have S6:Hid (St PB v w v w3):=S0.out.trans S_;have G7:Hid (GP w3 PB):=G0.out.st S_;have B8:Hid (Bx w3 PB v (w.heap.size) (aT x a c) 55):=B0.out.st S_;have L9:Hid (aD (fun b=>b<PB) w3 a x.ks):=aD.bJ L00.out S_;clear con2 S_ hb4 f1 P0 S0 G0 B0 L00;have f10:w3.cell? ⟨w.heap.size,0,none⟩=some (.int .i64 x.k):=B8.out.c 0 rfl;have f11:w3.cell? ⟨w.heap.size,1,none⟩=some (.int .i64 x.v.1):=B8.out.c 1 rfl
  have f12:w3.cell? ⟨w.heap.size,2,none⟩=some (.int .i64 x.v.2.1):=B8.out.c 2 rfl;have f13:w3.cell? ⟨w.heap.size,3,none⟩=some (.string x.v.2.2):=B8.out.c 3 rfl;have f14:w3.cell? ⟨w.heap.size,4,none⟩=some (.string x.aH):=B8.out.c 4 rfl;have f15:w3.cell? ⟨w.heap.size,5,none⟩=some (.string x.name):=B8.out.c 5 rfl;have f16:w3.cell? ⟨w.heap.size,6,none⟩=some (.slice a x.ks.length c):=B8.out.c 6 rfl;have con17:Calls Tryz.prog 146 #[.pointer (some ⟨PB,0,none⟩),.agg (aT x a c)] w3 (aC w3 PB v (an bs (bw))):=HBA.out a c PB v bs w3 (G7.out) (P5.out) L9.out (Hb.out);go_wp2_with fail
  refine con17.mono ?_;rintro e w18 ⟨rfl,v19,P_,S_⟩;have P20:Hid (ax w18 PB v19 (an bs (bw))):=P_;have S21:Hid (St PB v w v19 w18):=S6.out.trans S_;have G22:Hid (GP w18 PB):=G7.out.st S_;have B23:Hid (Bx w18 PB v19 (w.heap.size) (aT x a c) 55):=B8.out.st S_;have L24:Hid (aD (fun b=>b<PB) w18 a x.ks):=aD.bJ L9.out S_;clear con17 P_ S_ f10 f11 f12 f13 f14 f15 f16 P5 S6 G7 B8 L9;go_wp2_with fail
  go_end0
  exact ⟨rfl,v19,P20.out,S21.out⟩
 ·rw [en,if_neg hl] at hb ⊢;have Hb:Hid _:=hb;clear hb;have hal:=ab w (.cells (aT x a c) 55);have B0:Hid (Bx (w.alloc (.cells (aT x a c) 55)) PB v w.heap.size (aT x a c) 55):=Bx.new hP (aT x a c) 55;have P0:Hid (ax (w.alloc (.cells (aT x a c) 55)) PB v bs):=hP.next hal;have S0:Hid (St PB v w v (w.alloc (.cells (aT x a c) 55))):=St.of hal hP.lt;have G0:Hid (GP (w.alloc (.cells (aT x a c) 55)) PB):=hG.nx hal hP.lt;have L00:Hid (aD (fun b=>b<PB) (w.alloc (.cells (aT x a c) 55)) a x.ks):=aD.next hal hk
  clear hP hG hal hk;go_enter Tryz.func120,Tryz.ntmps120;go_upto_region 1 with fail
  generalize (w.alloc (.cells (aT x a c) 55))=w0 at *;have f25:w0.cell? ⟨w.heap.size,0,none⟩=some (.int .i64 x.k):=B0.out.c 0 rfl;have con26:=lW x.k (G0.out).gl;go_wp2_with fail
  refine con26.mono ?_;rintro e w27 ⟨rfl,hb28⟩;have P29:Hid (ax w27 PB v bs):=P0.out.next hb28;have S_:St PB v w0 v w27:=St.of hb28 P0.out.lt;have S30:Hid (St PB v w v w27):=S0.out.trans S_;have G31:Hid (GP w27 PB):=G0.out.st S_;have B32:Hid (Bx w27 PB v (w.heap.size) (aT x a c) 55):=B0.out.st S_;have L33:Hid (aD (fun b=>b<PB) w27 a x.ks):=aD.bJ L00.out S_;clear con26 S_ hb28 f25 P0 S0 G0 B0 L00
  have con34:Calls Tryz.prog 57 #[.pointer (some ⟨PB,0,none⟩),.slice (some ⟨w27.heap.size,0,none⟩) 1 1] (w27.alloc (.cells #[.string ⟨#[40]⟩] 9)) (aC w27 PB v (an bs ([⟨#[40]⟩]))):=aW [⟨#[40]⟩] P29.out (cH (cH (Hb.out))) (by simp);go_wp2_with fail
  refine con34.mono ?_;rintro e w35 ⟨rfl,v36,P_,S_⟩;have P37:Hid (ax w35 PB v36 (an bs ([⟨#[40]⟩]))):=P_;have S38:Hid (St PB v w v36 w35):=S30.out.trans S_;have G39:Hid (GP w35 PB):=G31.out.st S_;have B40:Hid (Bx w35 PB v36 (w.heap.size) (aT x a c) 55):=B32.out.st S_;have L41:Hid (aD (fun b=>b<PB) w35 a x.ks):=aD.bJ L33.out S_;clear con34 P_ S_  P29 S30 G31 B32 L33;have f42:w35.cell? ⟨w.heap.size,0,none⟩=some (.int .i64 x.k):=B40.out.c 0 rfl;have f43:w35.cell? ⟨w.heap.size,1,none⟩=some (.int .i64 x.v.1):=B40.out.c 1 rfl
  have f44:w35.cell? ⟨w.heap.size,2,none⟩=some (.int .i64 x.v.2.1):=B40.out.c 2 rfl;have f45:w35.cell? ⟨w.heap.size,3,none⟩=some (.string x.v.2.2):=B40.out.c 3 rfl;have f46:w35.cell? ⟨w.heap.size,4,none⟩=some (.string x.aH):=B40.out.c 4 rfl;have f47:w35.cell? ⟨w.heap.size,5,none⟩=some (.string x.name):=B40.out.c 5 rfl;have f48:w35.cell? ⟨w.heap.size,6,none⟩=some (.slice a x.ks.length c):=B40.out.c 6 rfl
  have con49:Calls Tryz.prog 146 #[.pointer (some ⟨PB,0,none⟩),.agg (aT x a c)] w35 (aC w35 PB v36 (an (an bs ([⟨#[40]⟩])) (bw))):=HBA.out a c PB v36 _ w35 (G39.out) (P37.out) L41.out (by rw [← ak]; exact cH (Hb.out));go_wp2_with fail
  refine con49.mono ?_;rintro e w50 ⟨rfl,v51,P_,S_⟩;have P52:Hid (ax w50 PB v51 (an bs ([⟨#[40]⟩] ++ bw))):=by show ax _ _ _ _; rw [ak]; exact P_
  have S53:Hid (St PB v w v51 w50):=S38.out.trans S_;have G54:Hid (GP w50 PB):=G39.out.st S_;have B55:Hid (Bx w50 PB v51 (w.heap.size) (aT x a c) 55):=B40.out.st S_;have L56:Hid (aD (fun b=>b<PB) w50 a x.ks):=aD.bJ L41.out S_;clear con49 P_ S_ f42 f43 f44 f45 f46 f47 f48 P37 S38 G39 B40 L41;have con57:Calls Tryz.prog 57 #[.pointer (some ⟨PB,0,none⟩),.slice (some ⟨w50.heap.size,0,none⟩) 1 1] (w50.alloc (.cells #[.string ⟨#[41]⟩] 9)) (aC w50 PB v51 (an (an bs ([⟨#[40]⟩] ++ bw)) ([⟨#[41]⟩]))):=aW [⟨#[41]⟩] P52.out (by rw [← ak]; exact Hb.out) (by simp);go_wp2_with fail
  refine con57.mono ?_;rintro e w58 ⟨rfl,v59,P_,S_⟩;have P60:Hid (ax w58 PB v59 (an bs ([⟨#[40]⟩] ++ bw ++ [⟨#[41]⟩]))):=by show ax _ _ _ _; rw [ak]; exact P_
  have S61:Hid (St PB v w v59 w58):=S53.out.trans S_;have G62:Hid (GP w58 PB):=G54.out.st S_;have B63:Hid (Bx w58 PB v59 (w.heap.size) (aT x a c) 55):=B55.out.st S_;have L64:Hid (aD (fun b=>b<PB) w58 a x.ks):=aD.bJ L56.out S_;clear con57 P_ S_  P52 S53 G54 B55 L56;go_wp2_with fail
  go_end0
  exact ⟨rfl,v59,P60.out,S61.out⟩
theorem sS (x:SX) (bw:List ByteArray) (hB:dw bw x) (a:Option Addr) (c:Nat) {PB:Nat} {v:Value} {bs:List UInt8} {w:World} (hG:GP w PB) (hP:ax w PB v bs) (hk:aD (fun b=>b<PB) w a x.ks) (hb:(an bs (en 1 (aZ x.k,bw))).length≤fW):Calls Tryz.prog 92 #[.pointer (some ⟨PB,0,none⟩),.agg (aT x a c)] w (aC w PB v (an bs (en 1 (aZ x.k,bw)))):=by
 have HBA:Hid (dw bw x):=hB;clear hB;have Hb:Hid _:=hb;clear hb;have hal:=ab w (.cells (aT x a c) 55);have B0:Hid (Bx (w.alloc (.cells (aT x a c) 55)) PB v w.heap.size (aT x a c) 55):=Bx.new hP (aT x a c) 55;have P0:Hid (ax (w.alloc (.cells (aT x a c) 55)) PB v bs):=hP.next hal;have S0:Hid (St PB v w v (w.alloc (.cells (aT x a c) 55))):=St.of hal hP.lt;have G0:Hid (GP (w.alloc (.cells (aT x a c) 55)) PB):=hG.nx hal hP.lt;have L00:Hid (aD (fun b=>b<PB) (w.alloc (.cells (aT x a c) 55)) a x.ks):=aD.next hal hk
 clear hP hG hal hk;go_enter Tryz.func92,Tryz.ntmps92;go_upto_region 1 with fail
 generalize (w.alloc (.cells (aT x a c) 55))=w0 at *;have f1:w0.cell? ⟨w.heap.size,0,none⟩=some (.int .i64 x.k):=B0.out.c 0 rfl;have f2:w0.cell? ⟨w.heap.size,1,none⟩=some (.int .i64 x.v.1):=B0.out.c 1 rfl;have f3:w0.cell? ⟨w.heap.size,2,none⟩=some (.int .i64 x.v.2.1):=B0.out.c 2 rfl;have f4:w0.cell? ⟨w.heap.size,3,none⟩=some (.string x.v.2.2):=B0.out.c 3 rfl;have f5:w0.cell? ⟨w.heap.size,4,none⟩=some (.string x.aH):=B0.out.c 4 rfl;have f6:w0.cell? ⟨w.heap.size,5,none⟩=some (.string x.name):=B0.out.c 5 rfl;have f7:w0.cell? ⟨w.heap.size,6,none⟩=some (.slice a x.ks.length c):=B0.out.c 6 rfl
 have con8:Calls Tryz.prog 120 #[.pointer (some ⟨PB,0,none⟩),.int .i64 1,.agg (aT x a c)] w0 (aC w0 PB v (an bs (en 1 (aZ x.k,bw)))):=gb 1 x bw HBA.out a c (G0.out) (P0.out) L00.out (Hb.out);go_wp2_with fail
 refine con8.mono ?_;rintro e w9 ⟨rfl,v10,P_,S_⟩;have P11:Hid (ax w9 PB v10 (an bs (en 1 (aZ x.k,bw)))):=P_;have S12:Hid (St PB v w v10 w9):=S0.out.trans S_;have G13:Hid (GP w9 PB):=G0.out.st S_;have B14:Hid (Bx w9 PB v10 (w.heap.size) (aT x a c) 55):=B0.out.st S_;have L15:Hid (aD (fun b=>b<PB) w9 a x.ks):=aD.bJ L00.out S_;clear con8 P_ S_ f1 f2 f3 f4 f5 f6 f7 P0 S0 G0 B0 L00;go_wp2_with fail
 go_end0
 exact ⟨rfl,v10,P11.out,S12.out⟩
abbrev pd:Int × List ByteArray:=(0,[])
def gF (ps:List (Int × List ByteArray)) (ss:List ByteArray):Nat→List ByteArray
 | 0=>[]
 | i+1=>gF ps ss i ++ [ss.getD i eB] ++ en 1 (ps.getD i pd)
def dK (ps:List (Int × List ByteArray)) (ss:List ByteArray):List ByteArray:=gF ps ss ps.length ++ [ss.getD ps.length eB]
theorem sJ (bs:List UInt8) (ps:List (Int × List ByteArray)) (ss:List ByteArray) (i:Nat):∀ n,i≤n→(an bs (gF ps ss i)).length≤(an bs (gF ps ss n)).length
 | 0,h=>by rw [Nat.le_zero.1 h]; exact CX _
 | n+1,h=>by
  by_cases e:i=n+1
  ·rw [e]; exact CX _
  ·refine Dt (sJ bs ps ss i n (by omega)) ?_
   rw [gF,ak,ak]
   exact Dt (fp _ _) (fp _ _)
def gD (ps:List (Int × List ByteArray)) (l:List SX):Prop:=ps.length=l.length∧∀ (i:Nat) (h:i<l.length),∃ bw,ps.getD i pd=(aZ l[i].k,bw)∧dw bw l[i]
theorem uy (l:List SX) (ps:List (Int × List ByteArray)) (hB:gD ps l) (hl3:l.length≤1000) (a:Option Addr) (c g:Nat) (ss:List ByteArray) (hss:l.length<ss.length) {PB:Nat} {v:Value} {bs:List UInt8} {w:World} (hG:GP w PB) (hP:ax w PB v bs) (hk:aD (fun b=>b<PB) w a l) (hx:Bx w PB v g (ss.map Value.string).toArray 9) (hb:(an bs (dK ps ss)).length≤fW):Calls Tryz.prog 174 #[.pointer (some ⟨PB,0,none⟩),.slice a l.length c,.slice (some ⟨g,0,none⟩) ss.length ss.length] w (aC w PB v (an bs (dK ps ss))):=by
 have HBL:Hid (gD ps l):=hB;have HX:Hid (Bx w PB v g (ss.map Value.string).toArray 9):=hx;have HG:Hid (GP w PB):=hG;have HP:Hid (ax w PB v bs):=hP;have HK:Hid (aD (fun b=>b<PB) w a l):=hk;have hn:=hB.1;rw [dK] at hb ⊢;rw [hn] at hb ⊢;have HB:Hid (∀ j,j<l.length→(an bs (gF ps ss (j+1))).length≤fW):=fun j hj=>Dt (sJ bs ps ss (j+1) l.length hj) (cH hb)
 have HT:Hid ((an bs (gF ps ss l.length ++ [ss.getD l.length eB])).length≤fW):=hb;clear hB hx hG hP hk hb;go_enter Tryz.func174,Tryz.ntmps174;go_wp2_with fail
 go_loopw [10] (fun i wr=>∃ (j:Nat) (v':Value),j≤l.length∧i = .int .i64 j∧Hid (ax wr PB v' (an bs (gF ps ss j)))∧Hid (St PB v w v' wr)) (fun i _=>l.length - (RowKit.intOf i).toNat)
 case atStart=>exact ⟨0,v,Dm _,rfl,HP,St.refl _ _ _⟩
 case round =>
  obtain ⟨j,v1,hj,rfl,hP1,hS1⟩:=hrel;have hG1:Hid (GP wr PB):=HG.out.st hS1.out;have hX1:Hid (Bx wr PB v1 g (ss.map Value.string).toArray 9):=HX.out.st hS1.out;by_cases hlt:j<l.length
  ·have hBj:=HB.out j hlt;obtain ⟨b1,o1,ai,ci,rfl,_,_,sv,kk⟩:=(aD.bJ HK.out hS1.out).elem hlt;obtain ⟨bw,hbw,hba⟩:=HBL.out.2 j hlt;rw [gF,hbw] at hBj;have hgs:ss.getD j eB=ss[j]:=by simp [List.getD,show j<ss.length by omega]
   rw [hgs] at hBj;have HBJ:Hid (gF ps ss (j+1)=gF ps ss j ++ [ss[j]] ++ en 1 (aZ l[j].k,bw)):=by show _=_; rw [gF,hbw,hgs]
   have y0:wr.cell? ⟨g,j,none⟩=some (.string ss[j]):=hX1.out.c j (by simp [show j<ss.length by omega]);have hjz:(j:Int)<(l.length:Int):=by omega
   have hjs:(j:Int)<(ss.length:Int):=by omega
   generalize ss[j]=s at *;generalize l[j]=x at *;have Hb:Hid _:=hBj;have HBA:Hid (dw bw x):=hba;have KK:Hid (aD (fun b=>b<PB) wr ai x.ks):=kk;clear hBj hbw hba hgs kk;have z0:=sv.c0;have z1:=sv.c1;have z2:=sv.c2;have z3:=sv.c3;have z4:=sv.c4;have z5:=sv.c5;have z6:=sv.c6;clear sv;have hal:=ab wr (.cells (aT x ai ci) 55);go_upto_region 3 with fail
   have B0:Hid (Bx (wr.alloc (.cells (aT x ai ci) 55)) PB v1 wr.heap.size (aT x ai ci) 55):=Bx.new hP1.out (aT x ai ci) 55;have P0:Hid (ax (wr.alloc (.cells (aT x ai ci) 55)) PB v1 (an bs (gF ps ss j))):=hP1.out.next hal;have S0:Hid (St PB v w v1 (wr.alloc (.cells (aT x ai ci) 55))):=hS1.out.trans (St.of hal hP1.out.lt);have G0:Hid (GP (wr.alloc (.cells (aT x ai ci) 55)) PB):=hG1.out.nx hal hP1.out.lt;have L00:Hid (aD (fun b=>b<PB) (wr.alloc (.cells (aT x ai ci) 55)) ai x.ks):=aD.next hal KK.out
   have y1:(wr.alloc (.cells (aT x ai ci) 55)).cell? ⟨g,j,none⟩=some (.string s):=(hal.cell (p:=⟨g,j,none⟩) (hJ y0)).trans y0;clear hP1 hS1 hG1 hX1 KK y0 hal z0 z1 z2 z3 z4 z5 z6;generalize (wr.alloc (.cells (aT x ai ci) 55))=w0 at *;have con1:Calls Tryz.prog 57 #[.pointer (some ⟨PB,0,none⟩),.slice (some ⟨w0.heap.size,0,none⟩) 1 1] (w0.alloc (.cells #[.string s] 9)) (aC w0 PB v1 (an (an bs (gF ps ss j)) ([s]))):=aW [s] P0.out (by rw [← ak]; exact cH (Hb.out)) (by simp);go_wp2_with fail
   refine con1.mono ?_;rintro e w2 ⟨rfl,v3,P_,S_⟩;have P4:Hid (ax w2 PB v3 (an bs (gF ps ss j ++ [s]))):=by show ax _ _ _ _; rw [ak]; exact P_
   have S5:Hid (St PB v w v3 w2):=S0.out.trans S_;have G6:Hid (GP w2 PB):=G0.out.st S_;have B7:Hid (Bx w2 PB v3 (wr.heap.size) (aT x ai ci) 55):=B0.out.st S_;have L8:Hid (aD (fun b=>b<PB) w2 ai x.ks):=aD.bJ L00.out S_;clear con1 P_ S_ y1 P0 S0 G0 B0 L00;have f9:w2.cell? ⟨wr.heap.size,0,none⟩=some (.int .i64 x.k):=B7.out.c 0 rfl;have f10:w2.cell? ⟨wr.heap.size,1,none⟩=some (.int .i64 x.v.1):=B7.out.c 1 rfl;have f11:w2.cell? ⟨wr.heap.size,2,none⟩=some (.int .i64 x.v.2.1):=B7.out.c 2 rfl;have f12:w2.cell? ⟨wr.heap.size,3,none⟩=some (.string x.v.2.2):=B7.out.c 3 rfl
   have f13:w2.cell? ⟨wr.heap.size,4,none⟩=some (.string x.aH):=B7.out.c 4 rfl;have f14:w2.cell? ⟨wr.heap.size,5,none⟩=some (.string x.name):=B7.out.c 5 rfl;have f15:w2.cell? ⟨wr.heap.size,6,none⟩=some (.slice ai x.ks.length ci):=B7.out.c 6 rfl;have con16:Calls Tryz.prog 92 #[.pointer (some ⟨PB,0,none⟩),.agg (aT x ai ci)] w2 (aC w2 PB v3 (an (an bs (gF ps ss j ++ [s])) (en 1 (aZ x.k,bw)))):=sS x bw HBA.out ai ci (G6.out) (P4.out) L8.out (by rw [← ak]; exact Hb.out);go_wp2_with fail
   refine con16.mono ?_;rintro e w17 ⟨rfl,v18,P_,S_⟩;have P19:Hid (ax w17 PB v18 (an bs (gF ps ss j ++ [s] ++ en 1 (aZ x.k,bw)))):=by show ax _ _ _ _; rw [ak]; exact P_
   have S20:Hid (St PB v w v18 w17):=S5.out.trans S_;have G21:Hid (GP w17 PB):=G6.out.st S_;have B22:Hid (Bx w17 PB v18 (wr.heap.size) (aT x ai ci) 55):=B7.out.st S_;have L23:Hid (aD (fun b=>b<PB) w17 ai x.ks):=aD.bJ L8.out S_;clear con16 P_ S_ f9 f10 f11 f12 f13 f14 f15 P4 S5 G6 B7 L8;have PZ:Hid (ax w17 PB v18 (an bs (gF ps ss (j+1)))):=by show ax _ _ _ _; rw [HBJ.out]; exact P19.out
   clear P19;go_wp2_with fail
   go_roundw
   case rel=>exact ⟨j+1,v18,by omega,by go_num,PZ,S20⟩
   case measure=>simp [RowKit.intOf]; omega
  ·have ej:j=l.length:=by omega
   subst ej;have hgs:ss.getD l.length eB=ss[l.length]:=by simp [List.getD,hss]
   have Hb:Hid _:=HT.out;rw [hgs] at Hb;have y0:wr.cell? ⟨g,l.length,none⟩=some (.string ss[l.length]):=hX1.out.c l.length (by simp [hss]);have hjs:(l.length:Int)<(ss.length:Int):=by omega
   generalize ss[l.length]=s at *;have HGS:Hid (ss.getD l.length eB=s):=hgs;clear hgs HT hX1;have con24:Calls Tryz.prog 57 #[.pointer (some ⟨PB,0,none⟩),.slice (some ⟨wr.heap.size,0,none⟩) 1 1] (wr.alloc (.cells #[.string s] 9)) (aC wr PB v1 (an (an bs (gF ps ss l.length)) ([s]))):=aW [s] hP1.out (by rw [← ak]; exact Hb.out) (by simp);go_wp2_with fail
   refine con24.mono ?_;rintro e w25 ⟨rfl,v26,P_,S_⟩;have P27:Hid (ax w25 PB v26 (an bs (gF ps ss l.length ++ [s]))):=by show ax _ _ _ _; rw [ak]; exact P_
   have S28:Hid (St PB v w v26 w25):=hS1.out.trans S_;have G29:Hid (GP w25 PB):=hG1.out.st S_;clear con24 P_ S_ y0 hP1 hS1 hG1;go_wp2_with fail
   go_end0
   exact ⟨rfl,v26,by rw [HGS.out]; exact P27.out,S28.out⟩
theorem aD.AH {S:Nat→Prop} {W:World} {b o:Nat} {l:List SX} (h:aD S W (Option.some ⟨b,o,none⟩) l) {k:Nat} (hk:k<l.length):b<W.heap.size∧∃ ai cap,sd W b (o+k*7) l[k] ai cap∧aD S W ai l[k].ks:=by
 obtain ⟨b',o',ai,cap,e,_,h2,h3,h4⟩:=h.elem hk;have e:=Du e;injection e with e1 e2
 subst e1 e2;exact ⟨h2,ai,cap,h3,h4⟩
theorem sd.CC {W:World} {b off:Nat} {x:SX} {a:Option Addr} {cap:Nat} (h:sd W b off x a cap) (hb:b<W.heap.size):sC W b off (og x a cap):=⟨hb,fun j u hj=>by
 match j,hj with
 | 0,hj=>cases hj; exact h.c0
 | 1,hj=>cases hj; exact h.c1
 | 2,hj=>cases hj; exact h.c2
 | 3,hj=>cases hj; exact h.c3
 | 4,hj=>cases hj; exact h.c4
 | 5,hj=>cases hj; exact h.c5
 | 6,hj=>cases hj; exact h.c6
 | n+7,hj=>simp [og] at hj⟩
theorem qy (k:Int):∀ l:List (Int × ByteArray × Int),(∀ i ∈ l,0≤i.2.2∧i.2.2≤7)→0≤(iD k l).2.2∧(iD k l).2.2≤7
 | [],_=>by simp [iD]
 | i :: l,h=>by
  rw [iD]
  split
  ·exact h i (by simp)
  ·exact qy k l fun i hi=>h i (by simp [hi])
theorem xc (k:Int):0≤(dS k).2.2∧(dS k).2.2≤7:=qy k cJ (by intro i hi; simp only [cJ,Dv,List.not_mem_nil,or_false] at hi; rcases hi with rfl | rfl | rfl | rfl | rfl | rfl | rfl | rfl | rfl | rfl | rfl | rfl <;> decide)
def rG (l:Int):Int:=if l=4 then 5 else l
def jW (k:Int) (p q:Int × List ByteArray):List ByteArray:=en (rG (dS k).2.2) p ++ [(dS k).2.1] ++ en ((dS k).2.2+1) q
theorem vD (x:SX) (u0 u1:List ByteArray) (hn2:x.ks.length=2) (hB0:dw u0 (x.ks[0]'(by omega))) (hB1:dw u1 (x.ks[1]'(by omega))) (a:Option Addr) (c:Nat) {PB:Nat} {v:Value} {bs:List UInt8} {w:World} (hG:GP w PB) (hP:ax w PB v bs) (hk:aD (fun b=>b<PB) w a x.ks) (hb:(an bs (jW x.k (aZ (x.ks[0]'(by omega)).k,u0) (aZ (x.ks[1]'(by omega)).k,u1))).length≤fW):Calls Tryz.prog 176 #[.pointer (some ⟨PB,0,none⟩),.agg (aT x a c)] w (aC w PB v (an bs (jW x.k (aZ (x.ks[0]'(by omega)).k,u0) (aZ (x.ks[1]'(by omega)).k,u1)))):=by
 have HB0:Hid (dw u0 (x.ks[0]'(by omega))):=hB0;have HB1:Hid (dw u1 (x.ks[1]'(by omega))):=hB1;clear hB0 hB1;obtain ⟨b1,o1,_,_,rfl,hbp,_,_,_⟩:=hk.elem (k:=0) (by omega);have HC:Hid (∀ W,Gl W→_):=fun W hg=>mn x.k (w:=W) hg
 obtain ⟨lo,hi⟩:=xc x.k;unfold jW at hb ⊢;generalize dS x.k=i at *;obtain ⟨ik,is,il⟩:=i;simp only [xj] at HC hb lo hi ⊢;by_cases h4:il=4
 ·have hlf:rG il=5:=by rw [rG,if_pos h4]
  rw [hlf] at hb ⊢;subst h4;have Hb:Hid _:=hb;clear hb;have hal:=ab w (.cells #[.int .i64 x.k,.int .i64 x.v.1,.int .i64 x.v.2.1,.string x.v.2.2,.string x.aH,.string x.name,.slice (some ⟨b1,o1,none⟩) x.ks.length c] 55)
  have B0:Hid (Bx (w.alloc (.cells #[.int .i64 x.k,.int .i64 x.v.1,.int .i64 x.v.2.1,.string x.v.2.2,.string x.aH,.string x.name,.slice (some ⟨b1,o1,none⟩) x.ks.length c] 55)) PB v w.heap.size #[.int .i64 x.k,.int .i64 x.v.1,.int .i64 x.v.2.1,.string x.v.2.2,.string x.aH,.string x.name,.slice (some ⟨b1,o1,none⟩) x.ks.length c] 55):=Bx.new hP #[.int .i64 x.k,.int .i64 x.v.1,.int .i64 x.v.2.1,.string x.v.2.2,.string x.aH,.string x.name,.slice (some ⟨b1,o1,none⟩) x.ks.length c] 55
  have P0:Hid (ax (w.alloc (.cells #[.int .i64 x.k,.int .i64 x.v.1,.int .i64 x.v.2.1,.string x.v.2.2,.string x.aH,.string x.name,.slice (some ⟨b1,o1,none⟩) x.ks.length c] 55)) PB v bs):=hP.next hal;have S0:Hid (St PB v w v (w.alloc (.cells #[.int .i64 x.k,.int .i64 x.v.1,.int .i64 x.v.2.1,.string x.v.2.2,.string x.aH,.string x.name,.slice (some ⟨b1,o1,none⟩) x.ks.length c] 55))):=St.of hal hP.lt;have G0:Hid (GP (w.alloc (.cells #[.int .i64 x.k,.int .i64 x.v.1,.int .i64 x.v.2.1,.string x.v.2.2,.string x.aH,.string x.name,.slice (some ⟨b1,o1,none⟩) x.ks.length c] 55)) PB):=hG.nx hal hP.lt
  have L00:Hid (aD (fun b=>b<PB) (w.alloc (.cells #[.int .i64 x.k,.int .i64 x.v.1,.int .i64 x.v.2.1,.string x.v.2.2,.string x.aH,.string x.name,.slice (some ⟨b1,o1,none⟩) x.ks.length c] 55)) (some ⟨b1,o1,none⟩) x.ks):=aD.next hal hk;clear hP hG hal hk;go_enter Tryz.func176,Tryz.ntmps176;go_upto_region 1 with fail
  generalize (w.alloc (.cells #[.int .i64 x.k,.int .i64 x.v.1,.int .i64 x.v.2.1,.string x.v.2.2,.string x.aH,.string x.name,.slice (some ⟨b1,o1,none⟩) x.ks.length c] 55))=w0 at *;have f1:w0.cell? ⟨w.heap.size,0,none⟩=some (.int .i64 x.k):=B0.out.c 0 rfl;have con2:=HC.out w0 G0.out.gl;go_wp2_with fail
  refine con2.mono ?_;rintro e w3 ⟨rfl,hb4⟩;have hal2:=ab w3 (.cells #[.int .i64 ik,.string is,.int .i64 4] 201);have hbb:=chain hb4 hal2;clear con2 f1;go_upto_region 2 with fail
  have S_:St PB v w0 v (w3.alloc (.cells #[.int .i64 ik,.string is,.int .i64 4] 201)):=St.of hbb P0.out.lt;have PA:Hid (ax (w3.alloc (.cells #[.int .i64 ik,.string is,.int .i64 4] 201)) PB v bs):=P0.out.next hbb;have SA:Hid (St PB v w v (w3.alloc (.cells #[.int .i64 ik,.string is,.int .i64 4] 201))):=S0.out.trans S_;have GA:Hid (GP (w3.alloc (.cells #[.int .i64 ik,.string is,.int .i64 4] 201)) PB):=G0.out.st S_
  have BA:Hid (Bx (w3.alloc (.cells #[.int .i64 ik,.string is,.int .i64 4] 201)) PB v (w.heap.size) #[.int .i64 x.k,.int .i64 x.v.1,.int .i64 x.v.2.1,.string x.v.2.2,.string x.aH,.string x.name,.slice (some ⟨b1,o1,none⟩) x.ks.length c] 55):=B0.out.st S_;have BI:Hid (Bx (w3.alloc (.cells #[.int .i64 ik,.string is,.int .i64 4] 201)) PB v w3.heap.size #[.int .i64 ik,.string is,.int .i64 4] 201):=Bx.new (P0.out.next hb4) _ _;have LA:Hid (aD (fun b=>b<PB) (w3.alloc (.cells #[.int .i64 ik,.string is,.int .i64 4] 201)) (some ⟨b1,o1,none⟩) x.ks):=aD.bJ L00.out S_
  clear S_ hb4 hal2 hbb P0 S0 G0 B0 L00;generalize (w3.alloc (.cells #[.int .i64 ik,.string is,.int .i64 4] 201))=wA at *;obtain ⟨hl0,a0,c0,sv0,kk0⟩:=LA.out.AH (k:=0) (show 0<x.ks.length by omega);have y0:wA.cell? ⟨b1,o1,none⟩=some (.int .i64 x.ks[0].k):=by simpa using sv0.c0
  have y1:wA.cell? ⟨b1,o1+1,none⟩=some (.int .i64 x.ks[0].v.1):=by simpa using sv0.c1
  have y2:wA.cell? ⟨b1,o1+2,none⟩=some (.int .i64 x.ks[0].v.2.1):=by simpa using sv0.c2
  have y3:wA.cell? ⟨b1,o1+3,none⟩=some (.string x.ks[0].v.2.2):=by simpa using sv0.c3
  have y4:wA.cell? ⟨b1,o1+4,none⟩=some (.string x.ks[0].aH):=by simpa using sv0.c4
  have y5:wA.cell? ⟨b1,o1+5,none⟩=some (.string x.ks[0].name):=by simpa using sv0.c5
  have y6:wA.cell? ⟨b1,o1+6,none⟩=some (.slice a0 x.ks[0].ks.length c0):=by simpa using sv0.c6
  clear sv0 hl0;have f5:wA.cell? ⟨w3.heap.size,2,none⟩=some (.int .i64 4):=BI.out.c 2 rfl;have f6:wA.cell? ⟨w.heap.size,6,none⟩=some (.slice (some ⟨b1,o1,none⟩) x.ks.length c):=BA.out.c 6 rfl;have con7:Calls Tryz.prog 120 #[.pointer (some ⟨PB,0,none⟩),.int .i64 5,.agg (aT x.ks[0] a0 c0)] wA (aC wA PB v (an bs (en 5 (aZ x.ks[0].k,u0)))):=gb 5 x.ks[0] u0 HB0.out a0 c0 (GA.out) (PA.out) kk0 (cH (cH (Hb.out)));go_wp2_with fail
  refine con7.mono ?_;rintro e w8 ⟨rfl,v9,P_,S_⟩;have P10:Hid (ax w8 PB v9 (an bs (en 5 (aZ x.ks[0].k,u0)))):=P_;have S11:Hid (St PB v w v9 w8):=SA.out.trans S_;have G12:Hid (GP w8 PB):=GA.out.st S_;have B13:Hid (Bx w8 PB v9 (w.heap.size) #[.int .i64 x.k,.int .i64 x.v.1,.int .i64 x.v.2.1,.string x.v.2.2,.string x.aH,.string x.name,.slice (some ⟨b1,o1,none⟩) x.ks.length c] 55):=BA.out.st S_;have B14:Hid (Bx w8 PB v9 (w3.heap.size) #[.int .i64 ik,.string is,.int .i64 4] 201):=BI.out.st S_;have L15:Hid (aD (fun b=>b<PB) w8 (some ⟨b1,o1,none⟩) x.ks):=aD.bJ LA.out S_
  clear con7 P_ S_ f5 f6 y0 y1 y2 y3 y4 y5 y6 PA SA GA BA BI LA;have f16:w8.cell? ⟨w3.heap.size,1,none⟩=some (.string is):=B14.out.c 1 rfl;have con17:Calls Tryz.prog 57 #[.pointer (some ⟨PB,0,none⟩),.slice (some ⟨w8.heap.size,0,none⟩) 1 1] (w8.alloc (.cells #[.string is] 9)) (aC w8 PB v9 (an (an bs (en 5 (aZ x.ks[0].k,u0))) ([is]))):=aW [is] P10.out (by rw [← ak]; exact cH (Hb.out)) (by simp);go_wp2_with fail
  refine con17.mono ?_;rintro e w18 ⟨rfl,v19,P_,S_⟩;have P20:Hid (ax w18 PB v19 (an bs (en 5 (aZ x.ks[0].k,u0) ++ [is]))):=by show ax _ _ _ _; rw [ak]; exact P_
  have S21:Hid (St PB v w v19 w18):=S11.out.trans S_;have G22:Hid (GP w18 PB):=G12.out.st S_;have B23:Hid (Bx w18 PB v19 (w.heap.size) #[.int .i64 x.k,.int .i64 x.v.1,.int .i64 x.v.2.1,.string x.v.2.2,.string x.aH,.string x.name,.slice (some ⟨b1,o1,none⟩) x.ks.length c] 55):=B13.out.st S_;have B24:Hid (Bx w18 PB v19 (w3.heap.size) #[.int .i64 ik,.string is,.int .i64 4] 201):=B14.out.st S_;have L25:Hid (aD (fun b=>b<PB) w18 (some ⟨b1,o1,none⟩) x.ks):=aD.bJ L15.out S_;clear con17 P_ S_ f16 P10 S11 G12 B13 B14 L15;obtain ⟨hl1,a1,c1,sv1,kk1⟩:=L25.out.AH (k:=1) (show 1<x.ks.length by omega)
  go_upto_region 7 with fail
  obtain ⟨C,hCC,hCP,hC0⟩:∃ C:World→Prop,(∀ W W':World,C W→Below W.heap.size W W'→C W')∧(∀ W,C W↔j4 W (w.heap.size) (aT x (some ⟨b1,o1,none⟩) c) 55∧j4 W (w3.heap.size) #[.int .i64 ik,.string is,.int .i64 4] 201∧sC W b1 (o1+7) (og x.ks[1] a1 c1))∧C w18:=⟨fun W=>j4 W (w.heap.size) (aT x (some ⟨b1,o1,none⟩) c) 55∧j4 W (w3.heap.size) #[.int .i64 ik,.string is,.int .i64 4] 201∧sC W b1 (o1+7) (og x.ks[1] a1 c1),fun W W' h hb=>⟨h.1.nx hb,h.2.1.nx hb,h.2.2.nx hb⟩,fun _=>Iff.rfl,B23.out.q,B24.out.q,by have:=sv1.CC hl1; simpa using this⟩
  have hdr:Below w18.heap.size w18 w18.drew:=(CY _ _).drew;have CW:=hCC _ _ hC0 hdr;clear hC0 sv1;refine cK C (by kernel_rfl) ?_;refine ae hCC 28 (i:=0) (v:=.pointer (some ⟨PB,0,none⟩)) (fun n hn=>?_) CW ?_
  ·go_simp
  simp only [Act.put,pA,pB,pC];refine ae hCC 29 (i:=1) (v:=.pointer (some ⟨w3.heap.size,2,none⟩)) (fun n hn=>?_) CW ?_
  ·go_simp
  simp only [Act.put,pA,pB,pC];refine ae hCC 30 (i:=2) (v:=.int .i64 4) (fun n hn=>?_) CW ?_
  ·have z0:n.cell? ⟨w3.heap.size,2,none⟩=some (.int .i64 4):=((hCP n).1 hn).2.1.c 2 rfl;go_simp
  simp only [Act.put,pA,pB,pC];refine ae hCC 31 (i:=3) (v:=.int .i64 (4+1)) (fun n hn=>?_) CW ?_
  ·go_simp;rfl
  simp only [Act.put,pA,pB,pC];refine ae hCC 32 (i:=4) (v:=.pointer (some ⟨w.heap.size,6,none⟩)) (fun n hn=>?_) CW ?_
  ·go_simp
  simp only [Act.put,pA,pB,pC];refine ae hCC 33 (i:=5) (v:=.slice (some ⟨b1,o1,none⟩) x.ks.length c) (fun n hn=>?_) CW ?_
  ·have z0:n.cell? ⟨w.heap.size,6,none⟩=some (.slice (some ⟨b1,o1,none⟩) x.ks.length c):=((hCP n).1 hn).1.c 6 rfl;go_simp
  simp only [Act.put,pA,pB,pC];refine ae hCC 34 (i:=6) (v:=.pointer (some ⟨b1,o1+7,none⟩)) (fun n hn=>?_) CW ?_
  ·go_simp
  simp only [Act.put,pA,pB,pC];refine aN hCC (some 35) (i:=7) (v:=.agg (aT x.ks[1] a1 c1)) rfl rfl (by kernel_rfl) (by kernel_rfl) (by kernel_rfl) (fun _ _ _ h=>h) (mb rfl 55 _ rfl b1 (o1+7) (og x.ks[1] a1 c1) rfl Tryz.underlying55 rfl (by kernel_rfl) (fun n hn=>((hCP n).1 hn).2.2)) CW ?_;simp only [Act.put,pA,pB,pC];refine bA (rs:=[8]) (by kernel_rfl) (by simp) ?_;intro w5 hb5 jj hj;obtain rfl:jj=8:=by simpa using hj
  clear hj;have D5:=chain hdr hb5;have S5:St PB v19 w18 v19 w5:=St.of D5 P20.out.lt;have con:=gb (4+1) x.ks[1] u1 HB1.out a1 c1 (G22.out.st S5) (P20.out.next D5) (aD.next D5 kk1) (by rw [← ak]; exact Hb.out);refine wpOp_step rfl (fun K hK=>?_);go_simp;refine con.mono ?_;rintro e w6 ⟨rfl,v6,P6,S6⟩;refine hK _ _ ⟨(hCP _).2 ⟨((B23.out.st S5).st S6).q,((B24.out.st S5).st S6).q,by have h0:=((hCP _).1 (hCC _ _ CW hb5)).2.2; exact ⟨Dg h0.1 S6.kD.size,fun j u hj=>(Dq (a:=⟨b1,o1+7+j,none⟩) (S6.kD.block b1 hbp)).trans (h0.2 j u hj)⟩⟩,?_⟩
  refine fq (by kernel_rfl) ?_;intro w7 hb7;have PE:ax w7 PB v6 (an bs (en 5 (aZ x.ks[0].k,u0) ++ [is] ++ en (4+1) (aZ x.ks[1].k,u1))):=by rw [ak]; exact P6.next hb7
  have SE:St PB v w v6 w7:=S21.out.trans (S5.trans (S6.trans (St.of hb7 P6.lt)));clear con hK CW hCC hCP;go_wp2_with fail
  go_end0
  exact ⟨rfl,v6,PE,SE⟩
 ·have hlf:rG il=il:=by rw [rG,if_neg h4]
  rw [hlf] at hb ⊢;have b4:(il == 4)=false:=by simpa using h4
  have Hb:Hid _:=hb;clear hb;have hal:=ab w (.cells #[.int .i64 x.k,.int .i64 x.v.1,.int .i64 x.v.2.1,.string x.v.2.2,.string x.aH,.string x.name,.slice (some ⟨b1,o1,none⟩) x.ks.length c] 55)
  have B0:Hid (Bx (w.alloc (.cells #[.int .i64 x.k,.int .i64 x.v.1,.int .i64 x.v.2.1,.string x.v.2.2,.string x.aH,.string x.name,.slice (some ⟨b1,o1,none⟩) x.ks.length c] 55)) PB v w.heap.size #[.int .i64 x.k,.int .i64 x.v.1,.int .i64 x.v.2.1,.string x.v.2.2,.string x.aH,.string x.name,.slice (some ⟨b1,o1,none⟩) x.ks.length c] 55):=Bx.new hP #[.int .i64 x.k,.int .i64 x.v.1,.int .i64 x.v.2.1,.string x.v.2.2,.string x.aH,.string x.name,.slice (some ⟨b1,o1,none⟩) x.ks.length c] 55
  have P0:Hid (ax (w.alloc (.cells #[.int .i64 x.k,.int .i64 x.v.1,.int .i64 x.v.2.1,.string x.v.2.2,.string x.aH,.string x.name,.slice (some ⟨b1,o1,none⟩) x.ks.length c] 55)) PB v bs):=hP.next hal;have S0:Hid (St PB v w v (w.alloc (.cells #[.int .i64 x.k,.int .i64 x.v.1,.int .i64 x.v.2.1,.string x.v.2.2,.string x.aH,.string x.name,.slice (some ⟨b1,o1,none⟩) x.ks.length c] 55))):=St.of hal hP.lt;have G0:Hid (GP (w.alloc (.cells #[.int .i64 x.k,.int .i64 x.v.1,.int .i64 x.v.2.1,.string x.v.2.2,.string x.aH,.string x.name,.slice (some ⟨b1,o1,none⟩) x.ks.length c] 55)) PB):=hG.nx hal hP.lt
  have L00:Hid (aD (fun b=>b<PB) (w.alloc (.cells #[.int .i64 x.k,.int .i64 x.v.1,.int .i64 x.v.2.1,.string x.v.2.2,.string x.aH,.string x.name,.slice (some ⟨b1,o1,none⟩) x.ks.length c] 55)) (some ⟨b1,o1,none⟩) x.ks):=aD.next hal hk;clear hP hG hal hk;go_enter Tryz.func176,Tryz.ntmps176;go_upto_region 1 with fail
  generalize (w.alloc (.cells #[.int .i64 x.k,.int .i64 x.v.1,.int .i64 x.v.2.1,.string x.v.2.2,.string x.aH,.string x.name,.slice (some ⟨b1,o1,none⟩) x.ks.length c] 55))=w0 at *;have f26:w0.cell? ⟨w.heap.size,0,none⟩=some (.int .i64 x.k):=B0.out.c 0 rfl;have con27:=HC.out w0 G0.out.gl;go_wp2_with fail
  refine con27.mono ?_;rintro e w28 ⟨rfl,hb29⟩;have hal2:=ab w28 (.cells #[.int .i64 ik,.string is,.int .i64 il] 201);have hbb:=chain hb29 hal2;clear con27 f26;go_upto_region 2 with fail
  have S_:St PB v w0 v (w28.alloc (.cells #[.int .i64 ik,.string is,.int .i64 il] 201)):=St.of hbb P0.out.lt;have PA:Hid (ax (w28.alloc (.cells #[.int .i64 ik,.string is,.int .i64 il] 201)) PB v bs):=P0.out.next hbb;have SA:Hid (St PB v w v (w28.alloc (.cells #[.int .i64 ik,.string is,.int .i64 il] 201))):=S0.out.trans S_;have GA:Hid (GP (w28.alloc (.cells #[.int .i64 ik,.string is,.int .i64 il] 201)) PB):=G0.out.st S_
  have BA:Hid (Bx (w28.alloc (.cells #[.int .i64 ik,.string is,.int .i64 il] 201)) PB v (w.heap.size) #[.int .i64 x.k,.int .i64 x.v.1,.int .i64 x.v.2.1,.string x.v.2.2,.string x.aH,.string x.name,.slice (some ⟨b1,o1,none⟩) x.ks.length c] 55):=B0.out.st S_;have BI:Hid (Bx (w28.alloc (.cells #[.int .i64 ik,.string is,.int .i64 il] 201)) PB v w28.heap.size #[.int .i64 ik,.string is,.int .i64 il] 201):=Bx.new (P0.out.next hb29) _ _;have LA:Hid (aD (fun b=>b<PB) (w28.alloc (.cells #[.int .i64 ik,.string is,.int .i64 il] 201)) (some ⟨b1,o1,none⟩) x.ks):=aD.bJ L00.out S_
  clear S_ hb29 hal2 hbb P0 S0 G0 B0 L00;generalize (w28.alloc (.cells #[.int .i64 ik,.string is,.int .i64 il] 201))=wA at *;obtain ⟨hl0,a0,c0,sv0,kk0⟩:=LA.out.AH (k:=0) (show 0<x.ks.length by omega);have y0:wA.cell? ⟨b1,o1,none⟩=some (.int .i64 x.ks[0].k):=by simpa using sv0.c0
  have y1:wA.cell? ⟨b1,o1+1,none⟩=some (.int .i64 x.ks[0].v.1):=by simpa using sv0.c1
  have y2:wA.cell? ⟨b1,o1+2,none⟩=some (.int .i64 x.ks[0].v.2.1):=by simpa using sv0.c2
  have y3:wA.cell? ⟨b1,o1+3,none⟩=some (.string x.ks[0].v.2.2):=by simpa using sv0.c3
  have y4:wA.cell? ⟨b1,o1+4,none⟩=some (.string x.ks[0].aH):=by simpa using sv0.c4
  have y5:wA.cell? ⟨b1,o1+5,none⟩=some (.string x.ks[0].name):=by simpa using sv0.c5
  have y6:wA.cell? ⟨b1,o1+6,none⟩=some (.slice a0 x.ks[0].ks.length c0):=by simpa using sv0.c6
  clear sv0 hl0;have f30:wA.cell? ⟨w28.heap.size,2,none⟩=some (.int .i64 il):=BI.out.c 2 rfl;have f31:wA.cell? ⟨w.heap.size,6,none⟩=some (.slice (some ⟨b1,o1,none⟩) x.ks.length c):=BA.out.c 6 rfl;have con32:Calls Tryz.prog 120 #[.pointer (some ⟨PB,0,none⟩),.int .i64 il,.agg (aT x.ks[0] a0 c0)] wA (aC wA PB v (an bs (en il (aZ x.ks[0].k,u0)))):=gb il x.ks[0] u0 HB0.out a0 c0 (GA.out) (PA.out) kk0 (cH (cH (Hb.out)));go_wp2_with fail
  refine con32.mono ?_;rintro e w33 ⟨rfl,v34,P_,S_⟩;have P35:Hid (ax w33 PB v34 (an bs (en il (aZ x.ks[0].k,u0)))):=P_;have S36:Hid (St PB v w v34 w33):=SA.out.trans S_;have G37:Hid (GP w33 PB):=GA.out.st S_;have B38:Hid (Bx w33 PB v34 (w.heap.size) #[.int .i64 x.k,.int .i64 x.v.1,.int .i64 x.v.2.1,.string x.v.2.2,.string x.aH,.string x.name,.slice (some ⟨b1,o1,none⟩) x.ks.length c] 55):=BA.out.st S_;have B39:Hid (Bx w33 PB v34 (w28.heap.size) #[.int .i64 ik,.string is,.int .i64 il] 201):=BI.out.st S_;have L40:Hid (aD (fun b=>b<PB) w33 (some ⟨b1,o1,none⟩) x.ks):=aD.bJ LA.out S_
  clear con32 P_ S_ f30 f31 y0 y1 y2 y3 y4 y5 y6 PA SA GA BA BI LA;have f41:w33.cell? ⟨w28.heap.size,1,none⟩=some (.string is):=B39.out.c 1 rfl;have con42:Calls Tryz.prog 57 #[.pointer (some ⟨PB,0,none⟩),.slice (some ⟨w33.heap.size,0,none⟩) 1 1] (w33.alloc (.cells #[.string is] 9)) (aC w33 PB v34 (an (an bs (en il (aZ x.ks[0].k,u0))) ([is]))):=aW [is] P35.out (by rw [← ak]; exact cH (Hb.out)) (by simp);go_wp2_with fail
  refine con42.mono ?_;rintro e w43 ⟨rfl,v44,P_,S_⟩;have P45:Hid (ax w43 PB v44 (an bs (en il (aZ x.ks[0].k,u0) ++ [is]))):=by show ax _ _ _ _; rw [ak]; exact P_
  have S46:Hid (St PB v w v44 w43):=S36.out.trans S_;have G47:Hid (GP w43 PB):=G37.out.st S_;have B48:Hid (Bx w43 PB v44 (w.heap.size) #[.int .i64 x.k,.int .i64 x.v.1,.int .i64 x.v.2.1,.string x.v.2.2,.string x.aH,.string x.name,.slice (some ⟨b1,o1,none⟩) x.ks.length c] 55):=B38.out.st S_;have B49:Hid (Bx w43 PB v44 (w28.heap.size) #[.int .i64 ik,.string is,.int .i64 il] 201):=B39.out.st S_;have L50:Hid (aD (fun b=>b<PB) w43 (some ⟨b1,o1,none⟩) x.ks):=aD.bJ L40.out S_;clear con42 P_ S_ f41 P35 S36 G37 B38 B39 L40;obtain ⟨hl1,a1,c1,sv1,kk1⟩:=L50.out.AH (k:=1) (show 1<x.ks.length by omega)
  go_upto_region 7 with fail
  obtain ⟨C,hCC,hCP,hC0⟩:∃ C:World→Prop,(∀ W W':World,C W→Below W.heap.size W W'→C W')∧(∀ W,C W↔j4 W (w.heap.size) (aT x (some ⟨b1,o1,none⟩) c) 55∧j4 W (w28.heap.size) #[.int .i64 ik,.string is,.int .i64 il] 201∧sC W b1 (o1+7) (og x.ks[1] a1 c1))∧C w43:=⟨fun W=>j4 W (w.heap.size) (aT x (some ⟨b1,o1,none⟩) c) 55∧j4 W (w28.heap.size) #[.int .i64 ik,.string is,.int .i64 il] 201∧sC W b1 (o1+7) (og x.ks[1] a1 c1),fun W W' h hb=>⟨h.1.nx hb,h.2.1.nx hb,h.2.2.nx hb⟩,fun _=>Iff.rfl,B48.out.q,B49.out.q,by have:=sv1.CC hl1; simpa using this⟩
  have hdr:Below w43.heap.size w43 w43.drew:=(CY _ _).drew;have CW:=hCC _ _ hC0 hdr;clear hC0 sv1;refine cK C (by kernel_rfl) ?_;refine ae hCC 28 (i:=0) (v:=.pointer (some ⟨PB,0,none⟩)) (fun n hn=>?_) CW ?_
  ·go_simp
  simp only [Act.put,pA,pB,pC];refine ae hCC 29 (i:=1) (v:=.pointer (some ⟨w28.heap.size,2,none⟩)) (fun n hn=>?_) CW ?_
  ·go_simp
  simp only [Act.put,pA,pB,pC];refine ae hCC 30 (i:=2) (v:=.int .i64 il) (fun n hn=>?_) CW ?_
  ·have z0:n.cell? ⟨w28.heap.size,2,none⟩=some (.int .i64 il):=((hCP n).1 hn).2.1.c 2 rfl;go_simp
  simp only [Act.put,pA,pB,pC];refine ae hCC 31 (i:=3) (v:=.int .i64 (il+1)) (fun n hn=>?_) CW ?_
  ·go_simp;simp [IntKind.wrap,IntKind.signed,IntKind.bits]; omega
  simp only [Act.put,pA,pB,pC];refine ae hCC 32 (i:=4) (v:=.pointer (some ⟨w.heap.size,6,none⟩)) (fun n hn=>?_) CW ?_
  ·go_simp
  simp only [Act.put,pA,pB,pC];refine ae hCC 33 (i:=5) (v:=.slice (some ⟨b1,o1,none⟩) x.ks.length c) (fun n hn=>?_) CW ?_
  ·have z0:n.cell? ⟨w.heap.size,6,none⟩=some (.slice (some ⟨b1,o1,none⟩) x.ks.length c):=((hCP n).1 hn).1.c 6 rfl;go_simp
  simp only [Act.put,pA,pB,pC];refine ae hCC 34 (i:=6) (v:=.pointer (some ⟨b1,o1+7,none⟩)) (fun n hn=>?_) CW ?_
  ·go_simp
  simp only [Act.put,pA,pB,pC];refine aN hCC (some 35) (i:=7) (v:=.agg (aT x.ks[1] a1 c1)) rfl rfl (by kernel_rfl) (by kernel_rfl) (by kernel_rfl) (fun _ _ _ h=>h) (mb rfl 55 _ rfl b1 (o1+7) (og x.ks[1] a1 c1) rfl Tryz.underlying55 rfl (by kernel_rfl) (fun n hn=>((hCP n).1 hn).2.2)) CW ?_;simp only [Act.put,pA,pB,pC];refine bA (rs:=[8]) (by kernel_rfl) (by simp) ?_;intro w5 hb5 jj hj;obtain rfl:jj=8:=by simpa using hj
  clear hj;have D5:=chain hdr hb5;have S5:St PB v44 w43 v44 w5:=St.of D5 P45.out.lt;have con:=gb (il+1) x.ks[1] u1 HB1.out a1 c1 (G47.out.st S5) (P45.out.next D5) (aD.next D5 kk1) (by rw [← ak]; exact Hb.out);refine wpOp_step rfl (fun K hK=>?_);go_simp;refine con.mono ?_;rintro e w6 ⟨rfl,v6,P6,S6⟩;refine hK _ _ ⟨(hCP _).2 ⟨((B48.out.st S5).st S6).q,((B49.out.st S5).st S6).q,by have h0:=((hCP _).1 (hCC _ _ CW hb5)).2.2; exact ⟨Dg h0.1 S6.kD.size,fun j u hj=>(Dq (a:=⟨b1,o1+7+j,none⟩) (S6.kD.block b1 hbp)).trans (h0.2 j u hj)⟩⟩,?_⟩
  refine fq (by kernel_rfl) ?_;intro w7 hb7;have PE:ax w7 PB v6 (an bs (en il (aZ x.ks[0].k,u0) ++ [is] ++ en (il+1) (aZ x.ks[1].k,u1))):=by rw [ak]; exact P6.next hb7
  have SE:St PB v w v6 w7:=S46.out.trans (S5.trans (S6.trans (St.of hb7 P6.lt)));clear con hK CW hCC hCP;go_wp2_with fail
  go_end0
  exact ⟨rfl,v6,PE,SE⟩
end Go.Proofs.YtoknmnngaackkaaGreatDoor
namespace Go.Proofs
open Go.Shelf
set_option maxRecDepth 100000
set_option maxHeartbeats 16000000
shelf_lay LaysM.n173 Nm 173 at Tryz as Tryz.fmtI
shelf_lay Lays.n155 Nm 155 at Tryz as Tryz.repA
theorem Tryz.B3:Builder.Extra Tryz.prog Tryz.repA_ren where
 sizeBuilder:=by kernel_rfl
 liesBuilder:=by kernel_rfl
 t5:=Tryz.repA.t5
 a5:=Tryz.repA.a5
 z5:=Tryz.repA.z5
 v5:=Tryz.repA.v5
 infoByte:=by kernel_rfl
 cellsByte:=by kernel_rfl
 sizeByte:=by kernel_rfl
 neB5:=by decide
end Go.Proofs
namespace Go.Proofs.YtoknmnngaackkaaGreatDoor
open Go.RowKit Go.Lib Go.Shelf
set_option maxRecDepth 100000
set_option maxHeartbeats 8000000
theorem sD (n:Int) (h0:-9223372036854775808≤n) (h1:n≤9223372036854775807) {w:World} {PB:Nat} (hG:GP w PB):Calls Tryz.prog 121 #[.int .i64 n,.int .i64 10] w fun e w'=>e = .returned (.string ⟨(Lib.itoa n).toArray⟩)∧Below w.heap.size w w':=by
 refine (Any.strconv_FormatInt_10 Tryz.fmtI n h0 h1 w hG.aH).mono ?_;rintro e w' ⟨rfl,k,os,rfl⟩;exact ⟨rfl,below_grow _ w (CX _) k os⟩
theorem yF (s:ByteArray) (hs:s.size≤4000) {w:World} {PB:Nat} (hG:GP w PB):Calls Tryz.prog 123 #[.string s,.string ⟨#[39]⟩,.string ⟨#[39,39]⟩] w fun e w'=>e = .returned (.string ⟨(Lib.replaceAll s.data.toList [39] [39,39]).toArray⟩)∧Below w.heap.size w w':=by
 obtain ⟨m,hm⟩:=hG.mx;have:=Any.strings_ReplaceAll Tryz.repA Tryz.B3 s ⟨#[39]⟩ ⟨#[39,39]⟩ m w (by omega) hm (by decide) (by have:=countB_le ⟨#[39]⟩ (by decide) s.size s (CX _); show s.size+countB s ⟨#[39]⟩*2≤_; omega);exact this
theorem sV (b:Bool) (w:World):Calls Tryz.prog 122 #[.bool b] w fun e w'=>e = .returned (.string (if b then ⟨#[116,114,117,101]⟩ else ⟨#[102,97,108,115,101]⟩))∧Below w.heap.size w w':=by
 cases b
 all_goals go_enter Tryz.func122,Tryz.ntmps122
 all_goals go_wp2
 all_goals exact C0 (results_tmp rfl _ _ _) rfl ⟨by first | rfl | trivial,CY _ _⟩
set_option maxHeartbeats 16000000
def fg (n:Int):ByteArray:=⟨(Lib.itoa n).toArray⟩
def gZ (n:Int):List ByteArray:=if n<0 then [⟨#[45]⟩] ++ [fg (-n)] else [fg n]
def qV (s:ByteArray):ByteArray:=⟨#[39]⟩ ++ ⟨(Lib.replaceAll s.data.toList [39] [39,39]).toArray⟩ ++ ⟨#[39]⟩
theorem qN (old new:List UInt8):∀ (k:Nat) (s:List UInt8),(Lib.replaceK old new k s).length≤s.length+k*new.length
 | 0,s=>by simp [Lib.replaceK]
 | k+1,s=>by
  rw [Lib.replaceK]
  split
  ·omega
  ·rw [Dk,Dk,Nat.add_mul,DT]
   have:=qN old new k (s.drop ((Lib.index s old).toNat+old.length))
   rw [DA] at this
   have h2:(s.take (Lib.index s old).toNat).length≤(Lib.index s old).toNat:=by rw [Dz]; omega
   have h3:(s.take (Lib.index s old).toNat).length≤s.length:=by rw [Dz]; omega
   omega
theorem sf (s:ByteArray):(⟨(Lib.replaceAll s.data.toList [39] [39,39]).toArray⟩:ByteArray).size≤3*s.size:=by
 show (Lib.replaceAll s.data.toList [39] [39,39]).toArray.size≤_;rw [List.size_toArray,Lib.replaceAll,Lib.replace,if_neg (by decide)];have h1:Lib.count s.data.toList [39]≤s.size:=Lib.countB_le ⟨#[39]⟩ (by decide) s.size s (CX _);have h2:=qN [39] [39,39] (Lib.replaceNum s.data.toList [39] (-1)) s.data.toList;have h3:Lib.replaceNum s.data.toList [39] (-1)=Lib.count s.data.toList [39]:=by rw [Lib.replaceNum,if_pos (.inl (by decide))]
 rw [h3] at h2 ⊢;rw [show s.data.toList.length=s.size from Dl] at h2;simp only [Dn,DQ] at h2;omega
def cF (x:Vl):List ByteArray:=if x.1=1 then [⟨#[110,117,108,108]⟩] else if x.1=2 then [if x.2.1 == 1 then ⟨#[116,114,117,101]⟩ else ⟨#[102,97,108,115,101]⟩] else if x.1=3 then gZ x.2.1 else if x.1=4 then [qV x.2.2] else []
theorem l7 (n:Int) {PB:Nat} {v:Value} {bs:List UInt8} {w:World} (hG:GP w PB) (hP:ax w PB v bs) (hlo:-1000000000000000≤n) (hhi:n≤1000000000000000) (hb:(an bs (gZ n)).length≤fW):Calls Tryz.prog 93 #[.pointer (some ⟨PB,0,none⟩),.int .i64 n] w (aC w PB v (an bs (gZ n))):=by
 by_cases hn:n<0
 ·rw [gZ,if_pos hn] at hb ⊢;have Hb:Hid _:=hb;clear hb;have P0:Hid (ax w PB v bs):=hP;have S0:Hid (St PB v w v w):=St.refl _ _ _;have G0:Hid (GP w PB):=hG;clear hP hG;go_enter Tryz.func93,Tryz.ntmps93;have con1:Calls Tryz.prog 57 #[.pointer (some ⟨PB,0,none⟩),.slice (some ⟨w.heap.size,0,none⟩) 1 1] (w.alloc (.cells #[.string ⟨#[45]⟩] 9)) (aC w PB v (an bs ([⟨#[45]⟩]))):=aW [⟨#[45]⟩] P0.out (cH (Hb.out)) (by simp);go_wp2_with fail
  refine con1.mono ?_;rintro e w2 ⟨rfl,v3,P_,S_⟩;have P4:Hid (ax w2 PB v3 (an bs ([⟨#[45]⟩]))):=P_;have S5:Hid (St PB v w v3 w2):=S0.out.trans S_;have G6:Hid (GP w2 PB):=G0.out.st S_;clear con1 P_ S_  P0 S0 G0;have con7:=sD (-n) (by omega) (by omega) (G6.out);go_wp2_with fail
  refine con7.mono ?_;rintro e w8 ⟨rfl,hb9⟩;have P10:Hid (ax w8 PB v3 (an bs ([⟨#[45]⟩]))):=P4.out.next hb9;have S_:St PB v3 w2 v3 w8:=St.of hb9 P4.out.lt;have S11:Hid (St PB v w v3 w8):=S5.out.trans S_;have G12:Hid (GP w8 PB):=G6.out.st S_;clear con7 S_ hb9  P4 S5 G6;have con13:Calls Tryz.prog 57 #[.pointer (some ⟨PB,0,none⟩),.slice (some ⟨w8.heap.size,0,none⟩) 1 1] (w8.alloc (.cells #[.string (fg (-n))] 9)) (aC w8 PB v3 (an (an bs ([⟨#[45]⟩])) ([fg (-n)]))):=aW [fg (-n)] P10.out (by rw [← ak]; exact Hb.out) (by simp);go_wp2_with fail
  refine con13.mono ?_;rintro e w14 ⟨rfl,v15,P_,S_⟩;have P16:Hid (ax w14 PB v15 (an bs ([⟨#[45]⟩] ++ [fg (-n)]))):=by show ax _ _ _ _; rw [ak]; exact P_
  have S17:Hid (St PB v w v15 w14):=S11.out.trans S_;have G18:Hid (GP w14 PB):=G12.out.st S_;clear con13 P_ S_  P10 S11 G12;go_wp2_with fail
  go_end0
  exact ⟨rfl,v15,P16.out,S17.out⟩
 ·rw [gZ,if_neg hn] at hb ⊢;have Hb:Hid _:=hb;clear hb;have P0:Hid (ax w PB v bs):=hP;have S0:Hid (St PB v w v w):=St.refl _ _ _;have G0:Hid (GP w PB):=hG;clear hP hG;go_enter Tryz.func93,Tryz.ntmps93;have con19:=sD n (by omega) (by omega) (G0.out);go_wp2_with fail
  refine con19.mono ?_;rintro e w20 ⟨rfl,hb21⟩;have P22:Hid (ax w20 PB v bs):=P0.out.next hb21;have S_:St PB v w v w20:=St.of hb21 P0.out.lt;have S23:Hid (St PB v w v w20):=S0.out.trans S_;have G24:Hid (GP w20 PB):=G0.out.st S_;clear con19 S_ hb21  P0 S0 G0;have con25:Calls Tryz.prog 57 #[.pointer (some ⟨PB,0,none⟩),.slice (some ⟨w20.heap.size,0,none⟩) 1 1] (w20.alloc (.cells #[.string (fg n)] 9)) (aC w20 PB v (an bs ([fg n]))):=aW [fg n] P22.out (Hb.out) (by simp);go_wp2_with fail
  refine con25.mono ?_;rintro e w26 ⟨rfl,v27,P_,S_⟩;have P28:Hid (ax w26 PB v27 (an bs ([fg n]))):=P_;have S29:Hid (St PB v w v27 w26):=S23.out.trans S_;have G30:Hid (GP w26 PB):=G24.out.st S_;clear con25 P_ S_  P22 S23 G24;go_wp2_with fail
  go_end0
  exact ⟨rfl,v27,P28.out,S29.out⟩
theorem kT (x:Vl) {PB:Nat} {v:Value} {bs:List UInt8} {w:World} (hG:GP w PB) (hP:ax w PB v bs) (hk1:1≤x.1) (hk4:x.1≤4) (h3:x.1=3 → -1000000000000000≤x.2.1∧x.2.1≤1000000000000000) (h4:x.1=4→x.2.2.size≤60) (hb:(an bs (cF x)).length≤fW):Calls Tryz.prog 95 #[.pointer (some ⟨PB,0,none⟩),.agg #[.int .i64 x.1,.int .i64 x.2.1,.string x.2.2]] w (aC w PB v (an bs (cF x))):=by
 obtain ⟨k,n,s⟩:=x;simp only at hk1 hk4 h3 h4 hb ⊢;rcases (show k=1∨(k=2∧n=1)∨(k=2∧¬ n=1)∨k=3∨k=4 by omega) with hk | ⟨hk,hn1⟩ | ⟨hk,hn1⟩ | hk | hk
 ·subst hk;have ev:cF (1,n,s) = [⟨#[110,117,108,108]⟩]:=rfl;rw [ev] at hb ⊢;clear ev;have Hb:Hid _:=hb;clear hb;have hal:=ab w (.cells #[.int .i64 1,.int .i64 n,.string s] 53);have B0:Hid (Bx (w.alloc (.cells #[.int .i64 1,.int .i64 n,.string s] 53)) PB v w.heap.size #[.int .i64 1,.int .i64 n,.string s] 53):=Bx.new hP #[.int .i64 1,.int .i64 n,.string s] 53;have P0:Hid (ax (w.alloc (.cells #[.int .i64 1,.int .i64 n,.string s] 53)) PB v bs):=hP.next hal
  have S0:Hid (St PB v w v (w.alloc (.cells #[.int .i64 1,.int .i64 n,.string s] 53))):=St.of hal hP.lt;have G0:Hid (GP (w.alloc (.cells #[.int .i64 1,.int .i64 n,.string s] 53)) PB):=hG.nx hal hP.lt;clear hP hG hal;go_enter Tryz.func95,Tryz.ntmps95;go_upto_region 1 with fail
  generalize (w.alloc (.cells #[.int .i64 1,.int .i64 n,.string s] 53))=w0 at *;have f1:w0.cell? ⟨w.heap.size,0,none⟩=some (.int .i64 1):=B0.out.c 0 rfl;have con2:Calls Tryz.prog 57 #[.pointer (some ⟨PB,0,none⟩),.slice (some ⟨w0.heap.size,0,none⟩) 1 1] (w0.alloc (.cells #[.string ⟨#[110,117,108,108]⟩] 9)) (aC w0 PB v (an bs ([⟨#[110,117,108,108]⟩]))):=aW [⟨#[110,117,108,108]⟩] P0.out (Hb.out) (by simp);go_wp2_with fail
  refine con2.mono ?_;rintro e w3 ⟨rfl,v4,P_,S_⟩;have P5:Hid (ax w3 PB v4 (an bs ([⟨#[110,117,108,108]⟩]))):=P_;have S6:Hid (St PB v w v4 w3):=S0.out.trans S_;have G7:Hid (GP w3 PB):=G0.out.st S_;have B8:Hid (Bx w3 PB v4 (w.heap.size) #[.int .i64 1,.int .i64 n,.string s] 53):=B0.out.st S_;clear con2 P_ S_ f1 P0 S0 G0 B0;go_wp2_with fail
  go_end0
  exact ⟨rfl,v4,P5.out,S6.out⟩
 ·subst hk;obtain rfl:n=1:=hn1;have ev:cF (2,1,s) = [⟨#[116,114,117,101]⟩]:=rfl;rw [ev] at hb ⊢;clear ev;have Hb:Hid _:=hb;clear hb;have hal:=ab w (.cells #[.int .i64 2,.int .i64 1,.string s] 53);have B0:Hid (Bx (w.alloc (.cells #[.int .i64 2,.int .i64 1,.string s] 53)) PB v w.heap.size #[.int .i64 2,.int .i64 1,.string s] 53):=Bx.new hP #[.int .i64 2,.int .i64 1,.string s] 53;have P0:Hid (ax (w.alloc (.cells #[.int .i64 2,.int .i64 1,.string s] 53)) PB v bs):=hP.next hal
  have S0:Hid (St PB v w v (w.alloc (.cells #[.int .i64 2,.int .i64 1,.string s] 53))):=St.of hal hP.lt;have G0:Hid (GP (w.alloc (.cells #[.int .i64 2,.int .i64 1,.string s] 53)) PB):=hG.nx hal hP.lt;clear hP hG hal;go_enter Tryz.func95,Tryz.ntmps95;go_upto_region 1 with fail
  generalize (w.alloc (.cells #[.int .i64 2,.int .i64 1,.string s] 53))=w0 at *;have f9:w0.cell? ⟨w.heap.size,0,none⟩=some (.int .i64 2):=B0.out.c 0 rfl;have f10:w0.cell? ⟨w.heap.size,1,none⟩=some (.int .i64 1):=B0.out.c 1 rfl;have con11:=sV true w0;go_wp2_with fail
  refine con11.mono ?_;rintro e w12 ⟨rfl,hb13⟩;have P14:Hid (ax w12 PB v bs):=P0.out.next hb13;have S_:St PB v w0 v w12:=St.of hb13 P0.out.lt;have S15:Hid (St PB v w v w12):=S0.out.trans S_;have G16:Hid (GP w12 PB):=G0.out.st S_;have B17:Hid (Bx w12 PB v (w.heap.size) #[.int .i64 2,.int .i64 1,.string s] 53):=B0.out.st S_;clear con11 S_ hb13 f9 f10 P0 S0 G0 B0
  have con18:Calls Tryz.prog 57 #[.pointer (some ⟨PB,0,none⟩),.slice (some ⟨w12.heap.size,0,none⟩) 1 1] (w12.alloc (.cells #[.string ⟨#[116,114,117,101]⟩] 9)) (aC w12 PB v (an bs ([⟨#[116,114,117,101]⟩]))):=aW [⟨#[116,114,117,101]⟩] P14.out (Hb.out) (by simp);go_wp2_with fail
  refine con18.mono ?_;rintro e w19 ⟨rfl,v20,P_,S_⟩;have P21:Hid (ax w19 PB v20 (an bs ([⟨#[116,114,117,101]⟩]))):=P_;have S22:Hid (St PB v w v20 w19):=S15.out.trans S_;have G23:Hid (GP w19 PB):=G16.out.st S_;have B24:Hid (Bx w19 PB v20 (w.heap.size) #[.int .i64 2,.int .i64 1,.string s] 53):=B17.out.st S_;clear con18 P_ S_  P14 S15 G16 B17;go_wp2_with fail
  go_end0
  exact ⟨rfl,v20,P21.out,S22.out⟩
 ·subst hk;have bn:(n == 1)=false:=by simpa using hn1
  have ev:cF (2,n,s) = [⟨#[102,97,108,115,101]⟩]:=by unfold cF; simp [hn1]
  rw [ev] at hb ⊢;clear ev;have Hb:Hid _:=hb;clear hb;have hal:=ab w (.cells #[.int .i64 2,.int .i64 n,.string s] 53);have B0:Hid (Bx (w.alloc (.cells #[.int .i64 2,.int .i64 n,.string s] 53)) PB v w.heap.size #[.int .i64 2,.int .i64 n,.string s] 53):=Bx.new hP #[.int .i64 2,.int .i64 n,.string s] 53;have P0:Hid (ax (w.alloc (.cells #[.int .i64 2,.int .i64 n,.string s] 53)) PB v bs):=hP.next hal;have S0:Hid (St PB v w v (w.alloc (.cells #[.int .i64 2,.int .i64 n,.string s] 53))):=St.of hal hP.lt
  have G0:Hid (GP (w.alloc (.cells #[.int .i64 2,.int .i64 n,.string s] 53)) PB):=hG.nx hal hP.lt;clear hP hG hal;go_enter Tryz.func95,Tryz.ntmps95;go_upto_region 1 with fail
  generalize (w.alloc (.cells #[.int .i64 2,.int .i64 n,.string s] 53))=w0 at *;have f25:w0.cell? ⟨w.heap.size,0,none⟩=some (.int .i64 2):=B0.out.c 0 rfl;have f26:w0.cell? ⟨w.heap.size,1,none⟩=some (.int .i64 n):=B0.out.c 1 rfl;have con27:=sV false w0;go_wp2_with fail
  refine con27.mono ?_;rintro e w28 ⟨rfl,hb29⟩;have P30:Hid (ax w28 PB v bs):=P0.out.next hb29;have S_:St PB v w0 v w28:=St.of hb29 P0.out.lt;have S31:Hid (St PB v w v w28):=S0.out.trans S_;have G32:Hid (GP w28 PB):=G0.out.st S_;have B33:Hid (Bx w28 PB v (w.heap.size) #[.int .i64 2,.int .i64 n,.string s] 53):=B0.out.st S_;clear con27 S_ hb29 f25 f26 P0 S0 G0 B0
  have con34:Calls Tryz.prog 57 #[.pointer (some ⟨PB,0,none⟩),.slice (some ⟨w28.heap.size,0,none⟩) 1 1] (w28.alloc (.cells #[.string ⟨#[102,97,108,115,101]⟩] 9)) (aC w28 PB v (an bs ([⟨#[102,97,108,115,101]⟩]))):=aW [⟨#[102,97,108,115,101]⟩] P30.out (Hb.out) (by simp);go_wp2_with fail
  refine con34.mono ?_;rintro e w35 ⟨rfl,v36,P_,S_⟩;have P37:Hid (ax w35 PB v36 (an bs ([⟨#[102,97,108,115,101]⟩]))):=P_;have S38:Hid (St PB v w v36 w35):=S31.out.trans S_;have G39:Hid (GP w35 PB):=G32.out.st S_;have B40:Hid (Bx w35 PB v36 (w.heap.size) #[.int .i64 2,.int .i64 n,.string s] 53):=B33.out.st S_;clear con34 P_ S_  P30 S31 G32 B33;go_wp2_with fail
  go_end0
  exact ⟨rfl,v36,P37.out,S38.out⟩
 ·subst hk;have ev:cF (3,n,s)=gZ n:=rfl;rw [ev] at hb ⊢;clear ev;have Hb:Hid _:=hb;clear hb;have hal:=ab w (.cells #[.int .i64 3,.int .i64 n,.string s] 53);have B0:Hid (Bx (w.alloc (.cells #[.int .i64 3,.int .i64 n,.string s] 53)) PB v w.heap.size #[.int .i64 3,.int .i64 n,.string s] 53):=Bx.new hP #[.int .i64 3,.int .i64 n,.string s] 53;have P0:Hid (ax (w.alloc (.cells #[.int .i64 3,.int .i64 n,.string s] 53)) PB v bs):=hP.next hal
  have S0:Hid (St PB v w v (w.alloc (.cells #[.int .i64 3,.int .i64 n,.string s] 53))):=St.of hal hP.lt;have G0:Hid (GP (w.alloc (.cells #[.int .i64 3,.int .i64 n,.string s] 53)) PB):=hG.nx hal hP.lt;clear hP hG hal;go_enter Tryz.func95,Tryz.ntmps95;go_upto_region 1 with fail
  generalize (w.alloc (.cells #[.int .i64 3,.int .i64 n,.string s] 53))=w0 at *;have f41:w0.cell? ⟨w.heap.size,0,none⟩=some (.int .i64 3):=B0.out.c 0 rfl;have f42:w0.cell? ⟨w.heap.size,1,none⟩=some (.int .i64 n):=B0.out.c 1 rfl;have con43:Calls Tryz.prog 93 #[.pointer (some ⟨PB,0,none⟩),.int .i64 n] w0 (aC w0 PB v (an bs (gZ n))):=l7 n (G0.out) (P0.out) (h3 rfl).1 (h3 rfl).2 (Hb.out);go_wp2_with fail
  refine con43.mono ?_;rintro e w44 ⟨rfl,v45,P_,S_⟩;have P46:Hid (ax w44 PB v45 (an bs (gZ n))):=P_;have S47:Hid (St PB v w v45 w44):=S0.out.trans S_;have G48:Hid (GP w44 PB):=G0.out.st S_;have B49:Hid (Bx w44 PB v45 (w.heap.size) #[.int .i64 3,.int .i64 n,.string s] 53):=B0.out.st S_;clear con43 P_ S_ f41 f42 P0 S0 G0 B0;go_wp2_with fail
  go_end0
  exact ⟨rfl,v45,P46.out,S47.out⟩
 ·subst hk;have ev:cF (4,n,s) = [qV s]:=rfl;rw [ev] at hb ⊢;clear ev;have Hb:Hid _:=hb;clear hb;have hal:=ab w (.cells #[.int .i64 4,.int .i64 n,.string s] 53);have B0:Hid (Bx (w.alloc (.cells #[.int .i64 4,.int .i64 n,.string s] 53)) PB v w.heap.size #[.int .i64 4,.int .i64 n,.string s] 53):=Bx.new hP #[.int .i64 4,.int .i64 n,.string s] 53;have P0:Hid (ax (w.alloc (.cells #[.int .i64 4,.int .i64 n,.string s] 53)) PB v bs):=hP.next hal
  have S0:Hid (St PB v w v (w.alloc (.cells #[.int .i64 4,.int .i64 n,.string s] 53))):=St.of hal hP.lt;have G0:Hid (GP (w.alloc (.cells #[.int .i64 4,.int .i64 n,.string s] 53)) PB):=hG.nx hal hP.lt;clear hP hG hal;go_enter Tryz.func95,Tryz.ntmps95;go_upto_region 1 with fail
  generalize (w.alloc (.cells #[.int .i64 4,.int .i64 n,.string s] 53))=w0 at *;have hsz:=h4 rfl;have f50:w0.cell? ⟨w.heap.size,0,none⟩=some (.int .i64 4):=B0.out.c 0 rfl;have f51:w0.cell? ⟨w.heap.size,2,none⟩=some (.string s):=B0.out.c 2 rfl;have con52:=yF s (by omega) (G0.out);go_wp2_with fail
  refine con52.mono ?_;rintro e w53 ⟨rfl,hb54⟩;have P55:Hid (ax w53 PB v bs):=P0.out.next hb54;have S_:St PB v w0 v w53:=St.of hb54 P0.out.lt;have S56:Hid (St PB v w v w53):=S0.out.trans S_;have G57:Hid (GP w53 PB):=G0.out.st S_;have B58:Hid (Bx w53 PB v (w.heap.size) #[.int .i64 4,.int .i64 n,.string s] 53):=B0.out.st S_;clear con52 S_ hb54 f50 f51 P0 S0 G0 B0;have hrl:=sf s;obtain ⟨tx,htx⟩:∃ tx,(⟨(Lib.replaceAll s.data.toList [39] [39,39]).toArray⟩:ByteArray)=tx:=⟨_,rfl⟩
  have HQ:Hid (qV s=⟨#[39]⟩ ++ tx ++ ⟨#[39]⟩):=by show _=_; rw [qV,htx]
  rw [htx] at hrl ⊢;have hrz:(tx.size:Int)≤180:=by omega
  clear htx;rw [HQ.out] at Hb;have con59:Calls Tryz.prog 57 #[.pointer (some ⟨PB,0,none⟩),.slice (some ⟨w53.heap.size,0,none⟩) 1 1] (w53.alloc (.cells #[.string ((⟨#[39]⟩:ByteArray) ++ tx ++ (⟨#[39]⟩:ByteArray))] 9)) (aC w53 PB v (an bs ([(⟨#[39]⟩:ByteArray) ++ tx ++ (⟨#[39]⟩:ByteArray)]))):=aW [(⟨#[39]⟩:ByteArray) ++ tx ++ (⟨#[39]⟩:ByteArray)] P55.out (Hb.out) (by simp);go_wp2_with fail
  refine con59.mono ?_;rintro e w60 ⟨rfl,v61,P_,S_⟩;have P62:Hid (ax w60 PB v61 (an bs ([(⟨#[39]⟩:ByteArray) ++ tx ++ (⟨#[39]⟩:ByteArray)]))):=P_;have S63:Hid (St PB v w v61 w60):=S56.out.trans S_;have G64:Hid (GP w60 PB):=G57.out.st S_;have B65:Hid (Bx w60 PB v61 (w.heap.size) #[.int .i64 4,.int .i64 n,.string s] 53):=B58.out.st S_;clear con59 P_ S_  P55 S56 G57 B58;go_wp2_with fail
  go_end0
  exact ⟨rfl,v61,by rw [HQ.out]; exact P62.out,S63.out⟩
end Go.Proofs.YtoknmnngaackkaaGreatDoor
namespace Go.Proofs.YtoknmnngaackkaaGreatDoor
set_option maxRecDepth 100000
set_option maxHeartbeats 16000000
def ja (v:Vl):Vl:=(v.1,if v.1=2∨v.1=3 then v.2.1 else 0,if v.1=4 then v.2.2 else eB)
mutual
def bY:SX→SX
 | .mk k v t n ks=>.mk k (if k=1 then ja v else (0,0,eB)) (if k=2 then t else eB) (if k=2 then n else eB) (jM ks)
def jM:List SX→List SX
 | []=>[]
 | x :: r=>bY x :: jM r
end
theorem kV:∀ l,jM l=l.map bY
 | []=>by rw [jM]; rfl
 | x :: r=>by rw [jM,kV r]; rfl
end Go.Proofs.YtoknmnngaackkaaGreatDoor
namespace Go.Proofs.YtoknmnngaackkaaGreatDoor
open Go.RowKit Go.Lib Go.Shelf
set_option maxRecDepth 100000
set_option maxHeartbeats 16000000
set_option maxRecDepth 100000
set_option maxHeartbeats 4000000
theorem uX (s:ByteArray) (k:Int) (x:ByteArray) (p:Int) (r:List Tk):bu s ((k,x,p) :: r)=((k == 1 || k == 4) && (x.data.toList == s.data.toList)):=by
 show ((k == 1 || k == 4) && (x.toList == s.toList))=_;rw [Lib.toList_data,Lib.toList_data]
abbrev br (w:ByteArray) (p:Int):Tk:=((wk w).1,(wk w).2,p)
theorem xg (w:ByteArray):(wk w).1=1∨(wk w).1=2∨(wk w).1=3∨(wk w).1=4:=by
 unfold wk
 split
 ·exact .inl rfl
 ·split
  ·exact .inr (.inl rfl)
  ·split
   ·exact .inr (.inr (.inl rfl))
   ·exact .inr (.inr (.inr rfl))
theorem bc (w:ByteArray) (p:Int) (r:List Tk):az (br w p :: r)=r:=by
 have:(wk w).1≠5:=by rcases xg w with h | h | h | h <;> rw [h] <;> decide
 rw [az,if_neg this]
theorem iS (t:Tk) (r:List Tk):cy (t :: r)=t:=rfl
theorem TW.nil {ts:List Tk} (h:TW [] ts):ts = []:=List.map_eq_nil_iff.1 h
theorem TW.cons {w:ByteArray} {ws:List ByteArray} {ts:List Tk} (h:TW (w :: ws) ts):∃ p t',ts=br w p :: t'∧TW ws t':=by
 cases ts with
 | nil=>exact absurd h (by simp [TW])
 | cons t r =>
  have h2:strip t :: r.map strip=wk w :: ws.map wk:=h;injection h2 with e1 e2
  refine ⟨t.2.2,r,?_,e2⟩;obtain ⟨a,b,c⟩:=t;have:(a,b)=wk w:=e1;show (a,b,c) :: r=((wk w).1,(wk w).2,c) :: r;rw [← this]
theorem TW.app {a b:List ByteArray} {ts:List Tk} (h:TW (a ++ b) ts):∃ ta tb,ts=ta ++ tb∧TW a ta∧TW b tb:=by
 have h2:ts.map strip=a.map wk ++ b.map wk:=by rw [← List.map_append]; exact h
 obtain ⟨ta,tb,e,e1,e2⟩:=List.map_eq_append_iff.1 h2;exact ⟨ta,tb,e,e1,e2⟩
theorem fk (s w:ByteArray) (p:Int) (r:List Tk):bu s (br w p :: r)=(((wk w).1 == 1 || (wk w).1 == 4) && ((wk w).2.data.toList == s.data.toList)):=uX _ _ _ _ _
theorem b8 {w:ByteArray} (h:(((wk w).1 == 1 || (wk w).1 == 4) && ((wk w).2.data.toList == w.data.toList))=true) (l:List ByteArray) (p:Int) (r:List Tk):aS (w :: l) (br w p :: r)=aS l r:=by
 rw [aS,fk,if_pos h,bc]
def AA (s:ByteArray):Bool:=bW.contains s.data.toList || !gK (((s.data.toList.headD 0).toNat:Nat):Int)
theorem As (s:ByteArray):(lb s).getD 0 0=(((s.data.toList.headD 0).toNat:Nat):Int):=by
 show (s.data.toList.map _).getD 0 0=_;cases s.data.toList <;> rfl
theorem ig {s:ByteArray} (h:cN s=true):1≤s.size∧s.size≤12∧gK (((s.data.toList.headD 0).toNat:Nat):Int)=true∧rq gd s∧bW.contains s.data.toList=false:=by
 unfold cN at h;simp only [Dx,decide_eq_true_eq,Bool.not_eq_true',As] at h;refine ⟨h.1.1.1.1,h.1.1.1.2,h.1.1.2,?_,?_⟩
 ·intro c hc;have:=h.1.2;unfold lb at this;rw [List.all_map,DE] at this;exact this c hc
 ·have:=h.2;unfold bN at this;rw [Lib.toList_data] at this;rw [Bool.eq_false_iff];intro hc;rw [List.contains_iff_exists_mem_beq] at hc;obtain ⟨k,hk,e⟩:=hc;rw [Bool.eq_false_iff] at this;exact this (List.any_eq_true.2 ⟨k,hk,e⟩)
theorem oG {s:ByteArray} (h:cN s=true):wk s=(1,s):=by unfold wk; rw [if_pos (ig h).2.2.1]
theorem fO {s:ByteArray} (h:cN s=true):GW s:=.word (ig h).2.2.1 (ig h).2.2.2.1
theorem eI {n s:ByteArray} (h:cN n=true) (hs:AA s=true) (p:Int) (r:List Tk):bu s (br n p :: r)=false:=by
 rw [fk,oG h,Bool.and_eq_false_iff];refine .inr ?_;rw [beq_eq_false_iff_ne];intro e;obtain ⟨_,_,h3,_,h5⟩:=ig h;replace e:n.data.toList=s.data.toList:=e;rw [e] at h3 h5;unfold AA at hs;rw [h5,h3] at hs;exact absurd hs (by decide)
theorem fw {n:ByteArray} (h:cN n=true) (p:Int) (r:List Tk):cV (br n p :: r) = .ok (n,r):=by
 have e:=oG h;have h1:(cy (br n p :: r)).1=1:=by rw [iS]; show (wk n).1=1; rw [e]
 have h2:(cy (br n p :: r)).2.1=n:=by rw [iS]; show (wk n).2=n; rw [e]
 rw [cV,if_neg (by rw [h1]; decide),h2,if_neg (by rw [h]; decide),bc]
theorem ln {u:Nat} (h:u<10):Lib.decDigits u = [UInt8.ofNat (48+u)]:=by rw [Lib.decDigits,dif_pos h]
theorem pg {u:Nat} (h:¬ u<10):Lib.decDigits u=Lib.decDigits (u / 10) ++ [UInt8.ofNat (48+u % 10)]:=by rw [Lib.decDigits,dif_neg h]
theorem oK {u:Nat} (h:u<10):(UInt8.ofNat (48+u)).toNat=48+u:=by rw [UInt8.toNat_ofNat']; omega
theorem ze:∀ (u:Nat),∀ c ∈ Lib.decDigits u,fx ((c.toNat:Nat):Int)=true:=by
 intro u
 induction u using Nat.strongRecOn with
 | ind u ih =>
  intro c hc;have one:∀ v,v<10→fx (((UInt8.ofNat (48+v)).toNat:Nat):Int)=true:=by
   intro v hv;rw [oK hv];simp only [fx,Dx,decide_eq_true_eq];omega
  by_cases h:u<10
  ·rw [ln h,DD] at hc;subst hc;exact one u h
  ·rw [pg h] at hc;rcases List.mem_append.1 hc with hc | hc
   ·exact ih _ (by omega) c hc
   ·rw [DD] at hc;subst hc;exact one _ (by omega)
theorem sn:∀ (k u:Nat),1≤k→u<10 ^ k→1≤(Lib.decDigits u).length∧(Lib.decDigits u).length≤k
 | 0,u,h,_=>by omega
 | k+1,u,_,h2=>by
  by_cases h:u<10
  ·rw [ln h]; simp
  ·rw [pg h]
   have hk:1≤k:=by
    cases k with
    | zero=>simp at h2; omega
    | succ k=>omega
   rw [Nat.pow_succ] at h2;have:=sn k (u / 10) hk (by omega);simp; omega
theorem yy:∀ (u:Nat),(Lib.decDigits u).foldl (fun (n:Int) (c:UInt8)=>n*10+(((c.toNat:Nat):Int) - 48)) 0=u:=by
 intro u
 induction u using Nat.strongRecOn with
 | ind u ih =>
  by_cases h:u<10
  ·rw [ln h];show (0:Int)*10+(((UInt8.ofNat (48+u)).toNat:Nat) - 48:Int)=u;rw [oK h]; omega
  ·rw [pg h,List.foldl_append,ih _ (by omega)];show ((u / 10:Nat):Int)*10+(((UInt8.ofNat (48+u % 10)).toNat:Nat) - 48:Int)=u;rw [oK (by omega)]; omega
theorem mf {n:Int} (h:0≤n):(fg n).data.toList=Lib.decDigits n.toNat:=by
 show Lib.itoa n=_;rw [Lib.itoa,if_neg (by omega)]
theorem mc {n:Int} (h:0≤n):cx (fg n)=n:=by
 unfold cx lb;rw [mf h,List.foldl_map,yy];omega
theorem lh {n:Int} (h:0≤n) (h2:n≤1000000000000000):GW (fg n)∧wk (fg n)=(2,fg n):=by
 have hp:(10:Nat) ^ 16=10000000000000000:=by decide
 have hl:=sn 16 n.toNat (by decide) (by omega);have hs:(fg n).size=(Lib.decDigits n.toNat).length:=by rw [← dC,mf h]
 have ha:rq fx (fg n):=by intro c hc; rw [mf h] at hc; exact ze _ c hc
 refine ⟨.num (by omega) (by omega) ha,?_⟩;have hd:fx ((((fg n).data.toList.headD 0).toNat:Nat):Int)=true:=by
  cases e:(fg n).data.toList with
  | nil=>have:=dC (fg n); rw [e] at this; simp at this; omega
  | cons c t=>exact ha c (by rw [e]; simp)
 unfold wk;rw [if_neg (by rw [(oF hd).2]; decide),if_pos hd]
theorem kJ {w:ByteArray} (h:(wk w).1=2∨(wk w).1=3) (s:ByteArray) (p:Int) (r:List Tk):bu s (br w p :: r)=false:=by
 rw [fk];rcases h with h | h <;> rw [h] <;> rfl
theorem kj {n:Int} (h:n<0):gZ n = [⟨#[45]⟩,fg (-n)]:=by unfold gZ; rw [if_pos h]; rfl
theorem km {n:Int} (h:¬ n<0):gZ n = [fg n]:=by unfold gZ; rw [if_neg h]
theorem mJ {n a b:Int} (h1:-1000000000000000≤n) (h2:n≤1000000000000000) (ha:a≤n) (hb:n≤b) {ts:List Tk} (h:TW (gZ n) ts) (rest:List Tk):dp a b (ts ++ rest) = .ok (n,rest):=by
 by_cases hn:n<0
 ·rw [kj hn] at h;replace h:=h.cons;obtain ⟨p,t1,rfl,h⟩:=h;replace h:=h.cons;obtain ⟨q,t2,rfl,h⟩:=h;obtain rfl:=h.nil;obtain ⟨_,hw⟩:=lh (n:=-n) (by omega) (by omega);unfold dp;have hm:bu ⟨#[45]⟩ (br ⟨#[45]⟩ p :: br (fg (-n)) q :: rest)=true:=by rw [fk]; rfl
  simp only [Dw,Ds];rw [hm];simp only [if_true,bc,iS];have e1:(br (fg (-n)) q).1=2:=by show (wk _).1=2; rw [hw]
  have e2:(wk (fg (-n))).2=fg (-n):=by rw [hw]
  rw [if_neg (by rw [e1]; decide),e2,mc (by omega),Int.neg_neg,if_neg (by omega)]
 ·rw [km hn] at h;replace h:=h.cons;obtain ⟨q,t2,rfl,h⟩:=h;obtain rfl:=h.nil;obtain ⟨_,hw⟩:=lh (n:=n) (by omega) (by omega);unfold dp;have hm:bu ⟨#[45]⟩ (br (fg n) q :: rest)=false:=kJ (.inl (by rw [hw])) _ _ _;simp only [Dw,Ds];rw [hm];simp only [De,if_false,bc,iS];have e1:(br (fg n) q).1=2:=by show (wk _).1=2; rw [hw]
  have e2:(wk (fg n)).2=fg n:=by rw [hw]
  rw [if_neg (by rw [e1]; decide),e2,mc (by omega),if_neg (by omega)]
theorem vV {n:Int} (h1:-1000000000000000≤n) (h2:n≤1000000000000000):∀ w ∈ gZ n,GW w:=by
 by_cases hn:n<0
 ·rw [kj hn];intro w hw;rcases List.mem_cons.1 hw with rfl | hw
  ·exact .sign (by decide)
  ·rw [DD] at hw; subst hw; exact (lh (by omega) (by omega)).1
 ·rw [km hn];intro w hw;rw [DD] at hw; subst hw; exact (lh (by omega) (by omega)).1
theorem yw (s:ByteArray):qV s=quo s:=by
 unfold qV quo;rw [qM];apply ByteArray.ext;apply Array.ext';simp
def gC (b:Bool) (w:List ByteArray):Prop:=∃ a r,w=a :: r∧∀ s:ByteArray,(s.data.toList = [42]∨s.data.toList = [100,105,115,116,105,110,99,116]∨(b=true∧s.data.toList = [110,111,116]))→∀ (p:Int) (X:List Tk),bu s (br a p :: X)=false
theorem gC.mono {b:Bool} {w:List ByteArray} (h:gC true w):gC b w:=by
 obtain ⟨a,r,e,h⟩:=h;refine ⟨a,r,e,fun s hs=>h s ?_⟩;rcases hs with hs | hs | ⟨_,hs⟩
 ·exact .inl hs
 ·exact .inr (.inl hs)
 ·exact .inr (.inr ⟨rfl,hs⟩)
theorem gC.app {b:Bool} {w:List ByteArray} (h:gC b w) (v:List ByteArray):gC b (w ++ v):=by
 obtain ⟨a,r,e,h⟩:=h;exact ⟨a,r ++ v,by rw [e]; rfl,h⟩
def At (b:Bool) (a:ByteArray):Bool:=!((wk a).2.data.toList == [42]) && !((wk a).2.data.toList == [100,105,115,116,105,110,99,116]) && (!b || !((wk a).2.data.toList == [110,111,116]))
theorem gC.lit {b : Bool} {a : ByteArray} (h : At b a = true) (r : List ByteArray) : gC b (a :: r) := by
  refine ⟨a, r, rfl, fun s hs p X => ?_⟩
  rw [fk, Bool.and_eq_false_iff]
  unfold At at h
  simp only [Dx, Bool.not_eq_true', Bool.or_eq_true] at h
  rcases hs with hs | hs | ⟨e, hs⟩
  · exact .inr (by rw [hs]; exact h.1.1)
  · exact .inr (by rw [hs]; exact h.1.2)
  · refine .inr (by rw [hs]; rcases h.2 with h | h; · rw [e] at h; cases h
                    · exact h)
theorem gC.two {b:Bool} {a:ByteArray} (h:(wk a).1=2∨(wk a).1=3) (r:List ByteArray):gC b (a :: r):=⟨a,r,rfl,fun s _ p X=>kJ h s p X⟩
theorem gC.name {b:Bool} {a:ByteArray} (h:cN a=true) (r:List ByteArray):gC b (a :: r):=by
 refine ⟨a,r,rfl,fun s hs p X=>eI h ?_ p X⟩;unfold AA;rcases hs with hs | hs | ⟨_,hs⟩ <;> rw [hs] <;> rfl
theorem na {v:Vl} (h:fu v=0):(v.1=1)∨(v.1=2∧(v.2.1=0∨v.2.1=1))∨(v.1=3 ∧ -1000000000000000≤v.2.1∧v.2.1≤1000000000000000)∨(v.1=4∧v.2.2.size≤60):=by
 unfold fu at h;by_cases h1:v.1=1
 ·exact .inl h1
 rw [if_neg h1] at h;by_cases h2:v.1=2
 ·rw [if_pos h2] at h;by_cases hn:v.2.1=0∨v.2.1=1
  ·exact .inr (.inl ⟨h2,hn⟩)
  ·rw [if_neg hn] at h; exact absurd h (by decide)
 rw [if_neg h2] at h;by_cases h3:v.1=3
 ·rw [if_pos h3] at h;by_cases hi:oQ v.2.1=true
  ·simp only [oQ,Dx,decide_eq_true_eq] at hi;exact .inr (.inr (.inl ⟨h3,hi⟩))
  ·rw [if_neg hi] at h; exact absurd h (by decide)
 rw [if_neg h3] at h;by_cases h4:v.1=4
 ·rw [if_pos h4] at h;by_cases hs:v.2.2.size > 60
  ·rw [if_pos hs] at h; exact absurd h (by decide)
  ·exact .inr (.inr (.inr ⟨h4,by omega⟩))
 ·rw [if_neg h4] at h; exact absurd h (by decide)
theorem oB {v:Vl} (h:v.1=1):cF v = [⟨#[110,117,108,108]⟩]∧ja v=(1,0,eB):=by
 unfold cF ja; rw [h]; exact ⟨rfl,rfl⟩
theorem j2 {v:Vl} (h:v.1=2):(v.2.1=0→cF v = [⟨#[102,97,108,115,101]⟩])∧(v.2.1=1→cF v = [⟨#[116,114,117,101]⟩])∧ja v=(2,v.2.1,eB):=by
 unfold cF ja; rw [h];exact ⟨fun e=>by rw [e]; rfl,fun e=>by rw [e]; rfl,rfl⟩
theorem ph {v:Vl} (h:v.1=3):cF v=gZ v.2.1∧ja v=(3,v.2.1,eB):=by
 unfold cF ja; rw [h]; exact ⟨rfl,rfl⟩
theorem oV {v:Vl} (h:v.1=4):cF v = [quo v.2.2]∧ja v=(4,0,v.2.2):=by
 unfold cF ja; rw [h,← yw]; exact ⟨rfl,rfl⟩
theorem nU {v:Vl} (hv:fu v=0) {ts:List Tk} (h:TW (cF v) ts) (rest:List Tk):bU (ts ++ rest) = .ok (ja v,rest)∧dI (ts ++ rest)=true:=by
 rcases na hv with h1 | ⟨h2,hn⟩ | ⟨h3,ha,hb⟩ | ⟨h4,hs⟩
 ·rw [(oB h1).1] at h;rw [(oB h1).2];replace h:=h.cons;obtain ⟨p,t1,rfl,h⟩:=h;obtain rfl:=h.nil;have e:bu ⟨#[110,117,108,108]⟩ (br ⟨#[110,117,108,108]⟩ p :: rest)=true:=by rw [fk]; rfl
  simp only [Dw,Ds];constructor
  ·unfold bU;rw [if_neg (show ¬ (cy (br ⟨#[110,117,108,108]⟩ p :: rest)).1=3 from (by decide:¬ (wk ⟨#[110,117,108,108]⟩).1=3)),if_pos e,bc]
  ·unfold dI;rw [e]; simp
 ·rw [(j2 h2).2.2];rcases hn with e | e
  ·rw [(j2 h2).1 e] at h;rw [e];replace h:=h.cons;obtain ⟨p,t1,rfl,h⟩:=h;obtain rfl:=h.nil;have e1:bu ⟨#[110,117,108,108]⟩ (br ⟨#[102,97,108,115,101]⟩ p :: rest)=false:=by rw [fk]; rfl
   have e2:bu ⟨#[116,114,117,101]⟩ (br ⟨#[102,97,108,115,101]⟩ p :: rest)=false:=by rw [fk]; rfl
   have e3:bu ⟨#[102,97,108,115,101]⟩ (br ⟨#[102,97,108,115,101]⟩ p :: rest)=true:=by rw [fk]; rfl
   show bU (br ⟨#[102,97,108,115,101]⟩ p :: rest)=_∧dI (br ⟨#[102,97,108,115,101]⟩ p :: rest)=_;constructor
   ·unfold bU;rw [if_neg (show ¬ (cy (br ⟨#[102,97,108,115,101]⟩ p :: rest)).1=3 from (by decide:¬ (wk ⟨#[102,97,108,115,101]⟩).1=3)),if_neg (by rw [e1]; decide),if_neg (by rw [e2]; decide),if_pos e3,bc]
   ·unfold dI;rw [e3]; simp
  ·rw [(j2 h2).2.1 e] at h;rw [e];replace h:=h.cons;obtain ⟨p,t1,rfl,h⟩:=h;obtain rfl:=h.nil;have e1:bu ⟨#[110,117,108,108]⟩ (br ⟨#[116,114,117,101]⟩ p :: rest)=false:=by rw [fk]; rfl
   have e2:bu ⟨#[116,114,117,101]⟩ (br ⟨#[116,114,117,101]⟩ p :: rest)=true:=by rw [fk]; rfl
   show bU (br ⟨#[116,114,117,101]⟩ p :: rest)=_∧dI (br ⟨#[116,114,117,101]⟩ p :: rest)=_;constructor
   ·unfold bU;rw [if_neg (show ¬ (cy (br ⟨#[116,114,117,101]⟩ p :: rest)).1=3 from (by decide:¬ (wk ⟨#[116,114,117,101]⟩).1=3)),if_neg (by rw [e1]; decide),if_pos e2,bc]
   ·unfold dI;rw [e2]; simp
 ·rw [(ph h3).1] at h;rw [(ph h3).2];have hN:=mJ ha hb (by omega) (by omega) h rest (a:=-1000000000000000) (b:=1000000000000000);have hnot:(cy (ts ++ rest)).1≠3∧bu ⟨#[110,117,108,108]⟩ (ts ++ rest)=false∧bu ⟨#[116,114,117,101]⟩ (ts ++ rest)=false∧bu ⟨#[102,97,108,115,101]⟩ (ts ++ rest)=false∧dI (ts ++ rest)=true:=by
   by_cases hn:v.2.1<0
   ·rw [kj hn] at h;replace h:=h.cons;obtain ⟨p,t1,rfl,h⟩:=h;simp only [Dw];refine ⟨(by decide:¬ (wk ⟨#[45]⟩).1=3),by rw [fk]; rfl,by rw [fk]; rfl,by rw [fk]; rfl,?_⟩;have e:bu ⟨#[45]⟩ (br ⟨#[45]⟩ p :: (t1 ++ rest))=true:=by rw [fk]; rfl
    unfold dI;rw [e]; simp
   ·rw [km hn] at h;replace h:=h.cons;obtain ⟨p,t1,rfl,h⟩:=h;obtain ⟨_,hw⟩:=lh (n:=v.2.1) (by omega) (by omega);simp only [Dw];refine ⟨by rw [iS]; show (wk _).1≠3; rw [hw]; exact (by decide:¬ (2:Int)=3),kJ (.inl (by rw [hw])) _ _ _,kJ (.inl (by rw [hw])) _ _ _,kJ (.inl (by rw [hw])) _ _ _,?_⟩;unfold dI;rw [iS,show (br (fg v.2.1) p).1=2 from by show (wk _).1=2; rw [hw]];simp
  obtain ⟨q1,q2,q3,q4,q5⟩:=hnot;refine ⟨?_,q5⟩;unfold bU;rw [if_neg q1,if_neg (by rw [q2]; decide),if_neg (by rw [q3]; decide),if_neg (by rw [q4]; decide),bq _ hN]
 ·rw [(oV h4).1] at h;rw [(oV h4).2];replace h:=h.cons;obtain ⟨p,t1,rfl,h⟩:=h;obtain rfl:=h.nil;simp only [Dw,Ds];have e1:(cy (br (quo v.2.2) p :: rest)).1=3:=by rw [iS]; show (wk _).1=3; rw [pj]
  have e2:(cy (br (quo v.2.2) p :: rest)).2.1=v.2.2:=by rw [iS]; show (wk _).2=_; rw [pj]
  constructor
  ·unfold bU;rw [if_pos e1,e2,bc]
  ·unfold dI;rw [e1]; simp
theorem vn {v:Vl} (hv:fu v=0):∀ w ∈ cF v,GW w:=by
 rcases na hv with h1 | ⟨h2,hn⟩ | ⟨h3,ha,hb⟩ | ⟨h4,hs⟩
 ·rw [(oB h1).1];intro w hw;rw [DD] at hw; subst hw; exact .word (by decide) (by unfold rq; decide)
 ·rcases hn with e | e
  ·rw [(j2 h2).1 e];intro w hw;rw [DD] at hw; subst hw;exact .word (by decide) (by unfold rq; decide)
  ·rw [(j2 h2).2.1 e];intro w hw;rw [DD] at hw; subst hw;exact .word (by decide) (by unfold rq; decide)
 ·rw [(ph h3).1]; exact vV ha hb
 ·rw [(oV h4).1];intro w hw;rw [DD] at hw; subst hw; exact .text hs
theorem ye {v:Vl} (hv:fu v=0):gC true (cF v):=by
 rcases na hv with h1 | ⟨h2,hn⟩ | ⟨h3,ha,hb⟩ | ⟨h4,hs⟩
 ·rw [(oB h1).1]; exact gC.lit (by decide) _
 ·rcases hn with e | e
  ·rw [(j2 h2).1 e]; exact gC.lit (by decide) _
  ·rw [(j2 h2).2.1 e]; exact gC.lit (by decide) _
 ·rw [(ph h3).1];by_cases hn:v.2.1<0
  ·rw [kj hn]; exact gC.lit (by decide) _
  ·rw [km hn]; obtain ⟨_,hw⟩:=lh (n:=v.2.1) (by omega) (by omega);exact gC.two (.inl (by rw [hw])) _
 ·rw [(oV h4).1]; exact gC.two (.inr (by rw [pj])) _
def nf (s w:ByteArray):Bool:=((wk w).1 == 1 || (wk w).1 == 4) && ((wk w).2.data.toList == s.data.toList)
theorem aO (s w:ByteArray) (p:Int) (r:List Tk):bu s (br w p :: r)=nf s w:=fk _ _ _ _
def sb (l:Int) (r:List Tk):Prop:=(∀ j,l≤j→(bT j r).1=0)∧bu ⟨#[46]⟩ r=false∧(l≤4→bu ⟨#[105,115]⟩ r=false)
theorem sb.mono {l m:Int} {r:List Tk} (h:sb l r) (hl:l≤m):sb m r:=⟨fun j hj=>h.1 j (by omega),h.2.1,fun e=>h.2.2 (by omega)⟩
theorem j0 (j:Int) (ts:List Tk):∀ l:List (Int × ByteArray × Int),(∀ i ∈ l,bu i.2.1 ts=false)→(cU j ts l).1=0
 | [],_=>rfl
 | i :: l,h=>by
  rw [cU,if_neg (by rw [h i (by simp)]; simp)]
  exact j0 j ts l fun i hi=>h i (by simp [hi])
theorem oy {ts:List Tk} {k L:Int} (j:Int):∀ (l:List (Int × ByteArray × Int)),(∀ i ∈ l,bu i.2.1 ts=(i.1 == k))→(∀ i ∈ l,i.1=k→i.2.2=L)→(j≠L→(cU j ts l).1=0)∧((∃ i ∈ l,i.1=k)→cU L ts l=(k,az ts))
 | [],_,_=>⟨fun _=>rfl,fun ⟨i,hi,_⟩=>absurd hi (by simp)⟩
 | i :: l,h,hL=>by
  obtain ⟨q1,q2⟩:=oy j l (fun i hi=>h i (by simp [hi])) (fun i hi=>hL i (by simp [hi]))
  have hi:=h i (by simp)
  have hLi:=hL i (by simp)
  by_cases e:i.1=k
  ·have hp:bu i.2.1 ts=true:=by rw [hi,e]; simp
   refine ⟨fun hj=>?_,fun _=>?_⟩
   ·rw [cU,if_neg (by rw [hLi e]; intro c; exact hj c.1.symm)]
    exact q1 hj
   ·rw [cU,if_pos ⟨hLi e,hp⟩,e]
  ·have hp:bu i.2.1 ts=false:=by rw [hi,beq_eq_false_iff_ne]; exact e
   refine ⟨fun hj=>?_,fun ⟨x,hx,ex⟩=>?_⟩
   ·rw [cU,if_neg (by rw [hp]; simp)]
    exact q1 hj
   ·rw [cU,if_neg (by rw [hp]; simp)]
    rcases List.mem_cons.1 hx with rfl | hx
    ·exact absurd ex e
    ·exact q2 ⟨x,hx,ex⟩
def mX (w:ByteArray):Bool:=cJ.all (fun i=>!nf i.2.1 w) && !nf ⟨#[46]⟩ w && !nf ⟨#[105,115]⟩ w
theorem kh {w:ByteArray} (h:mX w=true) (l p:Int) (r:List Tk):sb l (br w p :: r):=by
 unfold mX at h;simp only [Dx,Bool.not_eq_true',DE] at h;refine ⟨fun j _=>j0 j _ _ fun i hi=>?_,?_,fun _=>?_⟩
 ·rw [aO]; exact h.1.1 i hi
 ·rw [aO]; exact h.1.2
 ·rw [aO]; exact h.2
theorem Ax (p:Int) (r:List Tk):sb 5 (br ⟨#[105,115]⟩ p :: r):=by
 have h:cJ.all (fun i=>!nf i.2.1 ⟨#[105,115]⟩)=true:=by decide
 simp only [DE,Bool.not_eq_true'] at h;refine ⟨fun j _=>j0 j _ _ fun i hi=>?_,?_,fun e=>absurd e (by decide)⟩
 ·rw [aO]; exact h i hi
 ·rw [aO]; decide
def Bo (i:Int × ByteArray × Int):Bool:=cJ.all (fun x=>nf x.2.1 i.2.1 == (x.1 == i.1)) && cJ.all (fun x=>!(x.1 == i.1) || (x.2.2 == i.2.2)) && !nf ⟨#[46]⟩ i.2.1 && !nf ⟨#[105,115]⟩ i.2.1 && (gB.contains i.2.1.data.toList || gK (((i.2.1.data.toList.headD 0).toNat:Nat):Int) && i.2.1.data.toList.all (fun c=>gd ((c.toNat:Nat):Int))) && decide (i.1≠0)
theorem xS:cJ.all Bo=true:=by decide
structure uE (k:Int):Prop where
 mem:dS k ∈ cJ
 id:(dS k).1=k
 ne:k≠0
theorem pr {k:Int} (hk:k≠0):∀ l:List (Int × ByteArray × Int),(iD k l).1=k→iD k l ∈ l
 | [],h=>absurd h.symm hk
 | i :: r,h=>by
  rw [iD] at h ⊢
  by_cases e:i.1=k
  ·rw [if_pos e]; simp
  ·rw [if_neg e] at h ⊢
   exact DP _ (pr hk r h)
theorem si {k:Int} (h:4≤k∧k≤15):uE k:=by
 have:k=4∨k=5∨k=6∨k=7∨k=8∨k=9∨k=10∨k=11∨k=12∨k=13∨k=14∨k=15:=by omega
 rcases this with rfl | rfl | rfl | rfl | rfl | rfl | rfl | rfl | rfl | rfl | rfl | rfl
 all_goals exact ⟨pr (by decide) cJ rfl,rfl,by decide⟩
theorem uE.yT {k:Int} (h:uE k) {l:Int} (hl:(dS k).2.2<l) (p:Int) (r:List Tk):sb l (br (dS k).2.1 p :: r)∧bT (dS k).2.2 (br (dS k).2.1 p :: r)=(k,r)∧GW (dS k).2.1∧bu ⟨#[105,115]⟩ (br (dS k).2.1 p :: r)=false:=by
 have hb:=List.all_eq_true.1 xS _ h.mem;unfold Bo at hb;simp only [Dx,Bool.not_eq_true',DE,beq_iff_eq,Bool.or_eq_true] at hb;obtain ⟨⟨⟨⟨⟨h1,h2⟩,h3⟩,h4⟩,h5⟩,h6⟩:=hb;have hone:=oy (ts:=br (dS k).2.1 p :: r) (k:=k) (L:=(dS k).2.2);have ha:∀ i ∈ cJ,bu i.2.1 (br (dS k).2.1 p :: r)=(i.1 == k):=by
  intro i hi;rw [aO,h1 i hi,h.id]
 have hb2:∀ i ∈ cJ,i.1=k→i.2.2=(dS k).2.2:=by
  intro i hi e;rcases h2 i hi with q | q
  ·rw [beq_eq_false_iff_ne,h.id] at q; exact absurd e q
  ·exact q
 refine ⟨⟨fun j hj=>(hone j cJ ha hb2).1 (by omega),by rw [aO]; exact h3,fun _=>by rw [aO]; exact h4⟩,?_,?_,by rw [aO]; exact h4⟩
 ·have:=(hone 0 cJ ha hb2).2 ⟨_,h.mem,h.id⟩;rw [bc] at this;exact this
 ·rcases h5 with h5 | h5
  ·exact .sign (by simpa using h5)
  ·exact .word h5.1 fun c hc=>h5.2 c hc
theorem gC.tw {b:Bool} {w:List ByteArray} (h:gC b w) {ts:List Tk} (ht:TW w ts) {s:ByteArray} (hs:s.data.toList = [42]∨s.data.toList = [100,105,115,116,105,110,99,116]∨(b=true∧s.data.toList = [110,111,116])) (rest:List Tk):bu s (ts ++ rest)=false:=by
 obtain ⟨a,r,rfl,hf⟩:=h;obtain ⟨p,t1,rfl,_⟩:=ht.cons;exact hf s hs p _
def gj (F:Nat) (D:Int) (w:List ByteArray) (X:SX):Prop:=∀ (n:Nat) (o:Int) (ts rest:List Tk),TW w ts→sb 8 rest→o+D≤100→F≤n→cE n o (ts ++ rest) = .ok (X,rest)
def jr (l:Int) (F:Nat) (D:Int) (w:List ByteArray) (X:SX):Prop:=∀ (n:Nat) (o:Int) (ts rest:List Tk),TW w ts→sb l rest→o+D≤100→F≤n→dG n l o (ts ++ rest) = .ok (X,rest)
def dJ (l:Int) (F:Nat) (D:Int) (w:List ByteArray) (X:SX):Prop:=∀ (n:Nat) (o:Int) (ts rest:List Tk),TW w ts→sb (l+1) rest→o+D≤100→F≤n→∃ m,n≤m+F∧b9 n l o (ts ++ rest)=gE m l o X rest
def pF (F:Nat) (D:Int) (w:List ByteArray) (X:SX):Prop:=∀ (n:Nat) (o:Int) (ts rest:List Tk),TW w ts→sb 4 rest→o+D≤100→F≤n→cO n o (ts ++ rest) = .ok (X,rest)
def mh (F:Nat) (D:Int) (w:List ByteArray) (X:SX):Prop:=∀ (n:Nat) (o:Int) (ts rest:List Tk),TW w ts→sb 1 rest→o+D≤100→F≤n→cY n o (ts ++ rest) = .ok (X,rest)
section
variable {F G:Nat} {D E:Int} {w:List ByteArray} {X:SX} {l:Int}
theorem jr.mono (h:jr l F D w X) (hF:F≤G) (hD:D≤E):jr l G E w X:=fun n o ts rest ht hf ho hn=>h n o ts rest ht hf (by omega) (by omega)
theorem dJ.mono (h:dJ l F D w X) (hF:F≤G) (hD:D≤E):dJ l G E w X:=fun n o ts rest ht hf ho hn=>by
 obtain ⟨m,h1,h2⟩:=h n o ts rest ht hf (by omega) (by omega)
 exact ⟨m,by omega,h2⟩
theorem Cr (h:gj F D w X):jr 8 (F+1) D w X:=by
 intro n o ts rest ht hf ho hn;obtain ⟨m,rfl⟩:∃ m,n=m+1:=⟨n - 1,by omega⟩
 rw [dG,if_neg (by decide),if_pos rfl];exact h m o ts rest ht hf ho (by omega)
theorem nb (h:jr (l+1) F D w X):dJ l (F+1) D w X:=by
 intro n o ts rest ht hf ho hn;obtain ⟨m,rfl⟩:∃ m,n=m+1:=⟨n - 1,by omega⟩
 refine ⟨m,by omega,?_⟩;rw [b9,bq _ (h m o ts rest ht hf ho (by omega))]
theorem dJ.done (h:dJ l F D w X) (n:Nat) (o:Int) (ts rest:List Tk) (ht:TW w ts) (hf:sb l rest) (ho:o+D≤100) (hn:F+1≤n):b9 n l o (ts ++ rest) = .ok (X,rest):=by
 obtain ⟨m,hm,e⟩:=h n o ts rest ht (hf.mono (by omega)) ho (by omega);obtain ⟨m,rfl⟩:∃ k,m=k+1:=⟨m - 1,by omega⟩
 rw [e,gE,if_pos (hf.1 l (Dp _))]
theorem mL (h3:l≠3) (h8:l≠8) (h:dJ l F D w X):jr l (F+2) D w X:=by
 intro n o ts rest ht hf ho hn;obtain ⟨m,rfl⟩:∃ m,n=m+1:=⟨n - 1,by omega⟩
 rw [dG,if_neg h3,if_neg h8];exact h.done m o ts rest ht hf ho (by omega)
theorem Aw (h:dJ 5 F D w X):pF (F+2) D w X:=by
 intro n o ts rest ht hf ho hn;obtain ⟨m,rfl⟩:∃ m,n=m+1:=⟨n - 1,by omega⟩
 rw [cO,bq _ (h.done m o ts rest ht (hf.mono (by decide)) ho (by omega)),if_neg (by rw [hf.2.2 (by decide)]; decide),if_pos (hf.1 4 (by decide))]
theorem Cs (h:pF F D w X) (hw:gC true w):jr 3 (F+2) D w X:=by
 intro n o ts rest ht hf ho hn;obtain ⟨m,rfl⟩:∃ m,n=m+2:=⟨n - 2,by omega⟩
 rw [dG,if_pos rfl,dz,if_neg (by rw [hw.tw ht (.inr (.inr ⟨rfl,rfl⟩))]; decide)];exact h m o ts rest ht (hf.mono (by decide)) ho (by omega)
structure nt (L:Int) (F:Nat) (D:Int) (w:List ByteArray) (X:SX):Prop where
 A9:∀ l,(l=1∨l=2∨l=3∨l=5∨l=6∨l=7∨l=8)→l≤L→jr l F D w X
 zn:∀ l,(l=1∨l=2∨l=5∨l=6∨l=7)→l≤L→dJ l F D w X
theorem nt.mono {M L:Int} (h:nt L F D w X) (hM:M≤L) (hF:F≤G) (hD:D≤E):nt M G E w X :=
 ⟨fun l hl hle=>(h.A9 l hl (by omega)).mono hF hD,fun l hl hle=>(h.zn l hl (by omega)).mono hF hD⟩
theorem nt.up {L:Int} (h:nt L F D w X) (h1:jr (L+1) F D w X) (h2:(L+1=1∨L+1=2∨L+1=5∨L+1=6∨L+1=7)→dJ (L+1) F D w X):nt (L+1) F D w X:=by
 refine ⟨fun l hl hle=>?_,fun l hl hle=>?_⟩
 ·by_cases e:l=L+1
  ·subst e; exact h1
  ·exact h.A9 l hl (by omega)
 ·by_cases e:l=L+1
  ·subst e; exact h2 hl
  ·exact h.zn l hl (by omega)
theorem A3 (h:dJ 1 F D w X):nt 1 (F+2) D w X:=by
 refine ⟨fun l hl hle=>?_,fun l hl hle=>?_⟩
 ·obtain rfl:l=1:=by omega
  exact mL (by decide) (by decide) h
 ·obtain rfl:l=1:=by omega
  exact h.mono (by omega) (Dp _)
theorem Bq (h:dJ 2 F D w X):nt 2 (F+5) D w X :=
 have h2:=mL (by decide) (by decide) h
 ((A3 (nb (l:=1) h2)).mono (Dp _) (by omega) (Dp _)).up (h2.mono (by omega) (Dp _)) (fun _=>h.mono (by omega) (Dp _))
theorem A0 (h:jr 3 F D w X):nt 3 (F+6) D w X :=
 ((Bq (nb (l:=2) h)).mono (Dp _) (by omega) (Dp _)).up (h.mono (by omega) (Dp _)) (fun c=>absurd c (by decide))
theorem zQ (h:pF F D w X) (hw:gC true w):nt 4 (F+8) D w X:=by
 have:=A0 (Cs h hw);refine ⟨fun l hl hle=>this.A9 l hl (by omega),fun l hl hle=>this.zn l hl (by omega)⟩
theorem Bf (h:dJ 5 F D w X) (hw:gC true w):nt 5 (F+10) D w X :=
 ((zQ (Aw h) hw).mono (Dp _) (by omega) (Dp _)).up ((mL (by decide) (by decide) h).mono (by omega) (Dp _)) (fun _=>h.mono (by omega) (Dp _))
theorem AT (h:dJ 6 F D w X) (hw:gC true w):nt 6 (F+13) D w X :=
 have h2:=mL (by decide) (by decide) h
 ((Bf (nb (l:=5) h2) hw).mono (Dp _) (by omega) (Dp _)).up (h2.mono (by omega) (Dp _)) (fun _=>h.mono (by omega) (Dp _))
theorem Ba (h:dJ 7 F D w X) (hw:gC true w):nt 7 (F+16) D w X :=
 have h2:=mL (by decide) (by decide) h
 ((AT (nb (l:=6) h2) hw).mono (Dp _) (by omega) (Dp _)).up (h2.mono (by omega) (Dp _)) (fun _=>h.mono (by omega) (Dp _))
theorem Bn (h:gj F D w X) (hw:gC true w):nt 8 (F+18) D w X :=
 have h2:=Cr h
 ((Ba (nb (l:=7) h2) hw).mono (Dp _) (by omega) (Dp _)).up (h2.mono (by omega) (Dp _)) (fun c=>absurd c (by decide))
theorem uJ (h:dJ 1 F D w X) (hD:0≤D):mh (F+2) (D+1) w X:=by
 intro n o ts rest ht hf ho hn;obtain ⟨m,rfl⟩:∃ m,n=m+1:=⟨n - 1,by omega⟩
 rw [cY,if_neg (by omega)];exact h.done m (o+1) ts rest ht hf (by omega) (by omega)
theorem nt.expr {L:Int} (h:nt L F D w X) (hL:1≤L) (hD:0≤D):mh (F+2) (D+1) w X:=uJ (h.zn 1 (.inl rfl) hL) hD
end
theorem fG (w:ByteArray) (p:Int) (r:List Tk):dI (br w p :: r)=((wk w).1 == 2 || (wk w).1 == 3 || nf ⟨#[45]⟩ w || nf ⟨#[110,117,108,108]⟩ w || nf ⟨#[116,114,117,101]⟩ w || nf ⟨#[102,97,108,115,101]⟩ w):=by
 unfold dI;rw [aO,aO,aO,aO];rfl
theorem qj {n:ByteArray} (h:cN n=true) (p:Int) (r:List Tk):dI (br n p :: r)=false:=by
 unfold dI
 rw [eI h rfl,eI h rfl,eI h rfl,eI h rfl,iS]
 show ((wk n).1 == 2 || (wk n).1 == 3 || _ || _ || _ || _)=_
 rw [oG h]; rfl
section
variable {F:Nat} {D:Int} {w:List ByteArray} {X:SX}
theorem tV {v:Vl} (hv:fu v=0):gj 1 0 (cF v) (.mk 1 (ja v) eB eB []):=by
 intro n o ts rest ht hf ho hn;obtain ⟨m,rfl⟩:∃ m,n=m+1:=⟨n - 1,by omega⟩
 obtain ⟨h1,h2⟩:=nU hv ht rest;rw [cE,if_pos h2,bq _ h1]
theorem l6 {n:ByteArray} (h:cN n=true) (m:Nat) (o p:Int) (r:List Tk):cE (m+1) o (br n p :: r)=dP (br n p :: r):=by
 rw [cE,if_neg (by rw [qj h]; decide),if_neg (by rw [eI h rfl]; decide),if_neg (by rw [eI h rfl]; decide),if_neg (by rw [eI h rfl]; decide),if_neg (by rw [eI h rfl]; decide),if_neg (by rw [eI h rfl]; decide),if_neg (by rw [eI h rfl]; decide),if_neg (by rw [eI h rfl]; decide)]
theorem fM {n:ByteArray} (h:dB n=0):cN n=true:=by
 unfold dB at h;by_cases e:cN n=true
 ·exact e
 ·rw [if_neg e] at h; exact absurd h (by decide)
theorem js {t:ByteArray} (h:cM t=0):t=eB∨(t.size≠0∧cN t=true):=by
 unfold cM at h;by_cases e:t.size=0
 ·left;apply ByteArray.ext;apply Array.ext';have:=dC t;rw [e] at this;exact List.length_eq_zero_iff.1 this
 ·right;refine ⟨e,?_⟩;by_cases z:t.toList.isEmpty=true
  ·rw [Lib.toList_data,List.isEmpty_iff] at z;have:=dC t;rw [z] at this;exact absurd this.symm e
  ·rw [if_neg z] at h; exact fM h
theorem tN {t n:ByteArray} (hn:dB n=0) (ht:cM t=0):gj 1 0 (j1 t n) (.mk 2 v0 t n []):=by
 intro f o ts rest hts hf ho hF;obtain ⟨m,rfl⟩:∃ m,f=m+1:=⟨f - 1,by omega⟩
 have hnm:=fM hn;unfold j1 at hts;rcases js ht with rfl | ⟨e,htm⟩
 ·rw [if_pos (show eB.size=0 from rfl)] at hts;replace hts:=hts.cons;obtain ⟨p,t1,rfl,hts⟩:=hts;obtain rfl:=hts.nil;show cE (m+1) o (br n p :: rest)=_;rw [l6 hnm,dP,bq _ (fw hnm p rest),if_neg (by rw [hf.2.1]; decide)]
 ·rw [if_neg e] at hts;replace hts:=hts.cons;obtain ⟨p,t1,rfl,hts⟩:=hts;replace hts:=TW.cons (w:=⟨#[46]⟩) (ws:=[n]) hts;obtain ⟨q,t2,rfl,hts⟩:=hts;replace hts:=hts.cons;obtain ⟨u,t3,rfl,hts⟩:=hts;obtain rfl:=hts.nil;show cE (m+1) o (br t p :: br ⟨#[46]⟩ q :: br n u :: rest)=_;rw [l6 htm,dP,bq _ (fw htm p _),if_pos (by rw [aO]; decide),bc,bq _ (fw hnm u rest)]
theorem pV (h:mh F D w X):gj (F+1) D ([⟨#[40]⟩] ++ w ++ [⟨#[41]⟩]) X:=by
 intro n o ts rest ht hf ho hn;obtain ⟨m,rfl⟩:∃ m,n=m+1:=⟨n - 1,by omega⟩
 change TW (⟨#[40]⟩ :: (w ++ [⟨#[41]⟩])) ts at ht;replace ht:=ht.cons;obtain ⟨p,t1,rfl,ht⟩:=ht;replace ht:=ht.app;obtain ⟨ta,tb,rfl,ha,hb⟩:=ht;replace hb:=hb.cons;obtain ⟨q,t2,rfl,hb⟩:=hb;obtain rfl:=hb.nil;show cE (m+1) o (br ⟨#[40]⟩ p :: (ta ++ [br ⟨#[41]⟩ q] ++ rest))=_;rw [Dc,cE,if_neg (by rw [fG]; decide),if_pos (by rw [aO]; decide),bc];show bf (cY m o (ta ++ (br ⟨#[41]⟩ q :: rest))) _=_;rw [bq _ (h m o ta _ ha (kh (by decide) _ _ _) ho (by omega)),b8 (by decide)];rfl
theorem gU (h:mh F D w X) {s:ByteArray} (hs:mX s=true) (hm:nf s s=true) {n:Nat} {o:Int} (l:List ByteArray) (acc:List SX) {ta:List Tk} (ha:TW w ta) (p:Int) (r:List Tk) (ho:o+D≤100) (hn:F≤n):dA (n+1) o (s :: l) acc (ta ++ (br s p :: r))=dA n o l (acc ++ [X]) r:=by
 rw [dA,bq _ (h n o ta _ ha (kh hs _ _ _) ho hn),b8 hm];rfl
theorem n7 {n:Nat} (hn:1≤n) (o:Int) (acc:List SX) (r:List Tk):dA n o [] acc r = .ok (acc,r):=by
 obtain ⟨m,rfl⟩:∃ m,n=m+1:=⟨n - 1,by omega⟩
 rw [dA]
end
end Go.Proofs.YtoknmnngaackkaaGreatDoor
