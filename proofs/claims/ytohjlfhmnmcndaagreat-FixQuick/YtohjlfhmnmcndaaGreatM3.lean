/- Together: Z9, ZA, ZB, ZC, ZE, J2, J3, E1, S1. -/
import Derived.Shelf.SlSortCmp.NoneTotal
import Derived.Shelf.Spec.SlicesGrow
import Derived.Ground.Names8Prog
import Derived.Laws.AppendOwnNone
import Derived.Sort.LotA
import Derived.Sort.WalkA
import Derived.Shelf.SlSortCmp.Insertion
import Derived.Test.YtohjlfhmnmcndaaGreatM2
import Derived.Test.YtohjlfhmnmcndaaGreatM0
namespace Go.Proofs.YtohjlfhmnmcndaaGreat
open Go.RowKit Go.Lib Go.Shelf
set_option maxRecDepth 100000
set_option maxHeartbeats 16000000
def mI (z:List Zp):Bool:=z.any fun x=>!hJ x.2
def aH (l:List Zp):Int:=if mI (canon l)=true then 3 else if 400<(canon l).length then 5 else 0
def bg (l:List Zp):List Zp:=if aH l=0 then canon l else []
theorem nD (z:List Zp):mI (aR (fun w=>w) z)=mI z:=by
 induction z with
 | nil=>rfl
 | cons x r ih =>
  unfold mI at ih ⊢;rw [aR]
  split
  ·rename_i h0
   rw [ih,List.any_cons,h0];simp [hJ]
  ·rw [List.any_cons,ih,List.any_cons]
theorem JW {z:List Zp} {k:Nat} (hk:k<z.length) (h:hJ z[k].2=false):mI z=true:=by
 unfold mI;rw [List.any_eq_true];exact ⟨z[k],Ns hk,by simp [h]⟩
theorem xq {z:List Zp} (h:∀ j (hj:j<z.length),hJ z[j].2=true):mI z=false:=by
 unfold mI;rw [List.any_eq_false];intro x hx;obtain ⟨j,hj,rfl⟩:=Ov hx;simp [h j hj]
theorem dM (base:Nat) (W:World):bZ base W (.slice none 0 0) []:=⟨[],NP _ _ _ _,rfl,fun i hi=>by simp at hi⟩
theorem MU:∀ args w,(callFunc 93 args).run Tryz.prog w = .ok (.enter 93 args) w:=enters_of Tryz.func93 (by kernel_rfl) rfl
theorem Kk (w:World):vx 93 #[] (fun w=>w) w:=by
 intro x W _ _;show Calls Tryz.prog 93 #[.int .i64 x] W _;go_enter Tryz.func93,Tryz.ntmps93;go_wp2
 go_ret;exact ⟨rfl,Nk _ _⟩
def wQ (l:List Zp) (w:World) (e:Ending) (w':World):Prop :=
 ∃ s a' c',e = .returned (.slice a' (bR s).length c')∧s.Perm l∧(s.Pairwise fun x y=>aG x.1 y.1≤0)∧aL w' a' (bR s)∧Below w.heap.size w w'
theorem xB (a:Option Addr) (cap:Nat) (l:List Zp) (w:World) (hsum:Calls Tryz.prog 91 #[.slice a l.length cap] w (wQ l w)) (hl:l.length≤200000) (h8:∀ x ∈ l,x.1.length≤8) :
  Calls Tryz.prog 66 #[.slice a l.length cap] w fun e w'=>∃ v,e = .returned (.tuple #[v,.int .i64 (aH l)])∧bZ w.heap.size w' v (bg l)∧Below w.heap.size w w':=by
 go_enter Tryz.func66,Tryz.ntmps66;go_wp2_with fail
 refine hsum.mono ?_;clear hsum;rintro e w1 ⟨s,a1,c1,rfl,hp,hs,z1,hb1⟩;have hcan:=wZ hp hs;have hm:=uL s hs;have hlen:=qy s;rw [hp.length_eq] at hlen;have h81:∀ y ∈ bR s,y.1.length≤8:=by
  intro y hy;obtain ⟨x,hx,e⟩:=hm.row y hy;rw [e];exact h8 x (hp.mem_iff.1 hx)
 have HCan:Hid (aR (fun w=>w) (bR s)=canon l):=hcan;clear hcan hm hp hs h8;generalize bR s=m at *;go_wp2_with fail
 go_loopw [12] (fun i wr=>∃ k:Nat,k≤m.length∧i = .int .i64 k∧Hid (∀ j (hj:j<m.length),j<k→hJ m[j].2=true)∧Below w1.heap.size w1 wr) (fun i _=>m.length - (intOf i).toNat)
 case atStart=>exact ⟨0,Nr _,rfl,fun j _ hj=>absurd hj (N7 _),Nk _ _⟩
 case round =>
  obtain ⟨k,hk,rfl,HI,hb⟩:=hrel;have hz:=hb.size;by_cases hlt:k<m.length
  ·obtain ⟨b,off,rfl,hbl,d1,ar,cr,d0,sr⟩:=(z1.next hb).elem hlt;cases hin:hJ m[k].2
   ·have HO:Hid (hJ m[k].2=false):=hin;have he:Hid (aH l=3):=by
     show aH l=3;unfold aH;rw [← HCan.out,nD,if_pos (JW hlt hin)]
    clear hin;go_wp2_with fail
    refine (fj _ _).mono ?_;rintro e w2 ⟨rfl,rfl⟩;rw [HO.out];go_wp2_with fail
    refine Nl (v:=.tuple #[.slice none 0 0,.int .i64 3]) (by simp [results,Tryz.results66,go_sem]) rfl ⟨_,by rw [he.out],?_,(bS hb1 hb).alloc (by have:=hb1.size; omega) _⟩;have hgz:bg l = []:=by unfold bg; rw [he.out]; rfl
    rw [hgz];exact dM _ _
   ·have HO:Hid (hJ m[k].2=true):=hin;clear hin;go_wp2_with fail
    refine (fj _ _).mono ?_;rintro e w2 ⟨rfl,rfl⟩;rw [HO.out];go_wp2
    go_roundw
    case rel=>exact ⟨k+1,by omega,by go_num,fun j hj hjk=>by
     by_cases e:j=k
     ·subst e; exact HO.out
     ·exact HI.out j hj (by omega),hb.alloc hz _⟩
    case measure=>simp [intOf]; omega
  ·have e:k=m.length:=by omega
   subst e;have hall:∀ x ∈ m,hJ x.2=true:=by
    intro x hx;obtain ⟨j,hj,rfl⟩:=Ov hx;exact HI.out j hj hj
   have ho:mI (canon l)=false:=by
    rw [← HCan.out,nD];exact xq fun j hj=>HI.out j hj hj
   go_wp2_with fail
   refine (nC 93 #[] (fun w=>w) a1 c1 m wr (z1.next hb) MU (Kk _) (by omega) h81 hall).mono ?_;rintro e w3 ⟨v,rfl,O3,hb3⟩;rw [HCan.out] at O3;have hb3':=bS (bS hb1 hb) hb3;have O3':=O3.mono (Nw hb1.size hb.size);obtain ⟨a3,c3,rfl,z3⟩:=O3.zs;by_cases h4:400<(canon l).length
   ·have he:Hid (aH l=5):=by
     show aH l=5;unfold aH;rw [ho,if_neg (by decide),if_pos h4]
    go_wp2_with fail
    refine Nl (v:=.tuple #[.slice none 0 0,.int .i64 5]) (by simp [results,Tryz.results66,go_sem]) rfl ⟨_,by rw [he.out],?_,hb3'⟩;have hgz:bg l = []:=by unfold bg; rw [he.out]; rfl
    rw [hgz];exact dM _ _
   ·have he:Hid (aH l=0):=by
     show aH l=0;unfold aH;rw [ho,if_neg (by decide),if_neg h4]
    go_wp2_with fail
    refine Nl (v:=.tuple #[.slice a3 (canon l).length c3,.int .i64 0]) (by simp [results,Tryz.results66,go_sem]) rfl ⟨_,by rw [he.out],?_,hb3'⟩;have hgz:bg l=canon l:=by unfold bg; rw [he.out]; rfl
    rw [hgz];exact O3'
theorem EW (p:Option Addr) (cap:Nat) (fv:Value) (w:World):Calls Tryz.prog 116 #[.slice p 0 cap,fv] w fun e w'=>e = .returned (.tuple #[])∧w'=w :=
 AnyF.slices_SortFunc_none Tryz.sortZ p cap fv w
theorem yP (a:Option Addr) (cap:Nat) (w:World):Calls Tryz.prog 91 #[.slice a 0 cap] w (wQ [] w):=by
 unfold wQ;go_enter Tryz.func91,Tryz.ntmps91;go_wp2_with fail
 refine (yw a cap [] w #[] rfl (by simp) (.inl rfl)).mono ?_;rintro e w1 ⟨v,rfl,hown,hb1⟩;obtain ⟨a1,c1,rfl⟩:=my hown;simp only [OV];go_wp2_with fail
 refine (EW _ _ _ _).mono ?_;rintro e w2 ⟨rfl,rfl⟩;go_wp2_with fail
 refine wp_loop_rounds 1 ?_;rw [OZ];go_wp2
 go_ret;exact ⟨[],none,0,rfl,List.Perm.refl _,List.Pairwise.nil,⟨by simp [bR],.inl rfl⟩,hb1⟩
theorem Ea (a:Option Addr) (cap:Nat) (l:List Zp) (w:World) (h:aL w a l) (hl:l.length≤200000) (hw:∀ x ∈ l,uh x.2=true) :
  Calls Tryz.prog 91 #[.slice a l.length cap] w (wQ l w):=by
 by_cases hn:0<l.length
 ·exact zq a cap l w h hl hn hw
 ·have e:l = []:=Nu (by omega);subst e;exact yP a cap w
theorem ep (a:Option Addr) (cap:Nat) (l:List Zp) (w:World) (h:aL w a l) (hl:l.length≤200000) (hw:∀ x ∈ l,uh x.2=true) (h8:∀ x ∈ l,x.1.length≤8) :
  Calls Tryz.prog 66 #[.slice a l.length cap] w fun e w'=>∃ v,e = .returned (.tuple #[v,.int .i64 (aH l)])∧bZ w.heap.size w' v (bg l)∧Below w.heap.size w w' :=
 xB a cap l w (Ea a cap l w h hl hw) hl h8
theorem Co:∀ (l:List Zp) (p:Option (List Vl)),lF p l=0↔(∀ x ∈ l,aJ x.1=0∧x.2≠0∧hJ x.2=true)∧fL l∧∀ q,p=some q→∀ x ∈ l,aG q x.1<0
 | [],p=>by simp [lF,fL]
 | x :: r,p=>by
  have ih:=Co r (some x.1)
  rw [lF]
  by_cases hw:aJ x.1=0
  ·rw [if_pos hw]
   by_cases h0:x.2=0∨hJ x.2=false
   ·rw [if_pos h0]
    constructor
    ·intro h; omega
    ·rintro ⟨h,_⟩
     have:=h x (by simp)
     rcases h0 with h0 | h0
     ·exact absurd h0 this.2.1
     ·rw [h0] at this; exact absurd this.2.2 (by decide)
   ·rw [if_neg h0]
    have n0:x.2≠0:=fun h=>h0 (.inl h)
    have n1:hJ x.2=true:=by
     cases h:hJ x.2
     ·exact absurd (.inr h) h0
     ·rfl
    by_cases hc:∃ q,p=some q∧0≤aG q x.1
    ·rw [if_pos hc]
     constructor
     ·intro h; omega
     ·rintro ⟨_,_,h⟩
      obtain ⟨q,e,hq⟩:=hc
      have:=h q e x (by simp)
      omega
    ·rw [if_neg hc,ih]
     have hc':∀ q,p=some q→aG q x.1<0:=fun q e=>by
      by_cases h:0≤aG q x.1
      ·exact absurd ⟨q,e,h⟩ hc
      ·omega
     constructor
     ·rintro ⟨h1,h2,h3⟩
      have h3:=h3 x.1 rfl
      refine ⟨?_,List.pairwise_cons.2 ⟨h3,h2⟩,?_⟩
      ·intro y hy
       rcases List.mem_cons.1 hy with rfl | hy
       ·exact ⟨hw,n0,n1⟩
       ·exact h1 y hy
      ·intro q e y hy
       rcases List.mem_cons.1 hy with rfl | hy
       ·exact hc' q e
       ·exact dS (hc' q e) (by have:=h3 y hy; omega)
     ·rintro ⟨h1,h2,h3⟩
      have p:=List.pairwise_cons.1 h2
      exact ⟨fun y hy=>h1 y (by simp [hy]),p.2,fun q e y hy=>by injection e with e; subst e; exact p.1 y hy⟩
  ·rw [if_neg hw]
   constructor
   ·intro h; exact absurd h hw
   ·rintro ⟨h,_⟩; exact (h x (by simp)).1
theorem bD (l:List Zp):aF l=0↔l.length≤400∧(∀ x ∈ l,aJ x.1=0∧x.2≠0∧hJ x.2=true)∧fL l:=by
 unfold aF;by_cases h:400<l.length
 ·rw [if_pos h];constructor
  ·intro h; omega
  ·rintro ⟨h',_⟩; omega
 ·rw [if_neg h,Co];constructor
  ·rintro ⟨h1,h2,_⟩; exact ⟨by omega,h1,h2⟩
  ·rintro ⟨_,h1,h2⟩; exact ⟨h1,h2,fun q e=>by cases e⟩
def gS (f:Int→Int) (l:List Zp):List Zp:=if aF l=0 then aR f l else []
theorem mO (g:Nat) (cb:Array Value) (f:Int→Int) (a:Option Addr) (cap:Nat) (l:List Zp) (w:World) (h:aL w a l)
  (eg:∀ args w,(callFunc g args).run Tryz.prog w = .ok (.enter g args) w) (hm:∀ W,vx g cb f W) :
  Calls Tryz.prog 42 #[.slice a l.length cap,.func (.func g) #[] cb] w fun e w'=>∃ v,e = .returned (.tuple #[v,.int .i64 (aF l)])∧bZ w.heap.size w' v (gS f l)∧Below w.heap.size w w':=by
 by_cases hw:aF l=0
 ·have hok:=(bD l).1 hw;have e:gS f l=aR f l:=by simp [gS,hw]
  rw [e];have Hw:Hid (aF l=0):=hw;clear hw e;go_enter Tryz.func42,Tryz.ntmps42;go_wp2_with fail
  refine (fa _ _ _ _ h).mono ?_;rintro e w1 ⟨rfl,hb1⟩;rw [Hw.out];go_wp2_with fail
  refine (nC g cb f a cap l w1 (h.next hb1) eg (hm _) (by omega) (fun x hx=>((cO _).1 (hok.2.1 x hx).1).1) (fun x hx=>(hok.2.1 x hx).2.2)).mono ?_;rintro e w2 ⟨v,rfl,O2,hb2⟩;have O2':=O2.mono hb1.size;obtain ⟨a1,c1,rfl,z1⟩:=O2.zs;go_wp2
  exact Nl (v:=.tuple #[.slice a1 (aR f l).length c1,.int .i64 0]) (by simp [results,Tryz.results42,go_sem]) rfl ⟨_,by rw [Hw.out],O2',bS hb1 hb2⟩
 ·have e:gS f l = []:=by simp [gS,hw]
  rw [e];have hne:(aF l != 0)=true:=by simpa using hw
  go_enter Tryz.func42,Tryz.ntmps42;go_wp2_with fail
  refine (fa _ _ _ _ h).mono ?_;rintro e w1 ⟨rfl,hb1⟩;go_wp2
  exact Nl (v:=.tuple #[.slice none 0 0,.int .i64 (aF l)]) (by simp [results,Tryz.results42,go_sem]) rfl ⟨_,rfl,dM _ _,hb1⟩
theorem MI:∀ args w,(callFunc 122 args).run Tryz.prog w = .ok (.enter 122 args) w:=enters_of Tryz.func122 (by kernel_rfl) rfl
theorem MT:∀ args w,(callFunc 43 args).run Tryz.prog w = .ok (.enter 43 args) w:=enters_of Tryz.func43 (by kernel_rfl) rfl
def lL (w:Int):Int:=if w<0 then 0 else w
def fg (w:Int):Int:=if 0<w then 1 else 0
theorem IS (w:World):vx 122 #[] lL w:=by
 intro x W hx _;have hx:=(gr _).1 hx;show Calls Tryz.prog 122 #[.int .i64 x] W _;by_cases h:x<0
 ·have e:lL x=0:=by simp [lL,h]
  rw [e];go_enter Tryz.func122,Tryz.ntmps122;go_wp2
  go_ret;exact ⟨aA (by omega),Nk _ _⟩
 ·have e:lL x=x:=by simp [lL,h]
  rw [e];go_enter Tryz.func122,Tryz.ntmps122;go_wp2
  go_ret;exact ⟨aA (by omega),Nk _ _⟩
theorem JO (w:World):vx 43 #[] fg w:=by
 intro x W hx _;have hx:=(gr _).1 hx;show Calls Tryz.prog 43 #[.int .i64 x] W _;by_cases h:0<x
 ·have e:fg x=1:=by simp [fg,h]
  rw [e];go_enter Tryz.func43,Tryz.ntmps43;go_wp2
  go_ret;exact ⟨aA (by omega),Nk _ _⟩
 ·have e:fg x=0:=by simp [fg,h]
  rw [e];go_enter Tryz.func43,Tryz.ntmps43;go_wp2
  go_ret;exact ⟨aA (by omega),Nk _ _⟩
theorem yV (a:Option Addr) (cap:Nat) (l:List Zp) (w:World) (h:aL w a l) :
  Calls Tryz.prog 96 #[.slice a l.length cap] w fun e w'=>∃ v,e = .returned (.tuple #[v,.int .i64 (aF l)])∧bZ w.heap.size w' v (gS lL l)∧Below w.heap.size w w':=by
 go_enter Tryz.func96,Tryz.ntmps96;go_wp2_with fail
 refine (mO 122 #[] lL a cap l w h MI IS).mono ?_;rintro e w1 ⟨v,rfl,O1,hb1⟩;obtain ⟨a1,c1,rfl,z1⟩:=O1.zs;go_wp2
 exact Nl (v:=.tuple #[.slice a1 (gS lL l).length c1,.int .i64 (aF l)]) (by simp [results,Tryz.results96,go_sem]) rfl ⟨_,rfl,O1,hb1⟩
theorem mc (a:Option Addr) (cap:Nat) (l:List Zp) (w:World) (h:aL w a l) :
  Calls Tryz.prog 17 #[.slice a l.length cap] w fun e w'=>∃ v,e = .returned (.tuple #[v,.int .i64 (aF l)])∧bZ w.heap.size w' v (gS fg l)∧Below w.heap.size w w':=by
 go_enter Tryz.func17,Tryz.ntmps17;go_wp2_with fail
 refine (mO 43 #[] fg a cap l w h MT JO).mono ?_;rintro e w1 ⟨v,rfl,O1,hb1⟩;obtain ⟨a1,c1,rfl,z1⟩:=O1.zs;go_wp2
 exact Nl (v:=.tuple #[.slice a1 (gS fg l).length c1,.int .i64 (aF l)]) (by simp [results,Tryz.results17,go_sem]) rfl ⟨_,rfl,O1,hb1⟩
theorem IY (w:World) (k n:Int) (s:ByteArray) :
  (binOp .neq 24 (.agg #[.int .i64 k,.int .i64 n,.string s]) (.agg #[.int .i64 k,.int .i64 n,.string s])).run Tryz.prog w = .ok (.bool false) w:=by
 rw [run_neq_struct,run_equalIn_struct w 9999 24 _ _ (by kernel_rfl) (by kernel_rfl)];simp [Program.fieldsOf,Tryz.underlying24,go_sem]
theorem Kc (a a':Option Addr) (cap cap':Nat) (z:List Zp) (w:World) (h:aL w a z) (h':aL w a' z) :
  Calls Tryz.prog 14 #[.slice a z.length cap,.slice a' z.length cap'] w fun e w'=>e = .returned (.bool true)∧Below w.heap.size w w':=by
 have hl:=h.1;unfold maxLen at hl;go_enter Tryz.func14,Tryz.ntmps14;go_wp2_with fail
 go_loopw [14] (fun i wr=>∃ k:Nat,k≤z.length∧i = .int .i64 k∧Below w.heap.size w wr) (fun i _=>z.length - (intOf i).toNat)
 case atStart=>exact ⟨0,Nr _,rfl,Nk _ _⟩
 case round =>
  obtain ⟨k,hk,rfl,hb⟩:=hrel;by_cases hlt:k<z.length
  ·obtain ⟨b,off,rfl,hbl,c1,ar,cr,c0,sr⟩:=(h.next hb).elem hlt;obtain ⟨b',off',rfl,hbl',d1,br,dr,d0,tr⟩:=(h'.next hb).elem hlt;have i0:(0:Int)≤(k:Int):=by omega
   have i1:(k:Int)<(z.length:Int):=by omega
   have p0:=ag c0;have p1:=ag c1;have p2:=ag d0;have p3:=ag d1;haveI:Nonempty (bW wr):=⟨⟨wr,Nk _ _⟩⟩
   go_wp2_with fail
   refine aq (by kernel_rfl) (by kernel_rfl) ?_
   repeat (go_big_quiet_step (fail))
   refine wpQuiet_nil ?_;rintro w2 ⟨⟨v2,hb2⟩,h2⟩;obtain rfl:w2=v2:=h2;have q0:=(hb2.cell (p:=⟨b,_,none⟩) hbl).trans c0;have q2:=(hb2.cell (p:=⟨b',_,none⟩) hbl').trans d0;have sr2:=sr.next hb2;have tr2:=tr.next hb2;have hb2':=bS hb hb2;have hbl2:=Nn hbl hb2.size;have hbl2':=Nn hbl' hb2.size;have hrl:=sr.1;unfold maxLen at hrl;clear p0 p1 p2 p3 c0 c1 d0 d1 sr tr;go_wp2_with fail
   go_loopw [49] (fun i ws=>∃ j:Nat,j≤z[k].1.length∧i = .int .i64 j∧Below w2.heap.size w2 ws) (fun i _=>z[k].1.length - (intOf i).toNat)
   case atStart=>exact ⟨0,Nr _,rfl,Nk _ _⟩
   case round =>
    obtain ⟨j,hj,rfl,hs⟩:=hrel;by_cases hjl:j<z[k].1.length
    ·obtain ⟨x,xo,rfl,xl,x0,x1,x2⟩:=(sr2.next hs).elem hjl;obtain ⟨y,yo,rfl,yl,y0,y1,y2⟩:=(tr2.next hs).elem hjl;have r0:=ag ((hs.cell (p:=⟨b,_,none⟩) hbl2).trans q0);have r2:=ag ((hs.cell (p:=⟨b',_,none⟩) hbl2').trans q2);have j0:(0:Int)≤(j:Int):=by omega
     have j1:(j:Int)<(z[k].1.length:Int):=by omega
     have s0:=ag x0;have s1:=ag x1;have s2:=ag x2;have s3:=ag y0;have s4:=ag y1;have s5:=ag y2;have ev:=fun w'=>IY w' z[k].1[j].1 z[k].1[j].2.1 z[k].1[j].2.2
     haveI:Nonempty (bW wr):=⟨⟨wr,Nk _ _⟩⟩
     go_wp2_with fail
     refine aq (by kernel_rfl) (by kernel_rfl) ?_
     repeat (go_big_quiet_step (fail))
     refine wpQuiet_nil ?_;rintro w3 ⟨⟨v3,hb3⟩,h3⟩;obtain rfl:w3=v3:=h3;go_wp2
     go_roundw
     case rel=>exact ⟨j+1,by omega,by go_num,bS hs hb3⟩
     case measure=>simp [intOf]; omega
    ·go_wp2
     go_roundw
     case rel=>exact ⟨k+1,by omega,by go_num,bS hb2' hs⟩
     case measure=>simp [intOf]; omega
  ·go_wp2
   go_ret;exact ⟨rfl,hb⟩
end Go.Proofs.YtohjlfhmnmcndaaGreat
namespace Go.Proofs
open Go.Shelf Go.RowKit Go.Lib
set_option maxRecDepth 100000
set_option maxHeartbeats 16000000
shelf_lay_g Lays8.n4 Nm8 4 at Tryz 107 as Tryz.growZ
end Go.Proofs
namespace Go.Proofs.YtohjlfhmnmcndaaGreat
open Go.RowKit Go.Lib Go.Shelf
set_option maxRecDepth 100000
set_option maxHeartbeats 16000000
theorem J9 (n:Nat) (hn:n≤200000) (w:World) :
  Calls Tryz.prog 107 #[.slice none 0 0,.int .i64 n] w fun e w'=>∃ v,e = .returned v∧w'.ownsRow w.heap.size 58 2 v 0 []∧Below w.heap.size w w':=by
 obtain ⟨i0,hi,hj0,hj1,hj2⟩:=info_parts Tryz.gX;by_cases h0:n=0
 ·subst h0;refine (Any8.slices_Grow_room Tryz.growZ none 0 0 0 w (by omega) (by omega) (by omega) (by omega)).mono ?_;rintro e w' ⟨rfl,rfl⟩;exact ⟨_,rfl,NP _ _ _ _,Nk _ _⟩
 ·refine (Any8.slices_Grow_grow Tryz.growZ i0 _ hi hj0 (by rw [hj1]; omega) none 0 0 n [] w (by omega) (by omega) (by rw [hj2]; omega) (by omega) (by simp) (by simp) (by intro a e; cases e)).mono ?_;rintro e w' ⟨rfl,rfl⟩;refine ⟨_,rfl,?_,((Nk _ _).drew).alloc (Nj _) _⟩;rw [Np];have hc:=grownCap_ge w n 0 58;have hm:=grownCap_le_maxLen w n 0 58 (by unfold maxLen; omega)
  have:=Oq (w:=w.drew) (base:=w.heap.size) (e:=58) (size:=2) (cur:=[].toArray ++ Builtin.zeroCells (Value.agg #[Value.slice none 0 0,Value.int IntKind.i64 0]).cells (n - 0) ++ Builtin.zeroCells (Value.agg #[Value.slice none 0 0,Value.int IntKind.i64 0]).cells (grownCap w n 0 58 - n)) (cap:=grownCap w n 0 58) (Nj _) hm (by simp [size_zeroCells,Value.cells]; omega);exact this
theorem xD {W:World} {xs ys:List Value} {l t:List Zp} (h:jF W xs l) (k:jF W ys t):jF W (xs ++ ys) (l ++ t):=by
 have lx:=h.1;have ly:=k.1;refine ⟨by simp [lx,ly]; omega,fun i hi=>?_⟩;by_cases hi':i<l.length
 ·obtain ⟨a',c',h1,h2,h3⟩:=h.2 i hi';rw [Ny hi'];refine ⟨a',c',?_,?_,h3⟩
  ·rw [NC (by omega),h1]
  ·rw [NC (by omega),h2]
 ·have hi2:i - l.length<t.length:=by simp at hi; omega
  obtain ⟨a',c',h1,h2,h3⟩:=k.2 (i - l.length) hi2;rw [Ob (by omega)];refine ⟨a',c',?_,?_,h3⟩
  ·rw [NG (by omega),← h1]; congr 1; omega
  ·rw [NG (by omega),← h2]; congr 1; omega
theorem Lf {w:World} {a:Option Addr} {l:List Zp} (h:aL w a l):∃ news,jF w news l∧(∀ u ∈ news,u.oneCell'=true)∧(a=none→l = [])∧∀ ad,a=some ad→∀ j u,news[j]? = some u→w.cell? (ad.add j)=some u:=by
 obtain ⟨d,hd,hdl,hc⟩:=h.arr;refine ⟨(Go.Sort.flatK (il w) 2 d).toList,⟨by simp [hd],fun i hi=>?_⟩,?_,?_,?_⟩
 ·have hi':i<d.size:=by omega
  have e:d[i]! = d[i]:=getElem!_pos d i hi';have el:FC w d[i]=l[i]:=by
   have:l[i]=(d.toList.map (FC w))[i]'(by simpa using hi'):=by simp [hdl]
   rw [this]; simp
  refine ⟨d[i].1.a,d[i].1.cap,?_,?_,?_⟩
  ·rw [OU,Oc (by simp; omega),← getElem!_pos,pL d i hi',e,← el]; rfl
  ·rw [OU,Oc (by simp; omega),← getElem!_pos,tw d i hi',e,← el]; rfl
  ·rw [← el]; exact d[i].2
 ·intro u hu;obtain ⟨j,hj,rfl⟩:=Ov hu;have hj':j<d.size*2:=by simpa using hj
  have e:(Go.Sort.flatK (il w) 2 d).toList[j]=(Go.Sort.flatK (il w) 2 d)[j]!:=by
   rw [OK,getElem!_pos]
  rw [e,Go.Sort.get_flatK _ _ _ _ hj'];rcases Nat.mod_two_eq_zero_or_one j with h0 | h1
  ·rw [h0]; rfl
  ·rw [h1]; rfl
 ·intro e;rcases hc with h | ⟨b,off,e',_⟩
  ·exact h
  ·rw [e] at e'; cases e'
 ·intro ad e j u hj;have hj':j<d.size*2:=by
   rcases NY j (d.size*2) with h | h
   ·exact h
   ·rw [NW (by simpa using h)] at hj; cases hj
  rcases hc with h | ⟨b,off,e',hlt,hc⟩
  ·subst h; simp at hd; subst hd; simp at hj'
  ·rw [e] at e';injection e' with e'
   subst e';rw [gM];rw [OU,Oc (by simpa using hj')] at hj;injection hj with hj
   have:=hc j (by omega)
   rwa [getElem!_pos _ _ (by simpa using hj'),hj] at this
end Go.Proofs.YtohjlfhmnmcndaaGreat
namespace Go.Proofs.YtohjlfhmnmcndaaGreat
open Go.RowKit Go.Lib
set_option maxRecDepth 100000
set_option maxHeartbeats 16000000
def jY (xs ys:List Value):Nat→List Value
 | 0=>[]
 | 1=>xs
 | _=>xs ++ ys
def dq (n m:Nat):Nat→Nat
 | 0=>0
 | 1=>n
 | _=>n+m
theorem fI (n m k:Nat):dq n m k≤n+m:=by
 match k with
 | 0=>simp [dq]
 | 1=>simp [dq]
 | j+2=>simp [dq]
structure gA (w:World) (B size n m:Nat) (xs ys:List Value):Prop where
 lt:B<w.heap.size
 at_:∀ k,k<2→∃ a cap q cs,w.cell? ⟨B,k,none⟩=some (.slice a q cap)∧Raw w a q size cs∧jY xs ys (k+1)=jY xs ys k ++ cs∧dq n m (k+1)=dq n m k+q
theorem gA.new {w:World} {size n m:Nat} {xs ys:List Value} {a b:Option Addr} (ca cb:Nat) (h:Raw w a n size xs) (k:Raw w b m size ys) (T:TypeId) :
  gA (w.alloc (.cells #[.slice a n ca,.slice b m cb] T)) w.heap.size size n m xs ys :=
 ⟨by simp,fun j hj=>by
  match j,hj with
  | 0,_=>exact ⟨a,ca,n,xs,by simp,h.alloc _,by simp [jY],by simp [dq]⟩
  | 1,_=>exact ⟨b,cb,m,ys,by simp,k.alloc _,by simp [jY],by simp [dq]⟩⟩
theorem gA.next {w w1:World} {B size n m:Nat} {xs ys:List Value} (h:gA w B size n m xs ys) (hb:Below w.heap.size w w1):gA w1 B size n m xs ys :=
 ⟨Nn h.lt hb.size,fun k hk=>by
  obtain ⟨a,cap,q,cs,h1,h2,h3,h4⟩:=h.at_ k hk
  exact ⟨a,cap,q,cs,(hb.cell (p:=⟨B,k,none⟩) h.lt).trans h1,h2.next hb,h3,h4⟩⟩
end Go.Proofs.YtohjlfhmnmcndaaGreat
namespace Go.Proofs
open Go.Shelf Go.RowKit Go.Lib
shelf_lay_g Lays8.n4 Nm8 4 at Tryz 160 as Tryz.growV
end Go.Proofs
namespace Go.Proofs.YtohjlfhmnmcndaaGreat
open Go.RowKit Go.Lib Go.Shelf
set_option maxRecDepth 100000
set_option maxHeartbeats 16000000
theorem GR:(Tryz.prog.info? 24).map (fun i=>(i.zero,i.size,i.bytes))=some (some (.agg #[.int .i64 0,.int .i64 0,.string ⟨#[]⟩]),3,32):=by kernel_rfl
theorem He (n:Nat) (hn:n≤1000) (w:World) :
  Calls Tryz.prog 160 #[.slice none 0 0,.int .i64 n] w fun e w'=>∃ v,e = .returned v∧w'.ownsRow w.heap.size 24 3 v 0 []∧Below w.heap.size w w':=by
 obtain ⟨i0,hi,hj0,hj1,hj2⟩:=info_parts GR;by_cases h0:n=0
 ·subst h0;refine (Any8.slices_Grow_room Tryz.growV none 0 0 0 w (by omega) (by omega) (by omega) (by omega)).mono ?_;rintro e w' ⟨rfl,rfl⟩;exact ⟨_,rfl,NP _ _ _ _,Nk _ _⟩
 ·refine (Any8.slices_Grow_grow Tryz.growV i0 _ hi hj0 (by rw [hj1]; omega) none 0 0 n [] w (by omega) (by omega) (by rw [hj2]; omega) (by omega) (by simp) (by simp) (by intro a e; cases e)).mono ?_;rintro e w' ⟨rfl,rfl⟩;refine ⟨_,rfl,?_,((Nk _ _).drew).alloc (Nj _) _⟩;rw [Np];have hc:=grownCap_ge w n 0 24;have hm:=grownCap_le_maxLen w n 0 24 (by unfold maxLen; omega)
  have:=Oq (w:=w.drew) (base:=w.heap.size) (e:=24) (size:=3) (cur:=[].toArray ++ Builtin.zeroCells (Value.agg #[.int .i64 0,.int .i64 0,.string ⟨#[]⟩]).cells (n - 0) ++ Builtin.zeroCells (Value.agg #[.int .i64 0,.int .i64 0,.string ⟨#[]⟩]).cells (grownCap w n 0 24 - n)) (cap:=grownCap w n 0 24) (Nj _) hm (by simp [size_zeroCells,Value.cells]; omega);exact this
theorem kX (B:Nat) (n m:Nat) (xs ys:List Value) (w:World) (h:gA w B 3 n m xs ys) (hl:n+m≤1000) :
  Calls Tryz.prog 126 #[.slice (some ⟨B,0,none⟩) 2 2] w fun e w'=>∃ v,e = .returned v∧w'.ownsRow w.heap.size 24 3 v (n+m) (xs ++ ys)∧Below w.heap.size w w':=by
 obtain ⟨i0,hi,hj0,hj1,hj2⟩:=info_parts GR;go_enter Tryz.func126,Tryz.ntmps126;go_wp2_with fail
 go_loopw [3,11] (fun sz i wr=>∃ k:Nat,k≤2∧i = .int .i64 k∧sz = .int .i64 (dq n m k:Int)∧wr=w) (fun _ i _=>2 - (intOf i).toNat)
 case atStart=>exact ⟨0,by omega,rfl,rfl,rfl⟩
 case round =>
  obtain ⟨k,hk,rfl,rfl,rfl⟩:=hrel;have hcl:=fI n m k;by_cases hlt:k<2
  ·obtain ⟨a,cap,q,cs,c0,zs,hcat,hcn⟩:=h.at_ k hlt;have hcl2:=fI n m (k+1);rw [hcn] at hcl2;have HCat:Hid (dq n m (k+1)=dq n m k+q):=hcn;clear hcat hcn;generalize hq:dq n m k=r at *;have HQ:Hid (dq n m k=r):=hq;clear hq;go_wp2
   go_roundw
   case rel=>exact ⟨k+1,by omega,by go_num,by rw [HCat.out]; go_num,by first | rfl | trivial⟩
   case measure=>simp [intOf]; omega
  ·have e:k=2:=by omega
   subst e;have el:(dq n m 2:Int)=((n+m:Nat):Int):=rfl;have gc:=He (n+m) (by omega) wr;rw [OM] at gc;rw [OM] at el;go_wp2_with fail
   refine gc.mono ?_;clear gc el;rintro e w1 ⟨v,rfl,ho,hb1⟩;have hsh:∃ a c,v = .slice a 0 c:=by
    obtain ⟨_,⟨rfl,h0⟩ | ⟨g,c1,cur,rfl,_⟩⟩:=ho
    ·exact ⟨none,0,rfl⟩
    ·exact ⟨_,c1,rfl⟩
   obtain ⟨a1,c1,rfl⟩:=hsh;go_wp2_with fail
   generalize hw0:wr=w0 at *;have HW0:Hid (wr=w0):=hw0;clear hw0;go_loopw [6,27] (fun v i ws=>∃ k:Nat,k≤2∧i = .int .i64 k∧ws.ownsRow w0.heap.size 24 3 v (dq n m k) (jY xs ys k)∧Below w0.heap.size w0 ws) (fun _ i _=>2 - (intOf i).toNat)
   case atStart=>exact ⟨0,by omega,rfl,ho,hb1⟩
   case round =>
    clear ho;obtain ⟨k,hk,rfl,ho,hb⟩:=hrel;have hz:=hb.size;by_cases hlt:k<2
    ·obtain ⟨a,cap,q,cs,c0,zs,hcat,hcn⟩:=h.at_ k hlt;have hcl2:=fI n m (k+1);rw [hcn] at hcl2;have HCat:Hid (jY xs ys (k+1)=jY xs ys k ++ cs):=hcat;have HCn:Hid (dq n m (k+1)=dq n m k+q):=hcn;clear hcat hcn;have c0':=(hb.cell (p:=⟨B,k,none⟩) h.lt).trans c0;have zs':Raw wr a q 3 cs:=⟨zs.len,zs.one,zs.nil,fun ad e j u hj=>(hb.cell (Nt _ _ (zs.at_ ad e j u hj))).trans (zs.at_ ad e j u hj)⟩
     clear c0 zs;generalize jY xs ys k=xk at *;generalize dq n m k=nk at *;go_wp2_with (at_builtin; refine bo rfl _ _ 56 rfl w0.heap.size 24 i0 _ 3 32 Tryz.underlying56 hi hj0 hj1 hj2 rfl (by decide) _ _ _ rfl ho a q cap cs rfl zs' (by unfold maxLen; omega) (by omega) (by omega) ?_)
     intro v' w5 ho5 hg5;have hb5:Below w0.heap.size w0 w5:=hb.grown hg5 hz (fun q hq=>(ho.lt q hq).1);clear hg5 ho;go_wp2
     go_roundw
     case rel=>exact ⟨k+1,by omega,by go_num,by rw [HCat.out,HCn.out]; exact ho5,hb5⟩
     case measure=>simp [intOf]; omega
    ·have e:k=2:=by omega
     subst e;have hsh:∃ a c,u6 = .slice a (n+m) c:=by
      obtain ⟨_,⟨e,h0⟩ | ⟨g,c1,cur,e,_⟩⟩:=ho
      ·have h0:n+m=0:=h0;exact ⟨none,0,by rw [e,h0]⟩
      ·exact ⟨_,c1,e⟩
     obtain ⟨a6,c6,rfl⟩:=hsh;go_wp2
     go_ret;exact ⟨_,rfl,by rw [HW0.out]; exact ho,by rw [HW0.out]; exact hb⟩
end Go.Proofs.YtohjlfhmnmcndaaGreat
namespace Go.Proofs
open Go.Shelf Go.RowKit Go.Lib
set_option maxRecDepth 100000
set_option maxHeartbeats 16000000
shelf_lay_g Lays8.n4 Nm8 4 at Tryz 172 as Tryz.growI
end Go.Proofs
namespace Go.Proofs.YtohjlfhmnmcndaaGreat
open Go.RowKit Go.Lib Go.Shelf
set_option maxRecDepth 100000
set_option maxHeartbeats 16000000
theorem sM:(Tryz.prog.info? 3).map (fun i=>(i.zero,i.size,i.bytes))=some (some (.int .i64 0),1,8):=by kernel_rfl
theorem Fv (n:Nat) (hn:n≤1000) (w:World) :
  Calls Tryz.prog 172 #[.slice none 0 0,.int .i64 n] w fun e w'=>∃ v,e = .returned v∧w'.ownsRow w.heap.size 3 1 v 0 []∧Below w.heap.size w w':=by
 obtain ⟨i0,hi,hj0,hj1,hj2⟩:=info_parts sM;by_cases h0:n=0
 ·subst h0;refine (Any8.slices_Grow_room Tryz.growI none 0 0 0 w (by omega) (by omega) (by omega) (by omega)).mono ?_;rintro e w' ⟨rfl,rfl⟩;exact ⟨_,rfl,NP _ _ _ _,Nk _ _⟩
 ·refine (Any8.slices_Grow_grow Tryz.growI i0 _ hi hj0 (by rw [hj1]; omega) none 0 0 n [] w (by omega) (by omega) (by rw [hj2]; omega) (by omega) (by simp) (by simp) (by intro a e; cases e)).mono ?_;rintro e w' ⟨rfl,rfl⟩;refine ⟨_,rfl,?_,((Nk _ _).drew).alloc (Nj _) _⟩;rw [Np];have hc:=grownCap_ge w n 0 3;have hm:=grownCap_le_maxLen w n 0 3 (by unfold maxLen; omega)
  have:=Oq (w:=w.drew) (base:=w.heap.size) (e:=3) (size:=1) (cur:=[].toArray ++ Builtin.zeroCells (Value.int .i64 0).cells (n - 0) ++ Builtin.zeroCells (Value.int .i64 0).cells (grownCap w n 0 3 - n)) (cap:=grownCap w n 0 3) (Nj _) hm (by simp [size_zeroCells,Value.cells]; omega);exact this
theorem kY (B:Nat) (n m:Nat) (xs ys:List Value) (w:World) (h:gA w B 1 n m xs ys) (hl:n+m≤1000) :
  Calls Tryz.prog 142 #[.slice (some ⟨B,0,none⟩) 2 2] w fun e w'=>∃ v,e = .returned v∧w'.ownsRow w.heap.size 3 1 v (n+m) (xs ++ ys)∧Below w.heap.size w w':=by
 obtain ⟨i0,hi,hj0,hj1,hj2⟩:=info_parts sM;go_enter Tryz.func142,Tryz.ntmps142;go_wp2_with fail
 go_loopw [3,11] (fun sz i wr=>∃ k:Nat,k≤2∧i = .int .i64 k∧sz = .int .i64 (dq n m k:Int)∧wr=w) (fun _ i _=>2 - (intOf i).toNat)
 case atStart=>exact ⟨0,by omega,rfl,rfl,rfl⟩
 case round =>
  obtain ⟨k,hk,rfl,rfl,rfl⟩:=hrel;have hcl:=fI n m k;by_cases hlt:k<2
  ·obtain ⟨a,cap,q,cs,c0,zs,hcat,hcn⟩:=h.at_ k hlt;have hcl2:=fI n m (k+1);rw [hcn] at hcl2;have HCat:Hid (dq n m (k+1)=dq n m k+q):=hcn;clear hcat hcn;generalize hq:dq n m k=r at *;have HQ:Hid (dq n m k=r):=hq;clear hq;go_wp2
   go_roundw
   case rel=>exact ⟨k+1,by omega,by go_num,by rw [HCat.out]; go_num,by first | rfl | trivial⟩
   case measure=>simp [intOf]; omega
  ·have e:k=2:=by omega
   subst e;have el:(dq n m 2:Int)=((n+m:Nat):Int):=rfl;have gc:=Fv (n+m) (by omega) wr;rw [OM] at gc;rw [OM] at el;go_wp2_with fail
   refine gc.mono ?_;clear gc el;rintro e w1 ⟨v,rfl,ho,hb1⟩;have hsh:∃ a c,v = .slice a 0 c:=by
    obtain ⟨_,⟨rfl,h0⟩ | ⟨g,c1,cur,rfl,_⟩⟩:=ho
    ·exact ⟨none,0,rfl⟩
    ·exact ⟨_,c1,rfl⟩
   obtain ⟨a1,c1,rfl⟩:=hsh;go_wp2_with fail
   generalize hw0:wr=w0 at *;have HW0:Hid (wr=w0):=hw0;clear hw0;go_loopw [6,27] (fun v i ws=>∃ k:Nat,k≤2∧i = .int .i64 k∧ws.ownsRow w0.heap.size 3 1 v (dq n m k) (jY xs ys k)∧Below w0.heap.size w0 ws) (fun _ i _=>2 - (intOf i).toNat)
   case atStart=>exact ⟨0,by omega,rfl,ho,hb1⟩
   case round =>
    clear ho;obtain ⟨k,hk,rfl,ho,hb⟩:=hrel;have hz:=hb.size;by_cases hlt:k<2
    ·obtain ⟨a,cap,q,cs,c0,zs,hcat,hcn⟩:=h.at_ k hlt;have hcl2:=fI n m (k+1);rw [hcn] at hcl2;have HCat:Hid (jY xs ys (k+1)=jY xs ys k ++ cs):=hcat;have HCn:Hid (dq n m (k+1)=dq n m k+q):=hcn;clear hcat hcn;have c0':=(hb.cell (p:=⟨B,k,none⟩) h.lt).trans c0;have zs':Raw wr a q 1 cs:=⟨zs.len,zs.one,zs.nil,fun ad e j u hj=>(hb.cell (Nt _ _ (zs.at_ ad e j u hj))).trans (zs.at_ ad e j u hj)⟩
     clear c0 zs;generalize jY xs ys k=xk at *;generalize dq n m k=nk at *;go_wp2_with (at_builtin; refine bo rfl _ _ 45 rfl w0.heap.size 3 i0 _ 1 8 Tryz.underlying45 hi hj0 hj1 hj2 rfl (by decide) _ _ _ rfl ho a q cap cs rfl zs' (by unfold maxLen; omega) (by omega) (by omega) ?_)
     intro v' w5 ho5 hg5;have hb5:Below w0.heap.size w0 w5:=hb.grown hg5 hz (fun q hq=>(ho.lt q hq).1);clear hg5 ho;go_wp2
     go_roundw
     case rel=>exact ⟨k+1,by omega,by go_num,by rw [HCat.out,HCn.out]; exact ho5,hb5⟩
     case measure=>simp [intOf]; omega
    ·have e:k=2:=by omega
     subst e;have hsh:∃ a c,u6 = .slice a (n+m) c:=by
      obtain ⟨_,⟨e,h0⟩ | ⟨g,c1,cur,e,_⟩⟩:=ho
      ·have h0:n+m=0:=h0;exact ⟨none,0,by rw [e,h0]⟩
      ·exact ⟨_,c1,e⟩
     obtain ⟨a6,c6,rfl⟩:=hsh;go_wp2
     go_ret;exact ⟨_,rfl,by rw [HW0.out]; exact ho,by rw [HW0.out]; exact hb⟩
end Go.Proofs.YtohjlfhmnmcndaaGreat
namespace Go.Proofs
open Go.Shelf Go.RowKit Go.Lib
set_option maxRecDepth 100000
set_option maxHeartbeats 16000000
shelf_lay_g Lays8.n4 Nm8 4 at Tryz 79 as Tryz.growT
shelf_lay_g Lays8.n4 Nm8 4 at Tryz 80 as Tryz.growD
end Go.Proofs
namespace Go.Proofs.YtohjlfhmnmcndaaGreat
open Go.RowKit Go.Lib Go.Shelf
set_option maxRecDepth 100000
set_option maxHeartbeats 16000000
theorem G5:(Tryz.prog.info? 45).map (fun i=>(i.zero,i.size,i.bytes))=some (some (.slice none 0 0),1,24):=by kernel_rfl
theorem Fo (n:Nat) (hn:n≤1000) (w:World) :
  Calls Tryz.prog 79 #[.slice none 0 0,.int .i64 n] w fun e w'=>∃ v,e = .returned v∧w'.ownsRow w.heap.size 45 1 v 0 []∧Below w.heap.size w w':=by
 obtain ⟨i0,hi,hj0,hj1,hj2⟩:=info_parts G5;by_cases h0:n=0
 ·subst h0;refine (Any8.slices_Grow_room Tryz.growT none 0 0 0 w (by omega) (by omega) (by omega) (by omega)).mono ?_;rintro e w' ⟨rfl,rfl⟩;exact ⟨_,rfl,NP _ _ _ _,Nk _ _⟩
 ·refine (Any8.slices_Grow_grow Tryz.growT i0 _ hi hj0 (by rw [hj1]; omega) none 0 0 n [] w (by omega) (by omega) (by rw [hj2]; omega) (by omega) (by simp) (by simp) (by intro a e; cases e)).mono ?_;rintro e w' ⟨rfl,rfl⟩;refine ⟨_,rfl,?_,((Nk _ _).drew).alloc (Nj _) _⟩;rw [Np];have hc:=grownCap_ge w n 0 45;have hm:=grownCap_le_maxLen w n 0 45 (by unfold maxLen; omega)
  have:=Oq (w:=w.drew) (base:=w.heap.size) (e:=45) (size:=1) (cur:=[].toArray ++ Builtin.zeroCells (Value.slice none 0 0).cells (n - 0) ++ Builtin.zeroCells (Value.slice none 0 0).cells (grownCap w n 0 45 - n)) (cap:=grownCap w n 0 45) (Nj _) hm (by simp [size_zeroCells,Value.cells]; omega);exact this
theorem Ap (B:Nat) (n m:Nat) (xs ys:List Value) (w:World) (h:gA w B 1 n m xs ys) (hl:n+m≤1000) :
  Calls Tryz.prog 51 #[.slice (some ⟨B,0,none⟩) 2 2] w fun e w'=>∃ v,e = .returned v∧w'.ownsRow w.heap.size 45 1 v (n+m) (xs ++ ys)∧Below w.heap.size w w':=by
 obtain ⟨i0,hi,hj0,hj1,hj2⟩:=info_parts G5;go_enter Tryz.func51,Tryz.ntmps51;go_wp2_with fail
 go_loopw [3,11] (fun sz i wr=>∃ k:Nat,k≤2∧i = .int .i64 k∧sz = .int .i64 (dq n m k:Int)∧wr=w) (fun _ i _=>2 - (intOf i).toNat)
 case atStart=>exact ⟨0,by omega,rfl,rfl,rfl⟩
 case round =>
  obtain ⟨k,hk,rfl,rfl,rfl⟩:=hrel;have hcl:=fI n m k;by_cases hlt:k<2
  ·obtain ⟨a,cap,q,cs,c0,zs,hcat,hcn⟩:=h.at_ k hlt;have hcl2:=fI n m (k+1);rw [hcn] at hcl2;have HCat:Hid (dq n m (k+1)=dq n m k+q):=hcn;clear hcat hcn;generalize hq:dq n m k=r at *;have HQ:Hid (dq n m k=r):=hq;clear hq;go_wp2
   go_roundw
   case rel=>exact ⟨k+1,by omega,by go_num,by rw [HCat.out]; go_num,by first | rfl | trivial⟩
   case measure=>simp [intOf]; omega
  ·have e:k=2:=by omega
   subst e;have el:(dq n m 2:Int)=((n+m:Nat):Int):=rfl;have gc:=Fo (n+m) (by omega) wr;rw [OM] at gc;rw [OM] at el;go_wp2_with fail
   refine gc.mono ?_;clear gc el;rintro e w1 ⟨v,rfl,ho,hb1⟩;have hsh:∃ a c,v = .slice a 0 c:=by
    obtain ⟨_,⟨rfl,h0⟩ | ⟨g,c1,cur,rfl,_⟩⟩:=ho
    ·exact ⟨none,0,rfl⟩
    ·exact ⟨_,c1,rfl⟩
   obtain ⟨a1,c1,rfl⟩:=hsh;go_wp2_with fail
   generalize hw0:wr=w0 at *;have HW0:Hid (wr=w0):=hw0;clear hw0;go_loopw [6,27] (fun v i ws=>∃ k:Nat,k≤2∧i = .int .i64 k∧ws.ownsRow w0.heap.size 45 1 v (dq n m k) (jY xs ys k)∧Below w0.heap.size w0 ws) (fun _ i _=>2 - (intOf i).toNat)
   case atStart=>exact ⟨0,by omega,rfl,ho,hb1⟩
   case round =>
    clear ho;obtain ⟨k,hk,rfl,ho,hb⟩:=hrel;have hz:=hb.size;by_cases hlt:k<2
    ·obtain ⟨a,cap,q,cs,c0,zs,hcat,hcn⟩:=h.at_ k hlt;have hcl2:=fI n m (k+1);rw [hcn] at hcl2;have HCat:Hid (jY xs ys (k+1)=jY xs ys k ++ cs):=hcat;have HCn:Hid (dq n m (k+1)=dq n m k+q):=hcn;clear hcat hcn;have c0':=(hb.cell (p:=⟨B,k,none⟩) h.lt).trans c0;have zs':Raw wr a q 1 cs:=⟨zs.len,zs.one,zs.nil,fun ad e j u hj=>(hb.cell (Nt _ _ (zs.at_ ad e j u hj))).trans (zs.at_ ad e j u hj)⟩
     clear c0 zs;generalize jY xs ys k=xk at *;generalize dq n m k=nk at *;go_wp2_with (at_builtin; refine bo rfl _ _ 22 rfl w0.heap.size 45 i0 _ 1 24 Tryz.underlying22 hi hj0 hj1 hj2 rfl (by decide) _ _ _ rfl ho a q cap cs rfl zs' (by unfold maxLen; omega) (by omega) (by omega) ?_)
     intro v' w5 ho5 hg5;have hb5:Below w0.heap.size w0 w5:=hb.grown hg5 hz (fun q hq=>(ho.lt q hq).1);clear hg5 ho;go_wp2
     go_roundw
     case rel=>exact ⟨k+1,by omega,by go_num,by rw [HCat.out,HCn.out]; exact ho5,hb5⟩
     case measure=>simp [intOf]; omega
    ·have e:k=2:=by omega
     subst e;have hsh:∃ a c,u6 = .slice a (n+m) c:=by
      obtain ⟨_,⟨e,h0⟩ | ⟨g,c1,cur,e,_⟩⟩:=ho
      ·have h0:n+m=0:=h0;exact ⟨none,0,by rw [e,h0]⟩
      ·exact ⟨_,c1,e⟩
     obtain ⟨a6,c6,rfl⟩:=hsh;go_wp2
     go_ret;exact ⟨_,rfl,by rw [HW0.out]; exact ho,by rw [HW0.out]; exact hb⟩
theorem FV:(Tryz.prog.info? 34).map (fun i=>(i.zero,i.size,i.bytes))=some (some (.slice none 0 0),1,24):=by kernel_rfl
theorem GX (n:Nat) (hn:n≤1000) (w:World) :
  Calls Tryz.prog 80 #[.slice none 0 0,.int .i64 n] w fun e w'=>∃ v,e = .returned v∧w'.ownsRow w.heap.size 34 1 v 0 []∧Below w.heap.size w w':=by
 obtain ⟨i0,hi,hj0,hj1,hj2⟩:=info_parts FV;by_cases h0:n=0
 ·subst h0;refine (Any8.slices_Grow_room Tryz.growD none 0 0 0 w (by omega) (by omega) (by omega) (by omega)).mono ?_;rintro e w' ⟨rfl,rfl⟩;exact ⟨_,rfl,NP _ _ _ _,Nk _ _⟩
 ·refine (Any8.slices_Grow_grow Tryz.growD i0 _ hi hj0 (by rw [hj1]; omega) none 0 0 n [] w (by omega) (by omega) (by rw [hj2]; omega) (by omega) (by simp) (by simp) (by intro a e; cases e)).mono ?_;rintro e w' ⟨rfl,rfl⟩;refine ⟨_,rfl,?_,((Nk _ _).drew).alloc (Nj _) _⟩;rw [Np];have hc:=grownCap_ge w n 0 34;have hm:=grownCap_le_maxLen w n 0 34 (by unfold maxLen; omega)
  have:=Oq (w:=w.drew) (base:=w.heap.size) (e:=34) (size:=1) (cur:=[].toArray ++ Builtin.zeroCells (Value.slice none 0 0).cells (n - 0) ++ Builtin.zeroCells (Value.slice none 0 0).cells (grownCap w n 0 34 - n)) (cap:=grownCap w n 0 34) (Nj _) hm (by simp [size_zeroCells,Value.cells]; omega);exact this
theorem A9 (B:Nat) (n m:Nat) (xs ys:List Value) (w:World) (h:gA w B 1 n m xs ys) (hl:n+m≤1000) :
  Calls Tryz.prog 54 #[.slice (some ⟨B,0,none⟩) 2 2] w fun e w'=>∃ v,e = .returned v∧w'.ownsRow w.heap.size 34 1 v (n+m) (xs ++ ys)∧Below w.heap.size w w':=by
 obtain ⟨i0,hi,hj0,hj1,hj2⟩:=info_parts FV;go_enter Tryz.func54,Tryz.ntmps54;go_wp2_with fail
 go_loopw [3,11] (fun sz i wr=>∃ k:Nat,k≤2∧i = .int .i64 k∧sz = .int .i64 (dq n m k:Int)∧wr=w) (fun _ i _=>2 - (intOf i).toNat)
 case atStart=>exact ⟨0,by omega,rfl,rfl,rfl⟩
 case round =>
  obtain ⟨k,hk,rfl,rfl,rfl⟩:=hrel;have hcl:=fI n m k;by_cases hlt:k<2
  ·obtain ⟨a,cap,q,cs,c0,zs,hcat,hcn⟩:=h.at_ k hlt;have hcl2:=fI n m (k+1);rw [hcn] at hcl2;have HCat:Hid (dq n m (k+1)=dq n m k+q):=hcn;clear hcat hcn;generalize hq:dq n m k=r at *;have HQ:Hid (dq n m k=r):=hq;clear hq;go_wp2
   go_roundw
   case rel=>exact ⟨k+1,by omega,by go_num,by rw [HCat.out]; go_num,by first | rfl | trivial⟩
   case measure=>simp [intOf]; omega
  ·have e:k=2:=by omega
   subst e;have el:(dq n m 2:Int)=((n+m:Nat):Int):=rfl;have gc:=GX (n+m) (by omega) wr;rw [OM] at gc;rw [OM] at el;go_wp2_with fail
   refine gc.mono ?_;clear gc el;rintro e w1 ⟨v,rfl,ho,hb1⟩;have hsh:∃ a c,v = .slice a 0 c:=by
    obtain ⟨_,⟨rfl,h0⟩ | ⟨g,c1,cur,rfl,_⟩⟩:=ho
    ·exact ⟨none,0,rfl⟩
    ·exact ⟨_,c1,rfl⟩
   obtain ⟨a1,c1,rfl⟩:=hsh;go_wp2_with fail
   generalize hw0:wr=w0 at *;have HW0:Hid (wr=w0):=hw0;clear hw0;go_loopw [6,27] (fun v i ws=>∃ k:Nat,k≤2∧i = .int .i64 k∧ws.ownsRow w0.heap.size 34 1 v (dq n m k) (jY xs ys k)∧Below w0.heap.size w0 ws) (fun _ i _=>2 - (intOf i).toNat)
   case atStart=>exact ⟨0,by omega,rfl,ho,hb1⟩
   case round =>
    clear ho;obtain ⟨k,hk,rfl,ho,hb⟩:=hrel;have hz:=hb.size;by_cases hlt:k<2
    ·obtain ⟨a,cap,q,cs,c0,zs,hcat,hcn⟩:=h.at_ k hlt;have hcl2:=fI n m (k+1);rw [hcn] at hcl2;have HCat:Hid (jY xs ys (k+1)=jY xs ys k ++ cs):=hcat;have HCn:Hid (dq n m (k+1)=dq n m k+q):=hcn;clear hcat hcn;have c0':=(hb.cell (p:=⟨B,k,none⟩) h.lt).trans c0;have zs':Raw wr a q 1 cs:=⟨zs.len,zs.one,zs.nil,fun ad e j u hj=>(hb.cell (Nt _ _ (zs.at_ ad e j u hj))).trans (zs.at_ ad e j u hj)⟩
     clear c0 zs;generalize jY xs ys k=xk at *;generalize dq n m k=nk at *;go_wp2_with (at_builtin; refine bo rfl _ _ 32 rfl w0.heap.size 34 i0 _ 1 24 Tryz.underlying32 hi hj0 hj1 hj2 rfl (by decide) _ _ _ rfl ho a q cap cs rfl zs' (by unfold maxLen; omega) (by omega) (by omega) ?_)
     intro v' w5 ho5 hg5;have hb5:Below w0.heap.size w0 w5:=hb.grown hg5 hz (fun q hq=>(ho.lt q hq).1);clear hg5 ho;go_wp2
     go_roundw
     case rel=>exact ⟨k+1,by omega,by go_num,by rw [HCat.out,HCn.out]; exact ho5,hb5⟩
     case measure=>simp [intOf]; omega
    ·have e:k=2:=by omega
     subst e;have hsh:∃ a c,u6 = .slice a (n+m) c:=by
      obtain ⟨_,⟨e,h0⟩ | ⟨g,c1,cur,e,_⟩⟩:=ho
      ·have h0:n+m=0:=h0;exact ⟨none,0,by rw [e,h0]⟩
      ·exact ⟨_,c1,e⟩
     obtain ⟨a6,c6,rfl⟩:=hsh;go_wp2
     go_ret;exact ⟨_,rfl,by rw [HW0.out]; exact ho,by rw [HW0.out]; exact hb⟩
end Go.Proofs.YtohjlfhmnmcndaaGreat
namespace Go.Proofs.YtohjlfhmnmcndaaGreat
open Go.Sort
set_option maxRecDepth 100000
set_option maxHeartbeats 16000000
variable {α:Type} [Inhabited α]
structure iC (cf:α→α→Int) (pre:α→α→Prop):Prop where
 neg:∀ x y,cf x y = - cf y x
 trans:∀ x y z,cf x y≤0→cf y z≤0→cf x z≤0
 FY:∀ x y z,pre x y→pre y z→pre x z
def St (cf:α→α→Int) (pre:α→α→Prop) (x y:α):Prop:=cf x y<0∨(cf x y=0∧pre x y)
variable {cf:α→α→Int} {pre:α→α→Prop}
omit [Inhabited α] in
theorem iC.Cb (h:iC cf pre) {x y z:α} (h1:cf x y<0) (h2:cf y z≤0):cf x z<0:=by
 have h3:=h.trans x y z (by omega) h2
 by_cases e:cf x z=0
 ·have h4:=h.trans y z x h2 (by have:=h.neg x z; omega)
  have:=h.neg x y
  omega
 ·omega
omit [Inhabited α] in
theorem iC.GQ (h:iC cf pre) {x y z:α} (h1:cf x y≤0) (h2:cf y z<0):cf x z<0:=by
 have h3:=h.trans x y z h1 (by omega)
 by_cases e:cf x z=0
 ·have h4:=h.trans z x y (by have:=h.neg x z; omega) h1
  have:=h.neg y z
  omega
 ·omega
omit [Inhabited α] in
theorem St.le {x y:α} (h:St cf pre x y):cf x y≤0:=by rcases h with h | ⟨h,_⟩ <;> omega
omit [Inhabited α] in
theorem St.trans (h:iC cf pre) {x y z:α} (h1:St cf pre x y) (h2:St cf pre y z):St cf pre x z:=by
 rcases h1 with h1 | ⟨h1,p1⟩
 ·exact .inl (h.Cb h1 h2.le)
 ·rcases h2 with h2 | ⟨h2,p2⟩
  ·exact .inl (h.GQ (by omega) h2)
  ·have a:=h.trans x y z (by omega) (by omega)
   have b:=h.trans z y x (by have:=h.neg y z; omega) (by have:=h.neg x y; omega)
   have:=h.neg x z
   exact .inr ⟨by omega,h.FY _ _ _ p1 p2⟩
omit [Inhabited α] in
theorem St.of (h:iC cf pre) {x y:α} (h1:¬ cf y x<0) (h2:pre x y):St cf pre x y:=by
 have:=h.neg x y;by_cases e:cf x y=0
 ·exact .inr ⟨e,h2⟩
 ·exact .inl (by omega)
def aN (cf:α→α→Int) (pre:α→α→Prop) (a b:Nat) (d:Array α):Prop:=∀ i j,a≤i→i<j→j<b→St cf pre d[i]! d[j]!
def eM (pre:α→α→Prop) (a m b:Nat) (d:Array α):Prop:=∀ i j,a≤i→i<m→m≤j→j<b→pre d[i]! d[j]!
def xC (pre:α→α→Prop) (a b:Nat) (d:Array α):Prop:=∀ i j,a≤i→i<j→j<b→pre d[i]! d[j]!
structure Ds (cf:α→α→Int) (pre:α→α→Prop) (a j i:Nat) (d:Array α):Prop where
 rest:∀ p q,a≤p→p<q→q≤i→p≠j→q≠j→St cf pre d[p]! d[q]!
 right:∀ q,j<q→q≤i→cf d[j]! d[q]! < 0
 left:∀ p,a≤p→p<j→pre d[p]! d[j]!
theorem Ds.stop (h:iC cf pre) {a j i:Nat} {d:Array α} (hI:Ds cf pre a j i d) (hs:j≤a∨ltOf cf d[j]! d[j - 1]! = false):aN cf pre a (i+1) d:=by
 intro p q hap hpq hqi;by_cases hq:q=j
 ·subst hq;rcases hs with hs | hs
  ·omega
  ·have hs':¬ cf d[q]! d[q - 1]! < 0:=by simpa [ltOf] using hs
   have s1:St cf pre d[q - 1]! d[q]!:=St.of h hs' (hI.left (q - 1) (by omega) (by omega));by_cases hp:p=q - 1
   ·subst hp; exact s1
   ·exact (hI.rest p (q - 1) hap (by omega) (by omega) (by omega) (by omega)).trans h s1
 ·by_cases hp:p=j
  ·subst hp; exact .inl (hI.right q hpq (by omega))
  ·exact hI.rest p q hap hpq (by omega) hp hq
theorem Ds.step {a j i:Nat} {d:Array α} (h:Ds cf pre a (j+1) i d) (hl:ltOf cf d[j+1]! d[j]! = true) (haj:a≤j) (hsz:j+1<d.size):Ds cf pre a j i (swp d (j+1) j):=by
 have g:=swp_get d hsz (show j<d.size by omega);have hl':cf d[j+1]! d[j]! < 0:=by simpa [ltOf] using hl
 refine ⟨?_,?_,?_⟩
 ·intro p q hap hpq hqi hp hq;rw [g,g];by_cases hq1:q=j+1
  ·subst hq1;simp only [hq,hp,if_false,if_true,show p≠j+1 by omega];exact h.rest p j hap (by omega) (by omega) (by omega) (by omega)
  ·by_cases hp1:p=j+1
   ·subst hp1;simp only [hq,hp,hq1,if_false,if_true];exact h.rest j q haj (by omega) hqi (by omega) hq1
   ·simp only [hq,hp,hq1,hp1,if_false];exact h.rest p q hap hpq hqi hp1 hq1
 ·intro q hjq hqi;rw [g,g];by_cases hq1:q=j+1
  ·subst hq1
   simpa [show j+1≠j by omega] using hl'
  ·simp only [if_true,show q≠j by omega,hq1,if_false];exact h.right q (by omega) hqi
 ·intro p hap hpj;rw [g,g];simp only [show p≠j by omega,show p≠j+1 by omega,if_false,if_true];exact h.left p hap (by omega)
theorem uK (h:iC cf pre) (a b i:Nat) (hib:i<b) :
  ∀ (j:Nat) (d:Array α),a≤j→j≤i→b≤d.size→Ds cf pre a j i d→PermIn a (i+1) d (insInner (ltOf cf) a j d)∧aN cf pre a (i+1) (insInner (ltOf cf) a j d)
 | 0,d,_,_,_,hI=>by
  unfold insInner
  exact ⟨permIn_refl d a _,hI.stop h (Or.inl (Nr _))⟩
 | j+1,d,haj,hji,hb,hI=>by
  unfold insInner
  split
  ·rename_i hc
   simp only [NQ,decide_eq_true_eq] at hc
   have ih:=uK h a b i hib j (swp d (j+1) j) (by omega) (by omega) (by rw [swp_size]; exact hb) (hI.step hc.2 (by omega) (by omega))
   exact ⟨permIn_trans _ _ _ a (i+1) (swp_permIn d a (i+1) (j+1) j haj (by omega) (by omega) (by omega) (by omega)) ih.1,ih.2⟩
  ·rename_i hc
   simp only [NQ,decide_eq_true_eq,not_and,Bool.not_eq_true] at hc
   refine ⟨permIn_refl d a _,hI.stop h ?_⟩
   by_cases h:j+1 > a
   ·exact Or.inr (by simpa using hc h)
   ·exact Or.inl (by omega)
theorem vJ (h:iC cf pre) (a b:Nat) :
  ∀ (n i:Nat) (d:Array α),b - i=n→a<i→i≤b→b≤d.size→aN cf pre a i d→eM pre a i b d→xC pre i b d→PermIn a b d (insOuter (ltOf cf) a b i d)∧aN cf pre a b (insOuter (ltOf cf) a b i d)
 | 0,i,d,hn,_,hib,_,hs,_,_=>by
  obtain rfl:i=b:=by omega
  rw [insOuter,if_neg (by omega)]
  exact ⟨permIn_refl d a i,hs⟩
 | n+1,i,d,hn,hai,hib,hb,hs,hp,hq=>by
  have hlt:i<b:=by omega
  rw [insOuter,if_pos hlt]
  have h1:=uK h a b i hlt i d (by omega) (Nj _) hb ⟨fun p q hap hpq hqi _ hq=>hs p q hap hpq (by omega),fun q h1 h2=>by omega,fun p h1 h2=>hp p i h1 h2 (Nj _) hlt⟩
  have out:∀ q,i+1≤q→(insInner (ltOf cf) a i d)[q]! = d[q]!:=fun q hq'=>h1.1.2.1 q (Or.inr hq')
  have p1:eM pre a (i+1) b (insInner (ltOf cf) a i d):=by
   intro p q hap hpi hiq hqb;rw [out q hiq];refine permIn_all d _ a (i+1) (fun x=>pre x d[q]!) (by omega) h1.1 ?_ p hap hpi;intro p hap hpi;by_cases e:p=i
   ·subst e; exact hq p q (Nj _) hiq hqb
   ·exact hp p q hap (by omega) (by omega) hqb
  have q1:xC pre (i+1) b (insInner (ltOf cf) a i d):=by
   intro p q hap hpq hqb;rw [out p hap,out q (by omega)];exact hq p q (by omega) hpq hqb
  have h2:=vJ h a b n (i+1) (insInner (ltOf cf) a i d) (by omega) (by omega) (by omega) (by rw [h1.1.1]; exact hb) h1.2 p1 q1;exact ⟨permIn_trans _ _ _ a b (permIn_mono _ _ a (i+1) a b (Nj _) (by omega) hb h1.1) h2.1,h2.2⟩
theorem nE (h:iC cf pre) (a b:Nat) (d:Array α) (hab:a≤b) (hb:b≤d.size) (hp:xC pre a b d):PermIn a b d (insertionSort (ltOf cf) d a b)∧aN cf pre a b (insertionSort (ltOf cf) d a b):=by
 unfold insertionSort;by_cases e:a=b
 ·subst e;rw [insOuter,if_neg (by omega)];exact ⟨permIn_refl d a a,fun i j h1 h2 h3=>by omega⟩
 ·exact vJ h a b (b - (a+1)) (a+1) d rfl (by omega) (by omega) hb (fun i j h1 h2 h3=>by omega) (fun i j h1 h2 h3 h4=>hp i j h1 (by omega) h4) (fun i j h1 h2 h3=>hp i j (by omega) h2 h3)
def rM (a b n:Nat) (d d':Array α):Prop:=d'.size=d.size∧∀ i,d'[i]! = if a≤i∧i<a+n then d[b+(i - a)]! else if b≤i∧i<b+n then d[a+(i - b)]! else d[i]!
def gI (a m b:Nat) (d d':Array α):Prop:=d'.size=d.size∧∀ i,d'[i]! = if a≤i∧i<a+(b - m) then d[m+(i - a)]! else if a+(b - m)≤i∧i<b then d[a+(i - (a+(b - m)))]! else d[i]!
theorem rM.zero (a b:Nat) (d:Array α):rM a b 0 d d:=⟨rfl,fun i=>by rw [if_neg (by omega),if_neg (by omega)]⟩
theorem rM.step {a b n:Nat} {d d':Array α} (h:rM a b n d d') (hab:a+n<b) (hb:b+n<d.size):rM a b (n+1) d (swp d' (a+n) (b+n)):=by
 have sz:=h.1;refine ⟨by rw [swp_size]; exact sz,fun i=>?_⟩;rw [swp_get d' (show a+n<d'.size by omega) (show b+n<d'.size by omega),h.2,h.2,h.2];by_cases e1:i=b+n
 ·subst e1;rw [if_pos rfl,if_neg (by omega),if_neg (by omega),if_neg (by omega),if_pos (by omega)]
  congr 1; omega
 ·rw [if_neg e1];by_cases e2:i=a+n
  ·subst e2;rw [if_pos rfl,if_neg (by omega),if_neg (by omega),if_pos (by omega)]
   congr 1; omega
  ·rw [if_neg e2];by_cases c1:a≤i∧i<a+n
   ·rw [if_pos c1,if_pos (by omega)]
   ·rw [if_neg c1,if_neg (show ¬ (a≤i∧i<a+(n+1)) by omega)];by_cases c2:b≤i∧i<b+n
    ·rw [if_pos c2,if_pos (by omega)]
    ·rw [if_neg c2,if_neg (by omega)]
theorem gI.same {m i:Nat} {d d':Array α} (h:rM (m - i) m i d d') (hi:i≤m):gI (m - i) m (m+i) d d':=by
 refine ⟨h.1,fun q=>?_⟩;rw [h.2];by_cases c1:m - i≤q∧q<m - i+i
 ·rw [if_pos c1,if_pos (by omega)]
 ·rw [if_neg c1,if_neg (show ¬ (m - i≤q∧q<m - i+(m+i - m)) by omega)];by_cases c2:m≤q∧q<m+i
  ·rw [if_pos c2,if_pos (by omega)]
   congr 1; omega
  ·rw [if_neg c2,if_neg (by omega)]
theorem gI.left {m i j:Nat} {d d1 d':Array α} (hs:rM (m - i) m j d d1) (hi:i≤m) (hj:j<i) (h:gI (m - (i - j)) m (m+j) d1 d'):gI (m - i) m (m+j) d d':=by
 refine ⟨h.1.trans hs.1,fun q=>?_⟩;rw [h.2];by_cases c1:m - i≤q∧q<m - i+j
 ·rw [if_neg (by omega),if_neg (by omega),hs.2,if_pos c1,if_pos (by omega)]
 ·rw [if_neg (show ¬ (m - i≤q∧q<m - i+(m+j - m)) by omega)];by_cases c2:m - (i - j)≤q∧q<m - (i - j)+(m+j - m)
  ·rw [if_pos c2,hs.2,if_neg (by omega),if_pos (by omega),if_pos (by omega)]
   congr 1; omega
  ·rw [if_neg c2];by_cases c3:m - (i - j)+(m+j - m)≤q∧q<m+j
   ·rw [if_pos c3,hs.2,if_neg (by omega),if_neg (by omega),if_pos (by omega)]
    congr 1; omega
   ·rw [if_neg c3,hs.2,if_neg (by omega),if_neg (by omega),if_neg (by omega)]
theorem gI.right {m i j:Nat} {d d1 d':Array α} (hs:rM (m - i) (m+j - i) i d d1) (hi:i≤m) (hj:i<j) (h:gI (m - i) m (m+(j - i)) d1 d'):gI (m - i) m (m+j) d d':=by
 refine ⟨h.1.trans hs.1,fun q=>?_⟩;rw [h.2];by_cases c1:m - i≤q∧q<m - i+(m+(j - i) - m)
 ·rw [if_pos c1,if_pos (by omega),hs.2];by_cases e:m+(q - (m - i))<m+j - i
  ·rw [if_neg (by omega),if_neg (by omega)]
  ·rw [if_neg (by omega),if_pos (by omega)];omega
 ·rw [if_neg c1];by_cases c2:m - i+(m+(j - i) - m)≤q∧q<m+(j - i)
  ·rw [if_pos c2,hs.2,if_pos (by omega),if_pos (by omega)]
   congr 1; omega
  ·rw [if_neg c2,hs.2];by_cases c3:m+j - i≤q∧q<m+j
   ·rw [if_neg (by omega),if_pos (by omega),if_neg (by omega),if_pos (by omega)]
    congr 1; omega
   ·rw [if_neg (by omega),if_neg (by omega),if_neg (by omega),if_neg (by omega)]
theorem gI.none (a:Nat) (m:Nat) (d:Array α):gI a m m d d:=⟨rfl,fun i=>by
 rw [if_neg (by omega)]
 by_cases c:a+(m - m)≤i∧i<m
 ·rw [if_pos c]; congr 1; omega
 ·rw [if_neg c]⟩
theorem gI.nothing (m b:Nat) (d:Array α) (h:m≤b):gI m m b d d:=⟨rfl,fun i=>by
 by_cases c:m≤i∧i<m+(b - m)
 ·rw [if_pos c]; congr 1; omega
 ·rw [if_neg c,if_neg (by omega)]⟩
theorem gI.up {a k:Nat} {d d':Array α} (h:gI a (a+1) (k+1) d d') (hk:a≤k) (hs:k+1<d.size):gI a (a+1) (k+2) d (swp d' k (k+1)):=by
 have sz:=h.1;refine ⟨by rw [swp_size]; exact sz,fun i=>?_⟩;rw [swp_get d' (show k<d'.size by omega) (show k+1<d'.size by omega),h.2,h.2,h.2];by_cases e1:i=k+1
 ·subst e1;rw [if_pos rfl,if_neg (by omega),if_pos (by omega),if_neg (by omega),if_pos (by omega)]
  congr 1; omega
 ·rw [if_neg e1];by_cases e2:i=k
  ·subst e2;rw [if_pos rfl,if_neg (by omega),if_neg (by omega),if_pos (by omega)]
   congr 1; omega
  ·rw [if_neg e2];by_cases c1:a≤i∧i<a+(k+1 - (a+1))
   ·rw [if_pos c1,if_pos (by omega)]
   ·rw [if_neg c1,if_neg (by omega),if_neg (by omega),if_neg (by omega)]
theorem gI.down {m k:Nat} {d d':Array α} (h:gI (k+1) m (m+1) d d') (hk:k+1≤m) (hs:m<d.size):gI k m (m+1) d (swp d' (k+1) k):=by
 have sz:=h.1;refine ⟨by rw [swp_size]; exact sz,fun i=>?_⟩;rw [swp_get d' (show k+1<d'.size by omega) (show k<d'.size by omega),h.2,h.2,h.2];by_cases e1:i=k
 ·subst e1;rw [if_pos rfl,if_pos (by omega),if_pos (by omega)]
  congr 1; omega
 ·rw [if_neg e1];by_cases e2:i=k+1
  ·subst e2;rw [if_pos rfl,if_neg (by omega),if_neg (by omega),if_neg (by omega),if_pos (by omega)]
   congr 1; omega
  ·rw [if_neg e2];by_cases c2:k+1+(m+1 - m)≤i∧i<m+1
   ·rw [if_neg (by omega),if_pos c2,if_neg (by omega),if_pos (by omega)]
    congr 1; omega
   ·rw [if_neg (by omega),if_neg c2,if_neg (by omega),if_neg (by omega)]
theorem gI.l1 {a m b:Nat} {d d':Array α} (h:gI a m b d d') {i:Nat} (h1:a≤i) (h2:i<a+(b - m)):d'[i]! = d[m+(i - a)]!:=by rw [h.2,if_pos ⟨h1,h2⟩]
theorem gI.l2 {a m b:Nat} {d d':Array α} (h:gI a m b d d') {i:Nat} (h1:a+(b - m)≤i) (h2:i<b):d'[i]! = d[a+(i - (a+(b - m)))]!:=by rw [h.2,if_neg (by omega),if_pos ⟨h1,h2⟩]
theorem gI.l0 {a m b:Nat} {d d':Array α} (h:gI a m b d d') {i:Nat} (h1:i<a∨b≤i) (hm:a≤m) (hb:m≤b):d'[i]! = d[i]!:=by rw [h.2,if_neg (by omega),if_neg (by omega)]
structure Split (cf:α→α→Int) (pre:α→α→Prop) (a s mid e b:Nat) (d:Array α):Prop where
 s1:aN cf pre a s d
 s2:aN cf pre s mid d
 p1:eM pre a s mid d
 s3:aN cf pre mid e d
 s4:aN cf pre e b d
 p2:eM pre mid e b d
 lr:∀ i j,a≤i→i<mid→mid≤j→j<b→St cf pre d[i]! d[j]!
theorem FH (h:iC cf pre) {a s m e b mid:Nat} {d d':Array α} (h1:aN cf pre a m d) (h2:aN cf pre m b d) (hp:eM pre a m b d) (has:a≤s) (hsm:s≤m) (hme:m≤e) (heb:e≤b) (hmid:mid=s+(e - m))
  (c1:s=a∨e=b∨¬ cf d[e]! d[s - 1]! < 0) (c2:s=m∨e=m∨cf d[e - 1]! d[s]! < 0) (hr:gI s m e d d'):Split cf pre a s mid e b d':=by
 subst hmid;have L0:=fun i (hi:i<s∨e≤i)=>hr.l0 hi hsm hme
 have L1:=fun i h1 h2=>hr.l1 (i:=i) h1 h2
 have L2:=fun i h1 h2=>hr.l2 (i:=i) h1 h2
 refine ⟨?_,?_,?_,?_,?_,?_,?_⟩
 ·intro i j hi hij hj;rw [L0 i (by omega),L0 j (by omega)];exact h1 i j hi hij (by omega)
 ·intro i j hi hij hj;rw [L1 i hi (by omega),L1 j (by omega) hj];exact h2 _ _ (by omega) (by omega) (by omega)
 ·intro i j hi his hsj hj;rw [L0 i (by omega),L1 j hsj hj];exact hp _ _ hi (by omega) (by omega) (by omega)
 ·intro i j hi hij hj;rw [L2 i hi (by omega),L2 j (by omega) hj];exact h1 _ _ (by omega) (by omega) (by omega)
 ·intro i j hi hij hj;rw [L0 i (by omega),L0 j (by omega)];exact h2 i j (by omega) hij (by omega)
 ·intro i j hi his hsj hj;rw [L2 i hi his,L0 j (by omega)];exact hp _ _ (by omega) (by omega) (by omega) hj
 ·intro i j hi his hsj hj;by_cases ci:i<s
  ·rw [L0 i (by omega)];by_cases cj:j<e
   ·rw [L2 j hsj cj];exact h1 _ _ hi (by omega) (by omega)
   ·rw [L0 j (by omega)];rcases c1 with c1 | c1 | c1
    ·omega
    ·omega
    ·have q0:St cf pre d[s - 1]! d[e]!:=St.of h c1 (hp _ _ (by omega) (by omega) hme (by omega));have q1:St cf pre d[i]! d[e]!:=by
      by_cases e1:i=s - 1
      ·subst e1; exact q0
      ·exact (h1 i (s - 1) hi (by omega) (by omega)).trans h q0
     by_cases e1:j=e
     ·subst e1; exact q1
     ·exact q1.trans h (h2 e j hme (by omega) hj)
  ·rw [L1 i (by omega) his];by_cases cj:j<e
   ·rw [L2 j hsj cj];rcases c2 with c2 | c2 | c2
    ·omega
    ·omega
    ·have q0:St cf pre d[e - 1]! d[s]!:=.inl c2;have q1:St cf pre d[m+(i - s)]! d[s]!:=by
      by_cases e1:m+(i - s)=e - 1
      ·rw [e1]; exact q0
      ·exact (h2 _ (e - 1) (by omega) (by omega) (by omega)).trans h q0
     by_cases e1:s+(j - (s+(e - m)))=s
     ·rw [e1]; exact q1
     ·exact q1.trans h (h1 s _ has (by omega) (by omega))
   ·rw [L0 j (by omega)];exact h2 _ _ (by omega) (by omega) hj
theorem jX {a mid b:Nat} {d d1 d2:Array α} (hb:b≤d.size) (hmb:mid≤b) (lr:∀ i j,a≤i→i<mid→mid≤j→j<b→St cf pre d[i]! d[j]!)
  (p1:PermIn a mid d d1) (s1:aN cf pre a mid d1) (p2:PermIn mid b d1 d2) (s2:aN cf pre mid b d2):aN cf pre a b d2:=by
 have lr1:∀ i j,a≤i→i<mid→mid≤j→j<b→St cf pre d1[i]! d1[j]!:=by
  intro i j hi him hj hjb;rw [p1.2.1 j (Or.inr hj)];exact permIn_all d d1 a mid (fun x=>St cf pre x d[j]!) (by omega) p1 (fun i h1 h2=>lr i j h1 h2 hj hjb) i hi him
 intro i j hi hij hj;by_cases ci:i<mid
 ·rw [p2.2.1 i (Or.inl ci)];by_cases cj:j<mid
  ·rw [p2.2.1 j (Or.inl cj)];exact s1 i j hi hij cj
  ·exact permIn_all d1 d2 mid b (fun x=>St cf pre d1[i]! x) (by rw [p1.1]; exact hb) p2 (fun j h1 h2=>lr1 i j hi ci h1 h2) j (by omega) hj
 ·exact s2 i j (by omega) hij hj
theorem JM (h:iC cf pre) {a i b:Nat} {d d':Array α} (h2:aN cf pre (a+1) b d) (hp:eM pre a (a+1) b d) (hi:a+1≤i) (hib:i≤b) (lo:∀ q,a+1≤q→q<i→cf d[q]! d[a]! < 0) (hi':∀ q,i≤q→q<b→¬ cf d[q]! d[a]! < 0) (hr:gI a (a+1) i d d'):aN cf pre a b d':=by
 intro p q hap hpq hqb;by_cases c1:q<i - 1
 ·rw [hr.l1 hap (by omega),hr.l1 (i:=q) (by omega) (by omega)];exact h2 _ _ (by omega) (by omega) (by omega)
 ·by_cases c2:q=i - 1
  ·rw [hr.l1 hap (by omega),hr.l2 (i:=q) (by omega) (by omega)];have e:a+(q - (a+(i - (a+1))))=a:=by omega
   rw [e];exact .inl (lo _ (by omega) (by omega))
  ·rw [hr.l0 (i:=q) (by omega) (by omega) (by omega)];by_cases c3:p<i - 1
   ·rw [hr.l1 hap (by omega)];exact h2 _ _ (by omega) (by omega) hqb
   ·by_cases c4:p=i - 1
    ·rw [hr.l2 (i:=p) (by omega) (by omega)];have e:a+(p - (a+(i - (a+1))))=a:=by omega
     rw [e];exact St.of h (hi' q (by omega) hqb) (hp a q (Nj _) (by omega) (by omega) hqb)
    ·rw [hr.l0 (i:=p) (by omega) (by omega) (by omega)];exact h2 _ _ (by omega) hpq hqb
theorem Hd (h:iC cf pre) {a i m:Nat} {d d':Array α} (h1:aN cf pre a m d) (hp:eM pre a m (m+1) d) (hi:a≤i) (him:i≤m) (lo:∀ q,a≤q→q<i→¬ cf d[m]! d[q]! < 0) (hi':∀ q,i≤q→q<m→cf d[m]! d[q]! < 0) (hr:gI i m (m+1) d d'):aN cf pre a (m+1) d':=by
 intro p q hap hpq hqb;by_cases c1:q<i
 ·rw [hr.l0 (i:=p) (by omega) (by omega) (by omega),hr.l0 (i:=q) (by omega) (by omega) (by omega)];exact h1 _ _ hap hpq (by omega)
 ·by_cases c2:q=i
  ·subst c2;rw [hr.l0 (i:=p) (by omega) (by omega) (by omega),hr.l1 (i:=q) (by omega) (by omega)];have e:m+(q - q)=m:=by omega
   rw [e];exact St.of h (lo p hap hpq) (hp p m hap (by omega) (Nj _) (by omega))
  ·rw [hr.l2 (i:=q) (by omega) (by omega)];by_cases c3:p<i
   ·rw [hr.l0 (i:=p) (by omega) (by omega) (by omega)];exact h1 _ _ hap (by omega) (by omega)
   ·by_cases c4:p=i
    ·rw [hr.l1 (i:=p) (by omega) (by omega)];have e:m+(p - i)=m:=by omega
     rw [e];exact .inl (hi' _ (by omega) (by omega))
    ·rw [hr.l2 (i:=p) (by omega) (by omega)];exact h1 _ _ (by omega) (by omega) (by omega)
theorem aN.sub {a b a' b':Nat} {d:Array α} (h:aN cf pre a b d) (ha:a≤a') (hb:b'≤b):aN cf pre a' b' d:=fun i j h1 h2 h3=>h i j (by omega) h2 (by omega)
theorem aN.congr {a b:Nat} {d d':Array α} (h:aN cf pre a b d) (e:∀ i,a≤i→i<b→d'[i]! = d[i]!):aN cf pre a b d':=fun i j h1 h2 h3=>by
 rw [e i h1 (by omega),e j (by omega) h3]; exact h i j h1 h2 h3
theorem aN.one {a b:Nat} {d:Array α} (h:b≤a+1):aN cf pre a b d:=fun i j h1 h2 h3=>by omega
theorem eM.perm {a m b:Nat} {d d':Array α} (hb:b≤d.size) (hmb:m≤b) (h:eM pre a m b d) (p1:PermIn a m d d'):eM pre a m b d':=fun i j h1 h2 h3 h4=>by
 rw [p1.2.1 j (Or.inr h3)]
 exact permIn_all d d' a m (fun x=>pre x d[j]!) (by omega) p1 (fun i g1 g2=>h i j g1 g2 h3 h4) i h1 h2
end Go.Proofs.YtohjlfhmnmcndaaGreat
