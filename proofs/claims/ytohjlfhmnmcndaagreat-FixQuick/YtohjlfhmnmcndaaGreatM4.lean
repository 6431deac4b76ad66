/- Together: S2, S3, S4, S5, W6, W7, W12, X1, Y8. -/
import Derived.Test.YtohjlfhmnmcndaaGreatProg
import Derived.Shelf.SlSortCmp.KitK
import Derived.Sort.WalkB2
import Derived.Sort.WalkB12
import Derived.Deep.LoopGhost
import Derived.Deep.Cut
import Derived.Shelf.Abstract
import Derived.Test.YtohjlfhmnmcndaaGreatM3
import Derived.Test.YtohjlfhmnmcndaaGreatM0
import Derived.Test.YtohjlfhmnmcndaaGreatM1
import Derived.Test.YtohjlfhmnmcndaaGreatM2
namespace Go.Proofs.YtohjlfhmnmcndaaGreat
open Go.Shelf Go.RowKit Go.Lib Go.Sort
set_option maxRecDepth 100000
set_option maxHeartbeats 16000000
variable {P:Program} {α:Type} [Inhabited α]
structure sJ (P:Program) (k:Nat):Prop where
 mixed:P.follows .mixedOrders=true
 M6:P.funcs[249]? = some Tryz.f249
 MV:P.funcs[241]? = some Tryz.f241
 MD:P.funcs[218]? = some Tryz.f218
 M0:P.funcs[192]? = some Tryz.f192
 M1:P.funcs[158]? = some Tryz.f158
 t0:P.underlying 0=some (TypeDesc.tuple #[])
 a0:∀ w,(isAgg 0).run P w = .ok false w
 z0:∀ w,(Go.sizeOf 0).run P w = .ok 1 w
 t3:P.underlying 3=some (TypeDesc.int IntKind.i64)
 a3:∀ w,(isAgg 3).run P w = .ok false w
 z3:∀ w,(Go.sizeOf 3).run P w = .ok 1 w
 v3:∀ w,(zeroValue 3).run P w = .ok (Value.int IntKind.i64 0) w
 t4:P.underlying 4=some (TypeDesc.bool)
 a4:∀ w,(isAgg 4).run P w = .ok false w
 z4:∀ w,(Go.sizeOf 4).run P w = .ok 1 w
 t22:P.underlying 151=some (TypeDesc.slice 157)
 a22:∀ w,(isAgg 151).run P w = .ok false w
 z22:∀ w,(Go.sizeOf 151).run P w = .ok 1 w
 t25:P.underlying 194=some (TypeDesc.func #[157,157] #[3] false)
 a25:∀ w,(isAgg 194).run P w = .ok false w
 z25:∀ w,(Go.sizeOf 194).run P w = .ok 1 w
 t39:P.underlying 127=some (TypeDesc.int IntKind.u64)
 a39:∀ w,(isAgg 127).run P w = .ok false w
 z39:∀ w,(Go.sizeOf 127).run P w = .ok 1 w
 aE:∀ w,(isAgg 157).run P w = .ok true w
 zE:∀ w,(Go.sizeOf 157).run P w = .ok k w
theorem Tryz.L9:sJ Tryz.prog 3 where
 mixed:=by kernel_rfl
 M6:=Tryz.func249
 MV:=Tryz.func241
 MD:=Tryz.func218
 M0:=Tryz.func192
 M1:=Tryz.func158
 t0:=Tryz.underlying0
 a0:=Tryz.isAgg0
 z0:=Tryz.sizeOf0
 t3:=Tryz.underlying3
 a3:=Tryz.isAgg3
 z3:=Tryz.sizeOf3
 v3:=Tryz.zeroValue3
 t4:=Tryz.underlying4
 a4:=Tryz.isAgg4
 z4:=Tryz.sizeOf4
 t22:=Tryz.underlying151
 a22:=Tryz.isAgg151
 z22:=Tryz.sizeOf151
 t25:=Tryz.underlying194
 a25:=Tryz.isAgg194
 z25:=Tryz.sizeOf194
 t39:=Tryz.underlying127
 a39:=Tryz.isAgg127
 z39:=Tryz.sizeOf127
 aE:=Tryz.isAgg157
 zE:=Tryz.sizeOf157
theorem kK (k:Nat) (L:sJ P k) (enc:α→List Value) (g:Nat) (cb:Array Value) (bm off cap a b n:Nat) (d0 d:Array α) (w0 w:World)
  (R:RowK enc k w0 bm off d0) (hs:d0.size=d.size) (S:SWK enc k w0 bm off d w) (hab:a+n≤b) (hb:b+n≤d.size) (hsz:d.size<4611686018427387904) :
  Calls P 249 #[.slice (some ⟨bm,off,none⟩) d.size cap,.int .i64 a,.int .i64 b,.int .i64 n,.func (.func g) #[] cb] w fun e w'=>e = .returned (.tuple #[])∧∃ d',rM a b n d d'∧SWK enc k w0 bm off d' w':=by
 have mixed:=L.mixed; have t0:=L.t0; have a0:=L.a0; have z0:=L.z0; have t3:=L.t3; have a3:=L.a3; have z3:=L.z3; have v3:=L.v3; have t4:=L.t4; have a4:=L.a4; have z4:=L.z4; have t22:=L.t22; have a22:=L.a22; have z22:=L.z22; have t25:=L.t25; have a25:=L.a25; have z25:=L.z25; have aE:=L.aE; have zE:=L.zE;have FG:=L.M6;have S0:Aside (SWK enc k w0 bm off d w):=S;clear S L;go_enter FG,Tryz.ntmps249;go_wp2
 go_loopg [10] n (fun kx s10 wr=>∃ (i:Nat) (dk:Array α),s10 = .int .i64 i∧i≤n∧n - i≤kx∧dk.size=d.size∧Hid (rM a b i d dk)∧Aside (SWK enc k w0 bm off dk wr))
 case atStart=>exact ⟨0,d,rfl,Nr _,Nj _,rfl,rM.zero a b d,S0⟩
 case round =>
  clear S0;obtain ⟨i,dk,rfl,hin,hkx,hds,HS,S1⟩:=hrel;by_cases hlt:i<n
  ·have hltz:(i:Int)<(n:Int):=by omega
   go_wp2_with fail
   have ea44:((a:Int)+(i:Int)).toNat=a+i:=by omega
   have pa44:(0:Int)≤(a:Int)+(i:Int):=by omega
   have ba44:(a:Int)+(i:Int)<(d.size:Int):=by omega
   have ra44:IntKind.i64.wrap ((a:Int)+(i:Int))=(a:Int)+(i:Int):=by rw [IntKind.wrap_i64]; omega
   have ec44:((b:Int)+(i:Int)).toNat=b+i:=by omega
   have pc44:(0:Int)≤(b:Int)+(i:Int):=by omega
   have bc44:(b:Int)+(i:Int)<(d.size:Int):=by omega
   have rc44:IntKind.i64.wrap ((b:Int)+(i:Int))=(b:Int)+(i:Int):=by rw [IntKind.wrap_i64]; omega
   have S2:Aside (SWK enc k w0 bm off (swp dk (a+i) (b+i)) ((wr.drew.setCells bm (off+(a+i)*k) (enc dk[b+i]!)).setCells bm (off+(b+i)*k) (enc dk[a+i]!))):=S1.out.swapped R (a+i) (b+i) (by omega) (by omega);have l44a:=S1.out.ld1 R (by omega) P (a+i) (by omega);have l44b:=S1.out.ld1 R (by omega) P (b+i) (by omega);have s44a:=S1.out.st1 R (by omega) P (a+i) (by omega) dk[b+i]!;have s44b:=S1.out.st2 R (by omega) P (a+i) (b+i) (by omega) (by omega) dk[b+i]! dk[a+i]!;have n44a:(enc dk[a+i]!).length=k:=R.hk _;have n44b:(enc dk[b+i]!).length=k:=R.hk _
   generalize enc dk[a+i]! = cI44 at S2 l44a s44b n44a;generalize enc dk[b+i]! = cJ44 at S2 l44b s44a s44b n44b;clear S1;go_wp2_with fail
   go_big_region_o
   clear l44a l44b s44a s44b;generalize (wr.drew.setCells bm (off+(a+i)*k) cJ44).setCells bm (off+(b+i)*k) cI44=w2 at S2 ⊢;go_wp2
   go_roundg (n - (i+1))
   case measure=>omega
   case rel=>exact ⟨i+1,swp dk (a+i) (b+i),by simp,by omega,Nj _,by rw [size_swp]; exact hds,HS.out.step (by omega) (by omega),S2⟩
  ·have hltz:¬ (i:Int)<(n:Int):=by omega
   have e:i=n:=by omega
   subst e;go_wp2
   go_end0
   exact ⟨rfl,dk,HS.out,S1.out⟩
theorem mD (k:Nat) (L:sJ P k) (enc:α→List Value) (g:Nat) (cb:Array Value) (bm off cap a m b:Nat) (d0 d:Array α) (w0 w:World)
  (R:RowK enc k w0 bm off d0) (hs:d0.size=d.size) (S:SWK enc k w0 bm off d w) (ham:a<m) (hmb:m<b) (hb:b≤d.size) (hsz:d.size<4611686018427387904)
  (eg:∀ args w,(callFunc 249 args).run P w = .ok (.enter 249 args) w) :
  Calls P 241 #[.slice (some ⟨bm,off,none⟩) d.size cap,.int .i64 a,.int .i64 m,.int .i64 b,.func (.func g) #[] cb] w fun e w'=>e = .returned (.tuple #[])∧∃ d',gI a m b d d'∧SWK enc k w0 bm off d' w':=by
 have mixed:=L.mixed; have t0:=L.t0; have a0:=L.a0; have z0:=L.z0; have t3:=L.t3; have a3:=L.a3; have z3:=L.z3; have v3:=L.v3; have t4:=L.t4; have a4:=L.a4; have z4:=L.z4; have t22:=L.t22; have a22:=L.a22; have z22:=L.z22; have t25:=L.t25; have a25:=L.a25; have z25:=L.z25;have FG:=L.MV;have HL:Hid (sJ P k):=L;have S0:Aside (SWK enc k w0 bm off d w):=S;have HR:Aside (RowK enc k w0 bm off d0):=R;clear S L R;go_enter FG,Tryz.ntmps241;go_wp2
 go_loopg [10,11] (b - a) (fun kx s10 s11 wr=>∃ (i j:Nat) (dk:Array α),s10 = .int .i64 i∧s11 = .int .i64 j∧0<i∧0<j∧i≤m - a∧j≤b - m∧i+j≤kx∧dk.size=d.size∧Hid (∀ d',gI (m - i) m (m+j) dk d'→gI a m b d d')∧Aside (SWK enc k w0 bm off dk wr))
 case atStart=>exact ⟨m - a,b - m,d,by go_num,by go_num,by omega,by omega,Nj _,Nj _,by omega,rfl,fun d' h=>by
  rw [show m - (m - a)=a by omega,show m+(b - m)=b by omega] at h; exact h,S0⟩
 case round =>
  clear S0;obtain ⟨i,j,dk,rfl,rfl,hi0,hj0,hi,hj,hkx,hds,HS,S1⟩:=hrel;have hmi:IntKind.i64.wrap ((m:Int) - (i:Int))=((m - i:Nat):Int):=by rw [IntKind.wrap_i64]; omega
  have hmj:IntKind.i64.wrap ((m:Int)+(j:Int))=(m:Int)+(j:Int):=by rw [IntKind.wrap_i64]; omega
  by_cases hij:i=j
  ·subst hij;have hne:((i:Int) != (i:Int))=false:=by simp
   have con:=kK k HL.out enc g cb bm off cap (m - i) m i d0 dk w0 wr HR.out (by omega) S1.out (by omega) (by omega) (by omega);rw [hds] at con;clear S1;go_wp2_with (go_at_fn 249; refine con.mono ?_; rintro e w1 ⟨rfl,d1,hs1,S2⟩)
   go_end0
   exact ⟨rfl,d1,HS.out d1 (gI.same hs1 (by omega)),S2⟩
  ·have hne:((i:Int) != (j:Int))=true:=by simp; omega
   by_cases hlt:j<i
   ·have hltz:(j:Int)<(i:Int):=by omega
    have con:=kK k HL.out enc g cb bm off cap (m - i) m j d0 dk w0 wr HR.out (by omega) S1.out (by omega) (by omega) (by omega);rw [hds] at con;clear S1;go_wp2_with (go_at_fn 249; refine con.mono ?_; rintro e w1 ⟨rfl,d1,hs1,S2⟩)
    have z1:=hs1.1;go_roundg (i - j+j)
    case measure=>omega
    case rel=>exact ⟨i - j,j,d1,by go_num,rfl,by omega,hj0,by omega,hj,Nj _,by omega,fun d' h=>HS.out d' (gI.left hs1 (by omega) hlt h),S2⟩
   ·have hltz:¬ (j:Int)<(i:Int):=by omega
    have hmji:IntKind.i64.wrap ((m:Int)+(j:Int) - (i:Int))=((m+j - i:Nat):Int):=by rw [IntKind.wrap_i64]; omega
    have con:=kK k HL.out enc g cb bm off cap (m - i) (m+j - i) i d0 dk w0 wr HR.out (by omega) S1.out (by omega) (by omega) (by omega);rw [hds] at con;clear S1;go_wp2_with (go_at_fn 249; refine con.mono ?_; rintro e w1 ⟨rfl,d1,hs1,S2⟩)
    have z1:=hs1.1;go_roundg (i+(j - i))
    case measure=>omega
    case rel=>exact ⟨i,j - i,d1,rfl,by go_num,hi0,by omega,hi,by omega,Nj _,by omega,fun d' h=>HS.out d' (gI.right hs1 (by omega) (by omega) h),S2⟩
end Go.Proofs.YtohjlfhmnmcndaaGreat
namespace Go.Proofs.YtohjlfhmnmcndaaGreat
open Go.Shelf Go.RowKit Go.Lib Go.Sort
set_option maxRecDepth 100000
set_option maxHeartbeats 16000000
variable {P:Program} {α:Type} [Inhabited α]
theorem gI.perm {a m b:Nat} {d d':Array α} (h:gI a m b d d') (ham:a≤m) (hmb:m≤b) (hb:b≤d.size):PermIn a b d d':=by
 refine ⟨h.1,fun i hi=>h.l0 hi ham hmb,?_⟩;have hz:=h.1;have g:∀ (x:Array α) (i:Nat) (hi:i<x.size),x[i]=x[i]!:=fun x i hi=>(getElem!_pos x i hi).symm
 have e1:(d.extract a b).toList=(d.extract a m).toList ++ (d.extract m b).toList:=by
  apply List.ext_getElem
  ·simp; omega
  ·intro i h1 h2;simp only [Array.length_toList,Array.size_extract] at h1;by_cases c:i<m - a
   ·rw [Ny (by simp; omega)];simp
   ·rw [Ob (by simp; omega)];simp only [OK,Array.getElem_extract,Array.length_toList,Array.size_extract]
    congr 1; omega
 have e2:(d'.extract a b).toList=(d.extract m b).toList ++ (d.extract a m).toList:=by
  apply List.ext_getElem
  ·simp; omega
  ·intro i h1 h2;simp only [Array.length_toList,Array.size_extract] at h1;by_cases c:i<b - m
   ·rw [Ny (by simp; omega)];simp only [OK,Array.getElem_extract];rw [g d' _ (by omega),g d _ (by omega),h.l1 (by omega) (by omega)]
    congr 1; omega
   ·rw [Ob (by simp; omega)];simp only [OK,Array.getElem_extract,Array.length_toList,Array.size_extract];rw [g d' _ (by omega),g d _ (by omega),h.l2 (by omega) (by omega)]
    congr 1; omega
 rw [e1,e2];exact List.perm_append_comm
theorem Iz (k:Nat) (L:sJ P k) (enc:α→List Value) (cf:α→α→Int) (pre:α→α→Prop) (hO:iC cf pre) (g:Nat) (cb:Array Value) (bm off cap a m b:Nat) (d0 d:Array α) (w0 w:World)
  (eg:∀ args w,(callFunc g args).run P w = .ok (.enter g args) w) (hcmp:CmpLays P g cb enc k cf bm off d0.size w0) (R:RowK enc k w0 bm off d0) (hs:d0.size=d.size) (S:SWK enc k w0 bm off d w) (hma:m=a+1) (hmb:m<b) (hb:b≤d.size) (hsz:d.size<4611686018427387904) (h2:aN cf pre m b d) (hp:eM pre a m b d) :
  Calls P 218 #[.slice (some ⟨bm,off,none⟩) d.size cap,.int .i64 a,.int .i64 m,.int .i64 b,.func (.func g) #[] cb] w fun e w'=>e = .returned (.tuple #[])∧∃ d',PermIn a b d d'∧aN cf pre a b d'∧SWK enc k w0 bm off d' w':=by
 have mixed:=L.mixed; have t0:=L.t0; have a0:=L.a0; have z0:=L.z0; have t3:=L.t3; have a3:=L.a3; have z3:=L.z3; have v3:=L.v3; have t4:=L.t4; have a4:=L.a4; have z4:=L.z4; have t22:=L.t22; have a22:=L.a22; have z22:=L.z22; have t25:=L.t25; have a25:=L.a25; have z25:=L.z25; have t39:=L.t39; have a39:=L.a39; have z39:=L.z39; have aE:=L.aE; have zE:=L.zE;have FG:=L.MD;have HC:Aside _:=hcmp;have S0:Aside (SWK enc k w0 bm off d w):=S;have HR:Aside (RowK enc k w0 bm off d0):=R;have HO:Hid (iC cf pre):=hO;have H2:Hid (aN cf pre m b d):=h2;have HP:Hid (eM pre a m b d):=hp
 have hmz:((m:Int) - (a:Int) == 1)=true:=by simp; omega
 have hmw:IntKind.i64.wrap ((m:Int) - (a:Int))=(m:Int) - (a:Int):=by rw [IntKind.wrap_i64]; omega
 have HM:Hid (m=a+1):=hma;have hm1:a<m:=by omega
 have hm2:m<a+2:=by omega
 clear S L R hcmp h2 hp hma hO;go_enter FG,Tryz.ntmps218;go_wp2
 go_loopg [10,11] (b - m) (fun kx s10 s11 wr=>∃ (i j:Nat),s10 = .int .i64 i∧s11 = .int .i64 j∧m≤i∧i≤j∧j≤b∧j - i≤kx∧Hid ((∀ q,m≤q→q<i→cf d[q]! d[a]! < 0)∧∀ q,j≤q→q<b→¬ cf d[q]! d[a]! < 0)∧Aside (SWK enc k w0 bm off d wr))
 case atStart=>exact ⟨m,b,rfl,rfl,Nj _,by omega,Nj _,Nj _,⟨fun q h1 h2=>by omega,fun q h1 h2=>by omega⟩,S0⟩
 case round =>
  clear S0;obtain ⟨i,j,rfl,rfl,hmi,hij,hjb,hkx,HI,S1⟩:=hrel;by_cases hlt:i<j
  ·have hltz:(i:Int)<(j:Int):=by omega
   by_cases hless:cf d[(i+j) / 2]! d[a]! < 0
   ·have hgo:∀ q,m≤q→q<(i+j) / 2+1→cf d[q]! d[a]! < 0:=fun q h1 h2=>by
     by_cases e:q=(i+j) / 2
     ·rw [e]; exact hless
     ·have h3:=(H2.out q ((i+j) / 2) h1 (by omega) (by omega)).le;have h4:=HO.out.GQ h3 hless;exact h4
    have HG:Hid _:=hgo;clear hgo;have ea24:(((i:Int)+(j:Int)) / 2).toNat=(i+j) / 2:=by omega
    have pa24:(0:Int)≤((i:Int)+(j:Int)) / 2:=by omega
    have ba24:((i:Int)+(j:Int)) / 2<(d.size:Int):=by omega
    have ra24:IntKind.i64.wrap (((i:Int)+(j:Int)) / 2)=((i:Int)+(j:Int)) / 2:=by rw [IntKind.wrap_i64]; omega
    have ec24:((a:Int)).toNat=a:=by omega
    have pc24:(0:Int)≤(a:Int):=by omega
    have bc24:(a:Int)<(d.size:Int):=by omega
    have rc24:IntKind.i64.wrap ((a:Int))=(a:Int):=by rw [IntKind.wrap_i64]; omega
    obtain ⟨x24,hx24⟩:∃ x,x=d[(i+j) / 2]!:=⟨_,rfl⟩
    obtain ⟨y24,hy24⟩:∃ x,x=d[a]!:=⟨_,rfl⟩
    have l24a:=S1.out.ld HR.out (by omega) P ((i+j) / 2) (by omega);have l24b:=S1.out.ld HR.out (by omega) P (a) (by omega);rw [← hx24] at l24a;rw [← hy24] at l24b;have hc24:=S1.out.cmp HC.out (by omega) x24 y24;have hv24:cf x24 y24<0:=by rw [hx24,hy24]; exact hless
    have hd24:decide (cf x24 y24<0)=true:=decide_eq_true hv24;have HL24:Hid _:=hless;clear hless;clear hx24 hy24;go_wp2_with fail
    go_quiet_grown (first | (go_at_fn g; refine Calls.grown_of (hc24 _ _)))
    have S2:Aside (SWK enc k w0 bm off d (grow (wr.drewN nq) osq)):=S1.out.grown nq osq;clear l24a l24b hc24 S1;generalize grow (wr.drewN nq) osq=w2 at S2 ⊢;clear nq osq;go_wp2_with fail
    go_roundg (j - ((i+j) / 2+1))
    case measure=>omega
    case rel=>exact ⟨(i+j) / 2+1,j,by rw [show ((i:Int)+(j:Int)) / 2+1=(((i+j) / 2+1:Nat):Int) by omega],rfl,by omega,by omega,hjb,Nj _,⟨HG.out,HI.out.2⟩,S2⟩
   ·have hgo:∀ q,(i+j) / 2≤q→q<b→¬ cf d[q]! d[a]! < 0:=fun q h1 h2 h5=>by
     by_cases e:q=(i+j) / 2
     ·rw [e] at h5; exact hless h5
     ·have h3:=(H2.out ((i+j) / 2) q (by omega) (by omega) h2).le;exact hless (HO.out.GQ h3 h5)
    have HG:Hid _:=hgo;clear hgo;have ea24:(((i:Int)+(j:Int)) / 2).toNat=(i+j) / 2:=by omega
    have pa24:(0:Int)≤((i:Int)+(j:Int)) / 2:=by omega
    have ba24:((i:Int)+(j:Int)) / 2<(d.size:Int):=by omega
    have ra24:IntKind.i64.wrap (((i:Int)+(j:Int)) / 2)=((i:Int)+(j:Int)) / 2:=by rw [IntKind.wrap_i64]; omega
    have ec24:((a:Int)).toNat=a:=by omega
    have pc24:(0:Int)≤(a:Int):=by omega
    have bc24:(a:Int)<(d.size:Int):=by omega
    have rc24:IntKind.i64.wrap ((a:Int))=(a:Int):=by rw [IntKind.wrap_i64]; omega
    obtain ⟨x24,hx24⟩:∃ x,x=d[(i+j) / 2]!:=⟨_,rfl⟩
    obtain ⟨y24,hy24⟩:∃ x,x=d[a]!:=⟨_,rfl⟩
    have l24a:=S1.out.ld HR.out (by omega) P ((i+j) / 2) (by omega);have l24b:=S1.out.ld HR.out (by omega) P (a) (by omega);rw [← hx24] at l24a;rw [← hy24] at l24b;have hc24:=S1.out.cmp HC.out (by omega) x24 y24;have hv24:¬ cf x24 y24<0:=by rw [hx24,hy24]; exact hless
    have hd24:decide (cf x24 y24<0)=false:=decide_eq_false hv24;have HL24:Hid _:=hless;clear hless;clear hx24 hy24;go_wp2_with fail
    go_quiet_grown (first | (go_at_fn g; refine Calls.grown_of (hc24 _ _)))
    have S2:Aside (SWK enc k w0 bm off d (grow (wr.drewN nq) osq)):=S1.out.grown nq osq;clear l24a l24b hc24 S1;generalize grow (wr.drewN nq) osq=w2 at S2 ⊢;clear nq osq;go_wp2_with fail
    go_roundg ((i+j) / 2 - i)
    case measure=>omega
    case rel=>exact ⟨i,(i+j) / 2,rfl,by rw [show ((i:Int)+(j:Int)) / 2=(((i+j) / 2:Nat):Int) by omega],hmi,by omega,by omega,Nj _,⟨HI.out.1,HG.out⟩,S2⟩
  ·obtain rfl:i=j:=by omega
   have hltz:¬ (i:Int)<(i:Int):=by omega
   have hiw:IntKind.i64.wrap ((i:Int) - 1)=(i:Int) - 1:=by rw [IntKind.wrap_i64]; omega
   go_wp2
   go_loopg [13] (i - 1 - a) (fun kx s13 wr2=>∃ (q:Nat) (dk:Array α),s13 = .int .i64 q∧a≤q∧q≤i - 1∧i - 1 - q≤kx∧dk.size=d.size∧Hid (gI a (a+1) (q+1) d dk)∧Aside (SWK enc k w0 bm off dk wr2))
   case atStart=>exact ⟨a,d,rfl,Nj _,by omega,Nj _,rfl,gI.none a (a+1) d,S1⟩
   case round =>
    clear S1;obtain ⟨q,dk,rfl,haq,hqi,hkq,hds,HQ,S1⟩:=hrel;by_cases hq:q<i - 1
    ·have hqz:(q:Int)<(i:Int) - 1:=by omega
     have ea44:((q:Int)).toNat=q:=by omega
     have pa44:(0:Int)≤(q:Int):=by omega
     have ba44:(q:Int)<(d.size:Int):=by omega
     have ra44:IntKind.i64.wrap ((q:Int))=(q:Int):=by rw [IntKind.wrap_i64]; omega
     have ec44:((q:Int)+1).toNat=q+1:=by omega
     have pc44:(0:Int)≤(q:Int)+1:=by omega
     have bc44:(q:Int)+1<(d.size:Int):=by omega
     have rc44:IntKind.i64.wrap ((q:Int)+1)=(q:Int)+1:=by rw [IntKind.wrap_i64]; omega
     have S2:Aside (SWK enc k w0 bm off (swp dk (q) (q+1)) ((wr.drew.setCells bm (off+(q)*k) (enc dk[q+1]!)).setCells bm (off+(q+1)*k) (enc dk[q]!))):=S1.out.swapped HR.out (q) (q+1) (by omega) (by omega);have l44a:=S1.out.ld1 HR.out (by omega) P (q) (by omega);have l44b:=S1.out.ld1 HR.out (by omega) P (q+1) (by omega);have s44a:=S1.out.st1 HR.out (by omega) P (q) (by omega) dk[q+1]!;have s44b:=S1.out.st2 HR.out (by omega) P (q) (q+1) (by omega) (by omega) dk[q+1]! dk[q]!;have n44a:(enc dk[q]!).length=k:=HR.out.hk _;have n44b:(enc dk[q+1]!).length=k:=HR.out.hk _
     generalize enc dk[q]! = cI44 at S2 l44a s44b n44a;generalize enc dk[q+1]! = cJ44 at S2 l44b s44a s44b n44b;clear S1;go_wp2_with fail
     go_big_region_o
     clear l44a l44b s44a s44b;generalize (wr.drew.setCells bm (off+(q)*k) cJ44).setCells bm (off+(q+1)*k) cI44=w2 at S2 ⊢;go_wp2
     go_roundg (i - 1 - (q+1))
     case measure=>omega
     case rel=>exact ⟨q+1,swp dk q (q+1),by simp,by omega,by omega,Nj _,by rw [size_swp]; exact hds,HQ.out.up haq (by omega),S2⟩
    ·have hqz:¬ (q:Int)<(i:Int) - 1:=by omega
     obtain rfl:q=i - 1:=by omega
     go_wp2
     (try simp only [Exit.inBlock,Exit.then]); refine Nl (results_none rfl _ _ _) rfl ?_
     have hr:=HQ.out;rw [show i - 1+1=i by omega] at hr;refine ⟨rfl,dk,?_,?_,S1.out⟩
     ·obtain ⟨q1,q2,q3⟩:=hr.perm (by omega) (by omega) (by omega);exact permIn_mono d dk a i a b (Nj _) hjb hb ⟨q1,q2,q3⟩
     ·have hma:=HM.out;subst hma;exact JM HO.out H2.out HP.out (by omega) (by omega) HI.out.1 (fun q g1 g2=>by have:=HI.out.2 q g1 g2; omega) hr
theorem JR (k:Nat) (L:sJ P k) (enc:α→List Value) (cf:α→α→Int) (pre:α→α→Prop) (hO:iC cf pre) (g:Nat) (cb:Array Value) (bm off cap a m b:Nat) (d0 d:Array α) (w0 w:World)
  (eg:∀ args w,(callFunc g args).run P w = .ok (.enter g args) w) (hcmp:CmpLays P g cb enc k cf bm off d0.size w0) (R:RowK enc k w0 bm off d0) (hs:d0.size=d.size) (S:SWK enc k w0 bm off d w) (hma:a+1<m) (hmb:b=m+1) (hb:b≤d.size) (hsz:d.size<4611686018427387904) (h1:aN cf pre a m d) (hp:eM pre a m b d) :
  Calls P 218 #[.slice (some ⟨bm,off,none⟩) d.size cap,.int .i64 a,.int .i64 m,.int .i64 b,.func (.func g) #[] cb] w fun e w'=>e = .returned (.tuple #[])∧∃ d',PermIn a b d d'∧aN cf pre a b d'∧SWK enc k w0 bm off d' w':=by
 have mixed:=L.mixed; have t0:=L.t0; have a0:=L.a0; have z0:=L.z0; have t3:=L.t3; have a3:=L.a3; have z3:=L.z3; have v3:=L.v3; have t4:=L.t4; have a4:=L.a4; have z4:=L.z4; have t22:=L.t22; have a22:=L.a22; have z22:=L.z22; have t25:=L.t25; have a25:=L.a25; have z25:=L.z25; have t39:=L.t39; have a39:=L.a39; have z39:=L.z39; have aE:=L.aE; have zE:=L.zE;have FG:=L.MD;have HC:Aside _:=hcmp;have S0:Aside (SWK enc k w0 bm off d w):=S;have HR:Aside (RowK enc k w0 bm off d0):=R;have HO:Hid (iC cf pre):=hO;have H1:Hid (aN cf pre a m d):=h1;have HP:Hid (eM pre a m b d):=hp
 have hmz:((m:Int) - (a:Int) == 1)=false:=by simp; omega
 have hmw:IntKind.i64.wrap ((m:Int) - (a:Int))=(m:Int) - (a:Int):=by rw [IntKind.wrap_i64]; omega
 have hbz:((b:Int) - (m:Int) == 1)=true:=by simp; omega
 have hbw:IntKind.i64.wrap ((b:Int) - (m:Int))=(b:Int) - (m:Int):=by rw [IntKind.wrap_i64]; omega
 have HM:Hid (b=m+1):=hmb;have hm1:m<b:=by omega
 have hm2:b<m+2:=by omega
 clear S L R hcmp h1 hp hmb hO;go_enter FG,Tryz.ntmps218;go_wp2
 go_loopg [14,15] (m - a) (fun kx s14 s15 wr=>∃ (i j:Nat),s14 = .int .i64 i∧s15 = .int .i64 j∧a≤i∧i≤j∧j≤m∧j - i≤kx∧Hid ((∀ q,a≤q→q<i→¬ cf d[m]! d[q]! < 0)∧∀ q,j≤q→q<m→cf d[m]! d[q]! < 0)∧Aside (SWK enc k w0 bm off d wr))
 case atStart=>exact ⟨a,m,rfl,rfl,Nj _,by omega,Nj _,Nj _,⟨fun q h1 h2=>by omega,fun q h1 h2=>by omega⟩,S0⟩
 case round =>
  clear S0;obtain ⟨i,j,rfl,rfl,hmi,hij,hjb,hkx,HI,S1⟩:=hrel;by_cases hlt:i<j
  ·have hltz:(i:Int)<(j:Int):=by omega
   by_cases hless:cf d[m]! d[(i+j) / 2]! < 0
   ·have hgo:∀ q,(i+j) / 2≤q→q<m→cf d[m]! d[q]! < 0:=fun q h1 h2=>by
     by_cases e:q=(i+j) / 2
     ·rw [e]; exact hless
     ·have h3:=(H1.out ((i+j) / 2) q (by omega) (by omega) h2).le;exact HO.out.Cb hless h3
    have HG:Hid _:=hgo;clear hgo;have ea24:((m:Int)).toNat=m:=by omega
    have pa24:(0:Int)≤(m:Int):=by omega
    have ba24:(m:Int)<(d.size:Int):=by omega
    have ra24:IntKind.i64.wrap ((m:Int))=(m:Int):=by rw [IntKind.wrap_i64]; omega
    have ec24:(((i:Int)+(j:Int)) / 2).toNat=(i+j) / 2:=by omega
    have pc24:(0:Int)≤((i:Int)+(j:Int)) / 2:=by omega
    have bc24:((i:Int)+(j:Int)) / 2<(d.size:Int):=by omega
    have rc24:IntKind.i64.wrap (((i:Int)+(j:Int)) / 2)=((i:Int)+(j:Int)) / 2:=by rw [IntKind.wrap_i64]; omega
    obtain ⟨x24,hx24⟩:∃ x,x=d[m]!:=⟨_,rfl⟩
    obtain ⟨y24,hy24⟩:∃ x,x=d[(i+j) / 2]!:=⟨_,rfl⟩
    have l24a:=S1.out.ld HR.out (by omega) P (m) (by omega);have l24b:=S1.out.ld HR.out (by omega) P ((i+j) / 2) (by omega);rw [← hx24] at l24a;rw [← hy24] at l24b;have hc24:=S1.out.cmp HC.out (by omega) x24 y24;have hv24:cf x24 y24<0:=by rw [hx24,hy24]; exact hless
    have hd24:decide (cf x24 y24<0)=true:=decide_eq_true hv24;have HL24:Hid _:=hless;clear hless;clear hx24 hy24;go_wp2_with fail
    go_quiet_grown (first | (go_at_fn g; refine Calls.grown_of (hc24 _ _)))
    have S2:Aside (SWK enc k w0 bm off d (grow (wr.drewN nq) osq)):=S1.out.grown nq osq;clear l24a l24b hc24 S1;generalize grow (wr.drewN nq) osq=w2 at S2 ⊢;clear nq osq;go_wp2_with fail
    go_roundg ((i+j) / 2 - i)
    case measure=>omega
    case rel=>exact ⟨i,(i+j) / 2,rfl,by rw [show ((i:Int)+(j:Int)) / 2=(((i+j) / 2:Nat):Int) by omega],hmi,by omega,by omega,Nj _,⟨HI.out.1,HG.out⟩,S2⟩
   ·have hgo:∀ q,a≤q→q<(i+j) / 2+1→¬ cf d[m]! d[q]! < 0:=fun q h1 h2 h5=>by
     by_cases e:q=(i+j) / 2
     ·rw [e] at h5; exact hless h5
     ·have h3:=(H1.out q ((i+j) / 2) h1 (by omega) (by omega)).le;exact hless (HO.out.Cb h5 h3)
    have HG:Hid _:=hgo;clear hgo;have ea24:((m:Int)).toNat=m:=by omega
    have pa24:(0:Int)≤(m:Int):=by omega
    have ba24:(m:Int)<(d.size:Int):=by omega
    have ra24:IntKind.i64.wrap ((m:Int))=(m:Int):=by rw [IntKind.wrap_i64]; omega
    have ec24:(((i:Int)+(j:Int)) / 2).toNat=(i+j) / 2:=by omega
    have pc24:(0:Int)≤((i:Int)+(j:Int)) / 2:=by omega
    have bc24:((i:Int)+(j:Int)) / 2<(d.size:Int):=by omega
    have rc24:IntKind.i64.wrap (((i:Int)+(j:Int)) / 2)=((i:Int)+(j:Int)) / 2:=by rw [IntKind.wrap_i64]; omega
    obtain ⟨x24,hx24⟩:∃ x,x=d[m]!:=⟨_,rfl⟩
    obtain ⟨y24,hy24⟩:∃ x,x=d[(i+j) / 2]!:=⟨_,rfl⟩
    have l24a:=S1.out.ld HR.out (by omega) P (m) (by omega);have l24b:=S1.out.ld HR.out (by omega) P ((i+j) / 2) (by omega);rw [← hx24] at l24a;rw [← hy24] at l24b;have hc24:=S1.out.cmp HC.out (by omega) x24 y24;have hv24:¬ cf x24 y24<0:=by rw [hx24,hy24]; exact hless
    have hd24:decide (cf x24 y24<0)=false:=decide_eq_false hv24;have HL24:Hid _:=hless;clear hless;clear hx24 hy24;go_wp2_with fail
    go_quiet_grown (first | (go_at_fn g; refine Calls.grown_of (hc24 _ _)))
    have S2:Aside (SWK enc k w0 bm off d (grow (wr.drewN nq) osq)):=S1.out.grown nq osq;clear l24a l24b hc24 S1;generalize grow (wr.drewN nq) osq=w2 at S2 ⊢;clear nq osq;go_wp2_with fail
    go_roundg (j - ((i+j) / 2+1))
    case measure=>omega
    case rel=>exact ⟨(i+j) / 2+1,j,by rw [show ((i:Int)+(j:Int)) / 2+1=(((i+j) / 2+1:Nat):Int) by omega],rfl,by omega,by omega,hjb,Nj _,⟨HG.out,HI.out.2⟩,S2⟩
  ·obtain rfl:i=j:=by omega
   have hltz:¬ (i:Int)<(i:Int):=by omega
   go_wp2
   go_loopg [17] (m - i) (fun kx s17 wr2=>∃ (q:Nat) (dk:Array α),s17 = .int .i64 q∧i≤q∧q≤m∧q - i≤kx∧dk.size=d.size∧Hid (gI q m (m+1) d dk)∧Aside (SWK enc k w0 bm off dk wr2))
   case atStart=>exact ⟨m,d,rfl,by omega,Nj _,Nj _,rfl,gI.nothing m (m+1) d (by omega),S1⟩
   case round =>
    clear S1;obtain ⟨q,dk,rfl,haq,hqi,hkq,hds,HQ,S1⟩:=hrel;by_cases hq:i<q
    ·have hqz:(i:Int)<(q:Int):=by omega
     obtain ⟨p,rfl⟩:∃ p,q=p+1:=⟨q - 1,by omega⟩
     have hqz':(i:Int)<(p:Int)+1:=by omega
     have ea44:((p:Int)+1).toNat=p+1:=by omega
     have pa44:(0:Int)≤(p:Int)+1:=by omega
     have ba44:(p:Int)+1<(d.size:Int):=by omega
     have ra44:IntKind.i64.wrap ((p:Int)+1)=(p:Int)+1:=by rw [IntKind.wrap_i64]; omega
     have ec44:((p:Int)).toNat=p:=by omega
     have pc44:(0:Int)≤(p:Int):=by omega
     have bc44:(p:Int)<(d.size:Int):=by omega
     have rc44:IntKind.i64.wrap ((p:Int))=(p:Int):=by rw [IntKind.wrap_i64]; omega
     have S2:Aside (SWK enc k w0 bm off (swp dk (p+1) (p)) ((wr.drew.setCells bm (off+(p+1)*k) (enc dk[p]!)).setCells bm (off+(p)*k) (enc dk[p+1]!))):=S1.out.swapped HR.out (p+1) (p) (by omega) (by omega);have l44a:=S1.out.ld1 HR.out (by omega) P (p+1) (by omega);have l44b:=S1.out.ld1 HR.out (by omega) P (p) (by omega);have s44a:=S1.out.st1 HR.out (by omega) P (p+1) (by omega) dk[p]!;have s44b:=S1.out.st2 HR.out (by omega) P (p+1) (p) (by omega) (by omega) dk[p]! dk[p+1]!;have n44a:(enc dk[p+1]!).length=k:=HR.out.hk _;have n44b:(enc dk[p]!).length=k:=HR.out.hk _
     generalize enc dk[p+1]! = cI44 at S2 l44a s44b n44a;generalize enc dk[p]! = cJ44 at S2 l44b s44a s44b n44b;clear S1;go_wp2_with fail
     go_big_region_o
     clear l44a l44b s44a s44b;generalize (wr.drew.setCells bm (off+(p+1)*k) cJ44).setCells bm (off+(p)*k) cI44=w2 at S2 ⊢;go_wp2
     go_roundg (p - i)
     case measure=>omega
     case rel=>exact ⟨p,swp dk (p+1) p,by first | rfl | go_num | (congr 1; omega),by omega,by omega,Nj _,by rw [size_swp]; exact hds,HQ.out.down (by omega) (by omega),S2⟩
    ·have hqz:¬ (i:Int)<(q:Int):=by omega
     obtain rfl:q=i:=by omega
     go_wp2
     (try simp only [Exit.inBlock,Exit.then]); refine Nl (results_none rfl _ _ _) rfl ?_
     have hr:=HQ.out;refine ⟨rfl,dk,?_,?_,S1.out⟩
     ·have hmb:=HM.out;subst hmb;exact permIn_mono d dk q (m+1) a (m+1) (by omega) (Nj _) hb (hr.perm (by omega) (by omega) (by omega))
     ·have hmb:=HM.out;subst hmb;exact Hd HO.out H1.out HP.out (by omega) (by omega) (fun q g1 g2=>by have:=HI.out.1 q g1 g2; omega) HI.out.2 hr
end Go.Proofs.YtohjlfhmnmcndaaGreat
namespace Go.Proofs.YtohjlfhmnmcndaaGreat
open Go.Shelf Go.RowKit Go.Lib Go.Sort
set_option maxRecDepth 100000
set_option maxHeartbeats 16000000
variable {P:Program} {α:Type} [Inhabited α]
def vK (P:Program) (k:Nat) (enc:α→List Value) (cf:α→α→Int) (pre:α→α→Prop) (g:Nat) (cb:Array Value) (bm off cap:Nat) (d0:Array α) (w0:World) (n:Nat):Prop :=
 ∀ (a m b:Nat) (d:Array α) (w:World),b - a≤n→d0.size=d.size→SWK enc k w0 bm off d w→a<m→m<b→b≤d.size→aN cf pre a m d→aN cf pre m b d→eM pre a m b d →
  Calls P 218 #[.slice (some ⟨bm,off,none⟩) d.size cap,.int .i64 a,.int .i64 m,.int .i64 b,.func (.func g) #[] cb] w fun e w'=>e = .returned (.tuple #[])∧∃ d',PermIn a b d d'∧aN cf pre a b d'∧SWK enc k w0 bm off d' w'
theorem Split.left {cf:α→α→Int} {pre:α→α→Prop} {a s mid e b:Nat} {d:Array α} (h:Split cf pre a s mid e b d) (hc:s=a∨s=mid):aN cf pre a mid d:=by
 rcases hc with rfl | rfl
 ·exact h.s2
 ·exact h.s1
theorem Split.right {cf:α→α→Int} {pre:α→α→Prop} {a s mid e b:Nat} {d d2:Array α} (h:Split cf pre a s mid e b d) (p:PermIn a mid d d2) (hme:mid≤e):aN cf pre mid e d2∧aN cf pre e b d2∧eM pre mid e b d2:=by
 have q:∀ i,mid≤i→d2[i]! = d[i]!:=fun i hi=>p.2.1 i (.inr hi)
 refine ⟨h.s3.congr fun i h1 _=>q i h1,h.s4.congr fun i h1 _=>q i (by omega),fun i j h1 h2 h3 h4=>?_⟩;rw [q i h1,q j (by omega)];exact h.p2 i j h1 h2 h3 h4
theorem Split.AS {cf:α→α→Int} {pre:α→α→Prop} {a s mid e b:Nat} {d d2:Array α} (h:Split cf pre a s mid e b d) (p:PermIn a mid d d2) (hme:mid≤e) (hc:e=mid∨e=b):aN cf pre mid b d2:=by
 obtain ⟨r1,r2,_⟩:=h.right p hme;rcases hc with rfl | rfl
 ·exact r2
 ·exact r1
theorem jW {a s m mid e b:Nat} {d d1 d2 d3:Array α} (hr:gI s m e d d1) (p:PermIn a mid d1 d2) (q:PermIn mid b d2 d3) (h1:a≤s) (h2:s≤m) (h3:m≤e) (h4:e≤b) (h5:a≤mid∧mid≤b) (hb:b≤d.size):PermIn a b d d3:=by
 have z1:=hr.1;have z2:=p.1;exact permIn_trans d d1 d3 a b (permIn_mono d d1 s e a b h1 h4 hb (hr.perm h2 h3 (by omega))) (permIn_trans d1 d2 d3 a b (permIn_mono d1 d2 a mid a b (Nj _) h5.2 (by omega) p) (permIn_mono d2 d3 mid b a b h5.1 (Nj _) (by omega) q))
theorem BH (n:Nat) (k:Nat) (L:sJ P k) (enc:α→List Value) (cf:α→α→Int) (pre:α→α→Prop) (hO:iC cf pre) (g:Nat) (cb:Array Value) (bm off cap a m b:Nat) (d0 d:Array α) (w0 w:World)
  (eg:∀ args w,(callFunc g args).run P w = .ok (.enter g args) w) (hcmp:CmpLays P g cb enc k cf bm off d0.size w0) (R:RowK enc k w0 bm off d0) (hs:d0.size=d.size) (S:SWK enc k w0 bm off d w) (eSw:∀ args w,(callFunc 249 args).run P w = .ok (.enter 249 args) w) (eRo:∀ args w,(callFunc 241 args).run P w = .ok (.enter 241 args) w) (eSy:∀ args w,(callFunc 218 args).run P w = .ok (.enter 218 args) w) (hma:a+1<m) (hmb:m+1<b) (hb:b≤d.size) (hsz:d.size<4611686018427387904) (h1:aN cf pre a m d) (h2:aN cf pre m b d) (hp:eM pre a m b d) (hn:b - a≤n+1) (IH:vK P k enc cf pre g cb bm off cap d0 w0 n) :
  Calls P 218 #[.slice (some ⟨bm,off,none⟩) d.size cap,.int .i64 a,.int .i64 m,.int .i64 b,.func (.func g) #[] cb] w fun e w'=>e = .returned (.tuple #[])∧∃ d',PermIn a b d d'∧aN cf pre a b d'∧SWK enc k w0 bm off d' w':=by
 have mixed:=L.mixed; have t0:=L.t0; have a0:=L.a0; have z0:=L.z0; have t3:=L.t3; have a3:=L.a3; have z3:=L.z3; have v3:=L.v3; have t4:=L.t4; have a4:=L.a4; have z4:=L.z4; have t22:=L.t22; have a22:=L.a22; have z22:=L.z22; have t25:=L.t25; have a25:=L.a25; have z25:=L.z25; have t39:=L.t39; have a39:=L.a39; have z39:=L.z39; have aE:=L.aE; have zE:=L.zE;have FG:=L.MD;have HLay:Aside (sJ P k):=L;have HC:Aside _:=hcmp;have S0:Aside (SWK enc k w0 bm off d w):=S;have HR:Aside (RowK enc k w0 bm off d0):=R;have HO:Hid (iC cf pre):=hO;have H1:Hid (aN cf pre a m d):=h1
 have H2:Hid (aN cf pre m b d):=h2;have HP:Hid (eM pre a m b d):=hp;have HI:Hid (vK P k enc cf pre g cb bm off cap d0 w0 n):=IH;have hmz:((m:Int) - (a:Int) == 1)=false:=by simp; omega
 have hmw:IntKind.i64.wrap ((m:Int) - (a:Int))=(m:Int) - (a:Int):=by rw [IntKind.wrap_i64]; omega
 have hbz:((b:Int) - (m:Int) == 1)=false:=by simp; omega
 have hbw:IntKind.i64.wrap ((b:Int) - (m:Int))=(b:Int) - (m:Int):=by rw [IntKind.wrap_i64]; omega
 obtain ⟨mid,hmid⟩:∃ mid,mid=(a+b) / 2:=⟨_,rfl⟩
 have hmidz:((a:Int)+(b:Int)) / 2=(mid:Int):=by omega
 have hm1:a<mid:=by omega
 have hm2:mid<b:=by omega
 have hm3:2*mid≤a+b:=by omega
 have hm4:a+b<2*mid+2:=by omega
 have hmm:IntKind.i64.wrap ((mid:Int)+(m:Int))=(mid:Int)+(m:Int):=by rw [IntKind.wrap_i64]; omega
 have hp1:IntKind.i64.wrap ((mid:Int)+(m:Int) - 1)=(mid:Int)+(m:Int) - 1:=by rw [IntKind.wrap_i64]; omega
 have hsb:IntKind.i64.wrap ((mid:Int)+(m:Int) - (b:Int))=(mid:Int)+(m:Int) - (b:Int):=by rw [IntKind.wrap_i64]; omega
 clear S L R hcmp h1 h2 hp hO IH hmid;have REST:∀ s0 r0:Nat,(s0=a∧r0=m∧m≤mid)∨(s0+b=mid+m∧r0=mid∧mid<m)→Aside (∀ s,s0≤s→s≤r0→(s0<s→¬ cf d[mid+m - s]! d[s - 1]! < 0)→(s<r0→cf d[mid+m - 1 - s]! d[s]! < 0)→∀ d',gI s m (mid+m - s) d d'→Split cf pre a s mid (mid+m - s) b d'∧a≤s∧s≤mid∧s≤m∧mid≤mid+m - s∧m≤mid+m - s∧mid+m - s≤b):=fun s0 r0 hc s hs1 hs2 c1 c2 d' hr=>by
  have q1:a≤s∧s≤mid∧s≤m∧mid≤mid+m - s∧m≤mid+m - s∧mid+m - s≤b:=by omega
  refine ⟨FH HO.out H1.out H2.out HP.out q1.1 q1.2.2.1 q1.2.2.2.2.1 q1.2.2.2.2.2 (by omega) ?_ ?_ hr,q1⟩
  ·by_cases e:s0<s
   ·exact .inr (.inr (c1 e))
   ·rcases hc with hc | hc
    ·exact .inl (by omega)
    ·exact .inr (.inl (by omega))
  ·by_cases e:s<r0
   ·rw [show mid+m - s - 1=mid+m - 1 - s by omega]; exact .inr (.inr (c2 e))
   ·rcases hc with hc | hc
    ·exact .inl (by omega)
    ·exact .inr (.inl (by omega))
 have RESTH:Hid (∀ s0 r0:Nat,(s0=a∧r0=m∧m≤mid)∨(s0+b=mid+m∧r0=mid∧mid<m)→Aside (∀ s,s0≤s→s≤r0→(s0<s→¬ cf d[mid+m - s]! d[s - 1]! < 0)→(s<r0→cf d[mid+m - 1 - s]! d[s]! < 0)→∀ d',gI s m (mid+m - s) d d'→Split cf pre a s mid (mid+m - s) b d'∧a≤s∧s≤mid∧s≤m∧mid≤mid+m - s∧m≤mid+m - s∧mid+m - s≤b)):=REST;clear REST;go_enter FG,Tryz.ntmps218;go_upto_if 140 with fail
 go_cut [20,21] from 25 (fun s20 s21 wc=>∃ s0 r0:Nat,s20 = .int .i64 s0∧s21 = .int .i64 r0∧((s0=a∧r0=m∧m≤mid)∨(s0+b=mid+m∧r0=mid∧mid<m))∧wc=w)
 case first =>
  clear HC S0 HR HO H1 H2 HP HI RESTH HLay;by_cases hgt:mid<m
  ·have hgz:(mid:Int)<(m:Int):=by omega
   go_wp2
   go_meet
   case rel=>exact ⟨mid+m - b,mid,by go_num,rfl,.inr ⟨by omega,rfl,hgt⟩,rfl⟩
  ·have hgz:¬ (mid:Int)<(m:Int):=by omega
   go_wp2
   go_meet
   case rel=>exact ⟨a,m,rfl,rfl,.inl ⟨rfl,rfl,by omega⟩,rfl⟩
 case rest =>
 obtain ⟨s0,r0,rfl,rfl,hc0,rfl⟩:=hcut;have REST:=RESTH.out s0 r0 hc0;have hb1:s0≤r0:=by omega
 have hb2:r0≤mid:=by omega
 have hb3:a≤s0:=by omega
 have hb4:r0≤m:=by omega
 have hb5:mid+m≤s0+b:=by omega
 clear RESTH hc0;go_wp2_with fail
 go_loopg [20,21] (r0 - s0) (fun kx s20 s21 wr=>∃ (s r:Nat),s20 = .int .i64 s∧s21 = .int .i64 r∧s0≤s∧s≤r∧r≤r0∧r - s≤kx∧Hid ((s0<s→0≤cf d[mid+m - s]! d[s - 1]!)∧(r<r0→cf d[mid+m - 1 - r]! d[r]! < 0))∧Aside (SWK enc k w0 bm off d wr))
 case atStart=>exact ⟨s0,r0,rfl,rfl,Nj _,hb1,Nj _,Nj _,⟨fun h=>absurd h (Nat.lt_irrefl _),fun h=>absurd h (Nat.lt_irrefl _)⟩,S0⟩
 case round =>
  clear S0;obtain ⟨s,r,rfl,rfl,hss,hsr,hrr,hkx,HS,S1⟩:=hrel;by_cases hlt:s<r
  ·have hltz:(s:Int)<(r:Int):=by omega
   obtain ⟨c,hc⟩:∃ c,c=(s+r) / 2:=⟨_,rfl⟩
   have hcz:((s:Int)+(r:Int)) / 2=(c:Int):=by omega
   have hc1:s≤c:=by omega
   have hc2:c<r:=by omega
   obtain ⟨q,hq⟩:∃ q,q=mid+m - 1 - c:=⟨_,rfl⟩
   have hqz:IntKind.i64.wrap ((mid:Int)+(m:Int) - 1 - (c:Int))=(q:Int):=by rw [IntKind.wrap_i64]; omega
   have hq1:q+c<mid+m:=by omega
   have hq2:mid+m≤q+c+1:=by omega
   have HQ:Hid (q=mid+m - 1 - c):=hq;clear hc hq;by_cases hless:cf d[q]! d[c]! < 0
   ·have HG:Hid (cf d[q]! d[c]! < 0):=hless;have ea24:((q:Int)).toNat=q:=by omega
    have pa24:(0:Int)≤(q:Int):=by omega
    have ba24:(q:Int)<(d.size:Int):=by omega
    have ra24:IntKind.i64.wrap ((q:Int))=(q:Int):=by rw [IntKind.wrap_i64]; omega
    have ec24:((c:Int)).toNat=c:=by omega
    have pc24:(0:Int)≤(c:Int):=by omega
    have bc24:(c:Int)<(d.size:Int):=by omega
    have rc24:IntKind.i64.wrap ((c:Int))=(c:Int):=by rw [IntKind.wrap_i64]; omega
    obtain ⟨x24,hx24⟩:∃ x,x=d[q]!:=⟨_,rfl⟩
    obtain ⟨y24,hy24⟩:∃ x,x=d[c]!:=⟨_,rfl⟩
    have l24a:=S1.out.ld HR.out (by omega) P (q) (by omega);have l24b:=S1.out.ld HR.out (by omega) P (c) (by omega);rw [← hx24] at l24a;rw [← hy24] at l24b;have hc24:=S1.out.cmp HC.out (by omega) x24 y24;have hv24:cf x24 y24<0:=by rw [hx24,hy24]; exact hless
    have hd24:decide (cf x24 y24<0)=true:=decide_eq_true hv24;have HL24:Hid _:=hless;clear hless;clear hx24 hy24;go_wp2_with fail
    go_quiet_grown (first | (go_at_fn g; refine Calls.grown_of (hc24 _ _)))
    have S2:Aside (SWK enc k w0 bm off d (grow (wr.drewN nq) osq)):=S1.out.grown nq osq;clear l24a l24b hc24 S1;generalize grow (wr.drewN nq) osq=w2 at S2 ⊢;clear nq osq;go_wp2_with fail
    go_roundg (c - s)
    case measure=>omega
    case rel=>exact ⟨s,c,rfl,rfl,hss,by omega,by omega,Nj _,⟨HS.out.1,fun _=>by rw [← HQ.out]; exact HG.out⟩,S2⟩
   ·have HG:Hid (¬ cf d[q]! d[c]! < 0):=hless;have ea24:((q:Int)).toNat=q:=by omega
    have pa24:(0:Int)≤(q:Int):=by omega
    have ba24:(q:Int)<(d.size:Int):=by omega
    have ra24:IntKind.i64.wrap ((q:Int))=(q:Int):=by rw [IntKind.wrap_i64]; omega
    have ec24:((c:Int)).toNat=c:=by omega
    have pc24:(0:Int)≤(c:Int):=by omega
    have bc24:(c:Int)<(d.size:Int):=by omega
    have rc24:IntKind.i64.wrap ((c:Int))=(c:Int):=by rw [IntKind.wrap_i64]; omega
    obtain ⟨x24,hx24⟩:∃ x,x=d[q]!:=⟨_,rfl⟩
    obtain ⟨y24,hy24⟩:∃ x,x=d[c]!:=⟨_,rfl⟩
    have l24a:=S1.out.ld HR.out (by omega) P (q) (by omega);have l24b:=S1.out.ld HR.out (by omega) P (c) (by omega);rw [← hx24] at l24a;rw [← hy24] at l24b;have hc24:=S1.out.cmp HC.out (by omega) x24 y24;have hv24:¬ cf x24 y24<0:=by rw [hx24,hy24]; exact hless
    have hd24:decide (cf x24 y24<0)=false:=decide_eq_false hv24;have HL24:Hid _:=hless;clear hless;clear hx24 hy24;go_wp2_with fail
    go_quiet_grown (first | (go_at_fn g; refine Calls.grown_of (hc24 _ _)))
    have S2:Aside (SWK enc k w0 bm off d (grow (wr.drewN nq) osq)):=S1.out.grown nq osq;clear l24a l24b hc24 S1;generalize grow (wr.drewN nq) osq=w2 at S2 ⊢;clear nq osq;go_wp2_with fail
    go_roundg (r - (c+1))
    case measure=>omega
    case rel=>exact ⟨c+1,r,by go_num,rfl,by omega,by omega,hrr,Nj _,⟨fun _=>by
     rw [show mid+m - (c+1)=mid+m - 1 - c by omega,show c+1 - 1=c by omega,← HQ.out];have:=HG.out; omega,HS.out.2⟩,S2⟩
  ·obtain rfl:s=r:=by omega
   have hltz:¬ (s:Int)<(s:Int):=by omega
   obtain ⟨e,he⟩:∃ e,e=mid+m - s:=⟨_,rfl⟩
   have HT:Hid (∀ d',gI s m e d d'→Split cf pre a s mid e b d'∧a≤s∧s≤mid∧s≤m∧mid≤e∧m≤e∧e≤b):=by
    show _;rw [he];exact REST.out s hss hrr HS.out.1 HS.out.2
   have he1:e+s≤mid+m:=by omega
   have he2:mid+m≤e+s:=by omega
   have hew:IntKind.i64.wrap ((mid:Int)+(m:Int) - (s:Int))=(e:Int):=by rw [IntKind.wrap_i64]; omega
   clear he REST HS;by_cases c1:s<m
   ·by_cases c2:s<mid
    ·by_cases c3:a<s
     ·by_cases c4:e<b
      ·have z1:(s:Int)<(m:Int):=by omega
       have z2:(m:Int)<(e:Int):=by omega
       have z3:(a:Int)<(s:Int):=by omega
       have z4:(s:Int)<(mid:Int):=by omega
       have z5:(mid:Int)<(e:Int):=by omega
       have z6:(e:Int)<(b:Int):=by omega
       have con:=mD k HLay.out enc g cb bm off cap s m e d0 d w0 wr HR.out (by omega) S1.out (by omega) (by omega) (by omega) (by omega) eSw;clear S1;go_wp2_with fail
       refine con.mono ?_;rintro _ w1 ⟨rfl,d1,hr,S2⟩;have S2:Aside _:=S2;clear con;dsimp only;have hz1:=hr.1;have SP:=HT.out d1 hr;have HRt:Hid (gI s m e d d1):=hr;have HSP:Hid (Split cf pre a s mid e b d1):=SP.1;clear SP hr;have con:=HI.out a s mid d1 w1 (by omega) (by omega) S2.out (by omega) (by omega) (by omega) HSP.out.s1 HSP.out.s2 HSP.out.p1;rw [hz1] at con;clear S2;go_wp2_with fail
       refine con.mono ?_;rintro _ w2 ⟨rfl,d2,q1,q2,S3⟩;have S3:Aside _:=S3;have Q1:Hid (PermIn a mid d1 d2):=q1;have Q2:Hid (aN cf pre a mid d2):=q2;have hz2:d2.size=d1.size:=q1.1;clear con q1 q2;dsimp only;have RR:=HSP.out.right Q1.out (by omega);have con:=HI.out mid e b d2 w2 (by omega) (by omega) S3.out (by omega) (by omega) (by omega) RR.1 RR.2.1 RR.2.2;rw [hz2,hz1] at con;clear S3 RR;go_wp2_with fail
       refine con.mono ?_;rintro _ w3 ⟨rfl,d3,q3,q4,S4⟩;have S4:Aside _:=S4;have Q3:Hid (PermIn mid b d2 d3):=q3;have Q4:Hid (aN cf pre mid b d3):=q4;clear con q3 q4;dsimp only;go_wp2
       go_end0
       exact ⟨rfl,d3,jW HRt.out Q1.out Q3.out (by omega) (by omega) (by omega) (by omega) (by omega) hb,jX (d:=d1) (by omega) (by omega) HSP.out.lr Q1.out Q2.out Q3.out Q4.out,S4.out⟩
      ·have z1:(s:Int)<(m:Int):=by omega
       have z2:(m:Int)<(e:Int):=by omega
       have z3:(a:Int)<(s:Int):=by omega
       have z4:(s:Int)<(mid:Int):=by omega
       have z5:(mid:Int)<(e:Int):=by omega
       have z6:¬ (e:Int)<(b:Int):=by omega
       have con:=mD k HLay.out enc g cb bm off cap s m e d0 d w0 wr HR.out (by omega) S1.out (by omega) (by omega) (by omega) (by omega) eSw;clear S1;go_wp2_with fail
       refine con.mono ?_;rintro _ w1 ⟨rfl,d1,hr,S2⟩;have S2:Aside _:=S2;clear con;dsimp only;have hz1:=hr.1;have SP:=HT.out d1 hr;have HRt:Hid (gI s m e d d1):=hr;have HSP:Hid (Split cf pre a s mid e b d1):=SP.1;clear SP hr;have con:=HI.out a s mid d1 w1 (by omega) (by omega) S2.out (by omega) (by omega) (by omega) HSP.out.s1 HSP.out.s2 HSP.out.p1;rw [hz1] at con;clear S2;go_wp2_with fail
       refine con.mono ?_;rintro _ w2 ⟨rfl,d2,q1,q2,S3⟩;have S3:Aside _:=S3;have Q1:Hid (PermIn a mid d1 d2):=q1;have Q2:Hid (aN cf pre a mid d2):=q2;have hz2:d2.size=d1.size:=q1.1;clear con q1 q2;dsimp only;have Q3:Hid (PermIn mid b d2 d2):=permIn_refl d2 mid b;have Q4:Hid (aN cf pre mid b d2):=HSP.out.AS Q1.out (by omega) (by omega);go_wp2
       go_end0
       exact ⟨rfl,d2,jW HRt.out Q1.out Q3.out (by omega) (by omega) (by omega) (by omega) (by omega) hb,jX (d:=d1) (by omega) (by omega) HSP.out.lr Q1.out Q2.out Q3.out Q4.out,S3.out⟩
     ·by_cases c4:e<b
      ·have z1:(s:Int)<(m:Int):=by omega
       have z2:(m:Int)<(e:Int):=by omega
       have z3:¬ (a:Int)<(s:Int):=by omega
       have z4:(s:Int)<(mid:Int):=by omega
       have z5:(mid:Int)<(e:Int):=by omega
       have z6:(e:Int)<(b:Int):=by omega
       have con:=mD k HLay.out enc g cb bm off cap s m e d0 d w0 wr HR.out (by omega) S1.out (by omega) (by omega) (by omega) (by omega) eSw;clear S1;go_wp2_with fail
       refine con.mono ?_;rintro _ w1 ⟨rfl,d1,hr,S2⟩;have S2:Aside _:=S2;clear con;dsimp only;have hz1:=hr.1;have SP:=HT.out d1 hr;have HRt:Hid (gI s m e d d1):=hr;have HSP:Hid (Split cf pre a s mid e b d1):=SP.1;clear SP hr;obtain ⟨d2,hd2⟩:∃ d2,d2=d1:=⟨_,rfl⟩
       have hz2:d2.size=d1.size:=by rw [hd2]
       have Q1:Hid (PermIn a mid d1 d2):=by show PermIn a mid d1 d2; rw [hd2]; exact permIn_refl d1 a mid
       have Q2:Hid (aN cf pre a mid d2):=by show aN cf pre a mid d2; rw [hd2]; exact HSP.out.left (by omega)
       rw [← hd2] at S2;have S3:Aside _:=S2;clear S2 hd2;have RR:=HSP.out.right Q1.out (by omega);have con:=HI.out mid e b d2 w1 (by omega) (by omega) S3.out (by omega) (by omega) (by omega) RR.1 RR.2.1 RR.2.2;rw [hz2,hz1] at con;clear S3 RR;go_wp2_with fail
       refine con.mono ?_;rintro _ w3 ⟨rfl,d3,q3,q4,S4⟩;have S4:Aside _:=S4;have Q3:Hid (PermIn mid b d2 d3):=q3;have Q4:Hid (aN cf pre mid b d3):=q4;clear con q3 q4;dsimp only;go_wp2
       go_end0
       exact ⟨rfl,d3,jW HRt.out Q1.out Q3.out (by omega) (by omega) (by omega) (by omega) (by omega) hb,jX (d:=d1) (by omega) (by omega) HSP.out.lr Q1.out Q2.out Q3.out Q4.out,S4.out⟩
      ·have z1:(s:Int)<(m:Int):=by omega
       have z2:(m:Int)<(e:Int):=by omega
       have z3:¬ (a:Int)<(s:Int):=by omega
       have z4:(s:Int)<(mid:Int):=by omega
       have z5:(mid:Int)<(e:Int):=by omega
       have z6:¬ (e:Int)<(b:Int):=by omega
       have con:=mD k HLay.out enc g cb bm off cap s m e d0 d w0 wr HR.out (by omega) S1.out (by omega) (by omega) (by omega) (by omega) eSw;clear S1;go_wp2_with fail
       refine con.mono ?_;rintro _ w1 ⟨rfl,d1,hr,S2⟩;have S2:Aside _:=S2;clear con;dsimp only;have hz1:=hr.1;have SP:=HT.out d1 hr;have HRt:Hid (gI s m e d d1):=hr;have HSP:Hid (Split cf pre a s mid e b d1):=SP.1;clear SP hr;obtain ⟨d2,hd2⟩:∃ d2,d2=d1:=⟨_,rfl⟩
       have hz2:d2.size=d1.size:=by rw [hd2]
       have Q1:Hid (PermIn a mid d1 d2):=by show PermIn a mid d1 d2; rw [hd2]; exact permIn_refl d1 a mid
       have Q2:Hid (aN cf pre a mid d2):=by show aN cf pre a mid d2; rw [hd2]; exact HSP.out.left (by omega)
       rw [← hd2] at S2;have S3:Aside _:=S2;clear S2 hd2;have Q3:Hid (PermIn mid b d2 d2):=permIn_refl d2 mid b;have Q4:Hid (aN cf pre mid b d2):=HSP.out.AS Q1.out (by omega) (by omega);go_wp2
       go_end0
       exact ⟨rfl,d2,jW HRt.out Q1.out Q3.out (by omega) (by omega) (by omega) (by omega) (by omega) hb,jX (d:=d1) (by omega) (by omega) HSP.out.lr Q1.out Q2.out Q3.out Q4.out,S3.out⟩
    ·have z1:(s:Int)<(m:Int):=by omega
     have z2:¬ (m:Int)<(e:Int):=by omega
     have z3:(a:Int)<(s:Int):=by omega
     have z4:¬ (s:Int)<(mid:Int):=by omega
     have z5:(mid:Int)<(e:Int):=by omega
     have z6:(e:Int)<(b:Int):=by omega
     obtain ⟨d1,hd1⟩:∃ d1,d1=d:=⟨_,rfl⟩
     have hz1:d1.size=d.size:=by rw [hd1]
     have hr:gI s m e d d1:=by
      rw [hd1];obtain rfl:e=m:=by omega
      exact gI.none s e d
     rw [← hd1] at S1;have S2:Aside _:=S1;clear S1;have SP:=HT.out d1 hr;have HRt:Hid (gI s m e d d1):=hr;have HSP:Hid (Split cf pre a s mid e b d1):=SP.1;clear SP hr hd1;obtain ⟨d2,hd2⟩:∃ d2,d2=d1:=⟨_,rfl⟩
     have hz2:d2.size=d1.size:=by rw [hd2]
     have Q1:Hid (PermIn a mid d1 d2):=by show PermIn a mid d1 d2; rw [hd2]; exact permIn_refl d1 a mid
     have Q2:Hid (aN cf pre a mid d2):=by show aN cf pre a mid d2; rw [hd2]; exact HSP.out.left (by omega)
     rw [← hd2] at S2;have S3:Aside _:=S2;clear S2 hd2;have RR:=HSP.out.right Q1.out (by omega);have con:=HI.out mid e b d2 wr (by omega) (by omega) S3.out (by omega) (by omega) (by omega) RR.1 RR.2.1 RR.2.2;rw [hz2,hz1] at con;clear S3 RR;go_wp2_with fail
     refine con.mono ?_;rintro _ w3 ⟨rfl,d3,q3,q4,S4⟩;have S4:Aside _:=S4;have Q3:Hid (PermIn mid b d2 d3):=q3;have Q4:Hid (aN cf pre mid b d3):=q4;clear con q3 q4;dsimp only;go_wp2
     go_end0
     exact ⟨rfl,d3,jW HRt.out Q1.out Q3.out (by omega) (by omega) (by omega) (by omega) (by omega) hb,jX (d:=d1) (by omega) (by omega) HSP.out.lr Q1.out Q2.out Q3.out Q4.out,S4.out⟩
   ·by_cases c2:s<mid;have z1:¬ (s:Int)<(m:Int):=by omega
    have z2:(m:Int)<(e:Int):=by omega
    have z3:(a:Int)<(s:Int):=by omega
    have z4:(s:Int)<(mid:Int):=by omega
    have z5:¬ (mid:Int)<(e:Int):=by omega
    have z6:(e:Int)<(b:Int):=by omega
    obtain ⟨d1,hd1⟩:∃ d1,d1=d:=⟨_,rfl⟩
    have hz1:d1.size=d.size:=by rw [hd1]
    have hr:gI s m e d d1:=by
     rw [hd1];obtain rfl:s=m:=by omega
     exact gI.nothing s e d (by omega)
    rw [← hd1] at S1;have S2:Aside _:=S1;clear S1;have SP:=HT.out d1 hr;have HRt:Hid (gI s m e d d1):=hr;have HSP:Hid (Split cf pre a s mid e b d1):=SP.1;clear SP hr hd1;have con:=HI.out a s mid d1 wr (by omega) (by omega) S2.out (by omega) (by omega) (by omega) HSP.out.s1 HSP.out.s2 HSP.out.p1;rw [hz1] at con;clear S2;go_wp2_with fail
    refine con.mono ?_;rintro _ w2 ⟨rfl,d2,q1,q2,S3⟩;have S3:Aside _:=S3;have Q1:Hid (PermIn a mid d1 d2):=q1;have Q2:Hid (aN cf pre a mid d2):=q2;have hz2:d2.size=d1.size:=q1.1;clear con q1 q2;dsimp only;rotate_left;have z1:¬ (s:Int)<(m:Int):=by omega
    have z2:¬ (m:Int)<(e:Int):=by omega
    have z3:(a:Int)<(s:Int):=by omega
    have z4:¬ (s:Int)<(mid:Int):=by omega
    have z5:¬ (mid:Int)<(e:Int):=by omega
    have z6:(e:Int)<(b:Int):=by omega
    obtain ⟨d1,hd1⟩:∃ d1,d1=d:=⟨_,rfl⟩
    have hz1:d1.size=d.size:=by rw [hd1]
    have hr:gI s m e d d1:=by
     rw [hd1];obtain rfl:s=m:=by omega
     exact gI.nothing s e d (by omega)
    rw [← hd1] at S1;have S2:Aside _:=S1;clear S1;have SP:=HT.out d1 hr;have HRt:Hid (gI s m e d d1):=hr;have HSP:Hid (Split cf pre a s mid e b d1):=SP.1;clear SP hr hd1;obtain ⟨d2,hd2⟩:∃ d2,d2=d1:=⟨_,rfl⟩
    have hz2:d2.size=d1.size:=by rw [hd2]
    have Q1:Hid (PermIn a mid d1 d2):=by show PermIn a mid d1 d2; rw [hd2]; exact permIn_refl d1 a mid
    have Q2:Hid (aN cf pre a mid d2):=by show aN cf pre a mid d2; rw [hd2]; exact HSP.out.left (by omega)
    rw [← hd2] at S2;have S3:Aside _:=S2;clear S2 hd2
    all_goals
     have Q3:Hid (PermIn mid b d2 d2):=permIn_refl d2 mid b;have Q4:Hid (aN cf pre mid b d2):=HSP.out.AS Q1.out (by omega) (by omega);go_wp2
     go_end0
     exact ⟨rfl,d2,jW HRt.out Q1.out Q3.out (by omega) (by omega) (by omega) (by omega) (by omega) hb,jX (d:=d1) (by omega) (by omega) HSP.out.lr Q1.out Q2.out Q3.out Q4.out,S3.out⟩
end Go.Proofs.YtohjlfhmnmcndaaGreat
namespace Go.Proofs.YtohjlfhmnmcndaaGreat
open Go.Shelf Go.RowKit Go.Lib Go.Sort
set_option maxRecDepth 100000
set_option maxHeartbeats 16000000
variable {P:Program} {α:Type} [Inhabited α]
theorem Gd (k:Nat) (L:sJ P k) (enc:α→List Value) (cf:α→α→Int) (pre:α→α→Prop) (hO:iC cf pre) (g:Nat) (cb:Array Value) (bm off cap:Nat) (d0:Array α) (w0:World) (hsz:d0.size<4611686018427387904)
  (eg:∀ args w,(callFunc g args).run P w = .ok (.enter g args) w) (hcmp:CmpLays P g cb enc k cf bm off d0.size w0) (R:RowK enc k w0 bm off d0)
  (eSw:∀ args w,(callFunc 249 args).run P w = .ok (.enter 249 args) w) (eRo:∀ args w,(callFunc 241 args).run P w = .ok (.enter 241 args) w) (eSy:∀ args w,(callFunc 218 args).run P w = .ok (.enter 218 args) w) :
  ∀ n,vK P k enc cf pre g cb bm off cap d0 w0 n
 | 0=>fun a m b d w hn _ _ h1 h2 _ _ _ _=>absurd hn (by omega)
 | n+1=>fun a m b d w hn hs S h1 h2 hb s1 s2 p=>by
  have IH:=Gd k L enc cf pre hO g cb bm off cap d0 w0 hsz eg hcmp R eSw eRo eSy n
  by_cases c1:m=a+1
  ·exact Iz k L enc cf pre hO g cb bm off cap a m b d0 d w0 w eg hcmp R hs S c1 h2 hb (by omega) s2 p
  ·by_cases c2:b=m+1
   ·exact JR k L enc cf pre hO g cb bm off cap a m b d0 d w0 w eg hcmp R hs S (by omega) c2 hb (by omega) s1 p
   ·exact BH n k L enc cf pre hO g cb bm off cap a m b d0 d w0 w eg hcmp R hs S eSw eRo eSy (by omega) (by omega) hb (by omega) s1 s2 p hn IH
section
variable (cf:α→α→Int) (pre:α→α→Prop)
def jB (bs n lo:Nat) (d:Array α):Prop:=∀ c,bs ∣ c→lo≤c→c<n→aN cf pre c (min (c+bs) n) d
def pZ (B a:Nat) (d:Array α):Prop:=∀ c,B ∣ c→c+B≤a→aN cf pre c (c+B) d
def gq (bs n lo:Nat) (d:Array α):Prop:=∀ c,bs ∣ c→lo≤c→c≤n→eM pre 0 c n d
end
theorem mF {k a c:Nat} (ha:k ∣ a) (hc:k ∣ c) (h:a<c):a+k≤c:=by
 obtain ⟨x,rfl⟩:=ha
 obtain ⟨y,rfl⟩:=hc
 have hxy:x<y:=Nat.lt_of_mul_lt_mul_left h
 calc k*x+k=k*(x+1):=by rw [Nat.mul_add,Nat.mul_one]
  _≤k*y:=Nat.mul_le_mul_left k hxy
variable {cf:α→α→Int} {pre:α→α→Prop}
theorem eM.GA {a m b:Nat} {d d':Array α} (hb:b≤d.size) (_hm:a≤m) (h:eM pre a m b d) (p1:PermIn m b d d'):eM pre a m b d':=fun i j h1 h2 h3 h4=>by
 rw [p1.2.1 i (Or.inl h2)]
 exact permIn_all d d' m b (fun x=>pre d[i]! x) hb p1 (fun j g1 g2=>h i j h1 h2 g1 g2) j h3 h4
theorem pZ.step {B a:Nat} {d d':Array α} (h:pZ cf pre B a d) (ha:B ∣ a) (p:PermIn a (a+B) d d') (s:aN cf pre a (a+B) d'):pZ cf pre B (a+B) d':=fun c hc hl=>by
 rcases NY c a with h1 | h1
 ·have h2:=mF hc ha h1
  exact (h c hc h2).congr fun i _ g2=>p.2.1 i (.inl (by omega))
 ·obtain rfl:c=a:=by omega
  exact s
theorem gq.step {B n a b:Nat} {d d':Array α} (hn:n≤d.size) (h:gq pre B n 0 d) (hb:b≤n) (p:PermIn a b d d') (hc:∀ c,B ∣ c→c≤a∨b≤c):gq pre B n 0 d':=fun c hB _ hcn=>by
 have hP:=h c hB (Nr _) hcn
 rcases hc c hB with h1 | h1
 ·exact hP.GA hn (Nr _) (permIn_mono d d' a b c n h1 hb hn p)
 ·exact hP.perm hn hcn (permIn_mono d d' a b 0 c (Nr _) h1 (by omega) p)
theorem gq.after {bs n a b:Nat} {d d':Array α} (hn:n≤d.size) (h:gq pre bs n a d) (hab:a≤b) (p:PermIn a b d d'):gq pre bs n b d':=fun c hB hbc hcn=>(h c hB (by omega) hcn).perm hn hcn (permIn_mono d d' a b 0 c (Nr _) hbc (by omega) p)
theorem jB.after {bs n a b:Nat} {d d':Array α} (h:jB cf pre bs n a d) (hab:a≤b) (p:PermIn a b d d'):jB cf pre bs n b d':=fun c hB hbc hcn=>(h c hB (by omega) hcn).congr fun i g1 _=>p.2.1 i (.inr (by omega))
theorem jB.whole {B n a:Nat} {d:Array α} (h:pZ cf pre B a d) (ha:B ∣ a) (_hB:0<B) (hn:n<a+B) (s:aN cf pre a n d):jB cf pre B n 0 d:=fun c hc _ hcn=>by
 rcases NY c a with h1 | h1
 ·have h2:=mF hc ha h1
  exact (h c hc h2).sub (Nj _) (Nat.min_le_left _ _)
 ·rcases NY a c with h2 | h2
  ·have:=mF ha hc h2
   omega
  ·obtain rfl:c=a:=by omega
   rw [Nat.min_eq_right (by omega)]; exact s
theorem gq.of {n:Nat} {d:Array α} (h:xC pre 0 n d) (bs:Nat):gq pre bs n 0 d:=fun c _ _ _ i j _ h1 h2 h3=>h i j (Nr _) (by omega) h3
def Ch (P:Program) (k:Nat) (enc:α→List Value) (cf:α→α→Int) (g:Nat) (cb:Array Value) (bm off cap:Nat) (d0:Array α) (w0:World):Prop :=
 ∀ (a b:Nat) (d:Array α) (w:World),d0.size=d.size→SWK enc k w0 bm off d w→a≤b→b≤d.size →
  Calls P 217 #[.slice (some ⟨bm,off,none⟩) d.size cap,.int .i64 a,.int .i64 b,.func (.func g) #[] cb] w fun e w'=>e = .returned (.tuple #[])∧SWK enc k w0 bm off (insertionSort (ltOf cf) d a b) w'
theorem DF (k:Nat) (L:sJ P k) (enc:α→List Value) (hO:iC cf pre) (g:Nat) (cb:Array Value) (bm off cap:Nat) (d:Array α) (w0:World) (hsz:d.size≤1000000)
  (hS:SWK enc k w0 bm off d w0) (hP:xC pre 0 d.size d)
  (eIn:∀ args w,(callFunc 217 args).run P w = .ok (.enter 217 args) w) (eSy:∀ args w,(callFunc 218 args).run P w = .ok (.enter 218 args) w)
  (hIns:Ch P k enc cf g cb bm off cap d w0) (hSym:∀ n,vK P k enc cf pre g cb bm off cap d w0 n) :
  Calls P 192 #[.slice (some ⟨bm,off,none⟩) d.size cap,.int .i64 d.size,.func (.func g) #[] cb] w0 fun e w'=>e = .returned (.tuple #[])∧∃ d',PermIn 0 d.size d d'∧aN cf pre 0 d.size d'∧SWK enc k w0 bm off d' w':=by
 have mixed:=L.mixed; have t0:=L.t0; have a0:=L.a0; have z0:=L.z0; have t3:=L.t3; have a3:=L.a3; have z3:=L.z3; have v3:=L.v3; have t4:=L.t4; have a4:=L.a4; have z4:=L.z4; have t22:=L.t22; have a22:=L.a22; have z22:=L.z22; have t25:=L.t25; have a25:=L.a25; have z25:=L.z25;have FG:=L.M0;have S0:Aside (SWK enc k w0 bm off d w0):=hS;have HP:Hid (xC pre 0 d.size d):=hP;have HI:Hid (Ch P k enc cf g cb bm off cap d w0):=hIns;have HY:Hid (∀ n,vK P k enc cf pre g cb bm off cap d w0 n):=hSym;have HO:Hid (iC cf pre):=hO;clear hS hP hIns hSym hO L;go_enter FG,Tryz.ntmps192;go_wp2
 go_loopg [7,8] d.size (fun kx s7 s8 wr=>∃ (a:Nat) (dk:Array α),s7 = .int .i64 a∧s8 = .int .i64 ((a+20:Nat):Int)∧a≤d.size∧d.size - a≤kx∧dk.size=d.size∧Hid (20 ∣ a∧PermIn 0 d.size d dk∧pZ cf pre 20 a dk∧(∀ i,a≤i→dk[i]! = d[i]!)∧gq pre 20 d.size 0 dk)∧Aside (SWK enc k w0 bm off dk wr))
 case atStart=>exact ⟨0,d,rfl,rfl,Nr _,Nj _,rfl,⟨Nat.dvd_zero _,permIn_refl _ _ _,fun c _ h=>by omega,fun _ _=>rfl,gq.of HP.out 20⟩,S0⟩
 case round =>
  clear S0;obtain ⟨a,dk,rfl,rfl,hal,hkx,hds,HV,S1⟩:=hrel;have e20:((a+20:Nat):Int)=(a:Int)+20:=by omega
  by_cases hlt:a+20≤d.size
  ·have hltz:(a:Int)+20≤(d.size:Int):=by omega
   have con:=HI.out a (a+20) dk wr (by omega) S1.out (by omega) (by omega);rw [hds] at con;obtain ⟨v1,v2,v3',v4,v5⟩:=HV.out;have ins:=nE HO.out a (a+20) dk (by omega) (by omega) (fun i j h1 h2 h3=>by rw [v4 i h1,v4 j (by omega)]; exact HP.out i j (Nr _) h2 (by omega));have hnew:20 ∣ a+20∧PermIn 0 d.size d (insertionSort (ltOf cf) dk a (a+20))∧pZ cf pre 20 (a+20) (insertionSort (ltOf cf) dk a (a+20))∧(∀ i,a+20≤i→(insertionSort (ltOf cf) dk a (a+20))[i]! = d[i]!)∧gq pre 20 d.size 0 (insertionSort (ltOf cf) dk a (a+20)) :=
    ⟨Nat.dvd_add v1 (Nat.dvd_refl _),permIn_trans d dk _ 0 d.size v2 (permIn_mono dk _ a (a+20) 0 d.size (Nr _) hlt (by omega) ins.1),v3'.step v1 ins.1 ins.2,fun i hi=>by rw [ins.1.2.1 i (.inr hi),v4 i (by omega)],v5.step (by omega) hlt ins.1 fun c hc=>by
     rcases NY a c with h | h
     ·exact .inr (mF v1 hc h)
     ·exact .inl h⟩
   have hzn:=ins.1.1;have HN:Hid _:=hnew;clear S1 v1 v2 v3' v4 v5 ins hnew HV;generalize insertionSort (ltOf cf) dk a (a+20)=dn at *;rw [e20] at con;go_wp2_with fail
   refine con.mono ?_;rintro _ w1 ⟨rfl,S2⟩;have S2:Aside _:=S2;clear con;dsimp only;go_wp2
   go_roundg (d.size - (a+20))
   case measure=>omega
   case rel=>exact ⟨a+20,dn,by go_num,by go_num,hlt,Nj _,by omega,HN,S2⟩
  ·have hltz:¬ (a:Int)+20≤(d.size:Int):=by omega
   have con:=HI.out a d.size dk wr (by omega) S1.out (by omega) (by omega);rw [hds] at con;obtain ⟨v1,v2,v3',v4,v5⟩:=HV.out;have ins:=nE HO.out a d.size dk (by omega) (by omega) (fun i j h1 h2 h3=>by rw [v4 i h1,v4 j (by omega)]; exact HP.out i j (Nr _) h2 (by omega));have hnew:PermIn 0 d.size d (insertionSort (ltOf cf) dk a d.size)∧jB cf pre 20 d.size 0 (insertionSort (ltOf cf) dk a d.size)∧gq pre 20 d.size 0 (insertionSort (ltOf cf) dk a d.size) :=
    ⟨permIn_trans d dk _ 0 d.size v2 (permIn_mono dk _ a d.size 0 d.size (Nr _) (Nj _) (by omega) ins.1),jB.whole (a:=a) (fun c hc hl=>(v3' c hc hl).congr fun i _ g2=>ins.1.2.1 i (.inl (by omega))) v1 (by omega) (by omega) ins.2,fun c hc h1 h2=>by
     rcases NY a c with h | h
     ·have:=mF v1 hc h; omega
     ·exact (v5 c hc h1 h2).GA (by omega) (Nr _) (permIn_mono dk _ a d.size c d.size h (Nj _) (by omega) ins.1)⟩
   have hzn:=ins.1.1;have HN:Hid _:=hnew;clear S1 v1 v2 v3' v4 v5 ins hnew HV;generalize insertionSort (ltOf cf) dk a d.size=dn at *;go_wp2_with fail
   refine con.mono ?_;rintro _ w1 ⟨rfl,S2⟩;have S2:Aside _:=S2;clear con;dsimp only;go_wp2
   go_loopg [6,7,8] (d.size) (fun kx s6 s7 s8 wr=>∃ (bs:Nat) (dk:Array α),s6 = .int .i64 bs∧0<bs∧bs≤2000000∧d.size - bs≤kx∧dk.size=d.size∧Hid (PermIn 0 d.size d dk∧jB cf pre bs d.size 0 dk∧gq pre bs d.size 0 dk)∧Aside (SWK enc k w0 bm off dk wr))
   case atStart=>exact ⟨20,dn,rfl,by omega,by omega,by omega,by omega,HN,S2⟩
   case round =>
    clear S2 HN hzn;obtain ⟨bs,dk,rfl,hb0,hb1,hkx,hds,HV,S1⟩:=hrel;have hw2:IntKind.i64.wrap (2*(bs:Int))=((2*bs:Nat):Int):=by rw [IntKind.wrap_i64]; omega
    by_cases hlt:bs<d.size
    ·have hltz:(bs:Int)<(d.size:Int):=by omega
     obtain ⟨B,hB⟩:∃ B,B=2*bs:=⟨_,rfl⟩
     have hB1:B≤2*bs:=by omega
     have hB2:2*bs≤B:=by omega
     rw [← hB] at hw2;have hdv:bs ∣ B:=⟨2,by omega⟩
     have HDV:Hid (bs ∣ B):=hdv;have hw3:IntKind.i64.wrap ((bs:Int)*2)=(B:Int):=by rw [IntKind.wrap_i64]; omega
     clear hdv hB;go_wp2_with fail
     go_loopg [7,8] (d.size) (fun kx s7 s8 wr=>∃ (a:Nat) (dk:Array α),s7 = .int .i64 a∧s8 = .int .i64 ((a+B:Nat):Int)∧a≤d.size∧d.size - a≤kx∧dk.size=d.size∧Hid (B ∣ a∧PermIn 0 d.size d dk∧pZ cf pre B a dk∧jB cf pre bs d.size a dk∧gq pre bs d.size a dk∧gq pre B d.size 0 dk)∧Aside (SWK enc k w0 bm off dk wr))
     case atStart=>exact ⟨0,dk,rfl,by simp,Nr _,Nj _,hds,⟨Nat.dvd_zero _,HV.out.1,fun c _ h=>by omega,HV.out.2.1,HV.out.2.2,fun c hc h1 h2=>HV.out.2.2 c (Nat.dvd_trans HDV.out hc) h1 h2⟩,S1⟩
     case round =>
      clear S1 HV hds;obtain ⟨a,dm,rfl,rfl,hal,hkx2,hds,HV,S1⟩:=hrel;have eB:((a+B:Nat):Int)=(a:Int)+(B:Int):=by omega
      have wab:IntKind.i64.wrap ((a:Int)+(bs:Int))=((a+bs:Nat):Int):=by rw [IntKind.wrap_i64]; omega
      obtain ⟨v1,v2,v3',v4,v5,v6⟩:=HV.out;have hda:bs ∣ a:=Nat.dvd_trans HDV.out v1;have hdm:bs ∣ a+bs:=Nat.dvd_add hda (Nat.dvd_refl _);have cut:∀ c,B ∣ c→c≤a∨a+B≤c:=fun c hc=>by
       rcases NY a c with h | h
       ·exact .inr (mF v1 hc h)
       ·exact .inl h
      by_cases hle:a+B≤d.size
      ·have hlez:(a:Int)+(B:Int)≤(d.size:Int):=by omega
       have s1:aN cf pre a (a+bs) dm:=by have:=v4 a hda (Nj _) (by omega); rwa [Nat.min_eq_left (by omega)] at this
       have s2:aN cf pre (a+bs) (a+B) dm:=by have:=v4 (a+bs) hdm (by omega) (by omega); rwa [Nat.min_eq_left (by omega),show a+bs+bs=a+B by omega] at this
       have p1:eM pre a (a+bs) (a+B) dm:=fun i j h1 h2 h3 h4=>v5 (a+bs) hdm (by omega) (by omega) i j (Nr _) h2 h3 (by omega)
       have con:=HY.out B a (a+bs) (a+B) dm wr (by omega) (by omega) S1.out (by omega) (by omega) (by omega) s1 s2 p1;rw [hds] at con;have HNX:Hid (∀ d',PermIn a (a+B) dm d'→aN cf pre a (a+B) d'→B ∣ a+B∧PermIn 0 d.size d d'∧pZ cf pre B (a+B) d'∧jB cf pre bs d.size (a+B) d'∧gq pre bs d.size (a+B) d'∧gq pre B d.size 0 d'):=fun d' q1 q2 =>
        ⟨Nat.dvd_add v1 (Nat.dvd_refl _),permIn_trans d dm d' 0 d.size v2 (permIn_mono dm d' a (a+B) 0 d.size (Nr _) hle (by omega) q1),v3'.step v1 q1 q2,v4.after (by omega) q1,v5.after (by omega) (by omega) q1,v6.step (by omega) hle q1 cut⟩
       clear S1 HV v1 v2 v3' v4 v5 v6 s1 s2 p1 cut hda hdm;rw [eB] at con;go_wp2_with fail
       refine con.mono ?_;rintro _ w2 ⟨rfl,dn2,q1,q2,S2⟩;have S2:Aside _:=S2;have HN:=HNX.out dn2 q1 q2;have HN2:Hid _:=HN;have hzn:=q1.1;clear con q1 q2 HN HNX;dsimp only;go_wp2
       go_roundg (d.size - (a+B))
       case measure=>omega
       case rel=>exact ⟨a+B,dn2,by go_num,by go_num,hle,Nj _,by omega,HN2,S2⟩
      ·have hlez:¬ (a:Int)+(B:Int)≤(d.size:Int):=by omega
       have wab':IntKind.i64.wrap ((a:Int)+(bs:Int))=(a:Int)+(bs:Int):=by rw [IntKind.wrap_i64]; omega
       clear wab;by_cases hm:a+bs<d.size
       ·have hmz:(a:Int)+(bs:Int)<(d.size:Int):=by omega
        have s1:aN cf pre a (a+bs) dm:=by have:=v4 a hda (Nj _) (by omega); rwa [Nat.min_eq_left (by omega)] at this
        have s2:aN cf pre (a+bs) d.size dm:=by have:=v4 (a+bs) hdm (by omega) (by omega); rwa [Nat.min_eq_right (by omega)] at this
        have p1:eM pre a (a+bs) d.size dm:=fun i j h1 h2 h3 h4=>v5 (a+bs) hdm (by omega) (by omega) i j (Nr _) h2 h3 (by omega)
        have con:=HY.out d.size a (a+bs) d.size dm wr (by omega) (by omega) S1.out (by omega) (by omega) (by omega) s1 s2 p1;rw [hds] at con;have HNX:Hid (∀ d',PermIn a d.size dm d'→aN cf pre a d.size d'→PermIn 0 d.size d d'∧jB cf pre B d.size 0 d'∧gq pre B d.size 0 d'):=fun d' q1 q2 =>
         ⟨permIn_trans d dm d' 0 d.size v2 (permIn_mono dm d' a d.size 0 d.size (Nr _) (Nj _) (by omega) q1),jB.whole (a:=a) (fun c hc hl=>(v3' c hc hl).congr fun i _ g2=>q1.2.1 i (.inl (by omega))) v1 (by omega) (by omega) q2,fun c hc h1 h2=>by
          rcases cut c hc with h | h
          ·exact (v6 c hc h1 h2).GA (by omega) (Nr _) (permIn_mono dm d' a d.size c d.size h (Nj _) (by omega) q1)
          ·omega⟩
        clear S1 HV v1 v2 v3' v4 v5 v6 s1 s2 p1 cut hda hdm;have emz:((a+bs:Nat):Int)=(a:Int)+(bs:Int):=by omega
        rw [emz] at con;go_wp2_with fail
        refine con.mono ?_;rintro _ w2 ⟨rfl,dn2,q1,q2,S2⟩;have S2:Aside _:=S2;have HN:=HNX.out dn2 q1 q2;have HN2:Hid _:=HN;have hzn:=q1.1;clear con q1 q2 HN HNX;dsimp only;go_wp2
        go_roundg (d.size - B)
        case measure=>omega
        case rel=>exact ⟨B,dn2,rfl,by omega,by omega,Nj _,by omega,HN2,S2⟩
       ·have hmz:¬ (a:Int)+(bs:Int)<(d.size:Int):=by omega
        have s1:aN cf pre a d.size dm:=by
         rcases NY a d.size with h | h
         ·have:=v4 a hda (Nj _) h; rwa [Nat.min_eq_right (by omega)] at this
         ·exact aN.one (by omega)
        have HN2:Hid (PermIn 0 d.size d dm∧jB cf pre B d.size 0 dm∧gq pre B d.size 0 dm):=⟨v2,jB.whole v3' v1 (by omega) (by omega) s1,v6⟩
        clear HV v1 v2 v3' v4 v5 v6 s1 cut hda hdm;go_wp2
        go_roundg (d.size - B)
        case measure=>omega
        case rel=>exact ⟨B,dm,rfl,by omega,by omega,Nj _,by omega,HN2,S1⟩
    ·have hltz:¬ (bs:Int)<(d.size:Int):=by omega
     go_wp2
     go_end0
     refine ⟨rfl,dk,HV.out.1,?_,S1.out⟩;rcases Nat.eq_zero_or_pos d.size with h | h
     ·exact aN.one (by omega)
     ·have:=HV.out.2.1 0 (Nat.dvd_zero _) (Nj _) h
      rwa [Np,Nat.min_eq_right (by omega)] at this
theorem uu (k:Nat) (L:sJ P k) (enc:α→List Value) (hO:iC cf pre) (g:Nat) (cb:Array Value) (bm off cap:Nat) (d:Array α) (w0:World) (hsz:d.size≤1000000)
  (hS:SWK enc k w0 bm off d w0) (hP:xC pre 0 d.size d)
  (eIn:∀ args w,(callFunc 217 args).run P w = .ok (.enter 217 args) w) (eSy:∀ args w,(callFunc 218 args).run P w = .ok (.enter 218 args) w) (eSt:∀ args w,(callFunc 192 args).run P w = .ok (.enter 192 args) w)
  (hIns:Ch P k enc cf g cb bm off cap d w0) (hSym:∀ n,vK P k enc cf pre g cb bm off cap d w0 n) :
  Calls P 158 #[.slice (some ⟨bm,off,none⟩) d.size cap,.func (.func g) #[] cb] w0 fun e w'=>e = .returned (.tuple #[])∧∃ d',PermIn 0 d.size d d'∧aN cf pre 0 d.size d'∧SWK enc k w0 bm off d' w':=by
 have con:=DF k L enc hO g cb bm off cap d w0 hsz hS hP eIn eSy hIns hSym;have mixed:=L.mixed; have t0:=L.t0; have a0:=L.a0; have z0:=L.z0; have t3:=L.t3; have a3:=L.a3; have z3:=L.z3; have v3:=L.v3; have t4:=L.t4; have a4:=L.a4; have z4:=L.z4; have t22:=L.t22; have a22:=L.a22; have z22:=L.z22; have t25:=L.t25; have a25:=L.a25; have z25:=L.z25;have FG:=L.M1;clear hS hP hIns hSym hO L;go_enter FG,Tryz.ntmps158;go_wp2_with fail
 refine con.mono ?_;rintro _ w2 ⟨rfl,hd⟩;clear con;dsimp only;have HD:Hid _:=hd;clear hd;go_wp2
 go_end0
 exact ⟨rfl,HD.out⟩
end Go.Proofs.YtohjlfhmnmcndaaGreat
namespace Go.Proofs.YtohjlfhmnmcndaaGreat
open Go.RowKit
set_option maxRecDepth 100000
set_option maxHeartbeats 16000000
def oV (n:Int):Bool:=decide (-1000000000000000≤n) && decide (n≤1000000000000000)
theorem yI {n:Int} (h:oV n=true):-1000000000000000≤n∧n≤1000000000000000:=by simpa [oV] using h
theorem Ma {n:Int} (h:oV n=false):n < -1000000000000000∨1000000000000000<n:=by
 unfold oV at h;by_cases a:-1000000000000000≤n
 ·by_cases b:n≤1000000000000000
  ·simp [a,b] at h
  ·right; omega
 ·left; omega
theorem KM {n:Int} (h:n < -1000000000000000∨1000000000000000<n):oV n=false:=by
 cases e:oV n
 ·rfl
 ·have:=yI e; omega
def kV (n:Int):Int:=if oV n then 3 else 1
def lG (n:Int):Int:=if oV n then n else 0
def oc (k n:Int):Bool:=k == 3 && oV n
def L7 (c n n':Int):Option Int:=if c=43 then some (n+n') else if c=45 then some (n - n') else if c=42 then some (n*n') else none
def wH:Option Int→Int | some x=>kV x | none=>1
def Ah:Option Int→Int | some x=>lG x | none=>0
def qL (c k n k' n':Int):Option Int:=if oc k n && oc k' n' then L7 c n n' else none
theorem qz (n:Int) (w:World) :
  Calls Tryz.prog 145 #[.int .i64 n] w fun e w'=>e = .returned (.bool (oV n))∧w'=w:=by
 by_cases h0:-1000000000000000≤n
 ·go_enter Tryz.func145,Tryz.ntmps145;go_wp2
  go_ret;exact ⟨fA (by simp [oV,h0]),rfl⟩
 ·have hd:decide (-1000000000000000≤n)=false:=by simpa using h0
  have e:oV n=false:=by simp only [oV,hd,Bool.false_and]
  go_enter Tryz.func145,Tryz.ntmps145;go_wp2
  go_ret;exact ⟨rfl,rfl⟩
theorem AP (n:Int) (w:World) (h:oV n=true) :
  Calls Tryz.prog 213 #[.int .i64 n] w fun e w'=>e = .returned (.agg #[.int .i64 3,.int .i64 n,.string ⟨#[]⟩])∧Below w.heap.size w w':=by
 go_enter Tryz.func213,Tryz.ntmps213;go_wp2_with fail
 refine (qz _ _).mono ?_;rintro e w1 ⟨rfl,rfl⟩;rw [h];go_wp2
 exact Nl (v:=.agg #[.int .i64 3,.int .i64 n,.string ⟨#[]⟩]) (by simp [results,Tryz.results213,go_sem]) rfl ⟨rfl,(Nk _ _).alloc (Nj _) _⟩
theorem Cm (n:Int) (w:World) (h:oV n=false) :
  Calls Tryz.prog 213 #[.int .i64 n] w fun e w'=>e = .returned (.agg #[.int .i64 1,.int .i64 0,.string ⟨#[]⟩])∧Below w.heap.size w w':=by
 go_enter Tryz.func213,Tryz.ntmps213;go_wp2_with fail
 refine (qz _ _).mono ?_;rintro e w1 ⟨rfl,rfl⟩;rw [h];have R0:=gH.new w (.int .i64 0) (.int .i64 0) (.string ⟨#[]⟩) 24;go_wp2_with fail
 refine (dZ _).mono ?_;rintro e w1 ⟨rfl,hb1⟩;have R1:=R0.next hb1;have ⟨r0,r1,r2,r3,r4,r5,r6⟩:=R1;go_wp2
 exact Nl (v:=.agg #[.int .i64 1,.int .i64 0,.string ⟨#[]⟩]) (by simp [results,Tryz.results213,go_sem,r1,r2,r3]) rfl ⟨rfl,aD (lT hb1) (Nj _)⟩
theorem xd (n:Int) (w:World) :
  Calls Tryz.prog 213 #[.int .i64 n] w fun e w'=>e = .returned (.agg #[.int .i64 (kV n),.int .i64 (lG n),.string ⟨#[]⟩])∧Below w.heap.size w w':=by
 cases h:oV n
 ·have e1:kV n=1:=by simp [kV,h]
  have e2:lG n=0:=by simp [lG,h]
  rw [e1,e2]; exact Cm n w h
 ·have e1:kV n=3:=by simp [kV,h]
  have e2:lG n=n:=by simp [lG,h]
  rw [e1,e2]; exact AP n w h
theorem nS (n:Int) (w:World) (h0:-1000000000000000≤n) (h1:n≤1000000000000000) :
  Calls Tryz.prog 252 #[.int .i64 n] w fun e w'=>e = .returned (.int .i64 (n.natAbs:Int))∧w'=w:=by
 by_cases h:n<0
 ·go_enter Tryz.func252,Tryz.ntmps252;go_wp2
  go_ret;exact ⟨aA (by omega),rfl⟩
 ·go_enter Tryz.func252,Tryz.ntmps252;go_wp2
  go_ret;exact ⟨aA (by omega),rfl⟩
theorem xi (k n:Int) (s:ByteArray) (w:World) :
  Calls Tryz.prog 250 #[.agg #[.int .i64 k,.int .i64 n,.string s]] w fun e w'=>e = .returned (.bool (oc k n))∧Below w.heap.size w w':=by
 by_cases hk:k=3
 ·subst hk;have e0:(aI 3 n s == 0)=oc 3 n:=by
   cases h:oV n
   ·have:=Ma h;have e:aI 3 n s=3:=by
     rcases this with t | t
     ·exact oL n s t
     ·exact pf n s t
    simp [oc,h,e]
   ·have:=yI h;have e:aI 3 n s=0:=s9 n s (by omega) (by omega);simp [oc,h,e]
  have E0:Hid ((aI 3 n s == 0)=oc 3 n):=e0;clear e0;go_enter Tryz.func250,Tryz.ntmps250;go_wp2_with fail
  refine (iN _ _ _ _).mono ?_;rintro e w1 ⟨rfl,hb1⟩;go_wp2
  go_ret;exact ⟨fA E0.out,lT hb1⟩
 ·have b3:(k == 3)=false:=by simpa using hk
  go_enter Tryz.func250,Tryz.ntmps250;go_wp2
  go_ret;exact ⟨fA (by simp [oc,b3]),(Nk _ _).alloc (Nj _) _⟩
theorem J1 (a b:Int) (h:(1000000000000000 / (a.natAbs:Int))<(b.natAbs:Int)) (ha:a≠0):oV (a*b)=false:=by
 apply KM;have h1:1000000000000000<(a.natAbs:Int)*(b.natAbs:Int):=by
  have p:0<(a.natAbs:Int):=by omega
  have:=Int.lt_mul_of_ediv_lt p h;rw [Int.mul_comm]; exact this
 have h2:((a*b).natAbs:Int)=(a.natAbs:Int)*(b.natAbs:Int):=by rw [Int.natAbs_mul]; exact Int.natCast_mul _ _
 rw [← h2] at h1;omega
theorem Lg (a b:Int) (h:(b.natAbs:Int)≤1000000000000000 / (a.natAbs:Int)) (ha:a≠0):-1000000000000000≤a*b∧a*b≤1000000000000000:=by
 have h1:(a.natAbs:Int)*(b.natAbs:Int)≤1000000000000000:=by
  have p:0<(a.natAbs:Int):=by omega
  have:=Int.mul_le_of_le_ediv p h;rw [Int.mul_comm]; exact this
 have h2:((a*b).natAbs:Int)=(a.natAbs:Int)*(b.natAbs:Int):=by rw [Int.natAbs_mul]; exact Int.natCast_mul _ _
 rw [← h2] at h1;omega
theorem CO (b:Int) (w:World) :
  Calls Tryz.prog 251 #[.int .i64 0,.int .i64 b] w fun e w'=>e = .returned (.agg #[.int .i64 (kV (0*b)),.int .i64 (lG (0*b)),.string ⟨#[]⟩])∧Below w.heap.size w w':=by
 rw [Int.zero_mul];have R0:=gH.new w (.int .i64 0) (.int .i64 0) (.string ⟨#[]⟩) 24;go_enter Tryz.func251,Tryz.ntmps251;go_wp2_with fail
 refine (xd _ _).mono ?_;rintro e w1 ⟨rfl,hb1⟩;have R1:=R0.next hb1;have ⟨r0,r1,r2,r3,r4,r5,r6⟩:=R1;go_wp2
 exact Nl (v:=.agg #[.int .i64 (kV 0),.int .i64 (lG 0),.string ⟨#[]⟩]) (by simp [results,Tryz.results251,go_sem,r1,r2,r3]) rfl ⟨rfl,aD (lT hb1) (Nj _)⟩
theorem zg (a b:Int) (w:World) (a0:-1000000000000000≤a) (a1:a≤1000000000000000) (b0:-1000000000000000≤b) (b1:b≤1000000000000000) (ha:a≠0) (h:(1000000000000000 / (a.natAbs:Int))<(b.natAbs:Int)) :
  Calls Tryz.prog 251 #[.int .i64 a,.int .i64 b] w fun e w'=>e = .returned (.agg #[.int .i64 1,.int .i64 0,.string ⟨#[]⟩])∧Below w.heap.size w w':=by
 have R0:=gH.new w (.int .i64 0) (.int .i64 0) (.string ⟨#[]⟩) 24;have bn:(a != 0)=true:=by simpa using ha
 have p0:0<(a.natAbs:Int):=by omega
 have p1:(a.natAbs:Int)≤1000000000000000:=by omega
 have q0:0≤(b.natAbs:Int):=by omega
 have q1:(b.natAbs:Int)≤1000000000000000:=by omega
 go_enter Tryz.func251,Tryz.ntmps251;go_wp2_with fail
 refine (nS _ _ b0 b1).mono ?_;rintro e w1 ⟨rfl,rfl⟩;go_wp2_with fail
 refine (nS _ _ a0 a1).mono ?_;rintro e w1 ⟨rfl,rfl⟩;generalize (a.natAbs:Int)=A at *;generalize (b.natAbs:Int)=B at *;go_wp2_with fail
 refine (dZ _).mono ?_;rintro e w1 ⟨rfl,hb1⟩;have R1:=R0.next hb1;have ⟨r0,r1,r2,r3,r4,r5,r6⟩:=R1;go_wp2
 exact Nl (v:=.agg #[.int .i64 1,.int .i64 0,.string ⟨#[]⟩]) (by simp [results,Tryz.results251,go_sem,r1,r2,r3]) rfl ⟨rfl,aD (lT hb1) (Nj _)⟩
theorem Az (a b:Int) (w:World) (a0:-1000000000000000≤a) (a1:a≤1000000000000000) (b0:-1000000000000000≤b) (b1:b≤1000000000000000) (ha:a≠0) (h:(b.natAbs:Int)≤(1000000000000000 / (a.natAbs:Int))) :
  Calls Tryz.prog 251 #[.int .i64 a,.int .i64 b] w fun e w'=>e = .returned (.agg #[.int .i64 (kV (a*b)),.int .i64 (lG (a*b)),.string ⟨#[]⟩])∧Below w.heap.size w w':=by
 have hm:=Lg a b h ha;obtain ⟨m0,m1⟩:=hm;have R0:=gH.new w (.int .i64 0) (.int .i64 0) (.string ⟨#[]⟩) 24;have bn:(a != 0)=true:=by simpa using ha
 have p0:0<(a.natAbs:Int):=by omega
 have p1:(a.natAbs:Int)≤1000000000000000:=by omega
 have q0:0≤(b.natAbs:Int):=by omega
 have q1:(b.natAbs:Int)≤1000000000000000:=by omega
 go_enter Tryz.func251,Tryz.ntmps251;go_wp2_with fail
 refine (nS _ _ b0 b1).mono ?_;rintro e w1 ⟨rfl,rfl⟩;go_wp2_with fail
 refine (nS _ _ a0 a1).mono ?_;rintro e w1 ⟨rfl,rfl⟩;have ew:wrap64 (a*b)=a*b:=by unfold wrap64; omega
 generalize (a.natAbs:Int)=A at *;generalize (b.natAbs:Int)=B at *;go_wp2_with fail
 refine (xd _ _).mono ?_;rintro e w1 ⟨rfl,hb1⟩;have R1:=R0.next hb1;have ⟨r0,r1,r2,r3,r4,r5,r6⟩:=R1;go_wp2
 exact Nl (v:=.agg #[.int .i64 (kV (a*b)),.int .i64 (lG (a*b)),.string ⟨#[]⟩]) (by simp [results,Tryz.results251,go_sem,r1,r2,r3]) rfl ⟨rfl,aD (lT hb1) (Nj _)⟩
theorem yX (a b:Int) (w:World) (a0:-1000000000000000≤a) (a1:a≤1000000000000000) (b0:-1000000000000000≤b) (b1:b≤1000000000000000) :
  Calls Tryz.prog 251 #[.int .i64 a,.int .i64 b] w fun e w'=>e = .returned (.agg #[.int .i64 (kV (a*b)),.int .i64 (lG (a*b)),.string ⟨#[]⟩])∧Below w.heap.size w w':=by
 by_cases ha:a=0
 ·subst ha; exact CO b w
 by_cases h:(1000000000000000 / (a.natAbs:Int))<(b.natAbs:Int)
 ·have e:=J1 a b h ha;have e1:kV (a*b)=1:=by simp [kV,e]
  have e2:lG (a*b)=0:=by simp [lG,e]
  rw [e1,e2]; exact zg a b w a0 a1 b0 b1 ha h
 ·exact Az a b w a0 a1 b0 b1 ha (by omega)
theorem zX (c k n k' n' : Int) (s s' : ByteArray) (w : World) :
    Calls Tryz.prog 248 #[.int .i32 c, .agg #[.int .i64 k, .int .i64 n, .string s], .agg #[.int .i64 k', .int .i64 n', .string s']] w fun e w' => e = .returned (.agg #[.int .i64 (wH (qL c k n k' n')), .int .i64 (Ah (qL c k n k' n')), .string ⟨#[]⟩]) ∧ Below w.heap.size w w' := by
  have T := ur.new w k n k' n' s s'
  have g : oc k n = true → -1000000000000000 ≤ n ∧ n ≤ 1000000000000000 := fun h => by unfold oc at h; simp at h; exact yI h.2
  have g' : oc k' n' = true → -1000000000000000 ≤ n' ∧ n' ≤ 1000000000000000 := fun h => by unfold oc at h; simp at h; exact yI h.2
  obtain ⟨o, ho⟩ : ∃ o, o = qL c k n k' n' := ⟨_, rfl⟩
  rw [← ho]
  unfold qL L7 at ho
  by_cases c1 : c = 43
  rotate_left
  by_cases c2 : c = 45
  rotate_left
  by_cases c3 : c = 42
  all_goals (
    cases h1 : oc k n <;> cases h2 : oc k' n')
  all_goals (
    simp only [h1, h2, Bool.and_true, Bool.and_false, Ox, if_true, if_false] at ho
    simp only [h1, Ox, false_implies, forall_const] at g
    simp only [h2, Ox, false_implies, forall_const] at g'
    try (rcases g with ⟨q0, q1⟩)
    try (rcases g' with ⟨p0, p1⟩)
    try simp only [c1, c2, c3, if_true, if_false] at ho
    try simp only [c1, if_true, if_false] at ho
    try simp only [c2, if_true] at ho
    try (have d1 : (c == 43) = false := by simpa using c1)
    try (have d2 : (c == 45) = false := by simpa using c2)
    try (have d3 : (c == 42) = false := by simpa using c3)
    try subst c1
    try subst c2
    try subst c3
    try simp at ho
    subst ho)
  all_goals (
    go_enter Tryz.func248, Tryz.ntmps248
    go_wp2_with fail
    generalize ((w.alloc (.cells #[.int .i64 k, .int .i64 n, .string s] 24)).alloc (.cells #[.int .i64 k', .int .i64 n', .string s'] 24)).alloc (.cells #[.int .i64 0, .int .i64 0, .string ⟨#[]⟩] 24) = W0 at *
    repeat (first | refine (xi _ _ _ _).mono ?_ | refine (xd _ _).mono ?_ | refine (yX _ _ _ q0 q1 p0 p1).mono ?_ | refine (dZ _).mono ?_
            rintro e w1 ⟨rfl, hb⟩
            replace T := T.next hb
            clear hb
            have ⟨a0, a1, a2, a3, a4, a5, a6⟩ := T.p
            have ⟨b0, b1, b2, b3, b4, b5, b6⟩ := T.q
            have ⟨r0, r1, r2, r3, r4, r5, r6⟩ := T.r
            try simp only [h1, h2]
            go_wp2_with fail)
    have HB := T.b
    first | exact Nl (v := .agg #[.int .i64 1, .int .i64 0, .string ⟨#[]⟩]) (by simp [results, Tryz.results248, go_sem, r1, r2, r3]) rfl ⟨rfl, aD HB (by omega)⟩ | exact Nl (v := .agg #[.int .i64 (kV (n + n')), .int .i64 (lG (n + n')), .string ⟨#[]⟩]) (by simp [results, Tryz.results248, go_sem, r1, r2, r3]) rfl ⟨rfl, aD HB (by omega)⟩ | exact Nl (v := .agg #[.int .i64 (kV (n - n')), .int .i64 (lG (n - n')), .string ⟨#[]⟩]) (by simp [results, Tryz.results248, go_sem, r1, r2, r3]) rfl ⟨rfl, aD HB (by omega)⟩ | exact Nl (v := .agg #[.int .i64 (kV (n * n')), .int .i64 (lG (n * n')), .string ⟨#[]⟩]) (by simp [results, Tryz.results248, go_sem, r1, r2, r3]) rfl ⟨rfl, aD HB (by omega)⟩)
def ln (k:Int) (s:ByteArray) (k':Int) (s':ByteArray):Bool:=k == 4 && (k' == 4 && decide (s.size+s'.size≤60))
def lp (k:Int) (s:ByteArray) (k':Int) (s':ByteArray):Int:=if ln k s k' s' then 4 else 1
def lO (k:Int) (s:ByteArray) (k':Int) (s':ByteArray):ByteArray:=if ln k s k' s' then s ++ s' else ⟨#[]⟩
theorem KU (k n k' n':Int) (s s':ByteArray) (w:World) (h':(k != 4)=true) :
  Calls Tryz.prog 239 #[.agg #[.int .i64 k,.int .i64 n,.string s],.agg #[.int .i64 k',.int .i64 n',.string s']] w fun e w'=>e = .returned (.agg #[.int .i64 1,.int .i64 0,.string ⟨#[]⟩])∧Below w.heap.size w w':=by
 have A0:=((gH.new w (.int .i64 k) (.int .i64 n) (.string s) 24).alloc (.cells #[.int .i64 k',.int .i64 n',.string s'] 24)).alloc (.cells #[.int .i64 0,.int .i64 0,.string ⟨#[]⟩] 24);have B0:=(gH.new (w.alloc (.cells #[.int .i64 k,.int .i64 n,.string s] 24)) (.int .i64 k') (.int .i64 n') (.string s') 24).alloc (.cells #[.int .i64 0,.int .i64 0,.string ⟨#[]⟩] 24);have R0:=gH.new ((w.alloc (.cells #[.int .i64 k,.int .i64 n,.string s] 24)).alloc (.cells #[.int .i64 k',.int .i64 n',.string s'] 24)) (.int .i64 0) (.int .i64 0) (.string ⟨#[]⟩) 24;simp only [Oy] at B0 R0
 go_enter Tryz.func239,Tryz.ntmps239;go_wp2_with fail
 refine (dZ _).mono ?_;rintro e w1 ⟨rfl,hb1⟩;have A1:=A0.next hb1;have B1:=B0.next hb1;have R1:=R0.next hb1;have ⟨a0,a1,a2,a3,a4,a5,a6⟩:=A1;have ⟨b0,b1,b2,b3,b4,b5,b6⟩:=B1;have ⟨r0,r1,r2,r3,r4,r5,r6⟩:=R1;go_wp2_with fail
 have z1:=hb1.size;simp at z1;exact Nl (v:=.agg #[.int .i64 1,.int .i64 0,.string ⟨#[]⟩]) (by simp [results,Tryz.results239,go_sem,r1,r2,r3]) rfl ⟨rfl,aD (jE hb1) (by omega)⟩
theorem K3 (k n k' n':Int) (s s':ByteArray) (w:World) (e:k=4) (h':(k' != 4)=true) :
  Calls Tryz.prog 239 #[.agg #[.int .i64 k,.int .i64 n,.string s],.agg #[.int .i64 k',.int .i64 n',.string s']] w fun e w'=>e = .returned (.agg #[.int .i64 1,.int .i64 0,.string ⟨#[]⟩])∧Below w.heap.size w w':=by
 subst e;have A0:=((gH.new w (.int .i64 4) (.int .i64 n) (.string s) 24).alloc (.cells #[.int .i64 k',.int .i64 n',.string s'] 24)).alloc (.cells #[.int .i64 0,.int .i64 0,.string ⟨#[]⟩] 24);have B0:=(gH.new (w.alloc (.cells #[.int .i64 4,.int .i64 n,.string s] 24)) (.int .i64 k') (.int .i64 n') (.string s') 24).alloc (.cells #[.int .i64 0,.int .i64 0,.string ⟨#[]⟩] 24);have R0:=gH.new ((w.alloc (.cells #[.int .i64 4,.int .i64 n,.string s] 24)).alloc (.cells #[.int .i64 k',.int .i64 n',.string s'] 24)) (.int .i64 0) (.int .i64 0) (.string ⟨#[]⟩) 24;simp only [Oy] at B0 R0
 go_enter Tryz.func239,Tryz.ntmps239;go_wp2_with fail
 refine (dZ _).mono ?_;rintro e w1 ⟨rfl,hb1⟩;have A1:=A0.next hb1;have B1:=B0.next hb1;have R1:=R0.next hb1;have ⟨a0,a1,a2,a3,a4,a5,a6⟩:=A1;have ⟨b0,b1,b2,b3,b4,b5,b6⟩:=B1;have ⟨r0,r1,r2,r3,r4,r5,r6⟩:=R1;go_wp2_with fail
 have z1:=hb1.size;simp at z1;exact Nl (v:=.agg #[.int .i64 1,.int .i64 0,.string ⟨#[]⟩]) (by simp [results,Tryz.results239,go_sem,r1,r2,r3]) rfl ⟨rfl,aD (jE hb1) (by omega)⟩
theorem LH (k n k' n':Int) (s s':ByteArray) (w:World) (e:k=4) (e':k'=4) (z1:s.size≤60) (z2:s'.size≤60) (h:60<s.size+s'.size) :
  Calls Tryz.prog 239 #[.agg #[.int .i64 k,.int .i64 n,.string s],.agg #[.int .i64 k',.int .i64 n',.string s']] w fun e w'=>e = .returned (.agg #[.int .i64 1,.int .i64 0,.string ⟨#[]⟩])∧Below w.heap.size w w':=by
 subst e;subst e';have y1:(s.size:Int)≤60:=by omega
 have y2:(s'.size:Int)≤60:=by omega
 have y3:60<(s.size:Int)+(s'.size:Int):=by omega
 have y4:¬ ((s.size:Int)+(s'.size:Int)≤60):=by omega
 have A0:=((gH.new w (.int .i64 4) (.int .i64 n) (.string s) 24).alloc (.cells #[.int .i64 4,.int .i64 n',.string s'] 24)).alloc (.cells #[.int .i64 0,.int .i64 0,.string ⟨#[]⟩] 24);have B0:=(gH.new (w.alloc (.cells #[.int .i64 4,.int .i64 n,.string s] 24)) (.int .i64 4) (.int .i64 n') (.string s') 24).alloc (.cells #[.int .i64 0,.int .i64 0,.string ⟨#[]⟩] 24);have R0:=gH.new ((w.alloc (.cells #[.int .i64 4,.int .i64 n,.string s] 24)).alloc (.cells #[.int .i64 4,.int .i64 n',.string s'] 24)) (.int .i64 0) (.int .i64 0) (.string ⟨#[]⟩) 24;simp only [Oy] at B0 R0
 go_enter Tryz.func239,Tryz.ntmps239;go_wp2_with fail
 refine (dZ _).mono ?_;rintro e w1 ⟨rfl,hb1⟩;have A1:=A0.next hb1;have B1:=B0.next hb1;have R1:=R0.next hb1;have ⟨a0,a1,a2,a3,a4,a5,a6⟩:=A1;have ⟨b0,b1,b2,b3,b4,b5,b6⟩:=B1;have ⟨r0,r1,r2,r3,r4,r5,r6⟩:=R1;go_wp2_with fail
 have z1:=hb1.size;simp at z1;exact Nl (v:=.agg #[.int .i64 1,.int .i64 0,.string ⟨#[]⟩]) (by simp [results,Tryz.results239,go_sem,r1,r2,r3]) rfl ⟨rfl,aD (jE hb1) (by omega)⟩
theorem KN (k n k' n':Int) (s s':ByteArray) (w:World) (e:k=4) (e':k'=4) (z1:s.size≤60) (z2:s'.size≤60) (h:s.size+s'.size≤60) :
  Calls Tryz.prog 239 #[.agg #[.int .i64 k,.int .i64 n,.string s],.agg #[.int .i64 k',.int .i64 n',.string s']] w fun e w'=>e = .returned (.agg #[.int .i64 4,.int .i64 0,.string (s ++ s')])∧Below w.heap.size w w':=by
 subst e;subst e';have y1:(s.size:Int)≤60:=by omega
 have y2:(s'.size:Int)≤60:=by omega
 have y3:¬ 60<(s.size:Int)+(s'.size:Int):=by omega
 have y4:(s.size:Int)+(s'.size:Int)≤60:=by omega
 go_enter Tryz.func239,Tryz.ntmps239;go_wp2
 exact Nl (v:=.agg #[.int .i64 4,.int .i64 0,.string (s ++ s')]) (by simp [results,Tryz.results239,go_sem]) rfl ⟨rfl,(((Nk _ _).alloc (Nj _) _).alloc (by simp) _).alloc (by simp; omega) _⟩
theorem Ie (k n k' n':Int) (s s':ByteArray) (w:World) (z:k=4→s.size≤60) (z':k'=4→s'.size≤60) :
  Calls Tryz.prog 239 #[.agg #[.int .i64 k,.int .i64 n,.string s],.agg #[.int .i64 k',.int .i64 n',.string s']] w fun e w'=>e = .returned (.agg #[.int .i64 (lp k s k' s'),.int .i64 0,.string (lO k s k' s')])∧Below w.heap.size w w':=by
 by_cases h:k=4
 ·by_cases h':k'=4
  ·by_cases hs:s.size+s'.size≤60
   ·have e:ln k s k' s'=true:=by simp [ln,h,h',hs]
    have e1:lp k s k' s'=4:=by simp [lp,e]
    have e2:lO k s k' s'=s ++ s':=by simp [lO,e]
    rw [e1,e2]; exact KN k n k' n' s s' w h h' (z h) (z' h') hs
   ·have e:ln k s k' s'=false:=by simp [ln,hs]
    have e1:lp k s k' s'=1:=by simp [lp,e]
    have e2:lO k s k' s'=⟨#[]⟩:=by simp [lO,e]
    rw [e1,e2]; exact LH k n k' n' s s' w h h' (z h) (z' h') (by omega)
  ·have e:ln k s k' s'=false:=by simp [ln,h']
   have e1:lp k s k' s'=1:=by simp [lp,e]
   have e2:lO k s k' s'=⟨#[]⟩:=by simp [lO,e]
   rw [e1,e2]; exact K3 k n k' n' s s' w h (by simpa using h')
 ·have e:ln k s k' s'=false:=by simp [ln,h]
  have e1:lp k s k' s'=1:=by simp [lp,e]
  have e2:lO k s k' s'=⟨#[]⟩:=by simp [lO,e]
  rw [e1,e2]; exact KU k n k' n' s s' w (by simpa using h)
end Go.Proofs.YtohjlfhmnmcndaaGreat
namespace Go.Proofs.YtohjlfhmnmcndaaGreat
set_option maxRecDepth 100000
set_option maxHeartbeats 16000000
def zT (o:Option Bool):Vl:=(tk o,tn o,⟨#[]⟩)
def uw (v:Vl):Option Bool:=cls v.1 v.2.1
def JB (a b:Vl):Vl:=zT (K6 (uw a) (uw b))
def MA (a b:Vl):Vl:=zT (ML (uw a) (uw b))
def oX (a:Vl):Vl:=zT (rH (uw a))
def LS (a b:Vl):Vl:=zT (Mv a.1 a.2.1 a.2.2 b.1 b.2.1 b.2.2)
def IN (a b:Vl):Vl:=zT (Kw a.1 a.2.1 a.2.2 b.1 b.2.1 b.2.2)
def oG (c:Int) (a b:Vl):Vl:=(wH (qL c a.1 a.2.1 b.1 b.2.1),Ah (qL c a.1 a.2.1 b.1 b.2.1),⟨#[]⟩)
def qg (a b:Vl):Vl:=(lp a.1 a.2.2 b.1 b.2.2,0,lO a.1 a.2.2 b.1 b.2.2)
def mP (a b:Vl):Vl:=if a.1=1 then b else a
def fH:Vl:=(0,0,⟨#[]⟩)
def qD (k:Int) (a b:Vl):Vl :=
 if k=4 then JB a b else if k=5 then MA a b else if k=6 then LS a b else if k=7 then oX (LS a b)
 else if k=8 then IN a b else if k=11 then oX (IN a b) else if k=10 then IN b a else if k=9 then oX (IN b a)
 else if k=12 then oG 43 a b else if k=13 then oG 45 a b else if k=14 then oG 42 a b else if k=15 then qg a b else mP a b
def mK (row:List Vl) (k:Int) (v:Vl) (c:Int) (us:List Vl):Vl :=
 if k=1 then cB v else if k=2 then cB (row.getD c.toNat fH) else if k=3 then oX (us.getD 0 fH)
 else if k=16 then zT (some ((us.getD 0 fH).1 == 1))
 else if k=17 then (if uw (us.getD 0 fH) == some true then us.getD 1 fH else us.getD 2 fH)
 else qD k (us.getD 0 fH) (us.getD 1 fH)
mutual
def bB (row:List Vl):Ex→Vl | .mk k v c ks=>mK row k v c (mQ row ks)
def mQ (row:List Vl):List Ex→List Vl | []=>[] | x :: r=>bB row x :: mQ row r
end
theorem iI (row:List Vl):∀ ks,mQ row ks=ks.map (bB row)
 | []=>rfl
 | x :: r=>by rw [mQ,iI row r]; rfl
theorem DH (o:Option Bool):aY (zT o)=0:=by rcases o with _ | _ | _ <;> rfl
theorem Gt (o:Option Bool):(zT o).1=1∨(zT o).1=2:=by rcases o with _ | _ <;> simp [zT,tk]
theorem lX (v:Vl):aY (cB v)=aY v:=by
 obtain ⟨k,n,s⟩:=v;unfold aY cB aI fF kp;by_cases h1:k=1
 ·simp [h1]
 by_cases h2:k=2
 ·simp [h2]
 by_cases h3:k=3
 ·simp [h3]
 by_cases h4:k=4
 ·simp [h4]
 simp [h1,h2,h3,h4]
theorem DZ (c:Int) (a b:Vl):aY (oG c a b)=0∧((oG c a b).1=1∨(oG c a b).1=3):=by
 unfold oG aY;rcases qL c a.1 a.2.1 b.1 b.2.1 with _ | x
 ·simp [wH,aI]
 ·by_cases h:oV x=true
  ·have h':=h;simp only [oV,NQ,decide_eq_true_eq] at h';simp [wH,Ah,kV,lG,h,aI,h']
  ·simp [wH,kV,h,aI]
theorem Bc (a b:Vl):aY (qg a b)=0∧((qg a b).1=1∨(qg a b).1=4):=by
 unfold qg aY lp lO;by_cases h:ln a.1 a.2.2 b.1 b.2.2=true
 ·have h':=h;simp only [ln,NQ,decide_eq_true_eq] at h';simp [h,aI,h']
 ·simp [h,aI]
theorem sB {v:Vl} (h:aY v=0):1≤v.1∧v.1≤4:=by
 obtain ⟨k,n,s⟩:=v;unfold aY aI at h;simp only at h ⊢;by_cases h1:k=1
 ·omega
 by_cases h2:k=2
 ·omega
 by_cases h3:k=3
 ·omega
 by_cases h4:k=4
 ·omega
 simp [h1,h2,h3,h4] at h
theorem JP {k:Int} (h:6≤k) (h':k≤11) (a b:Vl):∃ o,qD k a b=zT o:=by
 obtain rfl | rfl | rfl | rfl | rfl | rfl:k=6∨k=7∨k=8∨k=9∨k=10∨k=11:=by omega
 all_goals exact ⟨_,rfl⟩
theorem IL {k:Int} (h:12≤k) (h':k≤14) (a b:Vl):∃ c,qD k a b=oG c a b:=by
 obtain rfl | rfl | rfl:k=12∨k=13∨k=14:=by omega
 all_goals exact ⟨_,rfl⟩
theorem Fi {k:Int} (h:k<4∨15<k) (a b:Vl):qD k a b=mP a b:=by
 unfold qD;rw [if_neg (by omega),if_neg (by omega),if_neg (by omega),if_neg (by omega),if_neg (by omega),if_neg (by omega),if_neg (by omega),if_neg (by omega),if_neg (by omega),if_neg (by omega),if_neg (by omega),if_neg (by omega)]
def dJ:List Int→List Vl→Int
 | c :: cs,v :: vs=>if aY v≠0 then aY v else if v.1≠1∧v.1≠c then 9 else dJ cs vs
 | _,_=>0
def di (cols:List Int) (row:List Vl):Int:=if row.length≠cols.length then 8 else dJ cols row
theorem yZ:∀ (cols:List Int) (row:List Vl),row.length=cols.length→(dJ cols row=0↔∀ i (h:i<row.length),aY row[i]=0∧(row[i].1=1∨row[i].1=cols.getD i 0))
 | [],[],_=>by simp [dJ]
 | [],_ :: _,h=>by simp at h
 | _ :: _,[],h=>by simp at h
 | c :: cs,v :: vs,h=>by
  have ih:=yZ cs vs (by simpa using h)
  rw [dJ]
  by_cases h1:aY v=0
  ·rw [if_neg (by simp [h1])]
   by_cases h2:v.1≠1∧v.1≠c
   ·rw [if_pos h2]
    simp only [show ¬ (9:Int)=0 by decide,false_iff]
    intro hh
    have:=(hh 0 (by simp)).2
    simp at this
    omega
   ·rw [if_neg h2,ih]
    constructor
    ·intro hh i hi
     match i,hi with
     | 0,_ =>
      refine ⟨h1,?_⟩
      simp
      omega
     | i+1,hi =>
      have:=hh i (by simpa using hi)
      simpa using this
    ·intro hh i hi
     have:=hh (i+1) (by simpa using hi)
     simpa using this
  ·rw [if_pos h1]
   constructor
   ·intro hh; exact absurd hh h1
   ·intro hh; exact absurd (hh 0 (by simp)).1 h1
structure cL (cols:List Int) (row:List Vl):Prop where
 len:row.length=cols.length
 one:∀ i (h:i<row.length),aY row[i]=0∧(row[i].1=1∨row[i].1=cols.getD i 0)
theorem xF (cols:List Int) (row:List Vl):di cols row=0↔cL cols row:=by
 unfold di;by_cases h:row.length=cols.length
 ·rw [if_neg (by simp [h]),yZ cols row h];exact ⟨fun k=>⟨h,k⟩,fun k=>k.2⟩
 ·rw [if_pos h];simp only [show ¬ (8:Int)=0 by decide,false_iff];exact fun k=>h k.1
theorem ry {a b t:Int} (h:gE a b=some t):(a=1∧t=b)∨(b=1∧t=a)∨(a=t∧b=t):=by
 unfold gE at h
 split at h
 ·rename_i h1; rcases h1 with h1 | h1
  ·right; right; simp at h; omega
  ·right; left; simp at h; omega
 ·split at h
  ·left; simp at h; omega
  ·simp at h
theorem fQ {t u:Int} {ts:List Int} (h:cG t ts=some u):u=t:=by
 unfold cG at h
 split at h
 ·simpa using h.symm
 ·simp at h
def eL (t:Int):Prop:=1≤t∧t≤4
theorem G1 {a b t:Int} (h:gE a b=some t) (ha:eL a) (hb:eL b):eL t:=by
 rcases ry h with ⟨_,rfl⟩ | ⟨_,rfl⟩ | ⟨rfl,_⟩ <;> assumption
theorem oP {cols:List Int}:∀ {ks:List Ex} {ts:List Int},l7 cols ks=some ts→ts.length=ks.length
 | [],ts,h=>by simp [l7] at h; simp [h]
 | x :: r,ts,h=>by
  rw [l7,On] at h
  obtain ⟨t,_,h⟩:=h
  rw [Option.map_eq_some_iff] at h
  obtain ⟨us,h,rfl⟩:=h
  simp [oP h]
theorem jV {cols:List Int}:∀ {ks:List Ex} {ts:List Int},l7 cols ks=some ts→∀ (i:Nat) (h:i<ks.length),pE cols ks[i]=some (ts.getD i 0)
 | [],ts,_=>by intro i h; simp at h
 | x :: r,ts,h=>by
  rw [l7,On] at h
  obtain ⟨t,h0,h⟩:=h
  rw [Option.map_eq_some_iff] at h
  obtain ⟨us,h,rfl⟩:=h
  intro i hi
  match i,hi with
  | 0,_=>simpa using h0
  | i+1,hi=>simpa using jV h i (by simpa using hi)
theorem mG {cols:List Int} {k:Int} {v:Vl} {c:Int} {ks:List Ex} {t:Int} (h:pE cols (.mk k v c ks)=some t) :
  1≤k∧k≤18∧ks.length=cK k∧∃ ts,l7 cols ks=some ts∧cw cols k v c ts=(t,0):=by
 rw [pE] at h
 split at h
 ·simp at h
 ·rename_i hk
  rw [On] at h;obtain ⟨ts,h1,h2⟩:=h
  split at h2
  ·rename_i h3
   refine ⟨by omega,by omega,by omega,ts,h1,?_⟩;simp at h2;exact Prod.ext h2 h3
  ·simp at h2
theorem Cw {v:Vl} {t:Int} (h:mJ v=(t,0)):aY v=0∧v.1=t:=by
 unfold mJ at h
 split at h
 ·rename_i hw; simp at h; exact ⟨hw,h⟩
 ·rename_i hw; simp at h; exact absurd h.2 hw
theorem wI {cols:List Int} {c t:Int} (h:kW cols c=(t,0)):0≤c∧c.toNat<cols.length∧cols.getD c.toNat 0=t:=by
 unfold kW at h
 split at h
 ·simp at h
 ·rename_i hc
  simp only [Prod.mk.injEq,and_true] at h;exact ⟨by omega,by omega,h⟩
theorem Cs {o:Option Int} {t:Int} (h:bU o=(t,0)):o=some t:=by
 cases o with
 | none=>simp [bU] at h
 | some u=>simp [bU] at h; rw [h]
theorem Gj {k:Int} {ts:List Int} {t:Int} (h:cF k ts=some t) (hin:∀ i,i<ts.length→eL (ts.getD i 0)) (hk:3≤k) (hk':k≤18) (hl:ts.length=cK k):eL t:=by
 have two:6≤k→k≠16→2≤ts.length:=by
  intro h6 h16; rw [hl]; unfold cK;rw [if_neg (by omega),if_neg (by omega)]
  split <;> omega
 unfold cF at h
 split at h
 ·rw [fQ h]; (unfold eL; omega)
 split at h
 ·split at h <;> simp at h; rw [← h]; (unfold eL; omega)
 split at h
 ·rw [fQ h]; (unfold eL; omega)
 split at h
 ·rw [fQ h]; (unfold eL; omega)
 split at h
 ·simp at h; rw [← h]; (unfold eL; omega)
 split at h
 ·rename_i h17
  have h3:ts.length=3:=by rw [hl]; subst h17; rfl
  split at h
  ·exact G1 h (hin 1 (by omega)) (hin 2 (by omega))
  ·simp at h
 ·exact G1 h (hin 0 (by have:=two (by omega) (by omega); omega)) (hin 1 (by have:=two (by omega) (by omega); omega))
theorem xp {cols:List Int} (hc:∀ i,i<cols.length→eL (cols.getD i 0)):∀ x t,pE cols x=some t→eL t:=by
 refine Ex.ind fun k v c ks ih t h=>?_
 obtain ⟨h1,h18,hl,ts,hts,hn⟩:=mG h;unfold cw at hn
 split at hn
 ·obtain ⟨q1,q2⟩:=Cw hn;rw [← q2];exact sB q1
 split at hn
 ·obtain ⟨q0,q1,q2⟩:=wI hn;rw [← q2];exact hc _ q1
 ·have hlen:=oP hts;refine Gj (Cs hn) (fun i hi=>?_) (by omega) h18 (by omega);exact ih ks[i] (Ns _) _ (jV hts i (by omega))
def Of (t:Int) (u:Vl):Prop:=aY u=0∧(u.1=1∨u.1=t)
theorem rO (o:Option Bool):Of 2 (zT o):=⟨DH o,Gt o⟩
theorem wb {a b t:Int} {u:Vl} (h:gE a b=some t) (hu:Of a u):Of t u:=by
 refine ⟨hu.1,?_⟩;rcases ry h with ⟨q,rfl⟩ | ⟨_,rfl⟩ | ⟨rfl,_⟩
 ·left; rcases hu.2 with e | e <;> omega
 ·exact hu.2
 ·exact hu.2
theorem wV {a b t:Int} {u:Vl} (h:gE a b=some t) (hu:Of b u):Of t u:=by
 refine ⟨hu.1,?_⟩;rcases ry h with ⟨_,rfl⟩ | ⟨q,rfl⟩ | ⟨_,rfl⟩
 ·exact hu.2
 ·left; rcases hu.2 with e | e <;> omega
 ·exact hu.2
theorem qX {cols:List Int} {row:List Vl} (hf:cL cols row):∀ x t,pE cols x=some t→Of t (bB row x):=by
 refine Ex.ind fun k v c ks ih t h=>?_
 obtain ⟨h1,h18,hl,ts,hts,hn⟩:=mG h;have hlen:=oP hts;have hkid:∀ i (hi:i<ks.length),Of (ts.getD i 0) ((mQ row ks).getD i fH):=by
  intro i hi;have:=ih ks[i] (Ns _) _ (jV hts i hi);rw [iI]
  simpa [List.getD,hi] using this
 rw [bB];generalize mQ row ks=us at hkid;unfold cw at hn;unfold mK
 split at hn
 ·rename_i hk
  rw [if_pos hk];obtain ⟨q1,q2⟩:=Cw hn;exact ⟨(lX v).trans q1,.inr q2⟩
 rename_i hk1
 rw [if_neg hk1]
 split at hn
 ·rename_i hk
  rw [if_pos hk];obtain ⟨q0,q1,q2⟩:=wI hn;have hl':=hf.len;have:=hf.one c.toNat (by omega);rw [q2] at this;have e:row.getD c.toNat fH=row[c.toNat]'(by omega):=by simp [List.getD,show c.toNat<row.length by omega]
  rw [e];exact ⟨(lX _).trans this.1,this.2⟩
 rename_i hk2
 rw [if_neg hk2];have hn:=Cs hn;unfold cF at hn;have l2:k≠3→k≠16→k≠17→ks.length=2:=by
  intro h3 h16 h17;rw [hl]; unfold cK;rw [if_neg (by omega),if_neg (by omega),if_neg h17]
 by_cases hk3:k=3
 ·rw [if_pos hk3];rw [if_pos (by omega)] at hn;rw [fQ hn];exact rO _
 rw [if_neg hk3];by_cases hk16:k=16
 ·rw [if_pos hk16];subst hk16;simp at hn;rw [← hn];exact rO _
 rw [if_neg hk16];by_cases hk17:k=17
 ·rw [if_pos hk17];subst hk17;have l3:ks.length=3:=hl;simp only [show ¬ ((17:Int)=3∨(17:Int)=4∨(17:Int)=5) by decide,show ¬ (6≤(17:Int)∧(17:Int)≤11) by decide,show ¬ ((17:Int)=12∨(17:Int)=13∨(17:Int)=14) by decide,show ¬ (17:Int)=15 by decide,show ¬ (17:Int)=16 by decide,if_false,if_true] at hn
  split at hn
  ·split
   ·exact wb hn (hkid 1 (by omega))
   ·exact wV hn (hkid 2 (by omega))
  ·simp at hn
 rw [if_neg hk17];have l2:=l2 hk3 hk16 hk17;have k0:=hkid 0 (by omega);have k1:=hkid 1 (by omega);by_cases b4:k=4
 ·rw [if_pos (by omega)] at hn; rw [fQ hn,b4]; exact rO _
 by_cases b5:k=5
 ·rw [if_pos (by omega)] at hn; rw [fQ hn,b5]; exact rO _
 rw [if_neg (by omega)] at hn;by_cases b6:6≤k∧k≤11
 ·rw [if_pos b6] at hn;have ht:t=2:=by
   split at hn <;> simp at hn; exact hn.symm
  subst ht;obtain ⟨o,e⟩:=JP b6.1 b6.2 (us.getD 0 fH) (us.getD 1 fH);rw [e];exact rO _
 rw [if_neg b6] at hn;by_cases b12:k=12∨k=13∨k=14
 ·rw [if_pos b12] at hn;have ht:=fQ hn;subst ht;obtain ⟨o,e⟩:=IL (by omega) (by omega) (us.getD 0 fH) (us.getD 1 fH) (k:=k);rw [e];exact DZ _ _ _
 rw [if_neg b12] at hn;by_cases b15:k=15
 ·rw [if_pos b15] at hn;have ht:=fQ hn;subst ht;rw [b15];exact Bc _ _
 rw [if_neg b15,if_neg hk16,if_neg hk17] at hn;rw [Fi (by omega)];unfold mP
 split
 ·exact wV hn k1
 ·exact wb hn k0
end Go.Proofs.YtohjlfhmnmcndaaGreat
namespace Go.Proofs.YtohjlfhmnmcndaaGreat
open Go.RowKit
set_option maxRecDepth 100000
set_option maxHeartbeats 16000000
theorem sC {v:Vl} (h:aY v=0):v.1=4→v.2.2.size≤60:=by
 obtain ⟨k,n,s⟩:=v;intro e;simp only at e;subst e;unfold aY aI at h;simp at h;exact h
def ax (lo:Nat) (w W:World):Prop:=w.heap.size≤W.heap.size∧∀ k,lo≤k→k<w.heap.size→W.heap[k]? = w.heap[k]?
theorem ax.refl (lo:Nat) (w:World):ax lo w w:=⟨Nj _,fun _ _ _=>rfl⟩
theorem ax.trans {lo:Nat} {a b c:World} (h:ax lo a b) (k:ax lo b c):ax lo a c :=
 ⟨Nw h.1 k.1,fun i hi hl=>(k.2 i hi (Nn hl h.1)).trans (h.2 i hi hl)⟩
theorem ax.of {lo:Nat} {w W:World} (h:Below w.heap.size w W):ax lo w W:=⟨h.size,fun k _ hk=>h.block k hk⟩
theorem ax.up {lo lo':Nat} {w W:World} (h:ax lo w W) (hl:lo≤lo'):ax lo' w W:=⟨h.1,fun k hk=>h.2 k (Nw hl hk)⟩
theorem ax.cell {lo:Nat} {w W:World} (h:ax lo w W) {p:Addr} (h1:lo≤p.block) (h2:p.block<w.heap.size):W.cell? p=w.cell? p:=NA (w:=w) (h.2 p.block h1 h2)
theorem ax.set {lo:Nat} {w W:World} (h:ax lo w W) (g o:Nat) (u:Value) (hg:g<lo):ax lo w (W.setCell ⟨g,o,none⟩ u) :=
 ⟨by simpa using h.1,fun k hk hl=>(NR W ⟨g,o,none⟩ u k (by show k≠g; omega)).trans (h.2 k hk hl)⟩
def tS (lo:Nat) (u:Value) (f:Vl→Vl→Vl) (w:World):Prop :=
 ∃ g cb,u = .func (.func g) #[] cb∧(∀ args w,(callFunc g args).run Tryz.prog w = .ok (.enter g args) w) ∧
  ∀ (p q:Vl) (W:World),aY p=0→aY q=0→ax lo w W→Calls Tryz.prog g (#[fW p,fW q] ++ cb) W fun e w'=>e = .returned (fW (f p q))∧Below W.heap.size W w'
theorem tS.next {lo:Nat} {u:Value} {f:Vl→Vl→Vl} {w w1:World} (h:tS lo u f w) (hb:ax lo w w1):tS lo u f w1:=by
 obtain ⟨g,cb,e,eg,hd⟩:=h;exact ⟨g,cb,e,eg,fun p q W hp hq hW=>hd p q W hp hq (hb.trans hW)⟩
theorem K1 (lo:Nat) (w:World):tS lo (.func (.func 232) #[] #[]) JB w :=
 ⟨232,#[],rfl,enters_of Tryz.func232 (by kernel_rfl) rfl,fun p q W _ _ _=>by rw [Pb]; exact JX p.1 p.2.1 q.1 q.2.1 p.2.2 q.2.2 W⟩
theorem Mn (lo:Nat) (w:World):tS lo (.func (.func 233) #[] #[]) MA w :=
 ⟨233,#[],rfl,enters_of Tryz.func233 (by kernel_rfl) rfl,fun p q W _ _ _=>by rw [Pb]; exact LD p.1 p.2.1 q.1 q.2.1 p.2.2 q.2.2 W⟩
theorem KB (lo:Nat) (w:World):tS lo (.func (.func 234) #[] #[]) LS w :=
 ⟨234,#[],rfl,enters_of Tryz.func234 (by kernel_rfl) rfl,fun p q W _ _ _=>by rw [Pb]; exact Dc p.1 p.2.1 q.1 q.2.1 p.2.2 q.2.2 W⟩
theorem BR (lo:Nat) (w:World):tS lo (.func (.func 236) #[] #[]) IN w :=
 ⟨236,#[],rfl,enters_of Tryz.func236 (by kernel_rfl) rfl,fun p q W _ _ _=>by rw [Pb]; exact Gh p.1 p.2.1 q.1 q.2.1 p.2.2 q.2.2 W⟩
theorem Ke (lo:Nat) (w:World):tS lo (.func (.func 239) #[] #[]) qg w :=
 ⟨239,#[],rfl,enters_of Tryz.func239 (by kernel_rfl) rfl,fun p q W hp hq _=>by rw [Pb]; exact Ie p.1 p.2.1 q.1 q.2.1 p.2.2 q.2.2 W (sC hp) (sC hq)⟩
theorem Gn (p q:Vl) (w:World):Calls Tryz.prog 240 #[fW p,fW q] w fun e w'=>e = .returned (fW (mP p q))∧Below w.heap.size w w':=by
 obtain ⟨k,n,s⟩:=p;obtain ⟨k',n',s'⟩:=q;by_cases h:k=1
 ·subst h;have e:mP (1,n,s) (k',n',s')=(k',n',s'):=rfl;rw [e];go_enter Tryz.func240,Tryz.ntmps240;go_wp2_with fail
  have A0:=((gH.new w (.int .i64 1) (.int .i64 n) (.string s) 24).alloc (.cells #[.int .i64 k',.int .i64 n',.string s'] 24)).alloc (.cells #[.int .i64 0,.int .i64 0,.string ⟨#[]⟩] 24);have B0:=(gH.new (w.alloc (.cells #[.int .i64 1,.int .i64 n,.string s] 24)) (.int .i64 k') (.int .i64 n') (.string s') 24).alloc (.cells #[.int .i64 0,.int .i64 0,.string ⟨#[]⟩] 24);have R0:=gH.new ((w.alloc (.cells #[.int .i64 1,.int .i64 n,.string s] 24)).alloc (.cells #[.int .i64 k',.int .i64 n',.string s'] 24)) (.int .i64 0) (.int .i64 0) (.string ⟨#[]⟩) 24;simp only [Oy] at B0 R0
  refine (pJ _ _ _ _).mono ?_;rintro e w1 ⟨rfl,hb1⟩;have ⟨b0,b1,b2,b3,b4,b5,b6⟩:=B0.next hb1;have ⟨r0,r1,r2,r3,r4,r5,r6⟩:=R0.next hb1;have z1:=hb1.size;simp at z1;go_wp2
  exact Nl (v:=.agg #[.int .i64 k',.int .i64 n',.string s']) (by simp [results,Tryz.results240,go_sem,r1,r2,r3]) rfl ⟨rfl,aD (jE hb1) (by omega)⟩
 ·have e:mP (k,n,s) (k',n',s')=(k,n,s):=by simp [mP,h]
  rw [e];have q1:(k == 1)=false:=by simpa using h
  go_enter Tryz.func240,Tryz.ntmps240;go_wp2_with fail
  have A0:=((gH.new w (.int .i64 k) (.int .i64 n) (.string s) 24).alloc (.cells #[.int .i64 k',.int .i64 n',.string s'] 24)).alloc (.cells #[.int .i64 0,.int .i64 0,.string ⟨#[]⟩] 24);have R0:=gH.new ((w.alloc (.cells #[.int .i64 k,.int .i64 n,.string s] 24)).alloc (.cells #[.int .i64 k',.int .i64 n',.string s'] 24)) (.int .i64 0) (.int .i64 0) (.string ⟨#[]⟩) 24;simp only [Oy] at R0;refine (pJ _ _ _ _).mono ?_;rintro e w1 ⟨rfl,hb1⟩;rw [q1];have ⟨b0,b1,b2,b3,b4,b5,b6⟩:=A0.next hb1;have ⟨r0,r1,r2,r3,r4,r5,r6⟩:=R0.next hb1;have z1:=hb1.size;simp at z1;go_wp2
  exact Nl (v:=.agg #[.int .i64 k,.int .i64 n,.string s]) (by simp [results,Tryz.results240,go_sem,r1,r2,r3]) rfl ⟨rfl,aD (jE hb1) (by omega)⟩
theorem Kj (lo:Nat) (w:World):tS lo (.func (.func 240) #[] #[]) mP w :=
 ⟨240,#[],rfl,enters_of Tryz.func240 (by kernel_rfl) rfl,fun p q W _ _ _=>by rw [Pb]; exact Gn p q W⟩
end Go.Proofs.YtohjlfhmnmcndaaGreat
