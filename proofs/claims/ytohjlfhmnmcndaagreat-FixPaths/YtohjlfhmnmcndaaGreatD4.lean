/- Together: S2, S3, S4, S5, W6, W7, W12, X1, Y8. -/
import Derived.Test.YtohjlfhmnmcndaaGreatProg
import Derived.Shelf.SlSortCmp.KitK
import Derived.Sort.WalkB2
import Derived.Sort.WalkB12
import Derived.Deep.LoopGhost
import Derived.Deep.Cut
import Derived.Shelf.Abstract
import Derived.Test.YtohjlfhmnmcndaaGreatD3
import Derived.Test.YtohjlfhmnmcndaaGreatD0
import Derived.Test.YtohjlfhmnmcndaaGreatD1
import Derived.Test.YtohjlfhmnmcndaaGreatD2
/- The sort by merging in place, over rows of k cells: slices.swapRangeCmpFunc and slices.rotateCmpFunc at ops.keyed. Walked over any program that bears the bodies, as the shelf does: the size of an element stays a letter. -/
namespace Go.Proofs.YtohjlfhmnmcndaaGreat
open Go.Shelf Go.RowKit Go.Lib Go.Sort
variable {P:Program} {α:Type} [Inhabited α]

/-- What the walks ask of the program: the bodies, the types. -/
structure KLay (P:Program) (k:Nat):Prop where
 mixed:P.follows .mixedOrders=true
 fSw:P.funcs[249]? = some Tryz.f249
 fRo:P.funcs[241]? = some Tryz.f241
 fSy:P.funcs[218]? = some Tryz.f218
 fSt:P.funcs[192]? = some Tryz.f192
 fSo:P.funcs[158]? = some Tryz.f158
 t0:P.underlying 0=some (TypeDesc.tuple #[])
 a0:∀ w,(isAgg 0).run P w = .ok false w
 z0:∀ w,(Go.sizeOf 0).run P w = .ok 1 w
 t3:P.underlying 3=some (TypeDesc.int IntKind.i64)
 a3:∀ w,(isAgg 3).run P w = .ok false w
 z3:∀ w,(Go.sizeOf 3).run P w = .ok 1 w
 v3:∀ w,(zeroValue 3).run P w = .ok (Value.int IntKind.i64 0) w
 t4:P.underlying 4=some (TypeDesc.bool)
 a4:∀ w,(isAgg 4).run P w = .ok false w
 z4:∀ w,(Go.sizeOf 4).run P w = .ok 1 w
 t22:P.underlying 151=some (TypeDesc.slice 157)
 a22:∀ w,(isAgg 151).run P w = .ok false w
 z22:∀ w,(Go.sizeOf 151).run P w = .ok 1 w
 t25:P.underlying 194=some (TypeDesc.func #[157,157] #[3] false)
 a25:∀ w,(isAgg 194).run P w = .ok false w
 z25:∀ w,(Go.sizeOf 194).run P w = .ok 1 w
 t39:P.underlying 127=some (TypeDesc.int IntKind.u64)
 a39:∀ w,(isAgg 127).run P w = .ok false w
 z39:∀ w,(Go.sizeOf 127).run P w = .ok 1 w
 aE:∀ w,(isAgg 157).run P w = .ok true w
 zE:∀ w,(Go.sizeOf 157).run P w = .ok k w

theorem Tryz.klay:KLay Tryz.prog 3 where
 mixed:=by kernel_rfl
 fSw:=Tryz.func249
 fRo:=Tryz.func241
 fSy:=Tryz.func218
 fSt:=Tryz.func192
 fSo:=Tryz.func158
 t0:=Tryz.underlying0
 a0:=Tryz.isAgg0
 z0:=Tryz.sizeOf0
 t3:=Tryz.underlying3
 a3:=Tryz.isAgg3
 z3:=Tryz.sizeOf3
 v3:=Tryz.zeroValue3
 t4:=Tryz.underlying4
 a4:=Tryz.isAgg4
 z4:=Tryz.sizeOf4
 t22:=Tryz.underlying151
 a22:=Tryz.isAgg151
 z22:=Tryz.sizeOf151
 t25:=Tryz.underlying194
 a25:=Tryz.isAgg194
 z25:=Tryz.sizeOf194
 t39:=Tryz.underlying127
 a39:=Tryz.isAgg127
 z39:=Tryz.sizeOf127
 aE:=Tryz.isAgg157
 zE:=Tryz.sizeOf157

set_option maxHeartbeats 4000000 in
set_option maxRecDepth 1000000 in
theorem swapRange_at (k:Nat) (L:KLay P k) (enc:α→List Value) (g:Nat) (cb:Array Value) (blk off cap a b n:Nat) (d0 d:Array α) (w0 w:World)
  (R:RowK enc k w0 blk off d0) (hs:d0.size=d.size) (S:SWK enc k w0 blk off d w) (hab:a+n≤b) (hb:b+n≤d.size) (hsz:d.size<4611686018427387904) :
  Calls P 249 #[.slice (some ⟨blk,off,none⟩) d.size cap,.int .i64 a,.int .i64 b,.int .i64 n,.func (.func g) #[] cb] w fun e w'=>e = .returned (.tuple #[])∧∃ d',Swpd a b n d d'∧SWK enc k w0 blk off d' w':=by
 have mixed:=L.mixed; have t0:=L.t0; have a0:=L.a0; have z0:=L.z0; have t3:=L.t3; have a3:=L.a3; have z3:=L.z3; have v3:=L.v3; have t4:=L.t4; have a4:=L.a4; have z4:=L.z4; have t22:=L.t22; have a22:=L.a22; have z22:=L.z22; have t25:=L.t25; have a25:=L.a25; have z25:=L.z25; have aE:=L.aE; have zE:=L.zE;have FG:=L.fSw;have S0:Aside (SWK enc k w0 blk off d w):=S;clear S L;go_enter FG,Tryz.ntmps249;go_wp2
 go_loopg [10] n (fun kx s10 wr=>∃ (i:Nat) (dk:Array α),s10 = .int .i64 i∧i≤n∧n - i≤kx∧dk.size=d.size∧Hid (Swpd a b i d dk)∧Aside (SWK enc k w0 blk off dk wr))
 case atStart=>exact ⟨0,d,rfl,Nat.zero_le _,Nat.le_refl _,rfl,Swpd.zero a b d,S0⟩
 case round =>
  clear S0;obtain ⟨i,dk,rfl,hin,hkx,hds,HS,S1⟩:=hrel;by_cases hlt:i<n
  ·have hltz:(i:Int)<(n:Int):=by omega
   go_wp2_with fail
   have ea44:((a:Int)+(i:Int)).toNat=a+i:=by omega
   have pa44:(0:Int)≤(a:Int)+(i:Int):=by omega
   have ba44:(a:Int)+(i:Int)<(d.size:Int):=by omega
   have ra44:IntKind.i64.wrap ((a:Int)+(i:Int))=(a:Int)+(i:Int):=by rw [IntKind.wrap_i64]; omega
   have ec44:((b:Int)+(i:Int)).toNat=b+i:=by omega
   have pc44:(0:Int)≤(b:Int)+(i:Int):=by omega
   have bc44:(b:Int)+(i:Int)<(d.size:Int):=by omega
   have rc44:IntKind.i64.wrap ((b:Int)+(i:Int))=(b:Int)+(i:Int):=by rw [IntKind.wrap_i64]; omega
   have S2:Aside (SWK enc k w0 blk off (swp dk (a+i) (b+i)) ((wr.drew.setCells blk (off+(a+i)*k) (enc dk[b+i]!)).setCells blk (off+(b+i)*k) (enc dk[a+i]!))):=S1.out.swapped R (a+i) (b+i) (by omega) (by omega);have l44a:=S1.out.ld1 R (by omega) P (a+i) (by omega);have l44b:=S1.out.ld1 R (by omega) P (b+i) (by omega);have s44a:=S1.out.st1 R (by omega) P (a+i) (by omega) dk[b+i]!;have s44b:=S1.out.st2 R (by omega) P (a+i) (b+i) (by omega) (by omega) dk[b+i]! dk[a+i]!;have n44a:(enc dk[a+i]!).length=k:=R.hk _;have n44b:(enc dk[b+i]!).length=k:=R.hk _
   generalize enc dk[a+i]! = cI44 at S2 l44a s44b n44a;generalize enc dk[b+i]! = cJ44 at S2 l44b s44a s44b n44b;clear S1;go_wp2_with fail
   go_big_region_o
   clear l44a l44b s44a s44b;generalize (wr.drew.setCells blk (off+(a+i)*k) cJ44).setCells blk (off+(b+i)*k) cI44=w2 at S2 ⊢;go_wp2
   go_roundg (n - (i+1))
   case measure=>omega
   case rel=>exact ⟨i+1,swp dk (a+i) (b+i),by simp,by omega,Nat.le_refl _,by rw [size_swp]; exact hds,HS.out.step (by omega) (by omega),S2⟩
  ·have hltz:¬ (i:Int)<(n:Int):=by omega
   have e:i=n:=by omega
   subst e;go_wp2
   go_end0
   exact ⟨rfl,dk,HS.out,S1.out⟩
set_option maxHeartbeats 4000000 in
set_option maxRecDepth 1000000 in
theorem rotate_at (k:Nat) (L:KLay P k) (enc:α→List Value) (g:Nat) (cb:Array Value) (blk off cap a m b:Nat) (d0 d:Array α) (w0 w:World)
  (R:RowK enc k w0 blk off d0) (hs:d0.size=d.size) (S:SWK enc k w0 blk off d w) (ham:a<m) (hmb:m<b) (hb:b≤d.size) (hsz:d.size<4611686018427387904)
  (eg:∀ args w,(callFunc 249 args).run P w = .ok (.enter 249 args) w) :
  Calls P 241 #[.slice (some ⟨blk,off,none⟩) d.size cap,.int .i64 a,.int .i64 m,.int .i64 b,.func (.func g) #[] cb] w fun e w'=>e = .returned (.tuple #[])∧∃ d',Rot a m b d d'∧SWK enc k w0 blk off d' w':=by
 have mixed:=L.mixed; have t0:=L.t0; have a0:=L.a0; have z0:=L.z0; have t3:=L.t3; have a3:=L.a3; have z3:=L.z3; have v3:=L.v3; have t4:=L.t4; have a4:=L.a4; have z4:=L.z4; have t22:=L.t22; have a22:=L.a22; have z22:=L.z22; have t25:=L.t25; have a25:=L.a25; have z25:=L.z25;have FG:=L.fRo;have HL:Hid (KLay P k):=L;have S0:Aside (SWK enc k w0 blk off d w):=S;have HR:Aside (RowK enc k w0 blk off d0):=R;clear S L R;go_enter FG,Tryz.ntmps241;go_wp2
 go_loopg [10,11] (b - a) (fun kx s10 s11 wr=>∃ (i j:Nat) (dk:Array α),s10 = .int .i64 i∧s11 = .int .i64 j∧0<i∧0<j∧i≤m - a∧j≤b - m∧i+j≤kx∧dk.size=d.size∧Hid (∀ d',Rot (m - i) m (m+j) dk d'→Rot a m b d d')∧Aside (SWK enc k w0 blk off dk wr))
 case atStart=>exact ⟨m - a,b - m,d,by go_num,by go_num,by omega,by omega,Nat.le_refl _,Nat.le_refl _,by omega,rfl,fun d' h=>by
  rw [show m - (m - a)=a by omega,show m+(b - m)=b by omega] at h; exact h,S0⟩
 case round =>
  clear S0;obtain ⟨i,j,dk,rfl,rfl,hi0,hj0,hi,hj,hkx,hds,HS,S1⟩:=hrel;have hmi:IntKind.i64.wrap ((m:Int) - (i:Int))=((m - i:Nat):Int):=by rw [IntKind.wrap_i64]; omega
  have hmj:IntKind.i64.wrap ((m:Int)+(j:Int))=(m:Int)+(j:Int):=by rw [IntKind.wrap_i64]; omega
  by_cases hij:i=j
  ·subst hij;have hne:((i:Int) != (i:Int))=false:=by simp
   have con:=swapRange_at k HL.out enc g cb blk off cap (m - i) m i d0 dk w0 wr HR.out (by omega) S1.out (by omega) (by omega) (by omega);rw [hds] at con;clear S1;go_wp2_with (go_at_fn 249; refine con.mono ?_; rintro e w1 ⟨rfl,d1,hs1,S2⟩)
   go_end0
   exact ⟨rfl,d1,HS.out d1 (Rot.same hs1 (by omega)),S2⟩
  ·have hne:((i:Int) != (j:Int))=true:=by simp; omega
   by_cases hlt:j<i
   ·have hltz:(j:Int)<(i:Int):=by omega
    have con:=swapRange_at k HL.out enc g cb blk off cap (m - i) m j d0 dk w0 wr HR.out (by omega) S1.out (by omega) (by omega) (by omega);rw [hds] at con;clear S1;go_wp2_with (go_at_fn 249; refine con.mono ?_; rintro e w1 ⟨rfl,d1,hs1,S2⟩)
    have z1:=hs1.1;go_roundg (i - j+j)
    case measure=>omega
    case rel=>exact ⟨i - j,j,d1,by go_num,rfl,by omega,hj0,by omega,hj,Nat.le_refl _,by omega,fun d' h=>HS.out d' (Rot.left hs1 (by omega) hlt h),S2⟩
   ·have hltz:¬ (j:Int)<(i:Int):=by omega
    have hmji:IntKind.i64.wrap ((m:Int)+(j:Int) - (i:Int))=((m+j - i:Nat):Int):=by rw [IntKind.wrap_i64]; omega
    have con:=swapRange_at k HL.out enc g cb blk off cap (m - i) (m+j - i) i d0 dk w0 wr HR.out (by omega) S1.out (by omega) (by omega) (by omega);rw [hds] at con;clear S1;go_wp2_with (go_at_fn 249; refine con.mono ?_; rintro e w1 ⟨rfl,d1,hs1,S2⟩)
    have z1:=hs1.1;go_roundg (i+(j - i))
    case measure=>omega
    case rel=>exact ⟨i,j - i,d1,rfl,by go_num,hi0,by omega,hi,by omega,Nat.le_refl _,by omega,fun d' h=>HS.out d' (Rot.right hs1 (by omega) (by omega) h),S2⟩
end Go.Proofs.YtohjlfhmnmcndaaGreat
namespace Go.Proofs.YtohjlfhmnmcndaaGreat
open Go.Shelf Go.RowKit Go.Lib Go.Sort
variable {P:Program} {α:Type} [Inhabited α]

theorem Rot.perm {a m b:Nat} {d d':Array α} (h:Rot a m b d d') (ham:a≤m) (hmb:m≤b) (hb:b≤d.size):PermIn a b d d':=by
 refine ⟨h.1,fun i hi=>h.l0 hi ham hmb,?_⟩;have hz:=h.1;have g:∀ (x:Array α) (i:Nat) (hi:i<x.size),x[i]=x[i]!:=fun x i hi=>(getElem!_pos x i hi).symm
 have e1:(d.extract a b).toList=(d.extract a m).toList ++ (d.extract m b).toList:=by
  apply List.ext_getElem
  ·simp; omega
  ·intro i h1 h2;simp only [Array.length_toList,Array.size_extract] at h1;by_cases c:i<m - a
   ·rw [List.getElem_append_left (by simp; omega)];simp
   ·rw [List.getElem_append_right (by simp; omega)];simp only [Array.getElem_toList,Array.getElem_extract,Array.length_toList,Array.size_extract]
    congr 1; omega
 have e2:(d'.extract a b).toList=(d.extract m b).toList ++ (d.extract a m).toList:=by
  apply List.ext_getElem
  ·simp; omega
  ·intro i h1 h2;simp only [Array.length_toList,Array.size_extract] at h1;by_cases c:i<b - m
   ·rw [List.getElem_append_left (by simp; omega)];simp only [Array.getElem_toList,Array.getElem_extract];rw [g d' _ (by omega),g d _ (by omega),h.l1 (by omega) (by omega)]
    congr 1; omega
   ·rw [List.getElem_append_right (by simp; omega)];simp only [Array.getElem_toList,Array.getElem_extract,Array.length_toList,Array.size_extract];rw [g d' _ (by omega),g d _ (by omega),h.l2 (by omega) (by omega)]
    congr 1; omega
 rw [e1,e2];exact List.perm_append_comm
set_option maxHeartbeats 8000000 in
set_option maxRecDepth 1000000 in
/-- One element and a row. -/
theorem symA_at (k:Nat) (L:KLay P k) (enc:α→List Value) (cf:α→α→Int) (pre:α→α→Prop) (hO:Ordr cf pre) (g:Nat) (cb:Array Value) (blk off cap a m b:Nat) (d0 d:Array α) (w0 w:World)
  (eg:∀ args w,(callFunc g args).run P w = .ok (.enter g args) w) (hcmp:CmpLays P g cb enc k cf blk off d0.size w0) (R:RowK enc k w0 blk off d0) (hs:d0.size=d.size) (S:SWK enc k w0 blk off d w) (hma:m=a+1) (hmb:m<b) (hb:b≤d.size) (hsz:d.size<4611686018427387904) (h2:SortS cf pre m b d) (hp:PreIn pre a m b d) :
  Calls P 218 #[.slice (some ⟨blk,off,none⟩) d.size cap,.int .i64 a,.int .i64 m,.int .i64 b,.func (.func g) #[] cb] w fun e w'=>e = .returned (.tuple #[])∧∃ d',PermIn a b d d'∧SortS cf pre a b d'∧SWK enc k w0 blk off d' w':=by
 have mixed:=L.mixed; have t0:=L.t0; have a0:=L.a0; have z0:=L.z0; have t3:=L.t3; have a3:=L.a3; have z3:=L.z3; have v3:=L.v3; have t4:=L.t4; have a4:=L.a4; have z4:=L.z4; have t22:=L.t22; have a22:=L.a22; have z22:=L.z22; have t25:=L.t25; have a25:=L.a25; have z25:=L.z25; have t39:=L.t39; have a39:=L.a39; have z39:=L.z39; have aE:=L.aE; have zE:=L.zE;have FG:=L.fSy;have HC:Aside _:=hcmp;have S0:Aside (SWK enc k w0 blk off d w):=S;have HR:Aside (RowK enc k w0 blk off d0):=R;have HO:Hid (Ordr cf pre):=hO;have H2:Hid (SortS cf pre m b d):=h2;have HP:Hid (PreIn pre a m b d):=hp
 have hmz:((m:Int) - (a:Int) == 1)=true:=by simp; omega
 have hmw:IntKind.i64.wrap ((m:Int) - (a:Int))=(m:Int) - (a:Int):=by rw [IntKind.wrap_i64]; omega
 have HM:Hid (m=a+1):=hma;have hm1:a<m:=by omega
 have hm2:m<a+2:=by omega
 clear S L R hcmp h2 hp hma hO;go_enter FG,Tryz.ntmps218;go_wp2
 go_loopg [10,11] (b - m) (fun kx s10 s11 wr=>∃ (i j:Nat),s10 = .int .i64 i∧s11 = .int .i64 j∧m≤i∧i≤j∧j≤b∧j - i≤kx∧Hid ((∀ q,m≤q→q<i→cf d[q]! d[a]! < 0)∧∀ q,j≤q→q<b→¬ cf d[q]! d[a]! < 0)∧Aside (SWK enc k w0 blk off d wr))
 case atStart=>exact ⟨m,b,rfl,rfl,Nat.le_refl _,by omega,Nat.le_refl _,Nat.le_refl _,⟨fun q h1 h2=>by omega,fun q h1 h2=>by omega⟩,S0⟩
 case round =>
  clear S0;obtain ⟨i,j,rfl,rfl,hmi,hij,hjb,hkx,HI,S1⟩:=hrel;by_cases hlt:i<j
  ·have hltz:(i:Int)<(j:Int):=by omega
   by_cases hless:cf d[(i+j) / 2]! d[a]! < 0
   ·have hgo:∀ q,m≤q→q<(i+j) / 2+1→cf d[q]! d[a]! < 0:=fun q h1 h2=>by
     by_cases e:q=(i+j) / 2
     ·rw [e]; exact hless
     ·have h3:=(H2.out q ((i+j) / 2) h1 (by omega) (by omega)).le;have h4:=HO.out.le_lt h3 hless;exact h4
    have HG:Hid _:=hgo;clear hgo;have ea24:(((i:Int)+(j:Int)) / 2).toNat=(i+j) / 2:=by omega
    have pa24:(0:Int)≤((i:Int)+(j:Int)) / 2:=by omega
    have ba24:((i:Int)+(j:Int)) / 2<(d.size:Int):=by omega
    have ra24:IntKind.i64.wrap (((i:Int)+(j:Int)) / 2)=((i:Int)+(j:Int)) / 2:=by rw [IntKind.wrap_i64]; omega
    have ec24:((a:Int)).toNat=a:=by omega
    have pc24:(0:Int)≤(a:Int):=by omega
    have bc24:(a:Int)<(d.size:Int):=by omega
    have rc24:IntKind.i64.wrap ((a:Int))=(a:Int):=by rw [IntKind.wrap_i64]; omega
    obtain ⟨x24,hx24⟩:∃ x,x=d[(i+j) / 2]!:=⟨_,rfl⟩
    obtain ⟨y24,hy24⟩:∃ x,x=d[a]!:=⟨_,rfl⟩
    have l24a:=S1.out.ld HR.out (by omega) P ((i+j) / 2) (by omega);have l24b:=S1.out.ld HR.out (by omega) P (a) (by omega);rw [← hx24] at l24a;rw [← hy24] at l24b;have hc24:=S1.out.cmp HC.out (by omega) x24 y24;have hv24:cf x24 y24<0:=by rw [hx24,hy24]; exact hless
    have hd24:decide (cf x24 y24<0)=true:=decide_eq_true hv24;have HL24:Hid _:=hless;clear hless;clear hx24 hy24;go_wp2_with fail
    go_quiet_grown (first | (go_at_fn g; refine Calls.grown_of (hc24 _ _)))
    have S2:Aside (SWK enc k w0 blk off d (grow (wr.drewN nq) osq)):=S1.out.grown nq osq;clear l24a l24b hc24 S1;generalize grow (wr.drewN nq) osq=w2 at S2 ⊢;clear nq osq;go_wp2_with fail
    go_roundg (j - ((i+j) / 2+1))
    case measure=>omega
    case rel=>exact ⟨(i+j) / 2+1,j,by rw [show ((i:Int)+(j:Int)) / 2+1=(((i+j) / 2+1:Nat):Int) by omega],rfl,by omega,by omega,hjb,Nat.le_refl _,⟨HG.out,HI.out.2⟩,S2⟩
   ·have hgo:∀ q,(i+j) / 2≤q→q<b→¬ cf d[q]! d[a]! < 0:=fun q h1 h2 h5=>by
     by_cases e:q=(i+j) / 2
     ·rw [e] at h5; exact hless h5
     ·have h3:=(H2.out ((i+j) / 2) q (by omega) (by omega) h2).le;exact hless (HO.out.le_lt h3 h5)
    have HG:Hid _:=hgo;clear hgo;have ea24:(((i:Int)+(j:Int)) / 2).toNat=(i+j) / 2:=by omega
    have pa24:(0:Int)≤((i:Int)+(j:Int)) / 2:=by omega
    have ba24:((i:Int)+(j:Int)) / 2<(d.size:Int):=by omega
    have ra24:IntKind.i64.wrap (((i:Int)+(j:Int)) / 2)=((i:Int)+(j:Int)) / 2:=by rw [IntKind.wrap_i64]; omega
    have ec24:((a:Int)).toNat=a:=by omega
    have pc24:(0:Int)≤(a:Int):=by omega
    have bc24:(a:Int)<(d.size:Int):=by omega
    have rc24:IntKind.i64.wrap ((a:Int))=(a:Int):=by rw [IntKind.wrap_i64]; omega
    obtain ⟨x24,hx24⟩:∃ x,x=d[(i+j) / 2]!:=⟨_,rfl⟩
    obtain ⟨y24,hy24⟩:∃ x,x=d[a]!:=⟨_,rfl⟩
    have l24a:=S1.out.ld HR.out (by omega) P ((i+j) / 2) (by omega);have l24b:=S1.out.ld HR.out (by omega) P (a) (by omega);rw [← hx24] at l24a;rw [← hy24] at l24b;have hc24:=S1.out.cmp HC.out (by omega) x24 y24;have hv24:¬ cf x24 y24<0:=by rw [hx24,hy24]; exact hless
    have hd24:decide (cf x24 y24<0)=false:=decide_eq_false hv24;have HL24:Hid _:=hless;clear hless;clear hx24 hy24;go_wp2_with fail
    go_quiet_grown (first | (go_at_fn g; refine Calls.grown_of (hc24 _ _)))
    have S2:Aside (SWK enc k w0 blk off d (grow (wr.drewN nq) osq)):=S1.out.grown nq osq;clear l24a l24b hc24 S1;generalize grow (wr.drewN nq) osq=w2 at S2 ⊢;clear nq osq;go_wp2_with fail
    go_roundg ((i+j) / 2 - i)
    case measure=>omega
    case rel=>exact ⟨i,(i+j) / 2,rfl,by rw [show ((i:Int)+(j:Int)) / 2=(((i+j) / 2:Nat):Int) by omega],hmi,by omega,by omega,Nat.le_refl _,⟨HI.out.1,HG.out⟩,S2⟩
  ·obtain rfl:i=j:=by omega
   have hltz:¬ (i:Int)<(i:Int):=by omega
   have hiw:IntKind.i64.wrap ((i:Int) - 1)=(i:Int) - 1:=by rw [IntKind.wrap_i64]; omega
   go_wp2
   go_loopg [13] (i - 1 - a) (fun kx s13 wr2=>∃ (q:Nat) (dk:Array α),s13 = .int .i64 q∧a≤q∧q≤i - 1∧i - 1 - q≤kx∧dk.size=d.size∧Hid (Rot a (a+1) (q+1) d dk)∧Aside (SWK enc k w0 blk off dk wr2))
   case atStart=>exact ⟨a,d,rfl,Nat.le_refl _,by omega,Nat.le_refl _,rfl,Rot.none a (a+1) d,S1⟩
   case round =>
    clear S1;obtain ⟨q,dk,rfl,haq,hqi,hkq,hds,HQ,S1⟩:=hrel;by_cases hq:q<i - 1
    ·have hqz:(q:Int)<(i:Int) - 1:=by omega
     have ea44:((q:Int)).toNat=q:=by omega
     have pa44:(0:Int)≤(q:Int):=by omega
     have ba44:(q:Int)<(d.size:Int):=by omega
     have ra44:IntKind.i64.wrap ((q:Int))=(q:Int):=by rw [IntKind.wrap_i64]; omega
     have ec44:((q:Int)+1).toNat=q+1:=by omega
     have pc44:(0:Int)≤(q:Int)+1:=by omega
     have bc44:(q:Int)+1<(d.size:Int):=by omega
     have rc44:IntKind.i64.wrap ((q:Int)+1)=(q:Int)+1:=by rw [IntKind.wrap_i64]; omega
     have S2:Aside (SWK enc k w0 blk off (swp dk (q) (q+1)) ((wr.drew.setCells blk (off+(q)*k) (enc dk[q+1]!)).setCells blk (off+(q+1)*k) (enc dk[q]!))):=S1.out.swapped HR.out (q) (q+1) (by omega) (by omega);have l44a:=S1.out.ld1 HR.out (by omega) P (q) (by omega);have l44b:=S1.out.ld1 HR.out (by omega) P (q+1) (by omega);have s44a:=S1.out.st1 HR.out (by omega) P (q) (by omega) dk[q+1]!;have s44b:=S1.out.st2 HR.out (by omega) P (q) (q+1) (by omega) (by omega) dk[q+1]! dk[q]!;have n44a:(enc dk[q]!).length=k:=HR.out.hk _;have n44b:(enc dk[q+1]!).length=k:=HR.out.hk _
     generalize enc dk[q]! = cI44 at S2 l44a s44b n44a;generalize enc dk[q+1]! = cJ44 at S2 l44b s44a s44b n44b;clear S1;go_wp2_with fail
     go_big_region_o
     clear l44a l44b s44a s44b;generalize (wr.drew.setCells blk (off+(q)*k) cJ44).setCells blk (off+(q+1)*k) cI44=w2 at S2 ⊢;go_wp2
     go_roundg (i - 1 - (q+1))
     case measure=>omega
     case rel=>exact ⟨q+1,swp dk q (q+1),by simp,by omega,by omega,Nat.le_refl _,by rw [size_swp]; exact hds,HQ.out.up haq (by omega),S2⟩
    ·have hqz:¬ (q:Int)<(i:Int) - 1:=by omega
     obtain rfl:q=i - 1:=by omega
     go_wp2
     (try simp only [Exit.inBlock,Exit.then]); refine bodyPost_ret (results_none rfl _ _ _) rfl ?_
     have hr:=HQ.out;rw [show i - 1+1=i by omega] at hr;refine ⟨rfl,dk,?_,?_,S1.out⟩
     ·obtain ⟨q1,q2,q3⟩:=hr.perm (by omega) (by omega) (by omega);exact permIn_mono d dk a i a b (Nat.le_refl _) hjb hb ⟨q1,q2,q3⟩
     ·have hma:=HM.out;subst hma;exact insLeft HO.out H2.out HP.out (by omega) (by omega) HI.out.1 (fun q g1 g2=>by have:=HI.out.2 q g1 g2; omega) hr
set_option maxHeartbeats 8000000 in
set_option maxRecDepth 1000000 in
/-- A row and one element. -/
theorem symB_at (k:Nat) (L:KLay P k) (enc:α→List Value) (cf:α→α→Int) (pre:α→α→Prop) (hO:Ordr cf pre) (g:Nat) (cb:Array Value) (blk off cap a m b:Nat) (d0 d:Array α) (w0 w:World)
  (eg:∀ args w,(callFunc g args).run P w = .ok (.enter g args) w) (hcmp:CmpLays P g cb enc k cf blk off d0.size w0) (R:RowK enc k w0 blk off d0) (hs:d0.size=d.size) (S:SWK enc k w0 blk off d w) (hma:a+1<m) (hmb:b=m+1) (hb:b≤d.size) (hsz:d.size<4611686018427387904) (h1:SortS cf pre a m d) (hp:PreIn pre a m b d) :
  Calls P 218 #[.slice (some ⟨blk,off,none⟩) d.size cap,.int .i64 a,.int .i64 m,.int .i64 b,.func (.func g) #[] cb] w fun e w'=>e = .returned (.tuple #[])∧∃ d',PermIn a b d d'∧SortS cf pre a b d'∧SWK enc k w0 blk off d' w':=by
 have mixed:=L.mixed; have t0:=L.t0; have a0:=L.a0; have z0:=L.z0; have t3:=L.t3; have a3:=L.a3; have z3:=L.z3; have v3:=L.v3; have t4:=L.t4; have a4:=L.a4; have z4:=L.z4; have t22:=L.t22; have a22:=L.a22; have z22:=L.z22; have t25:=L.t25; have a25:=L.a25; have z25:=L.z25; have t39:=L.t39; have a39:=L.a39; have z39:=L.z39; have aE:=L.aE; have zE:=L.zE;have FG:=L.fSy;have HC:Aside _:=hcmp;have S0:Aside (SWK enc k w0 blk off d w):=S;have HR:Aside (RowK enc k w0 blk off d0):=R;have HO:Hid (Ordr cf pre):=hO;have H1:Hid (SortS cf pre a m d):=h1;have HP:Hid (PreIn pre a m b d):=hp
 have hmz:((m:Int) - (a:Int) == 1)=false:=by simp; omega
 have hmw:IntKind.i64.wrap ((m:Int) - (a:Int))=(m:Int) - (a:Int):=by rw [IntKind.wrap_i64]; omega
 have hbz:((b:Int) - (m:Int) == 1)=true:=by simp; omega
 have hbw:IntKind.i64.wrap ((b:Int) - (m:Int))=(b:Int) - (m:Int):=by rw [IntKind.wrap_i64]; omega
 have HM:Hid (b=m+1):=hmb;have hm1:m<b:=by omega
 have hm2:b<m+2:=by omega
 clear S L R hcmp h1 hp hmb hO;go_enter FG,Tryz.ntmps218;go_wp2
 go_loopg [14,15] (m - a) (fun kx s14 s15 wr=>∃ (i j:Nat),s14 = .int .i64 i∧s15 = .int .i64 j∧a≤i∧i≤j∧j≤m∧j - i≤kx∧Hid ((∀ q,a≤q→q<i→¬ cf d[m]! d[q]! < 0)∧∀ q,j≤q→q<m→cf d[m]! d[q]! < 0)∧Aside (SWK enc k w0 blk off d wr))
 case atStart=>exact ⟨a,m,rfl,rfl,Nat.le_refl _,by omega,Nat.le_refl _,Nat.le_refl _,⟨fun q h1 h2=>by omega,fun q h1 h2=>by omega⟩,S0⟩
 case round =>
  clear S0;obtain ⟨i,j,rfl,rfl,hmi,hij,hjb,hkx,HI,S1⟩:=hrel;by_cases hlt:i<j
  ·have hltz:(i:Int)<(j:Int):=by omega
   by_cases hless:cf d[m]! d[(i+j) / 2]! < 0
   ·have hgo:∀ q,(i+j) / 2≤q→q<m→cf d[m]! d[q]! < 0:=fun q h1 h2=>by
     by_cases e:q=(i+j) / 2
     ·rw [e]; exact hless
     ·have h3:=(H1.out ((i+j) / 2) q (by omega) (by omega) h2).le;exact HO.out.lt_le hless h3
    have HG:Hid _:=hgo;clear hgo;have ea24:((m:Int)).toNat=m:=by omega
    have pa24:(0:Int)≤(m:Int):=by omega
    have ba24:(m:Int)<(d.size:Int):=by omega
    have ra24:IntKind.i64.wrap ((m:Int))=(m:Int):=by rw [IntKind.wrap_i64]; omega
    have ec24:(((i:Int)+(j:Int)) / 2).toNat=(i+j) / 2:=by omega
    have pc24:(0:Int)≤((i:Int)+(j:Int)) / 2:=by omega
    have bc24:((i:Int)+(j:Int)) / 2<(d.size:Int):=by omega
    have rc24:IntKind.i64.wrap (((i:Int)+(j:Int)) / 2)=((i:Int)+(j:Int)) / 2:=by rw [IntKind.wrap_i64]; omega
    obtain ⟨x24,hx24⟩:∃ x,x=d[m]!:=⟨_,rfl⟩
    obtain ⟨y24,hy24⟩:∃ x,x=d[(i+j) / 2]!:=⟨_,rfl⟩
    have l24a:=S1.out.ld HR.out (by omega) P (m) (by omega);have l24b:=S1.out.ld HR.out (by omega) P ((i+j) / 2) (by omega);rw [← hx24] at l24a;rw [← hy24] at l24b;have hc24:=S1.out.cmp HC.out (by omega) x24 y24;have hv24:cf x24 y24<0:=by rw [hx24,hy24]; exact hless
    have hd24:decide (cf x24 y24<0)=true:=decide_eq_true hv24;have HL24:Hid _:=hless;clear hless;clear hx24 hy24;go_wp2_with fail
    go_quiet_grown (first | (go_at_fn g; refine Calls.grown_of (hc24 _ _)))
    have S2:Aside (SWK enc k w0 blk off d (grow (wr.drewN nq) osq)):=S1.out.grown nq osq;clear l24a l24b hc24 S1;generalize grow (wr.drewN nq) osq=w2 at S2 ⊢;clear nq osq;go_wp2_with fail
    go_roundg ((i+j) / 2 - i)
    case measure=>omega
    case rel=>exact ⟨i,(i+j) / 2,rfl,by rw [show ((i:Int)+(j:Int)) / 2=(((i+j) / 2:Nat):Int) by omega],hmi,by omega,by omega,Nat.le_refl _,⟨HI.out.1,HG.out⟩,S2⟩
   ·have hgo:∀ q,a≤q→q<(i+j) / 2+1→¬ cf d[m]! d[q]! < 0:=fun q h1 h2 h5=>by
     by_cases e:q=(i+j) / 2
     ·rw [e] at h5; exact hless h5
     ·have h3:=(H1.out q ((i+j) / 2) h1 (by omega) (by omega)).le;exact hless (HO.out.lt_le h5 h3)
    have HG:Hid _:=hgo;clear hgo;have ea24:((m:Int)).toNat=m:=by omega
    have pa24:(0:Int)≤(m:Int):=by omega
    have ba24:(m:Int)<(d.size:Int):=by omega
    have ra24:IntKind.i64.wrap ((m:Int))=(m:Int):=by rw [IntKind.wrap_i64]; omega
    have ec24:(((i:Int)+(j:Int)) / 2).toNat=(i+j) / 2:=by omega
    have pc24:(0:Int)≤((i:Int)+(j:Int)) / 2:=by omega
    have bc24:((i:Int)+(j:Int)) / 2<(d.size:Int):=by omega
    have rc24:IntKind.i64.wrap (((i:Int)+(j:Int)) / 2)=((i:Int)+(j:Int)) / 2:=by rw [IntKind.wrap_i64]; omega
    obtain ⟨x24,hx24⟩:∃ x,x=d[m]!:=⟨_,rfl⟩
    obtain ⟨y24,hy24⟩:∃ x,x=d[(i+j) / 2]!:=⟨_,rfl⟩
    have l24a:=S1.out.ld HR.out (by omega) P (m) (by omega);have l24b:=S1.out.ld HR.out (by omega) P ((i+j) / 2) (by omega);rw [← hx24] at l24a;rw [← hy24] at l24b;have hc24:=S1.out.cmp HC.out (by omega) x24 y24;have hv24:¬ cf x24 y24<0:=by rw [hx24,hy24]; exact hless
    have hd24:decide (cf x24 y24<0)=false:=decide_eq_false hv24;have HL24:Hid _:=hless;clear hless;clear hx24 hy24;go_wp2_with fail
    go_quiet_grown (first | (go_at_fn g; refine Calls.grown_of (hc24 _ _)))
    have S2:Aside (SWK enc k w0 blk off d (grow (wr.drewN nq) osq)):=S1.out.grown nq osq;clear l24a l24b hc24 S1;generalize grow (wr.drewN nq) osq=w2 at S2 ⊢;clear nq osq;go_wp2_with fail
    go_roundg (j - ((i+j) / 2+1))
    case measure=>omega
    case rel=>exact ⟨(i+j) / 2+1,j,by rw [show ((i:Int)+(j:Int)) / 2+1=(((i+j) / 2+1:Nat):Int) by omega],rfl,by omega,by omega,hjb,Nat.le_refl _,⟨HG.out,HI.out.2⟩,S2⟩
  ·obtain rfl:i=j:=by omega
   have hltz:¬ (i:Int)<(i:Int):=by omega
   go_wp2
   go_loopg [17] (m - i) (fun kx s17 wr2=>∃ (q:Nat) (dk:Array α),s17 = .int .i64 q∧i≤q∧q≤m∧q - i≤kx∧dk.size=d.size∧Hid (Rot q m (m+1) d dk)∧Aside (SWK enc k w0 blk off dk wr2))
   case atStart=>exact ⟨m,d,rfl,by omega,Nat.le_refl _,Nat.le_refl _,rfl,Rot.nothing m (m+1) d (by omega),S1⟩
   case round =>
    clear S1;obtain ⟨q,dk,rfl,haq,hqi,hkq,hds,HQ,S1⟩:=hrel;by_cases hq:i<q
    ·have hqz:(i:Int)<(q:Int):=by omega
     obtain ⟨p,rfl⟩:∃ p,q=p+1:=⟨q - 1,by omega⟩
     have hqz':(i:Int)<(p:Int)+1:=by omega
     have ea44:((p:Int)+1).toNat=p+1:=by omega
     have pa44:(0:Int)≤(p:Int)+1:=by omega
     have ba44:(p:Int)+1<(d.size:Int):=by omega
     have ra44:IntKind.i64.wrap ((p:Int)+1)=(p:Int)+1:=by rw [IntKind.wrap_i64]; omega
     have ec44:((p:Int)).toNat=p:=by omega
     have pc44:(0:Int)≤(p:Int):=by omega
     have bc44:(p:Int)<(d.size:Int):=by omega
     have rc44:IntKind.i64.wrap ((p:Int))=(p:Int):=by rw [IntKind.wrap_i64]; omega
     have S2:Aside (SWK enc k w0 blk off (swp dk (p+1) (p)) ((wr.drew.setCells blk (off+(p+1)*k) (enc dk[p]!)).setCells blk (off+(p)*k) (enc dk[p+1]!))):=S1.out.swapped HR.out (p+1) (p) (by omega) (by omega);have l44a:=S1.out.ld1 HR.out (by omega) P (p+1) (by omega);have l44b:=S1.out.ld1 HR.out (by omega) P (p) (by omega);have s44a:=S1.out.st1 HR.out (by omega) P (p+1) (by omega) dk[p]!;have s44b:=S1.out.st2 HR.out (by omega) P (p+1) (p) (by omega) (by omega) dk[p]! dk[p+1]!;have n44a:(enc dk[p+1]!).length=k:=HR.out.hk _;have n44b:(enc dk[p]!).length=k:=HR.out.hk _
     generalize enc dk[p+1]! = cI44 at S2 l44a s44b n44a;generalize enc dk[p]! = cJ44 at S2 l44b s44a s44b n44b;clear S1;go_wp2_with fail
     go_big_region_o
     clear l44a l44b s44a s44b;generalize (wr.drew.setCells blk (off+(p+1)*k) cJ44).setCells blk (off+(p)*k) cI44=w2 at S2 ⊢;go_wp2
     go_roundg (p - i)
     case measure=>omega
     case rel=>exact ⟨p,swp dk (p+1) p,by first | rfl | go_num | (congr 1; omega),by omega,by omega,Nat.le_refl _,by rw [size_swp]; exact hds,HQ.out.down (by omega) (by omega),S2⟩
    ·have hqz:¬ (i:Int)<(q:Int):=by omega
     obtain rfl:q=i:=by omega
     go_wp2
     (try simp only [Exit.inBlock,Exit.then]); refine bodyPost_ret (results_none rfl _ _ _) rfl ?_
     have hr:=HQ.out;refine ⟨rfl,dk,?_,?_,S1.out⟩
     ·have hmb:=HM.out;subst hmb;exact permIn_mono d dk q (m+1) a (m+1) (by omega) (Nat.le_refl _) hb (hr.perm (by omega) (by omega) (by omega))
     ·have hmb:=HM.out;subst hmb;exact insRight HO.out H1.out HP.out (by omega) (by omega) (fun q g1 g2=>by have:=HI.out.1 q g1 g2; omega) HI.out.2 hr
end Go.Proofs.YtohjlfhmnmcndaaGreat
namespace Go.Proofs.YtohjlfhmnmcndaaGreat
open Go.Shelf Go.RowKit Go.Lib Go.Sort
variable {P:Program} {α:Type} [Inhabited α]

def SymAt (P:Program) (k:Nat) (enc:α→List Value) (cf:α→α→Int) (pre:α→α→Prop) (g:Nat) (cb:Array Value) (blk off cap:Nat) (d0:Array α) (w0:World) (n:Nat):Prop :=
 ∀ (a m b:Nat) (d:Array α) (w:World),b - a≤n→d0.size=d.size→SWK enc k w0 blk off d w→a<m→m<b→b≤d.size→SortS cf pre a m d→SortS cf pre m b d→PreIn pre a m b d →
  Calls P 218 #[.slice (some ⟨blk,off,none⟩) d.size cap,.int .i64 a,.int .i64 m,.int .i64 b,.func (.func g) #[] cb] w fun e w'=>e = .returned (.tuple #[])∧∃ d',PermIn a b d d'∧SortS cf pre a b d'∧SWK enc k w0 blk off d' w'

theorem Split.left {cf:α→α→Int} {pre:α→α→Prop} {a s mid e b:Nat} {d:Array α} (h:Split cf pre a s mid e b d) (hc:s=a∨s=mid):SortS cf pre a mid d:=by
 rcases hc with rfl | rfl
 ·exact h.s2
 ·exact h.s1
theorem Split.right {cf:α→α→Int} {pre:α→α→Prop} {a s mid e b:Nat} {d d2:Array α} (h:Split cf pre a s mid e b d) (p:PermIn a mid d d2) (hme:mid≤e):SortS cf pre mid e d2∧SortS cf pre e b d2∧PreIn pre mid e b d2:=by
 have q:∀ i,mid≤i→d2[i]! = d[i]!:=fun i hi=>p.2.1 i (.inr hi)
 refine ⟨h.s3.congr fun i h1 _=>q i h1,h.s4.congr fun i h1 _=>q i (by omega),fun i j h1 h2 h3 h4=>?_⟩;rw [q i h1,q j (by omega)];exact h.p2 i j h1 h2 h3 h4
theorem Split.rightT {cf:α→α→Int} {pre:α→α→Prop} {a s mid e b:Nat} {d d2:Array α} (h:Split cf pre a s mid e b d) (p:PermIn a mid d d2) (hme:mid≤e) (hc:e=mid∨e=b):SortS cf pre mid b d2:=by
 obtain ⟨r1,r2,_⟩:=h.right p hme;rcases hc with rfl | rfl
 ·exact r2
 ·exact r1
theorem sym_perm {a s m mid e b:Nat} {d d1 d2 d3:Array α} (hr:Rot s m e d d1) (p:PermIn a mid d1 d2) (q:PermIn mid b d2 d3) (h1:a≤s) (h2:s≤m) (h3:m≤e) (h4:e≤b) (h5:a≤mid∧mid≤b) (hb:b≤d.size):PermIn a b d d3:=by
 have z1:=hr.1;have z2:=p.1;exact permIn_trans d d1 d3 a b (permIn_mono d d1 s e a b h1 h4 hb (hr.perm h2 h3 (by omega))) (permIn_trans d1 d2 d3 a b (permIn_mono d1 d2 a mid a b (Nat.le_refl _) h5.2 (by omega) p) (permIn_mono d2 d3 mid b a b h5.1 (Nat.le_refl _) (by omega) q))
set_option maxHeartbeats 8000000 in
set_option maxRecDepth 1000000 in
theorem symTail_at (n:Nat) (k:Nat) (L:KLay P k) (enc:α→List Value) (cf:α→α→Int) (pre:α→α→Prop) (hO:Ordr cf pre) (g:Nat) (cb:Array Value) (blk off cap a m b:Nat) (d0 d:Array α) (w0 w:World)
  (eg:∀ args w,(callFunc g args).run P w = .ok (.enter g args) w) (hcmp:CmpLays P g cb enc k cf blk off d0.size w0) (R:RowK enc k w0 blk off d0) (hs:d0.size=d.size) (S:SWK enc k w0 blk off d w) (eSw:∀ args w,(callFunc 249 args).run P w = .ok (.enter 249 args) w) (eRo:∀ args w,(callFunc 241 args).run P w = .ok (.enter 241 args) w) (eSy:∀ args w,(callFunc 218 args).run P w = .ok (.enter 218 args) w) (hma:a+1<m) (hmb:m+1<b) (hb:b≤d.size) (hsz:d.size<4611686018427387904) (h1:SortS cf pre a m d) (h2:SortS cf pre m b d) (hp:PreIn pre a m b d) (hn:b - a≤n+1) (IH:SymAt P k enc cf pre g cb blk off cap d0 w0 n) :
  Calls P 218 #[.slice (some ⟨blk,off,none⟩) d.size cap,.int .i64 a,.int .i64 m,.int .i64 b,.func (.func g) #[] cb] w fun e w'=>e = .returned (.tuple #[])∧∃ d',PermIn a b d d'∧SortS cf pre a b d'∧SWK enc k w0 blk off d' w':=by
 have mixed:=L.mixed; have t0:=L.t0; have a0:=L.a0; have z0:=L.z0; have t3:=L.t3; have a3:=L.a3; have z3:=L.z3; have v3:=L.v3; have t4:=L.t4; have a4:=L.a4; have z4:=L.z4; have t22:=L.t22; have a22:=L.a22; have z22:=L.z22; have t25:=L.t25; have a25:=L.a25; have z25:=L.z25; have t39:=L.t39; have a39:=L.a39; have z39:=L.z39; have aE:=L.aE; have zE:=L.zE;have FG:=L.fSy;have HLay:Aside (KLay P k):=L;have HC:Aside _:=hcmp;have S0:Aside (SWK enc k w0 blk off d w):=S;have HR:Aside (RowK enc k w0 blk off d0):=R;have HO:Hid (Ordr cf pre):=hO;have H1:Hid (SortS cf pre a m d):=h1
 have H2:Hid (SortS cf pre m b d):=h2;have HP:Hid (PreIn pre a m b d):=hp;have HI:Hid (SymAt P k enc cf pre g cb blk off cap d0 w0 n):=IH;have hmz:((m:Int) - (a:Int) == 1)=false:=by simp; omega
 have hmw:IntKind.i64.wrap ((m:Int) - (a:Int))=(m:Int) - (a:Int):=by rw [IntKind.wrap_i64]; omega
 have hbz:((b:Int) - (m:Int) == 1)=false:=by simp; omega
 have hbw:IntKind.i64.wrap ((b:Int) - (m:Int))=(b:Int) - (m:Int):=by rw [IntKind.wrap_i64]; omega
 obtain ⟨mid,hmid⟩:∃ mid,mid=(a+b) / 2:=⟨_,rfl⟩
 have hmidz:((a:Int)+(b:Int)) / 2=(mid:Int):=by omega
 have hm1:a<mid:=by omega
 have hm2:mid<b:=by omega
 have hm3:2*mid≤a+b:=by omega
 have hm4:a+b<2*mid+2:=by omega
 have hmm:IntKind.i64.wrap ((mid:Int)+(m:Int))=(mid:Int)+(m:Int):=by rw [IntKind.wrap_i64]; omega
 have hp1:IntKind.i64.wrap ((mid:Int)+(m:Int) - 1)=(mid:Int)+(m:Int) - 1:=by rw [IntKind.wrap_i64]; omega
 have hsb:IntKind.i64.wrap ((mid:Int)+(m:Int) - (b:Int))=(mid:Int)+(m:Int) - (b:Int):=by rw [IntKind.wrap_i64]; omega
 clear S L R hcmp h1 h2 hp hO IH hmid;have REST:∀ s0 r0:Nat,(s0=a∧r0=m∧m≤mid)∨(s0+b=mid+m∧r0=mid∧mid<m)→Aside (∀ s,s0≤s→s≤r0→(s0<s→¬ cf d[mid+m - s]! d[s - 1]! < 0)→(s<r0→cf d[mid+m - 1 - s]! d[s]! < 0)→∀ d',Rot s m (mid+m - s) d d'→Split cf pre a s mid (mid+m - s) b d'∧a≤s∧s≤mid∧s≤m∧mid≤mid+m - s∧m≤mid+m - s∧mid+m - s≤b):=fun s0 r0 hc s hs1 hs2 c1 c2 d' hr=>by
  have q1:a≤s∧s≤mid∧s≤m∧mid≤mid+m - s∧m≤mid+m - s∧mid+m - s≤b:=by omega
  refine ⟨split_ok HO.out H1.out H2.out HP.out q1.1 q1.2.2.1 q1.2.2.2.2.1 q1.2.2.2.2.2 (by omega) ?_ ?_ hr,q1⟩
  ·by_cases e:s0<s
   ·exact .inr (.inr (c1 e))
   ·rcases hc with hc | hc
    ·exact .inl (by omega)
    ·exact .inr (.inl (by omega))
  ·by_cases e:s<r0
   ·rw [show mid+m - s - 1=mid+m - 1 - s by omega]; exact .inr (.inr (c2 e))
   ·rcases hc with hc | hc
    ·exact .inl (by omega)
    ·exact .inr (.inl (by omega))
 have RESTH:Hid (∀ s0 r0:Nat,(s0=a∧r0=m∧m≤mid)∨(s0+b=mid+m∧r0=mid∧mid<m)→Aside (∀ s,s0≤s→s≤r0→(s0<s→¬ cf d[mid+m - s]! d[s - 1]! < 0)→(s<r0→cf d[mid+m - 1 - s]! d[s]! < 0)→∀ d',Rot s m (mid+m - s) d d'→Split cf pre a s mid (mid+m - s) b d'∧a≤s∧s≤mid∧s≤m∧mid≤mid+m - s∧m≤mid+m - s∧mid+m - s≤b)):=REST;clear REST;go_enter FG,Tryz.ntmps218;go_upto_if 140 with fail
 go_cut [20,21] from 25 (fun s20 s21 wc=>∃ s0 r0:Nat,s20 = .int .i64 s0∧s21 = .int .i64 r0∧((s0=a∧r0=m∧m≤mid)∨(s0+b=mid+m∧r0=mid∧mid<m))∧wc=w)
 case first =>
  clear HC S0 HR HO H1 H2 HP HI RESTH HLay;by_cases hgt:mid<m
  ·have hgz:(mid:Int)<(m:Int):=by omega
   go_wp2
   go_meet
   case rel=>exact ⟨mid+m - b,mid,by go_num,rfl,.inr ⟨by omega,rfl,hgt⟩,rfl⟩
  ·have hgz:¬ (mid:Int)<(m:Int):=by omega
   go_wp2
   go_meet
   case rel=>exact ⟨a,m,rfl,rfl,.inl ⟨rfl,rfl,by omega⟩,rfl⟩
 case rest =>
 obtain ⟨s0,r0,rfl,rfl,hc0,rfl⟩:=hcut;have REST:=RESTH.out s0 r0 hc0;have hb1:s0≤r0:=by omega
 have hb2:r0≤mid:=by omega
 have hb3:a≤s0:=by omega
 have hb4:r0≤m:=by omega
 have hb5:mid+m≤s0+b:=by omega
 clear RESTH hc0;go_wp2_with fail
 go_loopg [20,21] (r0 - s0) (fun kx s20 s21 wr=>∃ (s r:Nat),s20 = .int .i64 s∧s21 = .int .i64 r∧s0≤s∧s≤r∧r≤r0∧r - s≤kx∧Hid ((s0<s→0≤cf d[mid+m - s]! d[s - 1]!)∧(r<r0→cf d[mid+m - 1 - r]! d[r]! < 0))∧Aside (SWK enc k w0 blk off d wr))
 case atStart=>exact ⟨s0,r0,rfl,rfl,Nat.le_refl _,hb1,Nat.le_refl _,Nat.le_refl _,⟨fun h=>absurd h (Nat.lt_irrefl _),fun h=>absurd h (Nat.lt_irrefl _)⟩,S0⟩
 case round =>
  clear S0;obtain ⟨s,r,rfl,rfl,hss,hsr,hrr,hkx,HS,S1⟩:=hrel;by_cases hlt:s<r
  ·have hltz:(s:Int)<(r:Int):=by omega
   obtain ⟨c,hc⟩:∃ c,c=(s+r) / 2:=⟨_,rfl⟩
   have hcz:((s:Int)+(r:Int)) / 2=(c:Int):=by omega
   have hc1:s≤c:=by omega
   have hc2:c<r:=by omega
   obtain ⟨q,hq⟩:∃ q,q=mid+m - 1 - c:=⟨_,rfl⟩
   have hqz:IntKind.i64.wrap ((mid:Int)+(m:Int) - 1 - (c:Int))=(q:Int):=by rw [IntKind.wrap_i64]; omega
   have hq1:q+c<mid+m:=by omega
   have hq2:mid+m≤q+c+1:=by omega
   have HQ:Hid (q=mid+m - 1 - c):=hq;clear hc hq;by_cases hless:cf d[q]! d[c]! < 0
   ·have HG:Hid (cf d[q]! d[c]! < 0):=hless;have ea24:((q:Int)).toNat=q:=by omega
    have pa24:(0:Int)≤(q:Int):=by omega
    have ba24:(q:Int)<(d.size:Int):=by omega
    have ra24:IntKind.i64.wrap ((q:Int))=(q:Int):=by rw [IntKind.wrap_i64]; omega
    have ec24:((c:Int)).toNat=c:=by omega
    have pc24:(0:Int)≤(c:Int):=by omega
    have bc24:(c:Int)<(d.size:Int):=by omega
    have rc24:IntKind.i64.wrap ((c:Int))=(c:Int):=by rw [IntKind.wrap_i64]; omega
    obtain ⟨x24,hx24⟩:∃ x,x=d[q]!:=⟨_,rfl⟩
    obtain ⟨y24,hy24⟩:∃ x,x=d[c]!:=⟨_,rfl⟩
    have l24a:=S1.out.ld HR.out (by omega) P (q) (by omega);have l24b:=S1.out.ld HR.out (by omega) P (c) (by omega);rw [← hx24] at l24a;rw [← hy24] at l24b;have hc24:=S1.out.cmp HC.out (by omega) x24 y24;have hv24:cf x24 y24<0:=by rw [hx24,hy24]; exact hless
    have hd24:decide (cf x24 y24<0)=true:=decide_eq_true hv24;have HL24:Hid _:=hless;clear hless;clear hx24 hy24;go_wp2_with fail
    go_quiet_grown (first | (go_at_fn g; refine Calls.grown_of (hc24 _ _)))
    have S2:Aside (SWK enc k w0 blk off d (grow (wr.drewN nq) osq)):=S1.out.grown nq osq;clear l24a l24b hc24 S1;generalize grow (wr.drewN nq) osq=w2 at S2 ⊢;clear nq osq;go_wp2_with fail
    go_roundg (c - s)
    case measure=>omega
    case rel=>exact ⟨s,c,rfl,rfl,hss,by omega,by omega,Nat.le_refl _,⟨HS.out.1,fun _=>by rw [← HQ.out]; exact HG.out⟩,S2⟩
   ·have HG:Hid (¬ cf d[q]! d[c]! < 0):=hless;have ea24:((q:Int)).toNat=q:=by omega
    have pa24:(0:Int)≤(q:Int):=by omega
    have ba24:(q:Int)<(d.size:Int):=by omega
    have ra24:IntKind.i64.wrap ((q:Int))=(q:Int):=by rw [IntKind.wrap_i64]; omega
    have ec24:((c:Int)).toNat=c:=by omega
    have pc24:(0:Int)≤(c:Int):=by omega
    have bc24:(c:Int)<(d.size:Int):=by omega
    have rc24:IntKind.i64.wrap ((c:Int))=(c:Int):=by rw [IntKind.wrap_i64]; omega
    obtain ⟨x24,hx24⟩:∃ x,x=d[q]!:=⟨_,rfl⟩
    obtain ⟨y24,hy24⟩:∃ x,x=d[c]!:=⟨_,rfl⟩
    have l24a:=S1.out.ld HR.out (by omega) P (q) (by omega);have l24b:=S1.out.ld HR.out (by omega) P (c) (by omega);rw [← hx24] at l24a;rw [← hy24] at l24b;have hc24:=S1.out.cmp HC.out (by omega) x24 y24;have hv24:¬ cf x24 y24<0:=by rw [hx24,hy24]; exact hless
    have hd24:decide (cf x24 y24<0)=false:=decide_eq_false hv24;have HL24:Hid _:=hless;clear hless;clear hx24 hy24;go_wp2_with fail
    go_quiet_grown (first | (go_at_fn g; refine Calls.grown_of (hc24 _ _)))
    have S2:Aside (SWK enc k w0 blk off d (grow (wr.drewN nq) osq)):=S1.out.grown nq osq;clear l24a l24b hc24 S1;generalize grow (wr.drewN nq) osq=w2 at S2 ⊢;clear nq osq;go_wp2_with fail
    go_roundg (r - (c+1))
    case measure=>omega
    case rel=>exact ⟨c+1,r,by go_num,rfl,by omega,by omega,hrr,Nat.le_refl _,⟨fun _=>by
     rw [show mid+m - (c+1)=mid+m - 1 - c by omega,show c+1 - 1=c by omega,← HQ.out];have:=HG.out; omega,HS.out.2⟩,S2⟩
  ·obtain rfl:s=r:=by omega
   have hltz:¬ (s:Int)<(s:Int):=by omega
   obtain ⟨e,he⟩:∃ e,e=mid+m - s:=⟨_,rfl⟩
   have HT:Hid (∀ d',Rot s m e d d'→Split cf pre a s mid e b d'∧a≤s∧s≤mid∧s≤m∧mid≤e∧m≤e∧e≤b):=by
    show _;rw [he];exact REST.out s hss hrr HS.out.1 HS.out.2
   have he1:e+s≤mid+m:=by omega
   have he2:mid+m≤e+s:=by omega
   have hew:IntKind.i64.wrap ((mid:Int)+(m:Int) - (s:Int))=(e:Int):=by rw [IntKind.wrap_i64]; omega
   clear he REST HS;by_cases c1:s<m
   ·by_cases c2:s<mid
    ·by_cases c3:a<s
     ·by_cases c4:e<b
      ·have z1:(s:Int)<(m:Int):=by omega
       have z2:(m:Int)<(e:Int):=by omega
       have z3:(a:Int)<(s:Int):=by omega
       have z4:(s:Int)<(mid:Int):=by omega
       have z5:(mid:Int)<(e:Int):=by omega
       have z6:(e:Int)<(b:Int):=by omega
       have con:=rotate_at k HLay.out enc g cb blk off cap s m e d0 d w0 wr HR.out (by omega) S1.out (by omega) (by omega) (by omega) (by omega) eSw;clear S1;go_wp2_with fail
       refine con.mono ?_;rintro _ w1 ⟨rfl,d1,hr,S2⟩;have S2:Aside _:=S2;clear con;dsimp only;have hz1:=hr.1;have SP:=HT.out d1 hr;have HRt:Hid (Rot s m e d d1):=hr;have HSP:Hid (Split cf pre a s mid e b d1):=SP.1;clear SP hr;have con:=HI.out a s mid d1 w1 (by omega) (by omega) S2.out (by omega) (by omega) (by omega) HSP.out.s1 HSP.out.s2 HSP.out.p1;rw [hz1] at con;clear S2;go_wp2_with fail
       refine con.mono ?_;rintro _ w2 ⟨rfl,d2,q1,q2,S3⟩;have S3:Aside _:=S3;have Q1:Hid (PermIn a mid d1 d2):=q1;have Q2:Hid (SortS cf pre a mid d2):=q2;have hz2:d2.size=d1.size:=q1.1;clear con q1 q2;dsimp only;have RR:=HSP.out.right Q1.out (by omega);have con:=HI.out mid e b d2 w2 (by omega) (by omega) S3.out (by omega) (by omega) (by omega) RR.1 RR.2.1 RR.2.2;rw [hz2,hz1] at con;clear S3 RR;go_wp2_with fail
       refine con.mono ?_;rintro _ w3 ⟨rfl,d3,q3,q4,S4⟩;have S4:Aside _:=S4;have Q3:Hid (PermIn mid b d2 d3):=q3;have Q4:Hid (SortS cf pre mid b d3):=q4;clear con q3 q4;dsimp only;go_wp2
       go_end0
       exact ⟨rfl,d3,sym_perm HRt.out Q1.out Q3.out (by omega) (by omega) (by omega) (by omega) (by omega) hb,sjoin_ok (d:=d1) (by omega) (by omega) HSP.out.lr Q1.out Q2.out Q3.out Q4.out,S4.out⟩
      ·have z1:(s:Int)<(m:Int):=by omega
       have z2:(m:Int)<(e:Int):=by omega
       have z3:(a:Int)<(s:Int):=by omega
       have z4:(s:Int)<(mid:Int):=by omega
       have z5:(mid:Int)<(e:Int):=by omega
       have z6:¬ (e:Int)<(b:Int):=by omega
       have con:=rotate_at k HLay.out enc g cb blk off cap s m e d0 d w0 wr HR.out (by omega) S1.out (by omega) (by omega) (by omega) (by omega) eSw;clear S1;go_wp2_with fail
       refine con.mono ?_;rintro _ w1 ⟨rfl,d1,hr,S2⟩;have S2:Aside _:=S2;clear con;dsimp only;have hz1:=hr.1;have SP:=HT.out d1 hr;have HRt:Hid (Rot s m e d d1):=hr;have HSP:Hid (Split cf pre a s mid e b d1):=SP.1;clear SP hr;have con:=HI.out a s mid d1 w1 (by omega) (by omega) S2.out (by omega) (by omega) (by omega) HSP.out.s1 HSP.out.s2 HSP.out.p1;rw [hz1] at con;clear S2;go_wp2_with fail
       refine con.mono ?_;rintro _ w2 ⟨rfl,d2,q1,q2,S3⟩;have S3:Aside _:=S3;have Q1:Hid (PermIn a mid d1 d2):=q1;have Q2:Hid (SortS cf pre a mid d2):=q2;have hz2:d2.size=d1.size:=q1.1;clear con q1 q2;dsimp only;have Q3:Hid (PermIn mid b d2 d2):=permIn_refl d2 mid b;have Q4:Hid (SortS cf pre mid b d2):=HSP.out.rightT Q1.out (by omega) (by omega);go_wp2
       go_end0
       exact ⟨rfl,d2,sym_perm HRt.out Q1.out Q3.out (by omega) (by omega) (by omega) (by omega) (by omega) hb,sjoin_ok (d:=d1) (by omega) (by omega) HSP.out.lr Q1.out Q2.out Q3.out Q4.out,S3.out⟩
     ·by_cases c4:e<b
      ·have z1:(s:Int)<(m:Int):=by omega
       have z2:(m:Int)<(e:Int):=by omega
       have z3:¬ (a:Int)<(s:Int):=by omega
       have z4:(s:Int)<(mid:Int):=by omega
       have z5:(mid:Int)<(e:Int):=by omega
       have z6:(e:Int)<(b:Int):=by omega
       have con:=rotate_at k HLay.out enc g cb blk off cap s m e d0 d w0 wr HR.out (by omega) S1.out (by omega) (by omega) (by omega) (by omega) eSw;clear S1;go_wp2_with fail
       refine con.mono ?_;rintro _ w1 ⟨rfl,d1,hr,S2⟩;have S2:Aside _:=S2;clear con;dsimp only;have hz1:=hr.1;have SP:=HT.out d1 hr;have HRt:Hid (Rot s m e d d1):=hr;have HSP:Hid (Split cf pre a s mid e b d1):=SP.1;clear SP hr;obtain ⟨d2,hd2⟩:∃ d2,d2=d1:=⟨_,rfl⟩
       have hz2:d2.size=d1.size:=by rw [hd2]
       have Q1:Hid (PermIn a mid d1 d2):=by show PermIn a mid d1 d2; rw [hd2]; exact permIn_refl d1 a mid
       have Q2:Hid (SortS cf pre a mid d2):=by show SortS cf pre a mid d2; rw [hd2]; exact HSP.out.left (by omega)
       rw [← hd2] at S2;have S3:Aside _:=S2;clear S2 hd2;have RR:=HSP.out.right Q1.out (by omega);have con:=HI.out mid e b d2 w1 (by omega) (by omega) S3.out (by omega) (by omega) (by omega) RR.1 RR.2.1 RR.2.2;rw [hz2,hz1] at con;clear S3 RR;go_wp2_with fail
       refine con.mono ?_;rintro _ w3 ⟨rfl,d3,q3,q4,S4⟩;have S4:Aside _:=S4;have Q3:Hid (PermIn mid b d2 d3):=q3;have Q4:Hid (SortS cf pre mid b d3):=q4;clear con q3 q4;dsimp only;go_wp2
       go_end0
       exact ⟨rfl,d3,sym_perm HRt.out Q1.out Q3.out (by omega) (by omega) (by omega) (by omega) (by omega) hb,sjoin_ok (d:=d1) (by omega) (by omega) HSP.out.lr Q1.out Q2.out Q3.out Q4.out,S4.out⟩
      ·have z1:(s:Int)<(m:Int):=by omega
       have z2:(m:Int)<(e:Int):=by omega
       have z3:¬ (a:Int)<(s:Int):=by omega
       have z4:(s:Int)<(mid:Int):=by omega
       have z5:(mid:Int)<(e:Int):=by omega
       have z6:¬ (e:Int)<(b:Int):=by omega
       have con:=rotate_at k HLay.out enc g cb blk off cap s m e d0 d w0 wr HR.out (by omega) S1.out (by omega) (by omega) (by omega) (by omega) eSw;clear S1;go_wp2_with fail
       refine con.mono ?_;rintro _ w1 ⟨rfl,d1,hr,S2⟩;have S2:Aside _:=S2;clear con;dsimp only;have hz1:=hr.1;have SP:=HT.out d1 hr;have HRt:Hid (Rot s m e d d1):=hr;have HSP:Hid (Split cf pre a s mid e b d1):=SP.1;clear SP hr;obtain ⟨d2,hd2⟩:∃ d2,d2=d1:=⟨_,rfl⟩
       have hz2:d2.size=d1.size:=by rw [hd2]
       have Q1:Hid (PermIn a mid d1 d2):=by show PermIn a mid d1 d2; rw [hd2]; exact permIn_refl d1 a mid
       have Q2:Hid (SortS cf pre a mid d2):=by show SortS cf pre a mid d2; rw [hd2]; exact HSP.out.left (by omega)
       rw [← hd2] at S2;have S3:Aside _:=S2;clear S2 hd2;have Q3:Hid (PermIn mid b d2 d2):=permIn_refl d2 mid b;have Q4:Hid (SortS cf pre mid b d2):=HSP.out.rightT Q1.out (by omega) (by omega);go_wp2
       go_end0
       exact ⟨rfl,d2,sym_perm HRt.out Q1.out Q3.out (by omega) (by omega) (by omega) (by omega) (by omega) hb,sjoin_ok (d:=d1) (by omega) (by omega) HSP.out.lr Q1.out Q2.out Q3.out Q4.out,S3.out⟩
    ·have z1:(s:Int)<(m:Int):=by omega
     have z2:¬ (m:Int)<(e:Int):=by omega
     have z3:(a:Int)<(s:Int):=by omega
     have z4:¬ (s:Int)<(mid:Int):=by omega
     have z5:(mid:Int)<(e:Int):=by omega
     have z6:(e:Int)<(b:Int):=by omega
     obtain ⟨d1,hd1⟩:∃ d1,d1=d:=⟨_,rfl⟩
     have hz1:d1.size=d.size:=by rw [hd1]
     have hr:Rot s m e d d1:=by
      rw [hd1];obtain rfl:e=m:=by omega
      exact Rot.none s e d
     rw [← hd1] at S1;have S2:Aside _:=S1;clear S1;have SP:=HT.out d1 hr;have HRt:Hid (Rot s m e d d1):=hr;have HSP:Hid (Split cf pre a s mid e b d1):=SP.1;clear SP hr hd1;obtain ⟨d2,hd2⟩:∃ d2,d2=d1:=⟨_,rfl⟩
     have hz2:d2.size=d1.size:=by rw [hd2]
     have Q1:Hid (PermIn a mid d1 d2):=by show PermIn a mid d1 d2; rw [hd2]; exact permIn_refl d1 a mid
     have Q2:Hid (SortS cf pre a mid d2):=by show SortS cf pre a mid d2; rw [hd2]; exact HSP.out.left (by omega)
     rw [← hd2] at S2;have S3:Aside _:=S2;clear S2 hd2;have RR:=HSP.out.right Q1.out (by omega);have con:=HI.out mid e b d2 wr (by omega) (by omega) S3.out (by omega) (by omega) (by omega) RR.1 RR.2.1 RR.2.2;rw [hz2,hz1] at con;clear S3 RR;go_wp2_with fail
     refine con.mono ?_;rintro _ w3 ⟨rfl,d3,q3,q4,S4⟩;have S4:Aside _:=S4;have Q3:Hid (PermIn mid b d2 d3):=q3;have Q4:Hid (SortS cf pre mid b d3):=q4;clear con q3 q4;dsimp only;go_wp2
     go_end0
     exact ⟨rfl,d3,sym_perm HRt.out Q1.out Q3.out (by omega) (by omega) (by omega) (by omega) (by omega) hb,sjoin_ok (d:=d1) (by omega) (by omega) HSP.out.lr Q1.out Q2.out Q3.out Q4.out,S4.out⟩
   ·by_cases c2:s<mid;have z1:¬ (s:Int)<(m:Int):=by omega
    have z2:(m:Int)<(e:Int):=by omega
    have z3:(a:Int)<(s:Int):=by omega
    have z4:(s:Int)<(mid:Int):=by omega
    have z5:¬ (mid:Int)<(e:Int):=by omega
    have z6:(e:Int)<(b:Int):=by omega
    obtain ⟨d1,hd1⟩:∃ d1,d1=d:=⟨_,rfl⟩
    have hz1:d1.size=d.size:=by rw [hd1]
    have hr:Rot s m e d d1:=by
     rw [hd1];obtain rfl:s=m:=by omega
     exact Rot.nothing s e d (by omega)
    rw [← hd1] at S1;have S2:Aside _:=S1;clear S1;have SP:=HT.out d1 hr;have HRt:Hid (Rot s m e d d1):=hr;have HSP:Hid (Split cf pre a s mid e b d1):=SP.1;clear SP hr hd1;have con:=HI.out a s mid d1 wr (by omega) (by omega) S2.out (by omega) (by omega) (by omega) HSP.out.s1 HSP.out.s2 HSP.out.p1;rw [hz1] at con;clear S2;go_wp2_with fail
    refine con.mono ?_;rintro _ w2 ⟨rfl,d2,q1,q2,S3⟩;have S3:Aside _:=S3;have Q1:Hid (PermIn a mid d1 d2):=q1;have Q2:Hid (SortS cf pre a mid d2):=q2;have hz2:d2.size=d1.size:=q1.1;clear con q1 q2;dsimp only;rotate_left;have z1:¬ (s:Int)<(m:Int):=by omega
    have z2:¬ (m:Int)<(e:Int):=by omega
    have z3:(a:Int)<(s:Int):=by omega
    have z4:¬ (s:Int)<(mid:Int):=by omega
    have z5:¬ (mid:Int)<(e:Int):=by omega
    have z6:(e:Int)<(b:Int):=by omega
    obtain ⟨d1,hd1⟩:∃ d1,d1=d:=⟨_,rfl⟩
    have hz1:d1.size=d.size:=by rw [hd1]
    have hr:Rot s m e d d1:=by
     rw [hd1];obtain rfl:s=m:=by omega
     exact Rot.nothing s e d (by omega)
    rw [← hd1] at S1;have S2:Aside _:=S1;clear S1;have SP:=HT.out d1 hr;have HRt:Hid (Rot s m e d d1):=hr;have HSP:Hid (Split cf pre a s mid e b d1):=SP.1;clear SP hr hd1;obtain ⟨d2,hd2⟩:∃ d2,d2=d1:=⟨_,rfl⟩
    have hz2:d2.size=d1.size:=by rw [hd2]
    have Q1:Hid (PermIn a mid d1 d2):=by show PermIn a mid d1 d2; rw [hd2]; exact permIn_refl d1 a mid
    have Q2:Hid (SortS cf pre a mid d2):=by show SortS cf pre a mid d2; rw [hd2]; exact HSP.out.left (by omega)
    rw [← hd2] at S2;have S3:Aside _:=S2;clear S2 hd2
    all_goals
     have Q3:Hid (PermIn mid b d2 d2):=permIn_refl d2 mid b;have Q4:Hid (SortS cf pre mid b d2):=HSP.out.rightT Q1.out (by omega) (by omega);go_wp2
     go_end0
     exact ⟨rfl,d2,sym_perm HRt.out Q1.out Q3.out (by omega) (by omega) (by omega) (by omega) (by omega) hb,sjoin_ok (d:=d1) (by omega) (by omega) HSP.out.lr Q1.out Q2.out Q3.out Q4.out,S3.out⟩
end Go.Proofs.YtohjlfhmnmcndaaGreat
namespace Go.Proofs.YtohjlfhmnmcndaaGreat
open Go.Shelf Go.RowKit Go.Lib Go.Sort
variable {P:Program} {α:Type} [Inhabited α]

theorem sym_at (k:Nat) (L:KLay P k) (enc:α→List Value) (cf:α→α→Int) (pre:α→α→Prop) (hO:Ordr cf pre) (g:Nat) (cb:Array Value) (blk off cap:Nat) (d0:Array α) (w0:World) (hsz:d0.size<4611686018427387904)
  (eg:∀ args w,(callFunc g args).run P w = .ok (.enter g args) w) (hcmp:CmpLays P g cb enc k cf blk off d0.size w0) (R:RowK enc k w0 blk off d0)
  (eSw:∀ args w,(callFunc 249 args).run P w = .ok (.enter 249 args) w) (eRo:∀ args w,(callFunc 241 args).run P w = .ok (.enter 241 args) w) (eSy:∀ args w,(callFunc 218 args).run P w = .ok (.enter 218 args) w) :
  ∀ n,SymAt P k enc cf pre g cb blk off cap d0 w0 n
 | 0=>fun a m b d w hn _ _ h1 h2 _ _ _ _=>absurd hn (by omega)
 | n+1=>fun a m b d w hn hs S h1 h2 hb s1 s2 p=>by
  have IH:=sym_at k L enc cf pre hO g cb blk off cap d0 w0 hsz eg hcmp R eSw eRo eSy n
  by_cases c1:m=a+1
  ·exact symA_at k L enc cf pre hO g cb blk off cap a m b d0 d w0 w eg hcmp R hs S c1 h2 hb (by omega) s2 p
  ·by_cases c2:b=m+1
   ·exact symB_at k L enc cf pre hO g cb blk off cap a m b d0 d w0 w eg hcmp R hs S (by omega) c2 hb (by omega) s1 p
   ·exact symTail_at n k L enc cf pre hO g cb blk off cap a m b d0 d w0 w eg hcmp R hs S eSw eRo eSy (by omega) (by omega) hb (by omega) s1 s2 p hn IH

/-! ### Blocks -/
section
variable (cf:α→α→Int) (pre:α→α→Prop)
def GoodB (bs n lo:Nat) (d:Array α):Prop:=∀ c,bs ∣ c→lo≤c→c<n→SortS cf pre c (min (c+bs) n) d
def DoneB (B a:Nat) (d:Array α):Prop:=∀ c,B ∣ c→c+B≤a→SortS cf pre c (c+B) d
def CutsB (bs n lo:Nat) (d:Array α):Prop:=∀ c,bs ∣ c→lo≤c→c≤n→PreIn pre 0 c n d
end
theorem dvd_gap {k a c:Nat} (ha:k ∣ a) (hc:k ∣ c) (h:a<c):a+k≤c:=by
 obtain ⟨x,rfl⟩:=ha
 obtain ⟨y,rfl⟩:=hc
 have hxy:x<y:=Nat.lt_of_mul_lt_mul_left h
 calc k*x+k=k*(x+1):=by rw [Nat.mul_add,Nat.mul_one]
  _≤k*y:=Nat.mul_le_mul_left k hxy
variable {cf:α→α→Int} {pre:α→α→Prop}
theorem PreIn.permR {a m b:Nat} {d d':Array α} (hb:b≤d.size) (_hm:a≤m) (h:PreIn pre a m b d) (p1:PermIn m b d d'):PreIn pre a m b d':=fun i j h1 h2 h3 h4=>by
 rw [p1.2.1 i (Or.inl h2)]
 exact permIn_all d d' m b (fun x=>pre d[i]! x) hb p1 (fun j g1 g2=>h i j h1 h2 g1 g2) j h3 h4
theorem DoneB.step {B a:Nat} {d d':Array α} (h:DoneB cf pre B a d) (ha:B ∣ a) (p:PermIn a (a+B) d d') (s:SortS cf pre a (a+B) d'):DoneB cf pre B (a+B) d':=fun c hc hl=>by
 rcases Nat.lt_or_ge c a with h1 | h1
 ·have h2:=dvd_gap hc ha h1
  exact (h c hc h2).congr fun i _ g2=>p.2.1 i (.inl (by omega))
 ·obtain rfl:c=a:=by omega
  exact s
theorem CutsB.step {B n a b:Nat} {d d':Array α} (hn:n≤d.size) (h:CutsB pre B n 0 d) (hb:b≤n) (p:PermIn a b d d') (hc:∀ c,B ∣ c→c≤a∨b≤c):CutsB pre B n 0 d':=fun c hB _ hcn=>by
 have hP:=h c hB (Nat.zero_le _) hcn
 rcases hc c hB with h1 | h1
 ·exact hP.permR hn (Nat.zero_le _) (permIn_mono d d' a b c n h1 hb hn p)
 ·exact hP.perm hn hcn (permIn_mono d d' a b 0 c (Nat.zero_le _) h1 (by omega) p)
theorem CutsB.after {bs n a b:Nat} {d d':Array α} (hn:n≤d.size) (h:CutsB pre bs n a d) (hab:a≤b) (p:PermIn a b d d'):CutsB pre bs n b d':=fun c hB hbc hcn=>(h c hB (by omega) hcn).perm hn hcn (permIn_mono d d' a b 0 c (Nat.zero_le _) hbc (by omega) p)
theorem GoodB.after {bs n a b:Nat} {d d':Array α} (h:GoodB cf pre bs n a d) (hab:a≤b) (p:PermIn a b d d'):GoodB cf pre bs n b d':=fun c hB hbc hcn=>(h c hB (by omega) hcn).congr fun i g1 _=>p.2.1 i (.inr (by omega))
/-- The last block. -/
theorem GoodB.whole {B n a:Nat} {d:Array α} (h:DoneB cf pre B a d) (ha:B ∣ a) (_hB:0<B) (hn:n<a+B) (s:SortS cf pre a n d):GoodB cf pre B n 0 d:=fun c hc _ hcn=>by
 rcases Nat.lt_or_ge c a with h1 | h1
 ·have h2:=dvd_gap hc ha h1
  exact (h c hc h2).sub (Nat.le_refl _) (Nat.min_le_left _ _)
 ·rcases Nat.lt_or_ge a c with h2 | h2
  ·have:=dvd_gap ha hc h2
   omega
  ·obtain rfl:c=a:=by omega
   rw [Nat.min_eq_right (by omega)]; exact s
theorem CutsB.of {n:Nat} {d:Array α} (h:PreS pre 0 n d) (bs:Nat):CutsB pre bs n 0 d:=fun c _ _ _ i j _ h1 h2 h3=>h i j (Nat.zero_le _) (by omega) h3

def InsAt (P:Program) (k:Nat) (enc:α→List Value) (cf:α→α→Int) (g:Nat) (cb:Array Value) (blk off cap:Nat) (d0:Array α) (w0:World):Prop :=
 ∀ (a b:Nat) (d:Array α) (w:World),d0.size=d.size→SWK enc k w0 blk off d w→a≤b→b≤d.size →
  Calls P 217 #[.slice (some ⟨blk,off,none⟩) d.size cap,.int .i64 a,.int .i64 b,.func (.func g) #[] cb] w fun e w'=>e = .returned (.tuple #[])∧SWK enc k w0 blk off (insertionSort (ltOf cf) d a b) w'

set_option maxHeartbeats 8000000 in
set_option maxRecDepth 1000000 in
theorem stable_at (k:Nat) (L:KLay P k) (enc:α→List Value) (hO:Ordr cf pre) (g:Nat) (cb:Array Value) (blk off cap:Nat) (d:Array α) (w0:World) (hsz:d.size≤1000000)
  (hS:SWK enc k w0 blk off d w0) (hP:PreS pre 0 d.size d)
  (eIn:∀ args w,(callFunc 217 args).run P w = .ok (.enter 217 args) w) (eSy:∀ args w,(callFunc 218 args).run P w = .ok (.enter 218 args) w)
  (hIns:InsAt P k enc cf g cb blk off cap d w0) (hSym:∀ n,SymAt P k enc cf pre g cb blk off cap d w0 n) :
  Calls P 192 #[.slice (some ⟨blk,off,none⟩) d.size cap,.int .i64 d.size,.func (.func g) #[] cb] w0 fun e w'=>e = .returned (.tuple #[])∧∃ d',PermIn 0 d.size d d'∧SortS cf pre 0 d.size d'∧SWK enc k w0 blk off d' w':=by
 have mixed:=L.mixed; have t0:=L.t0; have a0:=L.a0; have z0:=L.z0; have t3:=L.t3; have a3:=L.a3; have z3:=L.z3; have v3:=L.v3; have t4:=L.t4; have a4:=L.a4; have z4:=L.z4; have t22:=L.t22; have a22:=L.a22; have z22:=L.z22; have t25:=L.t25; have a25:=L.a25; have z25:=L.z25;have FG:=L.fSt;have S0:Aside (SWK enc k w0 blk off d w0):=hS;have HP:Hid (PreS pre 0 d.size d):=hP;have HI:Hid (InsAt P k enc cf g cb blk off cap d w0):=hIns;have HY:Hid (∀ n,SymAt P k enc cf pre g cb blk off cap d w0 n):=hSym;have HO:Hid (Ordr cf pre):=hO;clear hS hP hIns hSym hO L;go_enter FG,Tryz.ntmps192;go_wp2
 go_loopg [7,8] d.size (fun kx s7 s8 wr=>∃ (a:Nat) (dk:Array α),s7 = .int .i64 a∧s8 = .int .i64 ((a+20:Nat):Int)∧a≤d.size∧d.size - a≤kx∧dk.size=d.size∧Hid (20 ∣ a∧PermIn 0 d.size d dk∧DoneB cf pre 20 a dk∧(∀ i,a≤i→dk[i]! = d[i]!)∧CutsB pre 20 d.size 0 dk)∧Aside (SWK enc k w0 blk off dk wr))
 case atStart=>exact ⟨0,d,rfl,rfl,Nat.zero_le _,Nat.le_refl _,rfl,⟨Nat.dvd_zero _,permIn_refl _ _ _,fun c _ h=>by omega,fun _ _=>rfl,CutsB.of HP.out 20⟩,S0⟩
 case round =>
  clear S0;obtain ⟨a,dk,rfl,rfl,hal,hkx,hds,HV,S1⟩:=hrel;have e20:((a+20:Nat):Int)=(a:Int)+20:=by omega
  by_cases hlt:a+20≤d.size
  ·have hltz:(a:Int)+20≤(d.size:Int):=by omega
   have con:=HI.out a (a+20) dk wr (by omega) S1.out (by omega) (by omega);rw [hds] at con;obtain ⟨v1,v2,v3',v4,v5⟩:=HV.out;have ins:=insertionS HO.out a (a+20) dk (by omega) (by omega) (fun i j h1 h2 h3=>by rw [v4 i h1,v4 j (by omega)]; exact HP.out i j (Nat.zero_le _) h2 (by omega));have hnew:20 ∣ a+20∧PermIn 0 d.size d (insertionSort (ltOf cf) dk a (a+20))∧DoneB cf pre 20 (a+20) (insertionSort (ltOf cf) dk a (a+20))∧(∀ i,a+20≤i→(insertionSort (ltOf cf) dk a (a+20))[i]! = d[i]!)∧CutsB pre 20 d.size 0 (insertionSort (ltOf cf) dk a (a+20)) :=
    ⟨Nat.dvd_add v1 (Nat.dvd_refl _),permIn_trans d dk _ 0 d.size v2 (permIn_mono dk _ a (a+20) 0 d.size (Nat.zero_le _) hlt (by omega) ins.1),v3'.step v1 ins.1 ins.2,fun i hi=>by rw [ins.1.2.1 i (.inr hi),v4 i (by omega)],v5.step (by omega) hlt ins.1 fun c hc=>by
     rcases Nat.lt_or_ge a c with h | h
     ·exact .inr (dvd_gap v1 hc h)
     ·exact .inl h⟩
   have hzn:=ins.1.1;have HN:Hid _:=hnew;clear S1 v1 v2 v3' v4 v5 ins hnew HV;generalize insertionSort (ltOf cf) dk a (a+20)=dn at *;rw [e20] at con;go_wp2_with fail
   refine con.mono ?_;rintro _ w1 ⟨rfl,S2⟩;have S2:Aside _:=S2;clear con;dsimp only;go_wp2
   go_roundg (d.size - (a+20))
   case measure=>omega
   case rel=>exact ⟨a+20,dn,by go_num,by go_num,hlt,Nat.le_refl _,by omega,HN,S2⟩
  ·have hltz:¬ (a:Int)+20≤(d.size:Int):=by omega
   have con:=HI.out a d.size dk wr (by omega) S1.out (by omega) (by omega);rw [hds] at con;obtain ⟨v1,v2,v3',v4,v5⟩:=HV.out;have ins:=insertionS HO.out a d.size dk (by omega) (by omega) (fun i j h1 h2 h3=>by rw [v4 i h1,v4 j (by omega)]; exact HP.out i j (Nat.zero_le _) h2 (by omega));have hnew:PermIn 0 d.size d (insertionSort (ltOf cf) dk a d.size)∧GoodB cf pre 20 d.size 0 (insertionSort (ltOf cf) dk a d.size)∧CutsB pre 20 d.size 0 (insertionSort (ltOf cf) dk a d.size) :=
    ⟨permIn_trans d dk _ 0 d.size v2 (permIn_mono dk _ a d.size 0 d.size (Nat.zero_le _) (Nat.le_refl _) (by omega) ins.1),GoodB.whole (a:=a) (fun c hc hl=>(v3' c hc hl).congr fun i _ g2=>ins.1.2.1 i (.inl (by omega))) v1 (by omega) (by omega) ins.2,fun c hc h1 h2=>by
     rcases Nat.lt_or_ge a c with h | h
     ·have:=dvd_gap v1 hc h; omega
     ·exact (v5 c hc h1 h2).permR (by omega) (Nat.zero_le _) (permIn_mono dk _ a d.size c d.size h (Nat.le_refl _) (by omega) ins.1)⟩
   have hzn:=ins.1.1;have HN:Hid _:=hnew;clear S1 v1 v2 v3' v4 v5 ins hnew HV;generalize insertionSort (ltOf cf) dk a d.size=dn at *;go_wp2_with fail
   refine con.mono ?_;rintro _ w1 ⟨rfl,S2⟩;have S2:Aside _:=S2;clear con;dsimp only;go_wp2
   go_loopg [6,7,8] (d.size) (fun kx s6 s7 s8 wr=>∃ (bs:Nat) (dk:Array α),s6 = .int .i64 bs∧0<bs∧bs≤2000000∧d.size - bs≤kx∧dk.size=d.size∧Hid (PermIn 0 d.size d dk∧GoodB cf pre bs d.size 0 dk∧CutsB pre bs d.size 0 dk)∧Aside (SWK enc k w0 blk off dk wr))
   case atStart=>exact ⟨20,dn,rfl,by omega,by omega,by omega,by omega,HN,S2⟩
   case round =>
    clear S2 HN hzn;obtain ⟨bs,dk,rfl,hb0,hb1,hkx,hds,HV,S1⟩:=hrel;have hw2:IntKind.i64.wrap (2*(bs:Int))=((2*bs:Nat):Int):=by rw [IntKind.wrap_i64]; omega
    by_cases hlt:bs<d.size
    ·have hltz:(bs:Int)<(d.size:Int):=by omega
     obtain ⟨B,hB⟩:∃ B,B=2*bs:=⟨_,rfl⟩
     have hB1:B≤2*bs:=by omega
     have hB2:2*bs≤B:=by omega
     rw [← hB] at hw2;have hdv:bs ∣ B:=⟨2,by omega⟩
     have HDV:Hid (bs ∣ B):=hdv;have hw3:IntKind.i64.wrap ((bs:Int)*2)=(B:Int):=by rw [IntKind.wrap_i64]; omega
     clear hdv hB;go_wp2_with fail
     go_loopg [7,8] (d.size) (fun kx s7 s8 wr=>∃ (a:Nat) (dk:Array α),s7 = .int .i64 a∧s8 = .int .i64 ((a+B:Nat):Int)∧a≤d.size∧d.size - a≤kx∧dk.size=d.size∧Hid (B ∣ a∧PermIn 0 d.size d dk∧DoneB cf pre B a dk∧GoodB cf pre bs d.size a dk∧CutsB pre bs d.size a dk∧CutsB pre B d.size 0 dk)∧Aside (SWK enc k w0 blk off dk wr))
     case atStart=>exact ⟨0,dk,rfl,by simp,Nat.zero_le _,Nat.le_refl _,hds,⟨Nat.dvd_zero _,HV.out.1,fun c _ h=>by omega,HV.out.2.1,HV.out.2.2,fun c hc h1 h2=>HV.out.2.2 c (Nat.dvd_trans HDV.out hc) h1 h2⟩,S1⟩
     case round =>
      clear S1 HV hds;obtain ⟨a,dm,rfl,rfl,hal,hkx2,hds,HV,S1⟩:=hrel;have eB:((a+B:Nat):Int)=(a:Int)+(B:Int):=by omega
      have wab:IntKind.i64.wrap ((a:Int)+(bs:Int))=((a+bs:Nat):Int):=by rw [IntKind.wrap_i64]; omega
      obtain ⟨v1,v2,v3',v4,v5,v6⟩:=HV.out;have hda:bs ∣ a:=Nat.dvd_trans HDV.out v1;have hdm:bs ∣ a+bs:=Nat.dvd_add hda (Nat.dvd_refl _);have cut:∀ c,B ∣ c→c≤a∨a+B≤c:=fun c hc=>by
       rcases Nat.lt_or_ge a c with h | h
       ·exact .inr (dvd_gap v1 hc h)
       ·exact .inl h
      by_cases hle:a+B≤d.size
      ·have hlez:(a:Int)+(B:Int)≤(d.size:Int):=by omega
       have s1:SortS cf pre a (a+bs) dm:=by have:=v4 a hda (Nat.le_refl _) (by omega); rwa [Nat.min_eq_left (by omega)] at this
       have s2:SortS cf pre (a+bs) (a+B) dm:=by have:=v4 (a+bs) hdm (by omega) (by omega); rwa [Nat.min_eq_left (by omega),show a+bs+bs=a+B by omega] at this
       have p1:PreIn pre a (a+bs) (a+B) dm:=fun i j h1 h2 h3 h4=>v5 (a+bs) hdm (by omega) (by omega) i j (Nat.zero_le _) h2 h3 (by omega)
       have con:=HY.out B a (a+bs) (a+B) dm wr (by omega) (by omega) S1.out (by omega) (by omega) (by omega) s1 s2 p1;rw [hds] at con;have HNX:Hid (∀ d',PermIn a (a+B) dm d'→SortS cf pre a (a+B) d'→B ∣ a+B∧PermIn 0 d.size d d'∧DoneB cf pre B (a+B) d'∧GoodB cf pre bs d.size (a+B) d'∧CutsB pre bs d.size (a+B) d'∧CutsB pre B d.size 0 d'):=fun d' q1 q2 =>
        ⟨Nat.dvd_add v1 (Nat.dvd_refl _),permIn_trans d dm d' 0 d.size v2 (permIn_mono dm d' a (a+B) 0 d.size (Nat.zero_le _) hle (by omega) q1),v3'.step v1 q1 q2,v4.after (by omega) q1,v5.after (by omega) (by omega) q1,v6.step (by omega) hle q1 cut⟩
       clear S1 HV v1 v2 v3' v4 v5 v6 s1 s2 p1 cut hda hdm;rw [eB] at con;go_wp2_with fail
       refine con.mono ?_;rintro _ w2 ⟨rfl,dn2,q1,q2,S2⟩;have S2:Aside _:=S2;have HN:=HNX.out dn2 q1 q2;have HN2:Hid _:=HN;have hzn:=q1.1;clear con q1 q2 HN HNX;dsimp only;go_wp2
       go_roundg (d.size - (a+B))
       case measure=>omega
       case rel=>exact ⟨a+B,dn2,by go_num,by go_num,hle,Nat.le_refl _,by omega,HN2,S2⟩
      ·have hlez:¬ (a:Int)+(B:Int)≤(d.size:Int):=by omega
       have wab':IntKind.i64.wrap ((a:Int)+(bs:Int))=(a:Int)+(bs:Int):=by rw [IntKind.wrap_i64]; omega
       clear wab;by_cases hm:a+bs<d.size
       ·have hmz:(a:Int)+(bs:Int)<(d.size:Int):=by omega
        have s1:SortS cf pre a (a+bs) dm:=by have:=v4 a hda (Nat.le_refl _) (by omega); rwa [Nat.min_eq_left (by omega)] at this
        have s2:SortS cf pre (a+bs) d.size dm:=by have:=v4 (a+bs) hdm (by omega) (by omega); rwa [Nat.min_eq_right (by omega)] at this
        have p1:PreIn pre a (a+bs) d.size dm:=fun i j h1 h2 h3 h4=>v5 (a+bs) hdm (by omega) (by omega) i j (Nat.zero_le _) h2 h3 (by omega)
        have con:=HY.out d.size a (a+bs) d.size dm wr (by omega) (by omega) S1.out (by omega) (by omega) (by omega) s1 s2 p1;rw [hds] at con;have HNX:Hid (∀ d',PermIn a d.size dm d'→SortS cf pre a d.size d'→PermIn 0 d.size d d'∧GoodB cf pre B d.size 0 d'∧CutsB pre B d.size 0 d'):=fun d' q1 q2 =>
         ⟨permIn_trans d dm d' 0 d.size v2 (permIn_mono dm d' a d.size 0 d.size (Nat.zero_le _) (Nat.le_refl _) (by omega) q1),GoodB.whole (a:=a) (fun c hc hl=>(v3' c hc hl).congr fun i _ g2=>q1.2.1 i (.inl (by omega))) v1 (by omega) (by omega) q2,fun c hc h1 h2=>by
          rcases cut c hc with h | h
          ·exact (v6 c hc h1 h2).permR (by omega) (Nat.zero_le _) (permIn_mono dm d' a d.size c d.size h (Nat.le_refl _) (by omega) q1)
          ·omega⟩
        clear S1 HV v1 v2 v3' v4 v5 v6 s1 s2 p1 cut hda hdm;have emz:((a+bs:Nat):Int)=(a:Int)+(bs:Int):=by omega
        rw [emz] at con;go_wp2_with fail
        refine con.mono ?_;rintro _ w2 ⟨rfl,dn2,q1,q2,S2⟩;have S2:Aside _:=S2;have HN:=HNX.out dn2 q1 q2;have HN2:Hid _:=HN;have hzn:=q1.1;clear con q1 q2 HN HNX;dsimp only;go_wp2
        go_roundg (d.size - B)
        case measure=>omega
        case rel=>exact ⟨B,dn2,rfl,by omega,by omega,Nat.le_refl _,by omega,HN2,S2⟩
       ·have hmz:¬ (a:Int)+(bs:Int)<(d.size:Int):=by omega
        have s1:SortS cf pre a d.size dm:=by
         rcases Nat.lt_or_ge a d.size with h | h
         ·have:=v4 a hda (Nat.le_refl _) h; rwa [Nat.min_eq_right (by omega)] at this
         ·exact SortS.one (by omega)
        have HN2:Hid (PermIn 0 d.size d dm∧GoodB cf pre B d.size 0 dm∧CutsB pre B d.size 0 dm):=⟨v2,GoodB.whole v3' v1 (by omega) (by omega) s1,v6⟩
        clear HV v1 v2 v3' v4 v5 v6 s1 cut hda hdm;go_wp2
        go_roundg (d.size - B)
        case measure=>omega
        case rel=>exact ⟨B,dm,rfl,by omega,by omega,Nat.le_refl _,by omega,HN2,S1⟩
    ·have hltz:¬ (bs:Int)<(d.size:Int):=by omega
     go_wp2
     go_end0
     refine ⟨rfl,dk,HV.out.1,?_,S1.out⟩;rcases Nat.eq_zero_or_pos d.size with h | h
     ·exact SortS.one (by omega)
     ·have:=HV.out.2.1 0 (Nat.dvd_zero _) (Nat.le_refl _) h
      rwa [Nat.zero_add,Nat.min_eq_right (by omega)] at this
set_option maxHeartbeats 2000000 in
set_option maxRecDepth 1000000 in
theorem sortStable_at (k:Nat) (L:KLay P k) (enc:α→List Value) (hO:Ordr cf pre) (g:Nat) (cb:Array Value) (blk off cap:Nat) (d:Array α) (w0:World) (hsz:d.size≤1000000)
  (hS:SWK enc k w0 blk off d w0) (hP:PreS pre 0 d.size d)
  (eIn:∀ args w,(callFunc 217 args).run P w = .ok (.enter 217 args) w) (eSy:∀ args w,(callFunc 218 args).run P w = .ok (.enter 218 args) w) (eSt:∀ args w,(callFunc 192 args).run P w = .ok (.enter 192 args) w)
  (hIns:InsAt P k enc cf g cb blk off cap d w0) (hSym:∀ n,SymAt P k enc cf pre g cb blk off cap d w0 n) :
  Calls P 158 #[.slice (some ⟨blk,off,none⟩) d.size cap,.func (.func g) #[] cb] w0 fun e w'=>e = .returned (.tuple #[])∧∃ d',PermIn 0 d.size d d'∧SortS cf pre 0 d.size d'∧SWK enc k w0 blk off d' w':=by
 have con:=stable_at k L enc hO g cb blk off cap d w0 hsz hS hP eIn eSy hIns hSym;have mixed:=L.mixed; have t0:=L.t0; have a0:=L.a0; have z0:=L.z0; have t3:=L.t3; have a3:=L.a3; have z3:=L.z3; have v3:=L.v3; have t4:=L.t4; have a4:=L.a4; have z4:=L.z4; have t22:=L.t22; have a22:=L.a22; have z22:=L.z22; have t25:=L.t25; have a25:=L.a25; have z25:=L.z25;have FG:=L.fSo;clear hS hP hIns hSym hO L;go_enter FG,Tryz.ntmps158;go_wp2_with fail
 refine con.mono ?_;rintro _ w2 ⟨rfl,hd⟩;clear con;dsimp only;have HD:Hid _:=hd;clear hd;go_wp2
 go_end0
 exact ⟨rfl,HD.out⟩
end Go.Proofs.YtohjlfhmnmcndaaGreat
namespace Go.Proofs.YtohjlfhmnmcndaaGreat
open Go.RowKit

def inB (n:Int):Bool:=decide (-1000000000000000≤n) && decide (n≤1000000000000000)
theorem inB_t {n:Int} (h:inB n=true):-1000000000000000≤n∧n≤1000000000000000:=by simpa [inB] using h
theorem inB_f {n:Int} (h:inB n=false):n < -1000000000000000∨1000000000000000<n:=by
 unfold inB at h;by_cases a:-1000000000000000≤n
 ·by_cases b:n≤1000000000000000
  ·simp [a,b] at h
  ·right; omega
 ·left; omega
theorem inB_no {n:Int} (h:n < -1000000000000000∨1000000000000000<n):inB n=false:=by
 cases e:inB n
 ·rfl
 ·have:=inB_t e; omega
def intK (n:Int):Int:=if inB n then 3 else 1
def intN (n:Int):Int:=if inB n then n else 0
def numB (k n:Int):Bool:=k == 3 && inB n
def recT (c n n':Int):Option Int:=if c=43 then some (n+n') else if c=45 then some (n - n') else if c=42 then some (n*n') else none
def optK:Option Int→Int | some x=>intK x | none=>1
def optN:Option Int→Int | some x=>intN x | none=>0
def recO (c k n k' n':Int):Option Int:=if numB k n && numB k' n' then recT c n n' else none

set_option maxHeartbeats 400000 in
theorem inRange_any (n:Int) (w:World) :
  Calls Tryz.prog 145 #[.int .i64 n] w fun e w'=>e = .returned (.bool (inB n))∧w'=w:=by
 by_cases h0:-1000000000000000≤n
 ·go_enter Tryz.func145,Tryz.ntmps145;go_wp2
  go_ret;exact ⟨ret_bool (by simp [inB,h0]),rfl⟩
 ·have hd:decide (-1000000000000000≤n)=false:=by simpa using h0
  have e:inB n=false:=by simp only [inB,hd,Bool.false_and]
  go_enter Tryz.func145,Tryz.ntmps145;go_wp2
  go_ret;exact ⟨rfl,rfl⟩
set_option maxHeartbeats 400000 in
theorem int_in (n:Int) (w:World) (h:inB n=true) :
  Calls Tryz.prog 213 #[.int .i64 n] w fun e w'=>e = .returned (.agg #[.int .i64 3,.int .i64 n,.string ⟨#[]⟩])∧Below w.heap.size w w':=by
 go_enter Tryz.func213,Tryz.ntmps213;go_wp2_with fail
 refine (inRange_any _ _).mono ?_;rintro e w1 ⟨rfl,rfl⟩;rw [h];go_wp2
 exact bodyPost_ret (v:=.agg #[.int .i64 3,.int .i64 n,.string ⟨#[]⟩]) (by simp [results,Tryz.results213,go_sem]) rfl ⟨rfl,(Below.refl _ _).alloc (Nat.le_refl _) _⟩
set_option maxHeartbeats 400000 in
theorem int_out (n:Int) (w:World) (h:inB n=false) :
  Calls Tryz.prog 213 #[.int .i64 n] w fun e w'=>e = .returned (.agg #[.int .i64 1,.int .i64 0,.string ⟨#[]⟩])∧Below w.heap.size w w':=by
 go_enter Tryz.func213,Tryz.ntmps213;go_wp2_with fail
 refine (inRange_any _ _).mono ?_;rintro e w1 ⟨rfl,rfl⟩;rw [h];have R0:=Box.new w (.int .i64 0) (.int .i64 0) (.string ⟨#[]⟩) 24;go_wp2_with fail
 refine (null_any _).mono ?_;rintro e w1 ⟨rfl,hb1⟩;have R1:=R0.next hb1;have ⟨r0,r1,r2,r3,r4,r5,r6⟩:=R1;go_wp2
 exact bodyPost_ret (v:=.agg #[.int .i64 1,.int .i64 0,.string ⟨#[]⟩]) (by simp [results,Tryz.results213,go_sem,r1,r2,r3]) rfl ⟨rfl,below_set3 (below1 hb1) (Nat.le_refl _)⟩
theorem int_any (n:Int) (w:World) :
  Calls Tryz.prog 213 #[.int .i64 n] w fun e w'=>e = .returned (.agg #[.int .i64 (intK n),.int .i64 (intN n),.string ⟨#[]⟩])∧Below w.heap.size w w':=by
 cases h:inB n
 ·have e1:intK n=1:=by simp [intK,h]
  have e2:intN n=0:=by simp [intN,h]
  rw [e1,e2]; exact int_out n w h
 ·have e1:intK n=3:=by simp [intK,h]
  have e2:intN n=n:=by simp [intN,h]
  rw [e1,e2]; exact int_in n w h
set_option maxHeartbeats 400000 in
theorem size_any (n:Int) (w:World) (h0:-1000000000000000≤n) (h1:n≤1000000000000000) :
  Calls Tryz.prog 252 #[.int .i64 n] w fun e w'=>e = .returned (.int .i64 (n.natAbs:Int))∧w'=w:=by
 by_cases h:n<0
 ·go_enter Tryz.func252,Tryz.ntmps252;go_wp2
  go_ret;exact ⟨ret_int (by omega),rfl⟩
 ·go_enter Tryz.func252,Tryz.ntmps252;go_wp2
  go_ret;exact ⟨ret_int (by omega),rfl⟩
set_option maxHeartbeats 400000 in
theorem isNumber_any (k n:Int) (s:ByteArray) (w:World) :
  Calls Tryz.prog 250 #[.agg #[.int .i64 k,.int .i64 n,.string s]] w fun e w'=>e = .returned (.bool (numB k n))∧Below w.heap.size w w':=by
 by_cases hk:k=3
 ·subst hk;have e0:(wrongF 3 n s == 0)=numB 3 n:=by
   cases h:inB n
   ·have:=inB_f h;have e:wrongF 3 n s=3:=by
     rcases this with t | t
     ·exact wrong_k3l n s t
     ·exact wrong_k3g n s t
    simp [numB,h,e]
   ·have:=inB_t h;have e:wrongF 3 n s=0:=wrong_k3 n s (by omega) (by omega);simp [numB,h,e]
  have E0:Hid ((wrongF 3 n s == 0)=numB 3 n):=e0;clear e0;go_enter Tryz.func250,Tryz.ntmps250;go_wp2_with fail
  refine (wrong_any _ _ _ _).mono ?_;rintro e w1 ⟨rfl,hb1⟩;go_wp2
  go_ret;exact ⟨ret_bool E0.out,below1 hb1⟩
 ·have b3:(k == 3)=false:=by simpa using hk
  go_enter Tryz.func250,Tryz.ntmps250;go_wp2
  go_ret;exact ⟨ret_bool (by simp [numB,b3]),(Below.refl _ _).alloc (Nat.le_refl _) _⟩

/-- A product whose one factor is more than the greatest number by the other one is too large; another one is not. -/
theorem mul_out (a b:Int) (h:(1000000000000000 / (a.natAbs:Int))<(b.natAbs:Int)) (ha:a≠0):inB (a*b)=false:=by
 apply inB_no;have h1:1000000000000000<(a.natAbs:Int)*(b.natAbs:Int):=by
  have p:0<(a.natAbs:Int):=by omega
  have:=Int.lt_mul_of_ediv_lt p h;rw [Int.mul_comm]; exact this
 have h2:((a*b).natAbs:Int)=(a.natAbs:Int)*(b.natAbs:Int):=by rw [Int.natAbs_mul]; exact Int.natCast_mul _ _
 rw [← h2] at h1;omega
theorem mul_in (a b:Int) (h:(b.natAbs:Int)≤1000000000000000 / (a.natAbs:Int)) (ha:a≠0):-1000000000000000≤a*b∧a*b≤1000000000000000:=by
 have h1:(a.natAbs:Int)*(b.natAbs:Int)≤1000000000000000:=by
  have p:0<(a.natAbs:Int):=by omega
  have:=Int.mul_le_of_le_ediv p h;rw [Int.mul_comm]; exact this
 have h2:((a*b).natAbs:Int)=(a.natAbs:Int)*(b.natAbs:Int):=by rw [Int.natAbs_mul]; exact Int.natCast_mul _ _
 rw [← h2] at h1;omega
set_option maxHeartbeats 400000 in
theorem product_0 (b:Int) (w:World) :
  Calls Tryz.prog 251 #[.int .i64 0,.int .i64 b] w fun e w'=>e = .returned (.agg #[.int .i64 (intK (0*b)),.int .i64 (intN (0*b)),.string ⟨#[]⟩])∧Below w.heap.size w w':=by
 rw [Int.zero_mul];have R0:=Box.new w (.int .i64 0) (.int .i64 0) (.string ⟨#[]⟩) 24;go_enter Tryz.func251,Tryz.ntmps251;go_wp2_with fail
 refine (int_any _ _).mono ?_;rintro e w1 ⟨rfl,hb1⟩;have R1:=R0.next hb1;have ⟨r0,r1,r2,r3,r4,r5,r6⟩:=R1;go_wp2
 exact bodyPost_ret (v:=.agg #[.int .i64 (intK 0),.int .i64 (intN 0),.string ⟨#[]⟩]) (by simp [results,Tryz.results251,go_sem,r1,r2,r3]) rfl ⟨rfl,below_set3 (below1 hb1) (Nat.le_refl _)⟩
set_option maxHeartbeats 400000 in
theorem product_out (a b:Int) (w:World) (a0:-1000000000000000≤a) (a1:a≤1000000000000000) (b0:-1000000000000000≤b) (b1:b≤1000000000000000) (ha:a≠0) (h:(1000000000000000 / (a.natAbs:Int))<(b.natAbs:Int)) :
  Calls Tryz.prog 251 #[.int .i64 a,.int .i64 b] w fun e w'=>e = .returned (.agg #[.int .i64 1,.int .i64 0,.string ⟨#[]⟩])∧Below w.heap.size w w':=by
 have R0:=Box.new w (.int .i64 0) (.int .i64 0) (.string ⟨#[]⟩) 24;have bn:(a != 0)=true:=by simpa using ha
 have p0:0<(a.natAbs:Int):=by omega
 have p1:(a.natAbs:Int)≤1000000000000000:=by omega
 have q0:0≤(b.natAbs:Int):=by omega
 have q1:(b.natAbs:Int)≤1000000000000000:=by omega
 go_enter Tryz.func251,Tryz.ntmps251;go_wp2_with fail
 refine (size_any _ _ b0 b1).mono ?_;rintro e w1 ⟨rfl,rfl⟩;go_wp2_with fail
 refine (size_any _ _ a0 a1).mono ?_;rintro e w1 ⟨rfl,rfl⟩;generalize (a.natAbs:Int)=A at *;generalize (b.natAbs:Int)=B at *;go_wp2_with fail
 refine (null_any _).mono ?_;rintro e w1 ⟨rfl,hb1⟩;have R1:=R0.next hb1;have ⟨r0,r1,r2,r3,r4,r5,r6⟩:=R1;go_wp2
 exact bodyPost_ret (v:=.agg #[.int .i64 1,.int .i64 0,.string ⟨#[]⟩]) (by simp [results,Tryz.results251,go_sem,r1,r2,r3]) rfl ⟨rfl,below_set3 (below1 hb1) (Nat.le_refl _)⟩
set_option maxHeartbeats 400000 in
theorem product_in (a b:Int) (w:World) (a0:-1000000000000000≤a) (a1:a≤1000000000000000) (b0:-1000000000000000≤b) (b1:b≤1000000000000000) (ha:a≠0) (h:(b.natAbs:Int)≤(1000000000000000 / (a.natAbs:Int))) :
  Calls Tryz.prog 251 #[.int .i64 a,.int .i64 b] w fun e w'=>e = .returned (.agg #[.int .i64 (intK (a*b)),.int .i64 (intN (a*b)),.string ⟨#[]⟩])∧Below w.heap.size w w':=by
 have hm:=mul_in a b h ha;obtain ⟨m0,m1⟩:=hm;have R0:=Box.new w (.int .i64 0) (.int .i64 0) (.string ⟨#[]⟩) 24;have bn:(a != 0)=true:=by simpa using ha
 have p0:0<(a.natAbs:Int):=by omega
 have p1:(a.natAbs:Int)≤1000000000000000:=by omega
 have q0:0≤(b.natAbs:Int):=by omega
 have q1:(b.natAbs:Int)≤1000000000000000:=by omega
 go_enter Tryz.func251,Tryz.ntmps251;go_wp2_with fail
 refine (size_any _ _ b0 b1).mono ?_;rintro e w1 ⟨rfl,rfl⟩;go_wp2_with fail
 refine (size_any _ _ a0 a1).mono ?_;rintro e w1 ⟨rfl,rfl⟩;have ew:wrap64 (a*b)=a*b:=by unfold wrap64; omega
 generalize (a.natAbs:Int)=A at *;generalize (b.natAbs:Int)=B at *;go_wp2_with fail
 refine (int_any _ _).mono ?_;rintro e w1 ⟨rfl,hb1⟩;have R1:=R0.next hb1;have ⟨r0,r1,r2,r3,r4,r5,r6⟩:=R1;go_wp2
 exact bodyPost_ret (v:=.agg #[.int .i64 (intK (a*b)),.int .i64 (intN (a*b)),.string ⟨#[]⟩]) (by simp [results,Tryz.results251,go_sem,r1,r2,r3]) rfl ⟨rfl,below_set3 (below1 hb1) (Nat.le_refl _)⟩
theorem product_any (a b:Int) (w:World) (a0:-1000000000000000≤a) (a1:a≤1000000000000000) (b0:-1000000000000000≤b) (b1:b≤1000000000000000) :
  Calls Tryz.prog 251 #[.int .i64 a,.int .i64 b] w fun e w'=>e = .returned (.agg #[.int .i64 (intK (a*b)),.int .i64 (intN (a*b)),.string ⟨#[]⟩])∧Below w.heap.size w w':=by
 by_cases ha:a=0
 ·subst ha; exact product_0 b w
 by_cases h:(1000000000000000 / (a.natAbs:Int))<(b.natAbs:Int)
 ·have e:=mul_out a b h ha;have e1:intK (a*b)=1:=by simp [intK,e]
  have e2:intN (a*b)=0:=by simp [intN,e]
  rw [e1,e2]; exact product_out a b w a0 a1 b0 b1 ha h
 ·exact product_in a b w a0 a1 b0 b1 ha (by omega)
set_option maxRecDepth 100000 in
set_option maxHeartbeats 8000000 in
theorem reckon_any (c k n k' n' : Int) (s s' : ByteArray) (w : World) :
    Calls Tryz.prog 248 #[.int .i32 c, .agg #[.int .i64 k, .int .i64 n, .string s], .agg #[.int .i64 k', .int .i64 n', .string s']] w fun e w' => e = .returned (.agg #[.int .i64 (optK (recO c k n k' n')), .int .i64 (optN (recO c k n k' n')), .string ⟨#[]⟩]) ∧ Below w.heap.size w w' := by
  have T := Two3.new w k n k' n' s s'
  have g : numB k n = true → -1000000000000000 ≤ n ∧ n ≤ 1000000000000000 := fun h => by unfold numB at h; simp at h; exact inB_t h.2
  have g' : numB k' n' = true → -1000000000000000 ≤ n' ∧ n' ≤ 1000000000000000 := fun h => by unfold numB at h; simp at h; exact inB_t h.2
  obtain ⟨o, ho⟩ : ∃ o, o = recO c k n k' n' := ⟨_, rfl⟩
  rw [← ho]
  unfold recO recT at ho
  by_cases c1 : c = 43
  rotate_left
  by_cases c2 : c = 45
  rotate_left
  by_cases c3 : c = 42
  all_goals (
    cases h1 : numB k n <;> cases h2 : numB k' n')
  all_goals (
    simp only [h1, h2, Bool.and_true, Bool.and_false, Bool.false_eq_true, if_true, if_false] at ho
    simp only [h1, Bool.false_eq_true, false_implies, forall_const] at g
    simp only [h2, Bool.false_eq_true, false_implies, forall_const] at g'
    try (rcases g with ⟨q0, q1⟩)
    try (rcases g' with ⟨p0, p1⟩)
    try simp only [c1, c2, c3, if_true, if_false] at ho
    try simp only [c1, if_true, if_false] at ho
    try simp only [c2, if_true] at ho
    try (have d1 : (c == 43) = false := by simpa using c1)
    try (have d2 : (c == 45) = false := by simpa using c2)
    try (have d3 : (c == 42) = false := by simpa using c3)
    try subst c1
    try subst c2
    try subst c3
    try simp at ho
    subst ho)
  all_goals (
    go_enter Tryz.func248, Tryz.ntmps248
    go_wp2_with fail
    generalize ((w.alloc (.cells #[.int .i64 k, .int .i64 n, .string s] 24)).alloc (.cells #[.int .i64 k', .int .i64 n', .string s'] 24)).alloc (.cells #[.int .i64 0, .int .i64 0, .string ⟨#[]⟩] 24) = W0 at *
    repeat (first | refine (isNumber_any _ _ _ _).mono ?_ | refine (int_any _ _).mono ?_ | refine (product_any _ _ _ q0 q1 p0 p1).mono ?_ | refine (null_any _).mono ?_
            rintro e w1 ⟨rfl, hb⟩
            replace T := T.next hb
            clear hb
            have ⟨a0, a1, a2, a3, a4, a5, a6⟩ := T.p
            have ⟨b0, b1, b2, b3, b4, b5, b6⟩ := T.q
            have ⟨r0, r1, r2, r3, r4, r5, r6⟩ := T.r
            try simp only [h1, h2]
            go_wp2_with fail)
    have HB := T.b
    first | exact bodyPost_ret (v := .agg #[.int .i64 1, .int .i64 0, .string ⟨#[]⟩]) (by simp [results, Tryz.results248, go_sem, r1, r2, r3]) rfl ⟨rfl, below_set3 HB (by omega)⟩ | exact bodyPost_ret (v := .agg #[.int .i64 (intK (n + n')), .int .i64 (intN (n + n')), .string ⟨#[]⟩]) (by simp [results, Tryz.results248, go_sem, r1, r2, r3]) rfl ⟨rfl, below_set3 HB (by omega)⟩ | exact bodyPost_ret (v := .agg #[.int .i64 (intK (n - n')), .int .i64 (intN (n - n')), .string ⟨#[]⟩]) (by simp [results, Tryz.results248, go_sem, r1, r2, r3]) rfl ⟨rfl, below_set3 HB (by omega)⟩ | exact bodyPost_ret (v := .agg #[.int .i64 (intK (n * n')), .int .i64 (intN (n * n')), .string ⟨#[]⟩]) (by simp [results, Tryz.results248, go_sem, r1, r2, r3]) rfl ⟨rfl, below_set3 HB (by omega)⟩)
def joinB (k:Int) (s:ByteArray) (k':Int) (s':ByteArray):Bool:=k == 4 && (k' == 4 && decide (s.size+s'.size≤60))
def joinK (k:Int) (s:ByteArray) (k':Int) (s':ByteArray):Int:=if joinB k s k' s' then 4 else 1
def joinS (k:Int) (s:ByteArray) (k':Int) (s':ByteArray):ByteArray:=if joinB k s k' s' then s ++ s' else ⟨#[]⟩

set_option maxHeartbeats 400000 in
theorem join_x (k n k' n':Int) (s s':ByteArray) (w:World) (h':(k != 4)=true) :
  Calls Tryz.prog 239 #[.agg #[.int .i64 k,.int .i64 n,.string s],.agg #[.int .i64 k',.int .i64 n',.string s']] w fun e w'=>e = .returned (.agg #[.int .i64 1,.int .i64 0,.string ⟨#[]⟩])∧Below w.heap.size w w':=by
 have A0:=((Box.new w (.int .i64 k) (.int .i64 n) (.string s) 24).alloc (.cells #[.int .i64 k',.int .i64 n',.string s'] 24)).alloc (.cells #[.int .i64 0,.int .i64 0,.string ⟨#[]⟩] 24);have B0:=(Box.new (w.alloc (.cells #[.int .i64 k,.int .i64 n,.string s] 24)) (.int .i64 k') (.int .i64 n') (.string s') 24).alloc (.cells #[.int .i64 0,.int .i64 0,.string ⟨#[]⟩] 24);have R0:=Box.new ((w.alloc (.cells #[.int .i64 k,.int .i64 n,.string s] 24)).alloc (.cells #[.int .i64 k',.int .i64 n',.string s'] 24)) (.int .i64 0) (.int .i64 0) (.string ⟨#[]⟩) 24;simp only [World.size_alloc] at B0 R0
 go_enter Tryz.func239,Tryz.ntmps239;go_wp2_with fail
 refine (null_any _).mono ?_;rintro e w1 ⟨rfl,hb1⟩;have A1:=A0.next hb1;have B1:=B0.next hb1;have R1:=R0.next hb1;have ⟨a0,a1,a2,a3,a4,a5,a6⟩:=A1;have ⟨b0,b1,b2,b3,b4,b5,b6⟩:=B1;have ⟨r0,r1,r2,r3,r4,r5,r6⟩:=R1;go_wp2_with fail
 have z1:=hb1.size;simp at z1;exact bodyPost_ret (v:=.agg #[.int .i64 1,.int .i64 0,.string ⟨#[]⟩]) (by simp [results,Tryz.results239,go_sem,r1,r2,r3]) rfl ⟨rfl,below_set3 (below3 hb1) (by omega)⟩
set_option maxHeartbeats 400000 in
theorem join_y (k n k' n':Int) (s s':ByteArray) (w:World) (e:k=4) (h':(k' != 4)=true) :
  Calls Tryz.prog 239 #[.agg #[.int .i64 k,.int .i64 n,.string s],.agg #[.int .i64 k',.int .i64 n',.string s']] w fun e w'=>e = .returned (.agg #[.int .i64 1,.int .i64 0,.string ⟨#[]⟩])∧Below w.heap.size w w':=by
 subst e;have A0:=((Box.new w (.int .i64 4) (.int .i64 n) (.string s) 24).alloc (.cells #[.int .i64 k',.int .i64 n',.string s'] 24)).alloc (.cells #[.int .i64 0,.int .i64 0,.string ⟨#[]⟩] 24);have B0:=(Box.new (w.alloc (.cells #[.int .i64 4,.int .i64 n,.string s] 24)) (.int .i64 k') (.int .i64 n') (.string s') 24).alloc (.cells #[.int .i64 0,.int .i64 0,.string ⟨#[]⟩] 24);have R0:=Box.new ((w.alloc (.cells #[.int .i64 4,.int .i64 n,.string s] 24)).alloc (.cells #[.int .i64 k',.int .i64 n',.string s'] 24)) (.int .i64 0) (.int .i64 0) (.string ⟨#[]⟩) 24;simp only [World.size_alloc] at B0 R0
 go_enter Tryz.func239,Tryz.ntmps239;go_wp2_with fail
 refine (null_any _).mono ?_;rintro e w1 ⟨rfl,hb1⟩;have A1:=A0.next hb1;have B1:=B0.next hb1;have R1:=R0.next hb1;have ⟨a0,a1,a2,a3,a4,a5,a6⟩:=A1;have ⟨b0,b1,b2,b3,b4,b5,b6⟩:=B1;have ⟨r0,r1,r2,r3,r4,r5,r6⟩:=R1;go_wp2_with fail
 have z1:=hb1.size;simp at z1;exact bodyPost_ret (v:=.agg #[.int .i64 1,.int .i64 0,.string ⟨#[]⟩]) (by simp [results,Tryz.results239,go_sem,r1,r2,r3]) rfl ⟨rfl,below_set3 (below3 hb1) (by omega)⟩
set_option maxHeartbeats 400000 in
theorem join_z (k n k' n':Int) (s s':ByteArray) (w:World) (e:k=4) (e':k'=4) (z1:s.size≤60) (z2:s'.size≤60) (h:60<s.size+s'.size) :
  Calls Tryz.prog 239 #[.agg #[.int .i64 k,.int .i64 n,.string s],.agg #[.int .i64 k',.int .i64 n',.string s']] w fun e w'=>e = .returned (.agg #[.int .i64 1,.int .i64 0,.string ⟨#[]⟩])∧Below w.heap.size w w':=by
 subst e;subst e';have y1:(s.size:Int)≤60:=by omega
 have y2:(s'.size:Int)≤60:=by omega
 have y3:60<(s.size:Int)+(s'.size:Int):=by omega
 have y4:¬ ((s.size:Int)+(s'.size:Int)≤60):=by omega
 have A0:=((Box.new w (.int .i64 4) (.int .i64 n) (.string s) 24).alloc (.cells #[.int .i64 4,.int .i64 n',.string s'] 24)).alloc (.cells #[.int .i64 0,.int .i64 0,.string ⟨#[]⟩] 24);have B0:=(Box.new (w.alloc (.cells #[.int .i64 4,.int .i64 n,.string s] 24)) (.int .i64 4) (.int .i64 n') (.string s') 24).alloc (.cells #[.int .i64 0,.int .i64 0,.string ⟨#[]⟩] 24);have R0:=Box.new ((w.alloc (.cells #[.int .i64 4,.int .i64 n,.string s] 24)).alloc (.cells #[.int .i64 4,.int .i64 n',.string s'] 24)) (.int .i64 0) (.int .i64 0) (.string ⟨#[]⟩) 24;simp only [World.size_alloc] at B0 R0
 go_enter Tryz.func239,Tryz.ntmps239;go_wp2_with fail
 refine (null_any _).mono ?_;rintro e w1 ⟨rfl,hb1⟩;have A1:=A0.next hb1;have B1:=B0.next hb1;have R1:=R0.next hb1;have ⟨a0,a1,a2,a3,a4,a5,a6⟩:=A1;have ⟨b0,b1,b2,b3,b4,b5,b6⟩:=B1;have ⟨r0,r1,r2,r3,r4,r5,r6⟩:=R1;go_wp2_with fail
 have z1:=hb1.size;simp at z1;exact bodyPost_ret (v:=.agg #[.int .i64 1,.int .i64 0,.string ⟨#[]⟩]) (by simp [results,Tryz.results239,go_sem,r1,r2,r3]) rfl ⟨rfl,below_set3 (below3 hb1) (by omega)⟩
set_option maxHeartbeats 400000 in
theorem join_j (k n k' n':Int) (s s':ByteArray) (w:World) (e:k=4) (e':k'=4) (z1:s.size≤60) (z2:s'.size≤60) (h:s.size+s'.size≤60) :
  Calls Tryz.prog 239 #[.agg #[.int .i64 k,.int .i64 n,.string s],.agg #[.int .i64 k',.int .i64 n',.string s']] w fun e w'=>e = .returned (.agg #[.int .i64 4,.int .i64 0,.string (s ++ s')])∧Below w.heap.size w w':=by
 subst e;subst e';have y1:(s.size:Int)≤60:=by omega
 have y2:(s'.size:Int)≤60:=by omega
 have y3:¬ 60<(s.size:Int)+(s'.size:Int):=by omega
 have y4:(s.size:Int)+(s'.size:Int)≤60:=by omega
 go_enter Tryz.func239,Tryz.ntmps239;go_wp2
 exact bodyPost_ret (v:=.agg #[.int .i64 4,.int .i64 0,.string (s ++ s')]) (by simp [results,Tryz.results239,go_sem]) rfl ⟨rfl,(((Below.refl _ _).alloc (Nat.le_refl _) _).alloc (by simp) _).alloc (by simp; omega) _⟩
theorem join_any (k n k' n':Int) (s s':ByteArray) (w:World) (z:k=4→s.size≤60) (z':k'=4→s'.size≤60) :
  Calls Tryz.prog 239 #[.agg #[.int .i64 k,.int .i64 n,.string s],.agg #[.int .i64 k',.int .i64 n',.string s']] w fun e w'=>e = .returned (.agg #[.int .i64 (joinK k s k' s'),.int .i64 0,.string (joinS k s k' s')])∧Below w.heap.size w w':=by
 by_cases h:k=4
 ·by_cases h':k'=4
  ·by_cases hs:s.size+s'.size≤60
   ·have e:joinB k s k' s'=true:=by simp [joinB,h,h',hs]
    have e1:joinK k s k' s'=4:=by simp [joinK,e]
    have e2:joinS k s k' s'=s ++ s':=by simp [joinS,e]
    rw [e1,e2]; exact join_j k n k' n' s s' w h h' (z h) (z' h') hs
   ·have e:joinB k s k' s'=false:=by simp [joinB,hs]
    have e1:joinK k s k' s'=1:=by simp [joinK,e]
    have e2:joinS k s k' s'=⟨#[]⟩:=by simp [joinS,e]
    rw [e1,e2]; exact join_z k n k' n' s s' w h h' (z h) (z' h') (by omega)
  ·have e:joinB k s k' s'=false:=by simp [joinB,h']
   have e1:joinK k s k' s'=1:=by simp [joinK,e]
   have e2:joinS k s k' s'=⟨#[]⟩:=by simp [joinS,e]
   rw [e1,e2]; exact join_y k n k' n' s s' w h (by simpa using h')
 ·have e:joinB k s k' s'=false:=by simp [joinB,h]
  have e1:joinK k s k' s'=1:=by simp [joinK,e]
  have e2:joinS k s k' s'=⟨#[]⟩:=by simp [joinS,e]
  rw [e1,e2]; exact join_x k n k' n' s s' w (by simpa using h)
end Go.Proofs.YtohjlfhmnmcndaaGreat
namespace Go.Proofs.YtohjlfhmnmcndaaGreat

def tri (o:Option Bool):Vl:=(tk o,tn o,⟨#[]⟩)
def clsP (v:Vl):Option Bool:=cls v.1 v.2.1
def andP (a b:Vl):Vl:=tri (and3 (clsP a) (clsP b))
def orP (a b:Vl):Vl:=tri (or3 (clsP a) (clsP b))
def notP (a:Vl):Vl:=tri (not3 (clsP a))
def eqP (a b:Vl):Vl:=tri (eqT a.1 a.2.1 a.2.2 b.1 b.2.1 b.2.2)
def ltP (a b:Vl):Vl:=tri (ltT a.1 a.2.1 a.2.2 b.1 b.2.1 b.2.2)
def recP (c:Int) (a b:Vl):Vl:=(optK (recO c a.1 a.2.1 b.1 b.2.1),optN (recO c a.1 a.2.1 b.1 b.2.1),⟨#[]⟩)
def joinP (a b:Vl):Vl:=(joinK a.1 a.2.2 b.1 b.2.2,0,joinS a.1 a.2.2 b.1 b.2.2)
def coalP (a b:Vl):Vl:=if a.1=1 then b else a
def vl0:Vl:=(0,0,⟨#[]⟩)
/-- What a kind of two kids makes of what they come to. -/
def twoP (k:Int) (a b:Vl):Vl :=
 if k=4 then andP a b else if k=5 then orP a b else if k=6 then eqP a b else if k=7 then notP (eqP a b)
 else if k=8 then ltP a b else if k=11 then notP (ltP a b) else if k=10 then ltP b a else if k=9 then notP (ltP b a)
 else if k=12 then recP 43 a b else if k=13 then recP 45 a b else if k=14 then recP 42 a b else if k=15 then joinP a b else coalP a b
def nodeV (row:List Vl) (k:Int) (v:Vl) (c:Int) (us:List Vl):Vl :=
 if k=1 then bareP v else if k=2 then bareP (row.getD c.toNat vl0) else if k=3 then notP (us.getD 0 vl0)
 else if k=16 then tri (some ((us.getD 0 vl0).1 == 1))
 else if k=17 then (if clsP (us.getD 0 vl0) == some true then us.getD 1 vl0 else us.getD 2 vl0)
 else twoP k (us.getD 0 vl0) (us.getD 1 vl0)
mutual
def valX (row:List Vl):Ex→Vl | .mk k v c ks=>nodeV row k v c (valsX row ks)
def valsX (row:List Vl):List Ex→List Vl | []=>[] | x :: r=>valX row x :: valsX row r
end
theorem valsX_map (row:List Vl):∀ ks,valsX row ks=ks.map (valX row)
 | []=>rfl
 | x :: r=>by rw [valsX,valsX_map row r]; rfl

/-! Right values. -/
theorem wrong_tri (o:Option Bool):wrongP (tri o)=0:=by rcases o with _ | _ | _ <;> rfl
theorem kind_tri (o:Option Bool):(tri o).1=1∨(tri o).1=2:=by rcases o with _ | _ <;> simp [tri,tk]
theorem wrong_bareX (v:Vl):wrongP (bareP v)=wrongP v:=by
 obtain ⟨k,n,s⟩:=v;unfold wrongP bareP wrongF bareN bareS;by_cases h1:k=1
 ·simp [h1]
 by_cases h2:k=2
 ·simp [h2]
 by_cases h3:k=3
 ·simp [h3]
 by_cases h4:k=4
 ·simp [h4]
 simp [h1,h2,h3,h4]
theorem wrong_rec (c:Int) (a b:Vl):wrongP (recP c a b)=0∧((recP c a b).1=1∨(recP c a b).1=3):=by
 unfold recP wrongP;rcases recO c a.1 a.2.1 b.1 b.2.1 with _ | x
 ·simp [optK,wrongF]
 ·by_cases h:inB x=true
  ·have h':=h;simp only [inB,Bool.and_eq_true,decide_eq_true_eq] at h';simp [optK,optN,intK,intN,h,wrongF,h']
  ·simp [optK,intK,h,wrongF]
theorem wrong_join (a b:Vl):wrongP (joinP a b)=0∧((joinP a b).1=1∨(joinP a b).1=4):=by
 unfold joinP wrongP joinK joinS;by_cases h:joinB a.1 a.2.2 b.1 b.2.2=true
 ·have h':=h;simp only [joinB,Bool.and_eq_true,decide_eq_true_eq] at h';simp [h,wrongF,h']
 ·simp [h,wrongF]
theorem two_cmp {k:Int} (h:6≤k) (h':k≤11) (a b:Vl):∃ o,twoP k a b=tri o:=by
 obtain rfl | rfl | rfl | rfl | rfl | rfl:k=6∨k=7∨k=8∨k=9∨k=10∨k=11:=by omega
 all_goals exact ⟨_,rfl⟩
theorem two_rec {k:Int} (h:12≤k) (h':k≤14) (a b:Vl):∃ c,twoP k a b=recP c a b:=by
 obtain rfl | rfl | rfl:k=12∨k=13∨k=14:=by omega
 all_goals exact ⟨_,rfl⟩
theorem two_coal {k:Int} (h:k<4∨15<k) (a b:Vl):twoP k a b=coalP a b:=by
 unfold twoP;rw [if_neg (by omega),if_neg (by omega),if_neg (by omega),if_neg (by omega),if_neg (by omega),if_neg (by omega),if_neg (by omega),if_neg (by omega),if_neg (by omega),if_neg (by omega),if_neg (by omega),if_neg (by omega)]
def fitsG:List Int→List Vl→Int
 | c :: cs,v :: vs=>if wrongP v≠0 then wrongP v else if v.1≠1∧v.1≠c then 9 else fitsG cs vs
 | _,_=>0
def fitsL (cols:List Int) (row:List Vl):Int:=if row.length≠cols.length then 8 else fitsG cols row
theorem fitsG_ok:∀ (cols:List Int) (row:List Vl),row.length=cols.length→(fitsG cols row=0↔∀ i (h:i<row.length),wrongP row[i]=0∧(row[i].1=1∨row[i].1=cols.getD i 0))
 | [],[],_=>by simp [fitsG]
 | [],_ :: _,h=>by simp at h
 | _ :: _,[],h=>by simp at h
 | c :: cs,v :: vs,h=>by
  have ih:=fitsG_ok cs vs (by simpa using h)
  rw [fitsG]
  by_cases h1:wrongP v=0
  ·rw [if_neg (by simp [h1])]
   by_cases h2:v.1≠1∧v.1≠c
   ·rw [if_pos h2]
    simp only [show ¬ (9:Int)=0 by decide,false_iff]
    intro hh
    have:=(hh 0 (by simp)).2
    simp at this
    omega
   ·rw [if_neg h2,ih]
    constructor
    ·intro hh i hi
     match i,hi with
     | 0,_ =>
      refine ⟨h1,?_⟩
      simp
      omega
     | i+1,hi =>
      have:=hh i (by simpa using hi)
      simpa using this
    ·intro hh i hi
     have:=hh (i+1) (by simpa using hi)
     simpa using this
  ·rw [if_pos h1]
   constructor
   ·intro hh; exact absurd hh h1
   ·intro hh; exact absurd (hh 0 (by simp)).1 h1
structure FitP (cols:List Int) (row:List Vl):Prop where
 len:row.length=cols.length
 one:∀ i (h:i<row.length),wrongP row[i]=0∧(row[i].1=1∨row[i].1=cols.getD i 0)
theorem fitsL_ok (cols:List Int) (row:List Vl):fitsL cols row=0↔FitP cols row:=by
 unfold fitsL;by_cases h:row.length=cols.length
 ·rw [if_neg (by simp [h]),fitsG_ok cols row h];exact ⟨fun k=>⟨h,k⟩,fun k=>k.2⟩
 ·rw [if_pos h];simp only [show ¬ (8:Int)=0 by decide,false_iff];exact fun k=>h k.1
/-! What has a type goes not wrong. -/
theorem tog_some {a b t:Int} (h:tog a b=some t):(a=1∧t=b)∨(b=1∧t=a)∨(a=t∧b=t):=by
 unfold tog at h
 split at h
 ·rename_i h1; rcases h1 with h1 | h1
  ·right; right; simp at h; omega
  ·right; left; simp at h; omega
 ·split at h
  ·left; simp at h; omega
  ·simp at h
theorem allO_some {t u:Int} {ts:List Int} (h:allO t ts=some u):u=t:=by
 unfold allO at h
 split at h
 ·simpa using h.symm
 ·simp at h
theorem typsP_len {cols:List Int}:∀ {ks:List Ex} {ts:List Int},typsP cols ks=some ts→ts.length=ks.length
 | [],ts,h=>by simp [typsP] at h; simp [h]
 | x :: r,ts,h=>by
  rw [typsP,Option.bind_eq_some_iff] at h
  obtain ⟨t,_,h⟩:=h
  rw [Option.map_eq_some_iff] at h
  obtain ⟨us,h,rfl⟩:=h
  simp [typsP_len h]
theorem typsP_at {cols:List Int}:∀ {ks:List Ex} {ts:List Int},typsP cols ks=some ts→∀ (i:Nat) (h:i<ks.length),typP cols ks[i]=some (ts.getD i 0)
 | [],ts,_=>by intro i h; simp at h
 | x :: r,ts,h=>by
  rw [typsP,Option.bind_eq_some_iff] at h
  obtain ⟨t,h0,h⟩:=h
  rw [Option.map_eq_some_iff] at h
  obtain ⟨us,h,rfl⟩:=h
  intro i hi
  match i,hi with
  | 0,_=>simpa using h0
  | i+1,hi=>simpa using typsP_at h i (by simpa using hi)
/-- What a typed node is. -/
theorem typP_node {cols:List Int} {k:Int} {v:Vl} {c:Int} {ks:List Ex} {t:Int} (h:typP cols (.mk k v c ks)=some t) :
  1≤k∧k≤18∧ks.length=kidsN k∧∃ ts,typsP cols ks=some ts∧nodeT cols k v c ts=(t,0):=by
 rw [typP] at h
 split at h
 ·simp at h
 ·rename_i hk
  rw [Option.bind_eq_some_iff] at h;obtain ⟨ts,h1,h2⟩:=h
  split at h2
  ·rename_i h3
   refine ⟨by omega,by omega,by omega,ts,h1,?_⟩;simp at h2;exact Prod.ext h2 h3
  ·simp at h2
theorem litT_ok {v:Vl} {t:Int} (h:litT v=(t,0)):wrongP v=0∧v.1=t:=by
 unfold litT at h
 split at h
 ·rename_i hw; simp at h; exact ⟨hw,h⟩
 ·rename_i hw; simp at h; exact absurd h.2 hw
theorem colT_ok {cols:List Int} {c t:Int} (h:colT cols c=(t,0)):0≤c∧c.toNat<cols.length∧cols.getD c.toNat 0=t:=by
 unfold colT at h
 split at h
 ·simp at h
 ·rename_i hc
  simp only [Prod.mk.injEq,and_true] at h;exact ⟨by omega,by omega,h⟩
theorem resT_ok {o:Option Int} {t:Int} (h:resT o=(t,0)):o=some t:=by
 cases o with
 | none=>simp [resT] at h
 | some u=>simp [resT] at h; rw [h]
/-- One value of a type, or not known; and right. -/
def Of (t:Int) (u:Vl):Prop:=wrongP u=0∧(u.1=1∨u.1=t)
theorem of_tri (o:Option Bool):Of 2 (tri o):=⟨wrong_tri o,kind_tri o⟩
theorem of_tog1 {a b t:Int} {u:Vl} (h:tog a b=some t) (hu:Of a u):Of t u:=by
 refine ⟨hu.1,?_⟩;rcases tog_some h with ⟨q,rfl⟩ | ⟨_,rfl⟩ | ⟨rfl,_⟩
 ·left; rcases hu.2 with e | e <;> omega
 ·exact hu.2
 ·exact hu.2
theorem of_tog2 {a b t:Int} {u:Vl} (h:tog a b=some t) (hu:Of b u):Of t u:=by
 refine ⟨hu.1,?_⟩;rcases tog_some h with ⟨_,rfl⟩ | ⟨q,rfl⟩ | ⟨_,rfl⟩
 ·exact hu.2
 ·left; rcases hu.2 with e | e <;> omega
 ·exact hu.2
theorem valX_of {cols:List Int} {row:List Vl} (hf:FitP cols row):∀ x t,typP cols x=some t→Of t (valX row x):=by
 refine Ex.ind fun k v c ks ih t h=>?_
 obtain ⟨h1,h18,hl,ts,hts,hn⟩:=typP_node h;have hlen:=typsP_len hts;have hkid:∀ i (hi:i<ks.length),Of (ts.getD i 0) ((valsX row ks).getD i vl0):=by
  intro i hi;have:=ih ks[i] (List.getElem_mem _) _ (typsP_at hts i hi);rw [valsX_map]
  simpa [List.getD,hi] using this
 rw [valX];generalize valsX row ks=us at hkid;unfold nodeT at hn;unfold nodeV
 split at hn
 ·rename_i hk
  rw [if_pos hk];obtain ⟨q1,q2⟩:=litT_ok hn;exact ⟨(wrong_bareX v).trans q1,.inr q2⟩
 rename_i hk1
 rw [if_neg hk1]
 split at hn
 ·rename_i hk
  rw [if_pos hk];obtain ⟨q0,q1,q2⟩:=colT_ok hn;have hl':=hf.len;have:=hf.one c.toNat (by omega);rw [q2] at this;have e:row.getD c.toNat vl0=row[c.toNat]'(by omega):=by simp [List.getD,show c.toNat<row.length by omega]
  rw [e];exact ⟨(wrong_bareX _).trans this.1,this.2⟩
 rename_i hk2
 rw [if_neg hk2];have hn:=resT_ok hn;unfold kidsT at hn;have l2:k≠3→k≠16→k≠17→ks.length=2:=by
  intro h3 h16 h17;rw [hl]; unfold kidsN;rw [if_neg (by omega),if_neg (by omega),if_neg h17]
 by_cases hk3:k=3
 ·rw [if_pos hk3];rw [if_pos (by omega)] at hn;rw [allO_some hn];exact of_tri _
 rw [if_neg hk3];by_cases hk16:k=16
 ·rw [if_pos hk16];subst hk16;simp at hn;rw [← hn];exact of_tri _
 rw [if_neg hk16];by_cases hk17:k=17
 ·rw [if_pos hk17];subst hk17;have l3:ks.length=3:=hl;simp only [show ¬ ((17:Int)=3∨(17:Int)=4∨(17:Int)=5) by decide,show ¬ (6≤(17:Int)∧(17:Int)≤11) by decide,show ¬ ((17:Int)=12∨(17:Int)=13∨(17:Int)=14) by decide,show ¬ (17:Int)=15 by decide,show ¬ (17:Int)=16 by decide,if_false,if_true] at hn
  split at hn
  ·split
   ·exact of_tog1 hn (hkid 1 (by omega))
   ·exact of_tog2 hn (hkid 2 (by omega))
  ·simp at hn
 rw [if_neg hk17];have l2:=l2 hk3 hk16 hk17;have k0:=hkid 0 (by omega);have k1:=hkid 1 (by omega);by_cases b4:k=4
 ·rw [if_pos (by omega)] at hn; rw [allO_some hn,b4]; exact of_tri _
 by_cases b5:k=5
 ·rw [if_pos (by omega)] at hn; rw [allO_some hn,b5]; exact of_tri _
 rw [if_neg (by omega)] at hn;by_cases b6:6≤k∧k≤11
 ·rw [if_pos b6] at hn;have ht:t=2:=by
   split at hn <;> simp at hn; exact hn.symm
  subst ht;obtain ⟨o,e⟩:=two_cmp b6.1 b6.2 (us.getD 0 vl0) (us.getD 1 vl0);rw [e];exact of_tri _
 rw [if_neg b6] at hn;by_cases b12:k=12∨k=13∨k=14
 ·rw [if_pos b12] at hn;have ht:=allO_some hn;subst ht;obtain ⟨o,e⟩:=two_rec (by omega) (by omega) (us.getD 0 vl0) (us.getD 1 vl0) (k:=k);rw [e];exact wrong_rec _ _ _
 rw [if_neg b12] at hn;by_cases b15:k=15
 ·rw [if_pos b15] at hn;have ht:=allO_some hn;subst ht;rw [b15];exact wrong_join _ _
 rw [if_neg b15,if_neg hk16,if_neg hk17] at hn;rw [two_coal (by omega)];unfold coalP
 split
 ·exact of_tog2 hn k1
 ·exact of_tog1 hn k0
end Go.Proofs.YtohjlfhmnmcndaaGreat
namespace Go.Proofs.YtohjlfhmnmcndaaGreat
open Go.RowKit

theorem wrong_text {v:Vl} (h:wrongP v=0):v.1=4→v.2.2.size≤60:=by
 obtain ⟨k,n,s⟩:=v;intro e;simp only at e;subst e;unfold wrongP wrongF at h;simp at h;exact h
/-- All blocks from lo on are as they were. -/
def Since (lo:Nat) (w W:World):Prop:=w.heap.size≤W.heap.size∧∀ k,lo≤k→k<w.heap.size→W.heap[k]? = w.heap[k]?
theorem Since.refl (lo:Nat) (w:World):Since lo w w:=⟨Nat.le_refl _,fun _ _ _=>rfl⟩
theorem Since.trans {lo:Nat} {a b c:World} (h:Since lo a b) (k:Since lo b c):Since lo a c :=
 ⟨Nat.le_trans h.1 k.1,fun i hi hl=>(k.2 i hi (Nat.lt_of_lt_of_le hl h.1)).trans (h.2 i hi hl)⟩
theorem Since.of {lo:Nat} {w W:World} (h:Below w.heap.size w W):Since lo w W:=⟨h.size,fun k _ hk=>h.block k hk⟩
theorem Since.up {lo lo':Nat} {w W:World} (h:Since lo w W) (hl:lo≤lo'):Since lo' w W:=⟨h.1,fun k hk=>h.2 k (Nat.le_trans hl hk)⟩
theorem Since.cell {lo:Nat} {w W:World} (h:Since lo w W) {p:Addr} (h1:lo≤p.block) (h2:p.block<w.heap.size):W.cell? p=w.cell? p:=World.cell?_of_block (w:=w) (h.2 p.block h1 h2)
theorem Since.set {lo:Nat} {w W:World} (h:Since lo w W) (g o:Nat) (u:Value) (hg:g<lo):Since lo w (W.setCell ⟨g,o,none⟩ u) :=
 ⟨by simpa using h.1,fun k hk hl=>(Below.heap_setCell W ⟨g,o,none⟩ u k (by show k≠g; omega)).trans (h.2 k hk hl)⟩
/-- A function value makes f of two right values, as long as all from lo on is as it was. -/
def Fn2 (lo:Nat) (u:Value) (f:Vl→Vl→Vl) (w:World):Prop :=
 ∃ g cb,u = .func (.func g) #[] cb∧(∀ args w,(callFunc g args).run Tryz.prog w = .ok (.enter g args) w) ∧
  ∀ (p q:Vl) (W:World),wrongP p=0→wrongP q=0→Since lo w W→Calls Tryz.prog g (#[agV p,agV q] ++ cb) W fun e w'=>e = .returned (agV (f p q))∧Below W.heap.size W w'
theorem Fn2.next {lo:Nat} {u:Value} {f:Vl→Vl→Vl} {w w1:World} (h:Fn2 lo u f w) (hb:Since lo w w1):Fn2 lo u f w1:=by
 obtain ⟨g,cb,e,eg,hd⟩:=h;exact ⟨g,cb,e,eg,fun p q W hp hq hW=>hd p q W hp hq (hb.trans hW)⟩
theorem fn_and (lo:Nat) (w:World):Fn2 lo (.func (.func 232) #[] #[]) andP w :=
 ⟨232,#[],rfl,enters_of Tryz.func232 (by kernel_rfl) rfl,fun p q W _ _ _=>by rw [Array.append_empty]; exact and_any p.1 p.2.1 q.1 q.2.1 p.2.2 q.2.2 W⟩
theorem fn_or (lo:Nat) (w:World):Fn2 lo (.func (.func 233) #[] #[]) orP w :=
 ⟨233,#[],rfl,enters_of Tryz.func233 (by kernel_rfl) rfl,fun p q W _ _ _=>by rw [Array.append_empty]; exact or_any p.1 p.2.1 q.1 q.2.1 p.2.2 q.2.2 W⟩
theorem fn_eq (lo:Nat) (w:World):Fn2 lo (.func (.func 234) #[] #[]) eqP w :=
 ⟨234,#[],rfl,enters_of Tryz.func234 (by kernel_rfl) rfl,fun p q W _ _ _=>by rw [Array.append_empty]; exact equal_any p.1 p.2.1 q.1 q.2.1 p.2.2 q.2.2 W⟩
theorem fn_lt (lo:Nat) (w:World):Fn2 lo (.func (.func 236) #[] #[]) ltP w :=
 ⟨236,#[],rfl,enters_of Tryz.func236 (by kernel_rfl) rfl,fun p q W _ _ _=>by rw [Array.append_empty]; exact less_any p.1 p.2.1 q.1 q.2.1 p.2.2 q.2.2 W⟩
theorem fn_join (lo:Nat) (w:World):Fn2 lo (.func (.func 239) #[] #[]) joinP w :=
 ⟨239,#[],rfl,enters_of Tryz.func239 (by kernel_rfl) rfl,fun p q W hp hq _=>by rw [Array.append_empty]; exact join_any p.1 p.2.1 q.1 q.2.1 p.2.2 q.2.2 W (wrong_text hp) (wrong_text hq)⟩

set_option maxHeartbeats 800000 in
theorem first_at (p q:Vl) (w:World):Calls Tryz.prog 240 #[agV p,agV q] w fun e w'=>e = .returned (agV (coalP p q))∧Below w.heap.size w w':=by
 obtain ⟨k,n,s⟩:=p;obtain ⟨k',n',s'⟩:=q;by_cases h:k=1
 ·subst h;have e:coalP (1,n,s) (k',n',s')=(k',n',s'):=rfl;rw [e];go_enter Tryz.func240,Tryz.ntmps240;go_wp2_with fail
  have A0:=((Box.new w (.int .i64 1) (.int .i64 n) (.string s) 24).alloc (.cells #[.int .i64 k',.int .i64 n',.string s'] 24)).alloc (.cells #[.int .i64 0,.int .i64 0,.string ⟨#[]⟩] 24);have B0:=(Box.new (w.alloc (.cells #[.int .i64 1,.int .i64 n,.string s] 24)) (.int .i64 k') (.int .i64 n') (.string s') 24).alloc (.cells #[.int .i64 0,.int .i64 0,.string ⟨#[]⟩] 24);have R0:=Box.new ((w.alloc (.cells #[.int .i64 1,.int .i64 n,.string s] 24)).alloc (.cells #[.int .i64 k',.int .i64 n',.string s'] 24)) (.int .i64 0) (.int .i64 0) (.string ⟨#[]⟩) 24;simp only [World.size_alloc] at B0 R0
  refine (isNull_at _ _ _ _).mono ?_;rintro e w1 ⟨rfl,hb1⟩;have ⟨b0,b1,b2,b3,b4,b5,b6⟩:=B0.next hb1;have ⟨r0,r1,r2,r3,r4,r5,r6⟩:=R0.next hb1;have z1:=hb1.size;simp at z1;go_wp2
  exact bodyPost_ret (v:=.agg #[.int .i64 k',.int .i64 n',.string s']) (by simp [results,Tryz.results240,go_sem,r1,r2,r3]) rfl ⟨rfl,below_set3 (below3 hb1) (by omega)⟩
 ·have e:coalP (k,n,s) (k',n',s')=(k,n,s):=by simp [coalP,h]
  rw [e];have q1:(k == 1)=false:=by simpa using h
  go_enter Tryz.func240,Tryz.ntmps240;go_wp2_with fail
  have A0:=((Box.new w (.int .i64 k) (.int .i64 n) (.string s) 24).alloc (.cells #[.int .i64 k',.int .i64 n',.string s'] 24)).alloc (.cells #[.int .i64 0,.int .i64 0,.string ⟨#[]⟩] 24);have R0:=Box.new ((w.alloc (.cells #[.int .i64 k,.int .i64 n,.string s] 24)).alloc (.cells #[.int .i64 k',.int .i64 n',.string s'] 24)) (.int .i64 0) (.int .i64 0) (.string ⟨#[]⟩) 24;simp only [World.size_alloc] at R0;refine (isNull_at _ _ _ _).mono ?_;rintro e w1 ⟨rfl,hb1⟩;rw [q1];have ⟨b0,b1,b2,b3,b4,b5,b6⟩:=A0.next hb1;have ⟨r0,r1,r2,r3,r4,r5,r6⟩:=R0.next hb1;have z1:=hb1.size;simp at z1;go_wp2
  exact bodyPost_ret (v:=.agg #[.int .i64 k,.int .i64 n,.string s]) (by simp [results,Tryz.results240,go_sem,r1,r2,r3]) rfl ⟨rfl,below_set3 (below3 hb1) (by omega)⟩
theorem fn_coal (lo:Nat) (w:World):Fn2 lo (.func (.func 240) #[] #[]) coalP w :=
 ⟨240,#[],rfl,enters_of Tryz.func240 (by kernel_rfl) rfl,fun p q W _ _ _=>by rw [Array.append_empty]; exact first_at p q W⟩
end Go.Proofs.YtohjlfhmnmcndaaGreat
