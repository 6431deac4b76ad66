/- Together: RTe, RTf, RTg, DT, DU, RTh, RTi, JO5, JO6. -/
import Derived.Lib.ItoaLen
import Derived.Laws.IdiomStrings
import Derived.Lib.BufferRead
import Derived.Test.YtoknmnngaackkaaGreatDoorJQ11
import Derived.Test.YtoknmnngaackkaaGreatDoorJQ9
namespace Go.Proofs.YtoknmnngaackkaaGreatDoor
open Go.RowKit Go.Lib Go.Shelf
set_option maxRecDepth 100000
set_option maxHeartbeats 16000000
set_option maxRecDepth 100000
set_option maxHeartbeats 4000000
theorem ij {k:Int} (hk:3≤k) (v:Vl) (t n:ByteArray) (ks:List SX):bY (.mk k v t n ks)=nd k (ks.map bY):=by
 rw [bY,if_neg (by omega),if_neg (by omega),if_neg (by omega),kV];rfl
theorem eS (k:Int) (v:Vl) (t n:ByteArray) (ks:List SX):aU (.mk k v t n ks)=gp k v t n (ks.map fun y=>(aZ y.k,aU y)):=by
 rw [aU]
 congr 1
 induction ks with
 | nil=>rw [dT]; rfl
 | cons y r ih=>rw [dT,ih]; rfl
theorem bI {a b:List ByteArray} (ha:∀ w ∈ a,GW w) (hb:∀ w ∈ b,GW w):∀ w ∈ a ++ b,GW w:=by
 intro w hw;rcases List.mem_append.1 hw with h | h
 ·exact ha w h
 ·exact hb w h
theorem bD:∀ w ∈ ([]:List ByteArray),GW w:=by intro w h; cases h
theorem aJ {a:ByteArray} {b:List ByteArray} (ha:GW a) (hb:∀ w ∈ b,GW w):∀ w ∈ a :: b,GW w:=by
 intro w hw;rcases List.mem_cons.1 hw with rfl | h
 ·exact ha
 ·exact hb w h
def BQ (w:ByteArray):Bool:=gB.contains w.data.toList || gK (((w.data.toList.headD 0).toNat:Nat):Int) && w.data.toList.all (fun c=>gd ((c.toNat:Nat):Int))
theorem ba {w:ByteArray} (h:BQ w=true):GW w:=by
 unfold BQ at h;simp only [Bool.or_eq_true,Dx,DE] at h;rcases h with h | h
 ·exact .sign (by simpa using h)
 ·exact .word h.1 fun c hc=>h.2 c hc
theorem sT {k:Int} (hi:uE k) {y z:SX} (hy:kP y) (hz:kP z):∀ w ∈ jW k (aZ y.k,aU y) (aZ z.k,aU z),GW w :=
 bI (bI (hy.gw _) (aJ (hi.yT (l:=(dS k).2.2+1) (by omega) 0 []).2.2.1 bD)) (hz.gw _)
theorem qZ {ps:List (Int × List ByteArray)} {ss:List ByteArray} (hp:∀ i,i<ps.length→∀ w ∈ en 1 (ps.getD i pd),GW w) (hs:∀ i,i≤ps.length→GW (ss.getD i eB)):∀ w ∈ dK ps ss,GW w:=by
 have:∀ n,n≤ps.length→∀ w ∈ gF ps ss n,GW w:=by
  intro n
  induction n with
  | zero=>intro _; exact bD
  | succ n ih=>intro h; exact bI (bI (ih (by omega)) (aJ (hs n (by omega)) bD)) (hp n (by omega))
 exact bI (this _ (CX _)) (aJ (hs _ (CX _)) bD)
theorem tz {L:Int} (h5:L=1∨L=2∨L=5∨L=6∨L=7) {F:Nat} {D:Int} {w:List ByteArray} {X:SX} (h:dJ L F D w X) (hw:5≤L→gC true w):nt L (F+16) D w X:=by
 rcases h5 with rfl | rfl | rfl | rfl | rfl
 ·exact (A3 h).mono (by decide) (by omega) (Dp _)
 ·exact (Bq h).mono (by decide) (by omega) (Dp _)
 ·exact (Bf h (hw (by decide))).mono (by decide) (by omega) (Dp _)
 ·exact (AT h (hw (by decide))).mono (by decide) (by omega) (Dp _)
 ·exact (Ba h (hw (by decide))).mono (by decide) (by omega) (Dp _)
theorem gO {k L:Int} (hk:4≤k∧k≤15) (hL:(dS k).2.2=L) (hlev:aZ k=L) (h5:L=1∨L=2∨L=5∨L=6∨L=7) (hb:∀ (v:Vl) (t n:ByteArray) (p q:Int × List ByteArray),gp k v t n [p,q]=jW k p q) (v:Vl) (t n:ByteArray) {y z:SX} (hy:kP y) (hz:kP z):kP (.mk k v t n [y,z]):=by
 have hi:=si hk;have eb:aU (.mk k v t n [y,z])=en L (aZ y.k,aU y) ++ [(dS k).2.1] ++ en (L+1) (aZ z.k,aU z):=by
  rw [eS];show gp k v t n [_,_]=_;rw [hb,jW,hL];unfold rG;rw [if_neg (by omega)]
 have ex:bY (.mk k v t n [y,z])=nd k [bY y,bY z]:=ij (by omega) _ _ _ _;obtain ⟨n1,n2⟩:=Ag k v t n y z;have hf:gC (decide (4≤L)) (aU (.mk k v t n [y,z])):=by
  rw [eb,Dc];exact (hy.fst L (by omega)).app _
 have hc:=tK hi hL h5 hy hz (D:=2*(dX (.mk k v t n [y,z]):Int) - 1) (by rw [n2]; push_cast; omega) (by rw [n2]; push_cast; omega);rw [← eb,← ex] at hc;refine mK (F:=100*nX y+100*nX z+2+16) (D:=2*(dX (.mk k v t n [y,z]):Int) - 1) ?_ ?_ ?_ (by rw [n1]; omega) (by omega) (by rw [n2]; push_cast; omega)
 ·show nt (aZ k) _ _ _ _;rw [hlev];exact tz h5 hc fun h=>by rw [show decide (4≤L)=true by rw [decide_eq_true_eq]; omega] at hf; exact hf
 ·show gC (decide (4≤aZ k)) _;rw [hlev]; exact hf
 ·rw [eS];show ∀ w ∈ gp k v t n [_,_],_
  rw [hb];exact sT hi hy hz
theorem yN {k:Int} (hk:4≤k∧k≤15) (hL:(dS k).2.2=4) (hlev:aZ k=4) (hb:∀ (v:Vl) (t n:ByteArray) (p q:Int × List ByteArray),gp k v t n [p,q]=jW k p q) (v:Vl) (t n:ByteArray) {y z:SX} (hy:kP y) (hz:kP z):kP (.mk k v t n [y,z]):=by
 have hi:=si hk;have eb:aU (.mk k v t n [y,z])=en 5 (aZ y.k,aU y) ++ [(dS k).2.1] ++ en 5 (aZ z.k,aU z):=by
  rw [eS];show gp k v t n [_,_]=_;rw [hb,jW,hL];rfl
 have ex:bY (.mk k v t n [y,z])=nd k [bY y,bY z]:=ij (by omega) _ _ _ _;obtain ⟨n1,n2⟩:=Ag k v t n y z;have hf:gC true (aU (.mk k v t n [y,z])):=by
  rw [eb,Dc];exact (hy.fst 5 (by omega)).app _
 have hc:=yJ hi hL hy hz (D:=2*(dX (.mk k v t n [y,z]):Int) - 1) (by rw [n2]; push_cast; omega) (by rw [n2]; push_cast; omega);rw [← eb,← ex] at hc;refine mK (F:=100*nX y+100*nX z+2+8) (D:=2*(dX (.mk k v t n [y,z]):Int) - 1) ?_ ?_ ?_ (by rw [n1]; omega) (by omega) (by rw [n2]; push_cast; omega)
 ·show nt (aZ k) _ _ _ _;rw [hlev];exact zQ hc hf
 ·show gC (decide (4≤aZ k)) _;rw [hlev]; exact hf
 ·rw [eS];show ∀ w ∈ gp k v t n [_,_],_
  rw [hb];exact sT hi hy hz
theorem gL {x:SX} {F:Nat} {D:Int} (hlev:aZ x.k=8) (hp:gj F D (aU x) (bY x)) (hf:gC true (aU x)) (hg:∀ w ∈ aU x,GW w) (hF:F+60≤100*nX x) (hD:D+1≤2*dX x) (hD0:0≤D):kP x:=by
 refine mK (F:=F+18) (D:=D) ?_ ?_ hg (by omega) hD hD0
 ·rw [hlev]; exact Bn hp hf
 ·rw [hlev]; exact hf
theorem lK {k:Int} (hk:k=20∨k=21∨k=22∨k=23) (hlev:aZ k=8) (hw:BQ (bK k fc)=true∧At true (bK k fc)=true) (hb:∀ (v:Vl) (t n:ByteArray) (p:Int × List ByteArray),gp k v t n [p] = [bK k fc] ++ dK [p] [⟨#[40]⟩,⟨#[41]⟩]) (v:Vl) (t n:ByteArray) {y:SX} (hy:kP y):kP (.mk k v t n [y]):=by
 have eb:aU (.mk k v t n [y]) = [bK k fc] ++ dK [(aZ y.k,aU y)] [⟨#[40]⟩,⟨#[41]⟩]:=by rw [eS]; exact hb _ _ _ _
 have ex:bY (.mk k v t n [y])=nd k [bY y]:=ij (by omega) _ _ _ _;obtain ⟨n1,n2⟩:=Am k v t n y;have hc:=uL hk hy (D:=2*(dX (.mk k v t n [y]):Int) - 1) (by rw [n2]; push_cast; omega);rw [← eb,← ex] at hc;refine gL hlev hc ?_ ?_ (by rw [n1]; omega) (by omega) (by rw [n2]; push_cast; omega)
 ·rw [eb]; exact gC.lit hw.2 _
 ·rw [eb];refine aJ (ba hw.1) (qZ (fun i hi=>?_) (fun i hi=>?_))
  ·match i,hi with
   | 0,_=>exact hy.gw 1
  ·match i,hi with
   | 0,_=>exact ba (by decide)
   | 1,_=>exact ba (by decide)
theorem Cd {x:SX} (h:nc x):kP x:=by
 induction h with
 | @mk k v t n ks h1 h2 h3 h4 _ ih =>
  have hk:k=1∨k=2∨k=3∨k=4∨k=5∨k=6∨k=7∨k=8∨k=9∨k=10∨k=11∨k=12∨k=13∨k=14∨k=15∨k=16∨k=17∨k=18∨k=19∨k=20∨k=21∨k=22∨k=23:=by omega
  rcases hk with rfl | rfl | rfl | rfl | rfl | rfl | rfl | rfl | rfl | rfl | rfl | rfl | rfl | rfl | rfl | rfl | rfl | rfl | rfl | rfl | rfl | rfl | rfl
  case inl =>
   obtain rfl:=xV h3;have hv:fu v=0:=h4;have eb:aU (.mk 1 v t n [])=cF v:=by rw [eS]; rfl
   obtain ⟨n1,n2⟩:=zR 1 v t n;refine gL (F:=1) (D:=0) rfl ?_ ?_ ?_ (by rw [n1]; decide) (by rw [n2]; decide) (Dp _)
   ·rw [eb,bY,if_pos rfl,if_neg (by decide),if_neg (by decide),jM];exact tV hv
   ·rw [eb]; exact ye hv
   ·rw [eb]; exact vn hv
  case inr.inl =>
   obtain rfl:=xV h3;have hq:dy (dB n) (cM t)=0:=h4;obtain ⟨q1,q2⟩:=eQ hq;have eb:aU (.mk 2 v t n [])=j1 t n:=by rw [eS]; rfl
   obtain ⟨n1,n2⟩:=zR 2 v t n;refine gL (F:=1) (D:=0) rfl ?_ ?_ ?_ (by rw [n1]; decide) (by rw [n2]; decide) (Dp _)
   ·rw [eb,bY,if_neg (by decide),if_pos rfl,if_pos rfl,jM];exact tN q1 q2
   ·rw [eb];unfold j1;rcases js q2 with rfl | ⟨e,htm⟩
    ·rw [if_pos (show eB.size=0 from rfl)]; exact gC.name (fM q1) _
    ·rw [if_neg e]; exact gC.name htm _
   ·rw [eb];unfold j1;rcases js q2 with rfl | ⟨e,htm⟩
    ·rw [if_pos (show eB.size=0 from rfl)]; exact aJ (fO (fM q1)) bD
    ·rw [if_neg e]; exact aJ (fO htm) (aJ (ba (by decide)) (aJ (fO (fM q1)) bD))
  case inr.inr.inl =>
   obtain ⟨y,rfl⟩:=ug h3;have hy:=ih y (by simp);have eb:aU (.mk 3 v t n [y]) = [⟨#[110,111,116]⟩] ++ en 3 (aZ y.k,aU y):=by rw [eS]; rfl
   have ex:bY (.mk 3 v t n [y])=nd 3 [bY y]:=ij (by decide) _ _ _ _;obtain ⟨n1,n2⟩:=Am 3 v t n y;have hc:=xU hy (D:=2*(dX (.mk 3 v t n [y]):Int) - 1) (by rw [n2]; push_cast; omega);rw [← eb,← ex] at hc;refine mK (F:=100*nX y+3+6) (D:=2*(dX (.mk 3 v t n [y]):Int) - 1) ?_ ?_ ?_ (by rw [n1]; omega) (by omega) (by rw [n2]; push_cast; omega)
   ·exact A0 hc
   ·show gC (decide ((4:Int)≤3)) _;rw [eb]; exact gC.lit (by decide) _
   ·rw [eb]; exact aJ (ba (by decide)) (hy.gw _)
  case inr.inr.inr.inl =>
   obtain ⟨y,z,rfl⟩:=pJ h3;exact gO (L:=2) (by decide) rfl rfl (by decide) (fun _ _ _ _ _=>rfl) v t n (ih y (by simp)) (ih z (by simp))
  case inr.inr.inr.inr.inl =>
   obtain ⟨y,z,rfl⟩:=pJ h3;exact gO (L:=1) (by decide) rfl rfl (by decide) (fun _ _ _ _ _=>rfl) v t n (ih y (by simp)) (ih z (by simp))
  iterate 6
   rotate_left 0
   next =>
    obtain ⟨y,z,rfl⟩:=pJ h3;exact yN (by decide) rfl rfl (fun _ _ _ _ _=>rfl) v t n (ih y (by simp)) (ih z (by simp))
  next =>
   obtain ⟨y,z,rfl⟩:=pJ h3;exact gO (L:=5) (by decide) rfl rfl (by decide) (fun _ _ _ _ _=>rfl) v t n (ih y (by simp)) (ih z (by simp))
  next =>
   obtain ⟨y,z,rfl⟩:=pJ h3;exact gO (L:=5) (by decide) rfl rfl (by decide) (fun _ _ _ _ _=>rfl) v t n (ih y (by simp)) (ih z (by simp))
  next =>
   obtain ⟨y,z,rfl⟩:=pJ h3;exact gO (L:=6) (by decide) rfl rfl (by decide) (fun _ _ _ _ _=>rfl) v t n (ih y (by simp)) (ih z (by simp))
  next =>
   obtain ⟨y,z,rfl⟩:=pJ h3;exact gO (L:=7) (by decide) rfl rfl (by decide) (fun _ _ _ _ _=>rfl) v t n (ih y (by simp)) (ih z (by simp))
  next =>
   obtain ⟨y,rfl⟩:=ug h3;have hy:=ih y (by simp);have eb:aU (.mk 16 v t n [y])=en 5 (aZ y.k,aU y) ++ [⟨#[105,115]⟩,⟨#[110,117,108,108]⟩]:=by rw [eS]; rfl
   have ex:bY (.mk 16 v t n [y])=nd 16 [bY y]:=ij (by decide) _ _ _ _;obtain ⟨n1,n2⟩:=Am 16 v t n y;have hc:=xl hy (D:=2*(dX (.mk 16 v t n [y]):Int) - 1) (by rw [n2]; push_cast; omega);rw [← eb,← ex] at hc;have hf:gC true (aU (.mk 16 v t n [y])):=by rw [eb]; exact (hy.fst 5 (by omega)).app _
   refine mK (F:=100*nX y+2+8) (D:=2*(dX (.mk 16 v t n [y]):Int) - 1) ?_ ?_ ?_ (by rw [n1]; omega) (by omega) (by rw [n2]; push_cast; omega)
   ·exact zQ hc hf
   ·exact hf
   ·rw [eb]; exact bI (hy.gw _) (aJ (ba (by decide)) (aJ (ba (by decide)) bD))
  next =>
   obtain ⟨y,z,u,rfl⟩:=Ca h3;have hy:=ih y (by simp);have hz:=ih z (by simp);have hu:=ih u (by simp);have eb:aU (.mk 17 v t n [y,z,u]) = [⟨#[99,97,115,101]⟩] ++ dK [(aZ y.k,aU y),(aZ z.k,aU z),(aZ u.k,aU u)] [⟨#[119,104,101,110]⟩,⟨#[116,104,101,110]⟩,⟨#[101,108,115,101]⟩,⟨#[101,110,100]⟩]:=by rw [eS]; rfl
   have ex:bY (.mk 17 v t n [y,z,u])=nd 17 [bY y,bY z,bY u]:=ij (by decide) _ _ _ _;obtain ⟨n1,n2⟩:=Co 17 v t n y z u;have hc:=rn hy hz hu (D:=2*(dX (.mk 17 v t n [y,z,u]):Int) - 1) (by rw [n2]; push_cast; omega) (by rw [n2]; push_cast; omega) (by rw [n2]; push_cast; omega);rw [← eb,← ex] at hc;refine gL rfl hc ?_ ?_ (by rw [n1]; omega) (by omega) (by rw [n2]; push_cast; omega)
   ·rw [eb]; exact gC.lit (by decide) _
   ·rw [eb];refine aJ (ba (by decide)) (qZ (fun i hi=>?_) (fun i hi=>?_))
    ·match i,hi with
     | 0,_=>exact hy.gw 1
     | 1,_=>exact hz.gw 1
     | 2,_=>exact hu.gw 1
    ·match i,hi with
     | 0,_=>exact ba (by decide)
     | 1,_=>exact ba (by decide)
     | 2,_=>exact ba (by decide)
     | 3,_=>exact ba (by decide)
  next =>
   obtain ⟨y,z,rfl⟩:=pJ h3;have hy:=ih y (by simp);have hz:=ih z (by simp);have eb:aU (.mk 18 v t n [y,z]) = [⟨#[99,111,97,108,101,115,99,101]⟩] ++ dK [(aZ y.k,aU y),(aZ z.k,aU z)] [⟨#[40]⟩,⟨#[44]⟩,⟨#[41]⟩]:=by rw [eS]; rfl
   have ex:bY (.mk 18 v t n [y,z])=nd 18 [bY y,bY z]:=ij (by decide) _ _ _ _;obtain ⟨n1,n2⟩:=Ag 18 v t n y z;have hc:=re hy hz (D:=2*(dX (.mk 18 v t n [y,z]):Int) - 1) (by rw [n2]; push_cast; omega) (by rw [n2]; push_cast; omega);rw [← eb,← ex] at hc;refine gL rfl hc ?_ ?_ (by rw [n1]; omega) (by omega) (by rw [n2]; push_cast; omega)
   ·rw [eb]; exact gC.lit (by decide) _
   ·rw [eb];refine aJ (ba (by decide)) (qZ (fun i hi=>?_) (fun i hi=>?_))
    ·match i,hi with
     | 0,_=>exact hy.gw 1
     | 1,_=>exact hz.gw 1
    ·match i,hi with
     | 0,_=>exact ba (by decide)
     | 1,_=>exact ba (by decide)
     | 2,_=>exact ba (by decide)
  next =>
   obtain rfl:=xV h3;have eb:aU (.mk 19 v t n []) = [⟨#[99,111,117,110,116]⟩,⟨#[40]⟩,⟨#[42]⟩,⟨#[41]⟩]:=by rw [eS]; rfl
   have ex:bY (.mk 19 v t n [])=nd 19 []:=ij (by decide) _ _ _ _;obtain ⟨n1,n2⟩:=zR 19 v t n;refine gL (F:=10) (D:=0) rfl (by rw [eb,ex]; exact rE) ?_ ?_ (by rw [n1]; decide) (by rw [n2]; decide) (Dp _)
   ·rw [eb]; exact gC.lit (by decide) _
   ·rw [eb]; exact aJ (ba (by decide)) (aJ (ba (by decide)) (aJ (ba (by decide)) (aJ (ba (by decide)) bD)))
  next =>
   obtain ⟨y,rfl⟩:=ug h3;exact lK (.inl rfl) rfl (by decide) (fun _ _ _ _=>rfl) v t n (ih y (by simp))
  next =>
   obtain ⟨y,rfl⟩:=ug h3;exact lK (.inr (.inl rfl)) rfl (by decide) (fun _ _ _ _=>rfl) v t n (ih y (by simp))
  next =>
   obtain ⟨y,rfl⟩:=ug h3;exact lK (.inr (.inr (.inl rfl))) rfl (by decide) (fun _ _ _ _=>rfl) v t n (ih y (by simp))
  next =>
   obtain ⟨y,rfl⟩:=ug h3;exact lK (.inr (.inr (.inr rfl))) rfl (by decide) (fun _ _ _ _=>rfl) v t n (ih y (by simp))
theorem pY {x:SX} (h:eh x=0) {ts:List Tk} (ht:TW (bm x) ts) {rest:List Tk} (hf:sb 1 rest):eP (ts ++ rest) = .ok (bY x,rest):=by
 obtain ⟨h1,h2⟩:=jy h;have h3:=vg 21 x 1 0 h;exact (Cd h1).expr BH 0 ts rest ht hf (by omega) (by show _≤(100000:Nat); omega)
theorem kG {x:SX} (h:eh x=0):∀ w ∈ bm x,GW w:=(Cd (jy h).1).gw 1
theorem xB {x:SX} (h:eh x=0):gC false (bm x):=(Cd (jy h).1).fst 1 (by decide)
def Fs (L:List ByteArray) (rest:List Tk):Prop:=∃ w p r,rest=br w p :: r∧w ∈ L
theorem Fs.lit (w:ByteArray) (p:Int) (r:List Tk):Fs [w] (br w p :: r):=⟨w,p,r,rfl,by simp⟩
theorem Fs.bu {L:List ByteArray} {rest:List Tk} (h:Fs L rest) {s:ByteArray} (hs:L.all (fun w=>!nf s w)=true):bu s rest=false:=by
 obtain ⟨w,p,r,rfl,hw⟩:=h;rw [aO];have:=List.all_eq_true.1 hs w hw
 simpa using this
theorem Fs.yT {L:List ByteArray} {rest:List Tk} (h:Fs L rest) (hs:L.all mX=true):sb 1 rest:=by
 obtain ⟨w,p,r,rfl,hw⟩:=h;exact kh (List.all_eq_true.1 hs w hw) _ _ _
theorem Fs.mono {L M:List ByteArray} {rest:List Tk} (h:Fs L rest) (hs:∀ w ∈ L,w ∈ M):Fs M rest:=by
 obtain ⟨w,p,r,e,hw⟩:=h;exact ⟨w,p,r,e,hs w hw⟩
theorem Fs.opt {L:List ByteArray} {rest:List Tk} (h:Fs L rest) {ws:List ByteArray} {ts:List Tk} (ht:TW ws ts) {wd:ByteArray} (hw:ws = []∨∃ r,ws=wd :: r):Fs (wd :: L) (ts ++ rest):=by
 rcases hw with rfl | ⟨r,rfl⟩
 ·rw [ht.nil]; exact h.mono fun w hw=>DP _ hw
 ·obtain ⟨p,t1,rfl,_⟩:=ht.cons;exact ⟨wd,p,t1 ++ rest,rfl,by simp⟩
def py {α:Type} (ew:α→List ByteArray):List α→List ByteArray
 | []=>[]
 | x :: r=>ew x ++ r.flatMap fun y=>⟨#[44]⟩ :: ew y
theorem uH {α:Type} (ew:α→List ByteArray) (y:α):∀ l:List α,py ew (l ++ [y])=py ew l ++ (if l = [] then [] else [⟨#[44]⟩]) ++ ew y
 | []=>by simp [py]
 | x :: r=>by simp [py]
theorem wZ {α:Type} (ew:α→List ByteArray) (l:List α):∀ i,i≤l.length→bR ew l i=py ew (l.take i)
 | 0,_=>rfl
 | i+1,h=>by
  have hi:i<l.length:=by omega
  rw [bR,wZ ew l i (by omega),Dj hi,List.take_add_one,Dj hi]
  show py ew (l.take i) ++ _ ++ ew l[i]=py ew (l.take i ++ [l[i]])
  rw [uH]
  have:(l.take i = [])↔(i=0):=by
   rw [List.take_eq_nil_iff];constructor
   ·rintro (h | h)
    ·exact h
    ·rw [h] at hi; simp at hi
   ·exact .inl
  by_cases e:i=0
  ·rw [if_pos e,if_pos (this.2 e)]
  ·rw [if_neg e,if_neg (fun c=>e (this.1 c))]
theorem mV {α:Type} (ew:α→List ByteArray) (l:List α):cr ew l=py ew l:=by
 unfold cr;rw [wZ ew l _ (CX _),List.take_length]
theorem pO {α β:Type} {one:List Tk→PR β} {ew:α→List ByteArray} {X:α→β} {most:Int} {L:List ByteArray} (hL:L.all (fun w=>!nf ⟨#[44]⟩ w)=true) :
  ∀ (l:List α) (n:Nat) (acc:List β) (ts rest:List Tk),(∀ x ∈ l,∀ (ts rest:List Tk),TW (ew x) ts→Fs (⟨#[44]⟩ :: L) rest→one (ts ++ rest) = .ok (X x,rest))→l.length<n→((acc.length+l.length:Nat):Int)≤most→TW (l.flatMap fun y=>⟨#[44]⟩ :: ew y) ts→Fs L rest→aY one most n acc (ts ++ rest) = .ok (acc ++ l.map X,rest)
 | [],n,acc,ts,rest,_,hn,_,ht,hr=>by
  obtain ⟨m,rfl⟩:∃ m,n=m+1:=⟨n - 1,by simp at hn; omega⟩
  rw [ht.nil,Ds,aY,if_neg (by rw [hr.bu hL]; decide)]
  simp
 | x :: l,n,acc,ts,rest,h1,hn,hm,ht,hr=>by
  simp only [Dn] at hn hm
  obtain ⟨m,rfl⟩:∃ m,n=m+1:=⟨n - 1,by omega⟩
  change TW (⟨#[44]⟩ :: (ew x ++ l.flatMap fun y=>⟨#[44]⟩ :: ew y)) ts at ht
  replace ht:=ht.cons
  obtain ⟨p,t1,rfl,ht⟩:=ht
  replace ht:=ht.app
  obtain ⟨ta,tb,rfl,ha,hb⟩:=ht
  have hnext:Fs (⟨#[44]⟩ :: L) (tb ++ rest):=hr.opt hb (by cases l with
   | nil=>exact .inl rfl
   | cons y r=>exact .inr ⟨_,rfl⟩)
  show aY one most (m+1) acc (br ⟨#[44]⟩ p :: (ta ++ tb ++ rest))=_
  rw [aY,if_pos (by rw [aO]; decide),if_neg (by omega),bc,Dc,bq _ (h1 x (by simp) ta _ ha hnext)]
  rw [pO hL l m (acc ++ [X x]) tb rest (fun y hy=>h1 y (by simp [hy])) (by omega) (by simp only [Dk,Dn,DQ]; omega) hb hr]
  simp
theorem gM {α β:Type} {one:List Tk→PR β} {ew:α→List ByteArray} {X:α→β} {most:Int} {L:List ByteArray} (hL:L.all (fun w=>!nf ⟨#[44]⟩ w)=true) {l:List α} {n:Nat} {ts rest:List Tk} (h1:∀ x ∈ l,∀ (ts rest:List Tk),TW (ew x) ts→Fs (⟨#[44]⟩ :: L) rest→one (ts ++ rest) = .ok (X x,rest)) (h0:1≤l.length) (hn:l.length≤n) (hm:(l.length:Int)≤most) (ht:TW (cr ew l) ts) (hr:Fs L rest):bS one most n (ts ++ rest) = .ok (l.map X,rest):=by
 rw [mV] at ht;cases l with
 | nil=>simp at h0
 | cons x l =>
  simp only [Dn] at hn hm;change TW (ew x ++ l.flatMap fun y=>⟨#[44]⟩ :: ew y) ts at ht;replace ht:=ht.app;obtain ⟨ta,tb,rfl,ha,hb⟩:=ht;have hnext:Fs (⟨#[44]⟩ :: L) (tb ++ rest):=hr.opt hb (by cases l with
   | nil=>exact .inl rfl
   | cons y r=>exact .inr ⟨_,rfl⟩)
  rw [bS,Dc,bq _ (h1 x (by simp) ta _ ha hnext)];rw [pO hL l n [X x] tb rest (fun y hy=>h1 y (by simp [hy])) (by omega) (by simp only [Dn,DQ]; omega) hb hr];rfl
theorem kU {α:Type} {ew:α→List ByteArray} {l:List α} (h:∀ x ∈ l,∀ w ∈ ew x,GW w):∀ w ∈ cr ew l,GW w:=by
 rw [mV];cases l with
 | nil=>exact bD
 | cons x l =>
  refine bI (h x (by simp)) ?_;intro w hw;obtain ⟨y,hy,hw⟩:=List.mem_flatMap.1 hw;rcases List.mem_cons.1 hw with rfl | hw
  ·exact ba (by decide)
  ·exact h y (by simp [hy]) w hw
theorem n5 {s:ByteArray} (h:cM s=0) {ts rest:List Tk} (ht:TW (iP s) ts) {L:List ByteArray} (hL:L.all (fun w=>!nf ⟨#[97,115]⟩ w)=true) (hr:Fs L rest):dO (ts ++ rest) = .ok (s,rest):=by
 unfold iP at ht;rcases js h with rfl | ⟨e,hn⟩
 ·rw [if_pos (show eB.size=0 from rfl)] at ht;rw [ht.nil,Ds,dO,if_neg (by rw [hr.bu hL]; decide)]
 ·rw [if_neg e] at ht;replace ht:=ht.cons;obtain ⟨p,t1,rfl,ht⟩:=ht;replace ht:=ht.cons;obtain ⟨q,t2,rfl,ht⟩:=ht;obtain rfl:=ht.nil;show dO (br ⟨#[97,115]⟩ p :: br s q :: rest)=_;rw [dO,if_pos (by rw [aO]; decide),bc,fw hn]
theorem Ad (s:ByteArray):iP s = []∨∃ r,iP s=⟨#[97,115]⟩ :: r:=by
 unfold iP
 split
 ·exact .inl rfl
 ·exact .inr ⟨_,rfl⟩
theorem xw {s:ByteArray} (h:cM s=0):∀ w ∈ iP s,GW w:=by
 unfold iP;rcases js h with rfl | ⟨e,hn⟩
 ·rw [if_pos (show eB.size=0 from rfl)]; exact bD
 ·rw [if_neg e]; exact aJ (ba (by decide)) (aJ (fO hn) bD)
def uO (b:Bool) (x:SX):SX:=if b then bY x else jN
theorem qW {wd:ByteArray} (hwd:nf wd wd=true) {has:Bool} {x:SX} (h:dx has x=0) {ts rest:List Tk} (ht:TW (dV wd has x) ts) {L:List ByteArray} (hL:L.all (fun w=>!nf wd w && mX w)=true) (hr:Fs L rest):bE wd (ts ++ rest) = .ok ((has,uO has x),rest):=by
 have h1:L.all (fun w=>!nf wd w)=true:=by
  rw [DE] at hL ⊢;intro w hw;have:=hL w hw;rw [Dx] at this;exact this.1
 have h2:L.all mX=true:=by
  rw [DE] at hL ⊢;intro w hw;have:=hL w hw;rw [Dx] at this;exact this.2
 cases has
 ·rw [ht.nil,Ds,bE,if_neg (by rw [hr.bu h1]; decide)];rfl
 ·change TW (wd :: bm x) ts at ht;replace ht:=ht.cons;obtain ⟨p,ta,rfl,ha⟩:=ht;show bE wd (br wd p :: (ta ++ rest))=_;rw [bE,if_pos (by rw [aO]; exact hwd),bc,bq _ (pY h ha (hr.yT h2))];rfl
theorem sj (wd:ByteArray) (has:Bool) (x:SX):dV wd has x = []∨∃ r,dV wd has x=wd :: r:=by
 cases has
 ·exact .inl rfl
 ·exact .inr ⟨_,rfl⟩
theorem oE {wd:ByteArray} (hw:BQ wd=true) {has:Bool} {x:SX} (h:dx has x=0):∀ w ∈ dV wd has x,GW w:=by
 cases has
 ·exact bD
 ·exact aJ (ba hw) (kG h)
theorem type_of {t:Int} (h:kn t=0):t=2∨t=3∨t=4:=by
 by_cases h2:t=2
 ·exact .inl h2
 by_cases h3:t=3
 ·exact .inr (.inl h3)
 by_cases h4:t=4
 ·exact .inr (.inr h4)
 ·have e:bK t lM=⟨#[]⟩:=by
   show (if (2:Int)=t then _ else if (3:Int)=t then _ else if (4:Int)=t then _ else _)=_;rw [if_neg (by omega),if_neg (by omega),if_neg (by omega)];rfl
  unfold kn at h;rw [e] at h;exact absurd h (by rw [if_pos (by rw [Lib.toList_data]; rfl)]; decide)
theorem Ar {x:qs} (h1:dB x.1=0) (h2:kn x.2=0) {ts rest:List Tk} (ht:TW (cB x) ts):db (ts ++ rest) = .ok (x,rest):=by
 obtain ⟨s,t⟩:=x;have hn:=fM h1;change TW [s,bK t wF] ts at ht;replace ht:=ht.cons;obtain ⟨p,t1,rfl,ht⟩:=ht;replace ht:=ht.cons;obtain ⟨q,t2,rfl,ht⟩:=ht;obtain rfl:=ht.nil;show db (br s p :: br (bK t wF) q :: rest)=_;rw [db,bq _ (fw hn p _)];rcases type_of h2 with e | e | e
 ·replace e:t=2:=e;subst e;have hc:de (br (bK 2 wF) q :: rest) = .ok (2,rest):=by
   rw [de,if_pos (by rw [aO]; decide),bc]
  rw [bq _ hc]
 ·replace e:t=3:=e;subst e;have hc:de (br (bK 3 wF) q :: rest) = .ok (3,rest):=by
   rw [de,if_neg (by rw [aO]; decide),if_pos (by rw [aO]; decide),bc]
  rw [bq _ hc]
 ·replace e:t=4:=e;subst e;have hc:de (br (bK 4 wF) q :: rest) = .ok (4,rest):=by
   rw [de,if_neg (by rw [aO]; decide),if_neg (by rw [aO]; decide),if_pos (by rw [aO]; decide),bc]
  rw [bq _ hc]
theorem Ah {x:qs} (h1:dB x.1=0) (h2:kn x.2=0):∀ w ∈ cB x,GW w:=by
 refine aJ (fO (fM h1)) (aJ ?_ bD);rcases type_of h2 with e | e | e <;> rw [e] <;> exact ba (by decide)
theorem qA:∀ {l:List qs},ju l=0→∀ x ∈ l,dB x.1=0∧kn x.2=0
 | [],_=>by simp
 | y :: r,h=>by
  rw [ju] at h
  obtain ⟨h1,h⟩:=eQ h
  obtain ⟨h2,h3⟩:=eQ h
  intro x hx
  rcases List.mem_cons.1 hx with rfl | hx
  ·exact ⟨h1,h2⟩
  ·exact qA h3 x hx
theorem zI {l:List Vl} (h1:∀ v ∈ l,fu v=0) (h0:1≤l.length) (h8:l.length≤8) {ts rest:List Tk} (ht:TW (dZ l) ts):im (ts ++ rest) = .ok (l.map ja,rest):=by
 unfold dZ at ht;rw [Dc] at ht;change TW (⟨#[40]⟩ :: (cr cF l ++ [⟨#[41]⟩])) ts at ht;replace ht:=ht.cons;obtain ⟨p,t1,rfl,ht⟩:=ht;replace ht:=ht.app;obtain ⟨ta,tb,rfl,ha,hb⟩:=ht;replace hb:=hb.cons;obtain ⟨q,t2,rfl,hb⟩:=hb;obtain rfl:=hb.nil;have e:br ⟨#[40]⟩ p :: (ta ++ [br ⟨#[41]⟩ q]) ++ rest=br ⟨#[40]⟩ p :: (ta ++ (br ⟨#[41]⟩ q :: rest)):=by simp
 rw [e,im,b8 (by decide)];show bf (bS bU 8 9 (ta ++ (br ⟨#[41]⟩ q :: rest))) _=_;rw [bq _ (gM (L:=[⟨#[41]⟩]) (by decide) (fun v hv ts rest ht _=>(nU (h1 v hv) ht rest).1) h0 (by omega) (by omega) ha (Fs.lit _ _ _)),b8 (by decide)];rfl
theorem zB {l:List Vl} (h1:∀ v ∈ l,fu v=0):∀ w ∈ dZ l,GW w:=bI (bI (aJ (ba (by decide)) bD) (kU fun v hv=>vn (h1 v hv))) (aJ (ba (by decide)) bD)
theorem yz {x:kQ} (h1:eh x.1=0) (h2:cM x.2=0) {ts rest:List Tk} (ht:TW (eR x) ts) {L:List ByteArray} (hL:L.all (fun w=>!nf ⟨#[97,115]⟩ w)=true) (hS:(⟨#[97,115]⟩ :: L).all mX=true) (hr:Fs L rest):fI (ts ++ rest) = .ok ((bY x.1,x.2),rest):=by
 unfold eR at ht;replace ht:=ht.app;obtain ⟨ta,tb,rfl,ha,hb⟩:=ht;rw [fI,Dc,bq _ (pY h1 ha ((hr.opt hb (Ad _)).yT hS)),bq _ (n5 h2 hb hL hr)]
def oH (first:Bool) (x:Src):Src:=⟨x.kind,x.name,x.alias,if first then jN else bY x.on⟩
def dk:Bool→List Src→List Src
 | _,[]=>[]
 | f,x :: r=>oH f x :: dk false r
def fj (x:fD):fD:=⟨x.distinct,x.star,if x.star then [] else x.items.map (fun i=>(bY i.1,i.2)),dk true x.sources,x.aB,x.aG,uO x.aB x.ah,uO x.aG x.aj,x.group.map bY⟩
def pn (q:j3):j3:=⟨q.parts.map fj,q.ops,if 0≤q.aE then q.order.map bY else [],if 0≤q.aE then q.aE else -1⟩
abbrev jK:ByteArray:=⟨#[106,111,105,110]⟩
abbrev sa:ByteArray:=⟨#[115,101,109,105]⟩
abbrev sc:ByteArray:=⟨#[97,110,116,105]⟩
abbrev sw:ByteArray:=⟨#[108,101,102,116]⟩
abbrev An:ByteArray:=⟨#[111,110]⟩
abbrev CT:ByteArray:=⟨#[97,115]⟩
abbrev pk:ByteArray:=⟨#[119,104,101,114,101]⟩
abbrev o8:ByteArray:=⟨#[103,114,111,117,112]⟩
abbrev lH:ByteArray:=⟨#[104,97,118,105,110,103]⟩
abbrev iz:ByteArray:=⟨#[117,110,105,111,110]⟩
abbrev fz:ByteArray:=⟨#[101,120,99,101,112,116]⟩
abbrev gy:ByteArray:=⟨#[111,114,100,101,114]⟩
abbrev cD:ByteArray:=⟨#[59]⟩
abbrev Cq:List ByteArray:=[jK,sa,sc,sw]
abbrev A2:List ByteArray:=[pk,o8,lH,iz,fz,gy,cD]
theorem tB {rest:List Tk} (h:Fs A2 rest):dj rest = .ok (0,rest):=by
 rw [dj,if_neg (by rw [h.bu (by decide)]; decide),if_neg (by rw [h.bu (by decide)]; decide),if_neg (by rw [h.bu (by decide)]; decide),if_neg (by rw [h.bu (by decide)]; decide)]
def zY (k:Int):List ByteArray:=(if k=2 then [] else [bK k uP]) ++ [jK]
theorem tM {k:Int} (hk:2≤k∧k≤5) {ts rest:List Tk} (ht:TW (zY k) ts):dj (ts ++ rest) = .ok (k,rest):=by
 have:k=2∨k=3∨k=4∨k=5:=by omega
 rcases this with rfl | rfl | rfl | rfl
 ·change TW [jK] ts at ht;replace ht:=ht.cons;obtain ⟨p,t1,rfl,ht⟩:=ht;obtain rfl:=ht.nil;show dj (br jK p :: rest)=_;rw [dj,if_pos (by rw [aO]; decide),bc]
 ·change TW [sa,jK] ts at ht;replace ht:=ht.cons;obtain ⟨p,t1,rfl,ht⟩:=ht;replace ht:=ht.cons;obtain ⟨q,t2,rfl,ht⟩:=ht;obtain rfl:=ht.nil;show dj (br sa p :: br jK q :: rest)=_;rw [dj,if_neg (by rw [aO]; decide),if_pos (by rw [aO]; decide),bc,b8 (by decide)];rfl
 ·change TW [sc,jK] ts at ht;replace ht:=ht.cons;obtain ⟨p,t1,rfl,ht⟩:=ht;replace ht:=ht.cons;obtain ⟨q,t2,rfl,ht⟩:=ht;obtain rfl:=ht.nil;show dj (br sc p :: br jK q :: rest)=_;rw [dj,if_neg (by rw [aO]; decide),if_neg (by rw [aO]; decide),if_pos (by rw [aO]; decide),bc,b8 (by decide)];rfl
 ·change TW [sw,jK] ts at ht;replace ht:=ht.cons;obtain ⟨p,t1,rfl,ht⟩:=ht;replace ht:=ht.cons;obtain ⟨q,t2,rfl,ht⟩:=ht;obtain rfl:=ht.nil;show dj (br sw p :: br jK q :: rest)=_;rw [dj,if_neg (by rw [aO]; decide),if_neg (by rw [aO]; decide),if_neg (by rw [aO]; decide),if_pos (by rw [aO]; decide),bc,b8 (by decide)];rfl
theorem fN {first:Bool} {x:Src} (h:dY first x=0):(if first then x.kind=1 else 2≤x.kind∧x.kind≤5)∧dB x.name=0∧cM x.alias=0∧(first=false→eh x.on=0):=by
 unfold dY at h;obtain ⟨h0,h⟩:=eQ h;obtain ⟨h1,h⟩:=eQ h;obtain ⟨h2,h⟩:=eQ h;obtain ⟨h3,_⟩:=eQ h;refine ⟨?_,h1,h2,fun e=>by subst e; exact h3⟩;cases first
 ·simp only [De,if_false] at h0 ⊢;by_cases e:(decide (2≤x.kind) && decide (x.kind≤5))=true
  ·simpa using e
  ·rw [if_neg e] at h0; exact absurd h0 (by decide)
 ·simp only [if_true] at h0 ⊢;by_cases e:(x.kind == 1)=true
  ·simpa using e
  ·rw [if_neg e] at h0; exact absurd h0 (by decide)
theorem yb (k:Int) (hk:2≤k∧k≤5):∃ w r,zY k=w :: r∧w ∈ Cq:=by
 have:k=2∨k=3∨k=4∨k=5:=by omega
 rcases this with rfl | rfl | rfl | rfl
 ·exact ⟨_,_,rfl,by simp⟩
 ·exact ⟨sa,_,rfl,by simp⟩
 ·exact ⟨sc,_,rfl,by simp⟩
 ·exact ⟨sw,_,rfl,by simp⟩
def gu:List Src→List ByteArray
 | []=>[]
 | x :: r=>zY x.kind ++ ([x.name] ++ iP x.alias ++ ([An] ++ bm x.on)) ++ gu r
theorem zT (x:Src):gH false x=zY x.kind ++ ([x.name] ++ iP x.alias ++ ([An] ++ bm x.on)):=by
 unfold gH zY;rw [if_neg (by decide)];simp
theorem Ae:∀ (l:List Src) (n:Nat),ed l (n+1)=(match l with | []=>[] | x :: r=>gH true x ++ gu (r.take n))
 | [],n=>by
  induction n with
  | zero=>rfl
  | succ n ih=>rw [ed,ih]; rfl
 | x :: r,n=>by
  induction n with
  | zero=>simp [ed,gu]
  | succ n ih =>
   rw [ed,ih]
   have happ:∀ (a b:List Src),gu (a ++ b)=gu a ++ gu b:=by
    intro a b
    induction a with
    | nil=>rfl
    | cons y a ih=>rw [Dw,gu,gu,ih,Dc]; simp
   show gH true x ++ gu (r.take n) ++ (match r[n]? with | some y=>gH ((n+1) == 0) y | none=>[])=gH true x ++ gu (r.take (n+1));rw [List.take_add_one,happ,Dc]
   congr 2
   cases r[n]? with
   | none=>rfl
   | some y=>show gH false y=gu [y]; rw [zT]; simp [gu]
theorem kz (x:Src) (r:List Src):ed (x :: r) (x :: r).length = [x.name] ++ iP x.alias ++ gu r:=by
 rw [Dn,Ae];show gH true x ++ gu (r.take r.length)=_;rw [List.take_length];unfold gH;rw [if_pos rfl];simp
theorem wT {l:List Src} (h:∀ x ∈ l,dY false x=0):gu l = []∨∃ w r,gu l=w :: r∧w ∈ Cq:=by
 cases l with
 | nil=>exact .inl rfl
 | cons x r =>
  obtain ⟨w,q,e,hw⟩:=yb x.kind (fN (h x (by simp))).1;exact .inr ⟨w,_,by rw [gu,e]; rfl,hw⟩
theorem Fs.join {rest:List Tk} (h:Fs A2 rest) {l:List Src} (hl:∀ x ∈ l,dY false x=0) {ts:List Tk} (ht:TW (gu l) ts):Fs (Cq ++ A2) (ts ++ rest):=by
 rcases wT hl with e | ⟨w,r,e,hw⟩
 ·rw [e] at ht;rw [ht.nil];exact h.mono fun w hw=>List.mem_append_right _ hw
 ·rw [e] at ht;replace ht:=ht.cons;obtain ⟨p,t1,rfl,_⟩:=ht;exact ⟨w,p,t1 ++ rest,rfl,List.mem_append_left _ hw⟩
theorem lX {k:Int} {s a:ByteArray} (hn:dB s=0) (ha:cM a=0) {ts rest:List Tk} (ht:TW ([s] ++ iP a) ts) {L:List ByteArray} (hL:L.all (fun w=>!nf CT w)=true) (hr:Fs L rest):gm k (ts ++ rest) = .ok (⟨k,s,a,jN⟩,rest):=by
 change TW (s :: iP a) ts at ht;replace ht:=ht.cons;obtain ⟨p,t1,rfl,ht⟩:=ht;show gm k (br s p :: (t1 ++ rest))=_;rw [gm,bq _ (fw (fM hn) p _),bq _ (n5 ha ht hL hr)]
theorem pK:∀ (l:List Src) (n:Nat) (acc:List Src) (ts rest:List Tk),(∀ x ∈ l,dY false x=0)→l.length<n→acc.length+l.length≤4→TW (gu l) ts→Fs A2 rest→dN n acc (ts ++ rest) = .ok (acc ++ dk false l,rest)
 | [],n,acc,ts,rest,_,hn,_,ht,hr=>by
  obtain ⟨m,rfl⟩:∃ m,n=m+1:=⟨n - 1,by simp at hn; omega⟩
  rw [ht.nil,Ds,dN,bq _ (tB hr),if_pos rfl]
  simp [dk]
 | x :: l,n,acc,ts,rest,h1,hn,hm,ht,hr=>by
  simp only [Dn] at hn hm
  obtain ⟨m,rfl⟩:∃ m,n=m+1:=⟨n - 1,by omega⟩
  obtain ⟨hk,hnm,hal,hon⟩:=fN (h1 x (by simp))
  simp only [De,if_false] at hk
  rw [gu] at ht
  replace ht:=ht.app
  obtain ⟨t0,tb,rfl,h0,hb⟩:=ht
  replace h0:=h0.app
  obtain ⟨tj,ts2,rfl,hj,h2⟩:=h0
  replace h2:=h2.app
  obtain ⟨tn,t8,rfl,h3,h4⟩:=h2
  change TW (An :: bm x.on) t8 at h4
  replace h4:=h4.cons
  obtain ⟨p,te,rfl,h4⟩:=h4
  have hnext:=hr.join (fun y hy=>h1 y (by simp [hy])) hb
  have e:tj ++ (tn ++ br An p :: te) ++ tb ++ rest=tj ++ (tn ++ (br An p :: (te ++ (tb ++ rest)))):=by simp
  rw [e,dN,bq _ (tM hk hj),if_neg (by omega),if_neg (by omega),bq _ (lX hnm hal h3 (L:=[An]) (by decide) (Fs.lit _ _ _)),b8 (by decide)]
  show bf (eP (te ++ (tb ++ rest))) _=_
  rw [bq _ (pY (hon rfl) h4 (hnext.yT (by decide))),pK l m _ tb rest (fun y hy=>h1 y (by simp [hy])) (by omega) (by simp only [Dk,Dn,DQ]; omega) hb hr]
  simp [dk,oH]
theorem jq:∀ {l:List Src} {first:Bool},cL first l=0→∀ x r,l=x :: r→dY first x=0∧∀ y ∈ r,dY false y=0
 | [],_,_=>by intro x r e; cases e
 | y :: r,first,h=>by
  rw [cL] at h
  obtain ⟨h1,h2⟩:=eQ h
  intro x s e
  cases e
  refine ⟨h1,?_⟩
  cases r with
  | nil=>intro y hy; cases hy
  | cons z t =>
   obtain ⟨g1,g2⟩:=jq h2 z t rfl
   intro y hy
   rcases List.mem_cons.1 hy with rfl | hy
   ·exact g1
   ·exact g2 y hy
theorem ra {l:List Src} (h:cL true l=0) (h1:1≤l.length) (h4:l.length≤4) {ts rest:List Tk} (ht:TW (ed l l.length) ts) (hr:Fs A2 rest):eH (ts ++ rest) = .ok (dk true l,rest):=by
 cases l with
 | nil=>simp at h1
 | cons x r =>
  obtain ⟨g1,g2⟩:=jq h x r rfl;obtain ⟨hk,hnm,hal,_⟩:=fN g1;simp only [if_true] at hk;rw [kz] at ht;replace ht:=ht.app;obtain ⟨ta,tb,rfl,ha,hb⟩:=ht;have hnext:=hr.join g2 hb;rw [eH,Dc,bq _ (lX hnm hal ha (by decide) hnext),pK r 5 _ tb rest g2 (by simp at h4; omega) (by simp at h4 ⊢; omega) hb hr];simp [dk,oH,hk]
theorem Af {l:List Src} (h:cL true l=0):∀ w ∈ ed l l.length,GW w:=by
 cases l with
 | nil=>exact bD
 | cons x r =>
  obtain ⟨g1,g2⟩:=jq h x r rfl;obtain ⟨_,hnm,hal,_⟩:=fN g1;rw [kz];refine bI (bI (aJ (fO (fM hnm)) bD) (xw hal)) ?_;clear h g1
  induction r with
  | nil=>exact bD
  | cons y r ih =>
   obtain ⟨hk,hnm,hal,hon⟩:=fN (g2 y (by simp));simp only [De,if_false] at hk;rw [gu];refine bI (bI ?_ (bI (bI (aJ (fO (fM hnm)) bD) (xw hal)) (aJ (ba (by decide)) (kG (hon rfl))))) (ih fun z hz=>g2 z (by simp [hz]));have:y.kind=2∨y.kind=3∨y.kind=4∨y.kind=5:=by omega
   unfold zY;rcases this with e | e | e | e <;> rw [e]
   ·exact aJ (ba (by decide)) bD
   all_goals exact aJ (ba (by decide)) (aJ (ba (by decide)) bD)
theorem ll:∀ {l:List SX},eA l=0→∀ x ∈ l,eh x=0
 | [],_=>by simp
 | y :: r,h=>by
  rw [eA] at h
  obtain ⟨h1,h2⟩:=eQ h
  intro x hx
  rcases List.mem_cons.1 hx with rfl | hx
  ·exact h1
  ·exact ll h2 x hx
theorem nJ:∀ {l:List kQ},fE l=0→∀ x ∈ l,eh x.1=0∧cM x.2=0
 | [],_=>by simp
 | y :: r,h=>by
  rw [fE] at h
  obtain ⟨h1,h⟩:=eQ h
  obtain ⟨h2,h3⟩:=eQ h
  intro x hx
  rcases List.mem_cons.1 hx with rfl | hx
  ·exact ⟨h1,h2⟩
  ·exact nJ h3 x hx
structure lz (x:fD):Prop where
 src:cL true x.sources=0∧1≤x.sources.length∧x.sources.length≤4
 items:x.star=false→(∀ y ∈ x.items,eh y.1=0∧cM y.2=0)∧1≤x.items.length∧x.items.length≤8
 ah:dx x.aB x.ah=0
 aj:dx x.aG x.aj=0
 group:(∀ y ∈ x.group,eh y=0)∧x.group.length≤8
theorem Bm {x:fD} (h:kE x=0):lz x:=by
 unfold kE at h;obtain ⟨h1,h⟩:=eQ h;obtain ⟨h2,h⟩:=eQ h;obtain ⟨h3,h⟩:=eQ h;obtain ⟨h4,h⟩:=eQ h;unfold pG at h;obtain ⟨h5,h⟩:=eQ h;obtain ⟨h6,h⟩:=eQ h;obtain ⟨h7,_⟩:=eQ h;have c1:=cI h1;have c2:=cI h2;refine ⟨⟨h4,by omega,by omega⟩,fun e=>?_,h5,h7,ll h6,by omega⟩;unfold kI at h3;rw [e,if_neg (by decide)] at h3;unfold jw at h3;obtain ⟨g1,g2⟩:=eQ h3;have c3:=cI g1;exact ⟨nJ (eQ g2).1,by omega,by omega⟩
theorem wL {l:List SX} (h:∀ y ∈ l,eh y=0) (h8:l.length≤8) {ts rest:List Tk} (ht:TW (iY l) ts) (hr:Fs [lH,iz,fz,gy,cD] rest):iy (ts ++ rest) = .ok (l.map bY,rest):=by
 unfold iY at ht;by_cases e:l.length=0
 ·rw [if_pos e] at ht;rw [ht.nil,Ds,iy,if_neg (by rw [hr.bu (by decide)]; decide),List.length_eq_zero_iff.1 e];rfl
 ·rw [if_neg e] at ht;change TW (o8 :: ⟨#[98,121]⟩ :: cr bm l) ts at ht;replace ht:=ht.cons;obtain ⟨p,t1,rfl,ht⟩:=ht;replace ht:=ht.cons;obtain ⟨q,ta,rfl,ha⟩:=ht;show iy (br o8 p :: br ⟨#[98,121]⟩ q :: (ta ++ rest))=_;rw [iy,if_pos (by rw [aO]; decide),bc,b8 (by decide)];show bS eP 8 9 (ta ++ rest)=_;exact gM (by decide) (fun x hx ts rest ht hr=>pY (h x hx) ht (hr.yT (by decide))) (by omega) (by omega) (by omega) ha hr
theorem yK (l:List SX):iY l = []∨∃ r,iY l=o8 :: r:=by
 unfold iY
 split
 ·exact .inl rfl
 ·exact .inr ⟨_,rfl⟩
theorem AB {l:List SX} (h:∀ y ∈ l,eh y=0):∀ w ∈ iY l,GW w:=by
 unfold iY
 split
 ·exact bD
 ·exact bI (aJ (ba (by decide)) (aJ (ba (by decide)) bD)) (kU fun x hx=>kG (h x hx))
theorem oa {x : fD} (h : lz x) (hs : x.star = false) {ts : List Tk} (ht : TW (cr eR x.items) ts) (rest : List Tk) {s : ByteArray} (hw : s.data.toList = [42] ∨ s.data.toList = [100, 105, 115, 116, 105, 110, 99, 116]) : bu s (ts ++ rest) = false := by
  obtain ⟨h1, h2, _⟩ := h.items hs
  rw [mV] at ht
  cases hi : x.items with
  | nil => rw [hi] at h2; simp at h2
  | cons y r =>
    rw [hi] at ht h1
    change TW (bm y.1 ++ iP y.2 ++ _) ts at ht
    have hf : gC false (bm y.1 ++ iP y.2 ++ (r.flatMap fun z => ⟨#[44]⟩ :: eR z)) := ((xB (h1 y (by simp)).1).app _).app _
    exact hf.tw ht (by rcases hw with hw | hw; · exact .inl hw
                       · exact .inr (.inl hw)) rest
theorem nR {x:fD} (h:lz x) {ts rest:List Tk} (ht:TW (fK x) ts) (hr:Fs [iz,fz,gy,cD] rest):ef (ts ++ rest) = .ok (fj x,rest):=by
 have e:fK x=⟨#[115,101,108,101,99,116]⟩ :: (jx x.distinct ⟨#[100,105,115,116,105,110,99,116]⟩ ++ (eT x ++ (⟨#[102,114,111,109]⟩ :: (ed x.sources x.sources.length ++ (dV pk x.aB x.ah ++ (iY x.group ++ dV lH x.aG x.aj)))))):=by
  unfold fK; simp
 rw [e] at ht;clear e;replace ht:=ht.cons;obtain ⟨p,t1,rfl,ht⟩:=ht;replace ht:=ht.app;obtain ⟨td,t2,rfl,hd,ht⟩:=ht;replace ht:=ht.app;obtain ⟨ti,t3,rfl,hi,ht⟩:=ht;replace ht:=ht.cons;obtain ⟨q,t4,rfl,ht⟩:=ht;replace ht:=ht.app;obtain ⟨tf,t5,rfl,hf,ht⟩:=ht;replace ht:=ht.app;obtain ⟨tw,t6,rfl,hw,ht⟩:=ht;replace ht:=ht.app;obtain ⟨tg,th,rfl,hg,hh⟩:=ht;have f1:=hr.opt hh (sj lH x.aG x.aj);have f2:=f1.opt hg (yK x.group);have f3:=f2.opt hw (sj pk x.aB x.ah)
 have e:br ⟨#[115,101,108,101,99,116]⟩ p :: (td ++ (ti ++ br ⟨#[102,114,111,109]⟩ q :: (tf ++ (tw ++ (tg ++ th))))) ++ rest=br ⟨#[115,101,108,101,99,116]⟩ p :: (td ++ (ti ++ (br ⟨#[102,114,111,109]⟩ q :: (tf ++ (tw ++ (tg ++ (th ++ rest))))))):=by simp
 rw [e];clear e;have tail:∀ (di st:Bool) (its:List kQ),(bf (aS [⟨#[102,114,111,109]⟩] (br ⟨#[102,114,111,109]⟩ q :: (tf ++ (tw ++ (tg ++ (th ++ rest)))))) fun _ r4=>bf (eH r4) fun fs r5=>bf (bE ⟨#[119,104,101,114,101]⟩ r5) fun hw r6=>bf (iy r6) fun gs r8=>bf (bE ⟨#[104,97,118,105,110,103]⟩ r8) fun hh r9=>(.ok (⟨di,st,its,fs,hw.1,hh.1,hw.2,hh.2,gs⟩,r9):PR fD)) = .ok (⟨di,st,its,dk true x.sources,x.aB,x.aG,uO x.aB x.ah,uO x.aG x.aj,x.group.map bY⟩,rest):=by
  intro di st its;rw [b8 (by decide)];show bf (eH (tf ++ (tw ++ (tg ++ (th ++ rest))))) _=_;rw [bq _ (ra h.src.1 h.src.2.1 h.src.2.2 hf f3),bq _ (qW (by decide) h.ah hw (by decide) f2),bq _ (wL h.group.1 h.group.2 hg f1),bq _ (qW (by decide) h.aj hh (by decide) hr)]
 have items:∀ (di:Bool),(let r1:=ti ++ (br ⟨#[102,114,111,109]⟩ q :: (tf ++ (tw ++ (tg ++ (th ++ rest))))); let st:=bu ⟨#[42]⟩ r1; let r2:=if st then az r1 else r1; bf (jg st r2) fun its r3=>bf (aS [⟨#[102,114,111,109]⟩] r3) fun _ r4=>bf (eH r4) fun fs r5=>bf (bE ⟨#[119,104,101,114,101]⟩ r5) fun hw r6=>bf (iy r6) fun gs r8=>bf (bE ⟨#[104,97,118,105,110,103]⟩ r8) fun hh r9=>(.ok (⟨di,st,its,fs,hw.1,hh.1,hw.2,hh.2,gs⟩,r9):PR fD)) = .ok (⟨di,x.star,if x.star then [] else x.items.map (fun i=>(bY i.1,i.2)),dk true x.sources,x.aB,x.aG,uO x.aB x.ah,uO x.aG x.aj,x.group.map bY⟩,rest):=by
  intro di;unfold eT at hi;cases hs:x.star with
  | true =>
   rw [hs,if_pos rfl] at hi;replace hi:=hi.cons;obtain ⟨u,t9,rfl,hi⟩:=hi;obtain rfl:=hi.nil;have e1:bu ⟨#[42]⟩ ([br ⟨#[42]⟩ u] ++ (br ⟨#[102,114,111,109]⟩ q :: (tf ++ (tw ++ (tg ++ (th ++ rest))))))=true:=by
    show bu _ (br ⟨#[42]⟩ u :: _)=true;rw [aO]; decide
   simp only [e1,if_true];show bf (jg true (az (br ⟨#[42]⟩ u :: _))) _=_;rw [bc];exact tail di true []
  | false =>
   rw [hs,if_neg (by decide)] at hi;have e1:=oa h hs hi (br ⟨#[102,114,111,109]⟩ q :: (tf ++ (tw ++ (tg ++ (th ++ rest))))) (s:=⟨#[42]⟩) (.inl rfl);obtain ⟨g1,g2,g3⟩:=h.items hs;simp only [e1,De,if_false];have e2:jg false (ti ++ (br ⟨#[102,114,111,109]⟩ q :: (tf ++ (tw ++ (tg ++ (th ++ rest)))))) = .ok (x.items.map (fun i=>(bY i.1,i.2)),br ⟨#[102,114,111,109]⟩ q :: (tf ++ (tw ++ (tg ++ (th ++ rest))))):=by
    rw [jg,if_neg (by decide)];exact gM (L:=[⟨#[102,114,111,109]⟩]) (by decide) (fun y hy ts rest ht hr=>yz (g1 y hy).1 (g1 y hy).2 ht (by decide) (by decide) hr) g2 (by omega) (by omega) hi (Fs.lit _ _ _)
   rw [bq _ e2];exact tail di false _
 have hsel:∀ (r0:List Tk) (di:Bool) (r1:List Tk),bu ⟨#[100,105,115,116,105,110,99,116]⟩ r0=di→(if di then az r0 else r0)=r1→ef (br ⟨#[115,101,108,101,99,116]⟩ p :: r0)=(let st:=bu ⟨#[42]⟩ r1; let r2:=if st then az r1 else r1; bf (jg st r2) fun its r3=>bf (aS [⟨#[102,114,111,109]⟩] r3) fun _ r4=>bf (eH r4) fun fs r5=>bf (bE ⟨#[119,104,101,114,101]⟩ r5) fun hw r6=>bf (iy r6) fun gs r8=>bf (bE ⟨#[104,97,118,105,110,103]⟩ r8) fun hh r9=>(.ok (⟨di,st,its,fs,hw.1,hh.1,hw.2,hh.2,gs⟩,r9):PR fD)):=by
  intro r0 di r1 h1 h2;subst h1 h2;rw [ef,b8 (by decide)];rfl
 cases hdi:x.distinct with
 | true =>
  rw [hdi] at hd;replace hd:=TW.cons (w:=⟨#[100,105,115,116,105,110,99,116]⟩) (ws:=[]) hd;obtain ⟨u,t9,rfl,hd⟩:=hd;obtain rfl:=hd.nil;refine (hsel _ true _ ?_ ?_).trans ((items true).trans ?_)
  ·show bu _ (br ⟨#[100,105,115,116,105,110,99,116]⟩ u :: _)=true;rw [aO]; decide
  ·show az (br ⟨#[100,105,115,116,105,110,99,116]⟩ u :: _)=_;rw [bc];rfl
  ·rw [fj,hdi]
 | false =>
  rw [hdi] at hd;obtain rfl:=TW.nil hd;refine (hsel _ false _ ?_ rfl).trans ((items false).trans ?_)
  ·show bu _ (ti ++ _)=false;unfold eT at hi;cases hs:x.star with
   | true =>
    rw [hs,if_pos rfl] at hi;replace hi:=hi.cons;obtain ⟨u,t9,rfl,hi⟩:=hi;obtain rfl:=hi.nil;show bu _ (br ⟨#[42]⟩ u :: _)=false;rw [aO]; decide
   | false =>
    rw [hs,if_neg (by decide)] at hi;exact oa h hs hi _ (.inr rfl)
  ·rw [fj,hdi]
theorem xA {x:fD} (h:lz x):∀ w ∈ fK x,GW w:=by
 unfold fK;refine bI (bI (bI (bI (bI (bI (bI (aJ (ba (by decide)) bD) ?_) ?_) (aJ (ba (by decide)) bD)) (Af h.src.1)) (oE (by decide) h.ah)) (AB h.group.1)) (oE (by decide) h.aj)
 ·unfold jx; split
  ·exact aJ (ba (by decide)) bD
  ·exact bD
 ·unfold eT;cases hs:x.star with
  | true=>rw [if_pos rfl]; exact aJ (ba (by decide)) bD
  | false =>
   rw [if_neg (by decide)];obtain ⟨g1,_,_⟩:=h.items hs;exact kU fun y hy=>bI (kG (g1 y hy).1) (xw (g1 y hy).2)
set_option maxHeartbeats 8000000
def cG:List ByteArray→Nat
 | []=>0
 | s :: r=>s.size+1+cG r
theorem bH:∀ (a b:List ByteArray),cG (a ++ b)=cG a+cG b
 | [],b=>by simp [cG]
 | s :: r,b=>by rw [Dw,cG,cG,bH r b]; omega
theorem sW:∀ (ws:List ByteArray) (bs:List UInt8),(an bs ws).length≤bs.length+cG ws
 | [],bs=>by simp [an,cG]
 | s :: r,bs=>by
  have h:=sW r (iu bs s)
  have h2:(iu bs s).length≤bs.length+(s.size+1):=by
   unfold iu;rw [Dk,Dk,show s.data.toList.length=s.size from Dl]
   split <;> simp <;> omega
  rw [cG];show (an (iu bs s) r).length≤_;omega
theorem ie {s:ByteArray} (h:dB s=0):s.size≤12:=by
 unfold dB at h;by_cases e:cN s=true
 ·unfold cN at e;simp only [Dx,decide_eq_true_eq] at e;omega
 ·rw [if_neg e] at h; exact absurd h (by decide)
theorem qg {s:ByteArray} (h:cM s=0):s.size≤12:=by
 unfold cM at h;by_cases e:s.toList.isEmpty=true
 ·by_cases z:s.size=0
  ·omega
  ·exact absurd e (by rw [zk z]; decide)
 ·rw [if_neg e] at h; exact ie h
theorem vk {n:Int} (h:-1000000000000000≤n) (h2:n≤1000000000000000):cG (gZ n)≤40:=by
 unfold gZ
 split
 ·have:=Lib.itoa_length_le (-n) (by omega) (by omega);show cG [⟨#[45]⟩,fg (-n)]≤_;simp only [cG];have e:(fg (-n)).size=(Lib.itoa (-n)).length:=by show (Lib.itoa (-n)).toArray.size=_; simp
  have e2:(⟨#[45]⟩:ByteArray).size=1:=rfl;omega
 ·have:=Lib.itoa_length_le n (by omega) (by omega);simp only [cG];have e:(fg n).size=(Lib.itoa n).length:=by show (Lib.itoa n).toArray.size=_; simp
  omega
theorem uU {v:Vl} (h:fu v=0):cG (cF v)≤200:=by
 have ok:=mm h;unfold cF
 split
 ·exact (by decide:cG [⟨#[110,117,108,108]⟩]≤200)
 ·split
  ·split
   ·exact (by decide:cG [⟨#[116,114,117,101]⟩]≤200)
   ·exact (by decide:cG [⟨#[102,97,108,115,101]⟩]≤200)
  ·split
   ·rename_i e
    have:=vk (ok.2.2.1 e).1 (ok.2.2.1 e).2;omega
   ·split
    ·rename_i e
     have h4:=ok.2.2.2 e;have h5:=sf v.2.2;simp only [cG,qV,ByteArray.size_append];have e2:(⟨#[39]⟩:ByteArray).size=1:=rfl;omega
    ·exact Dm _
theorem lO (t:Int) (m:Nat):∀ (l:List (Int × ByteArray)),(∀ a ∈ l,a.2.size≤m)→(bK t l).size≤m
 | [],_=>Dm _
 | a :: r,h=>by
  rw [bK]
  split
  ·exact h a (List.mem_cons_self ..)
  ·exact lO t m r fun b hb=>h b (DP _ hb)
theorem xu (k:Int) (m:Nat):∀ (l:List (Int × ByteArray × Int)),(∀ a ∈ l,a.2.1.size≤m)→(iD k l).2.1.size≤m
 | [],_=>Dm _
 | a :: r,h=>by
  rw [iD]
  split
  ·exact h a (List.mem_cons_self ..)
  ·exact xu k m r fun b hb=>h b (DP _ hb)
theorem jm (l:Int) (p:Int × List ByteArray):cG (en l p)≤cG p.2+4:=by
 unfold en
 split
 ·omega
 ·rw [bH,bH];have e:cG [⟨#[40]⟩]=2:=rfl;have e2:cG [⟨#[41]⟩]=2:=rfl;omega
def BS:List (Int × List ByteArray)→Nat
 | []=>0
 | p :: r=>cG p.2+BS r
theorem wu {k:Int} {v:Vl} {t n:ByteArray} {ps:List (Int × List ByteArray)} (hv:k=1→cG (cF v)≤200) (hc:k=2→t.size≤12∧n.size≤12) (h1:1≤k) (h23:k≤23) (hl:ps.length=fv k):cG (gp k v t n ps)≤200+BS ps:=by
 unfold gp;by_cases e1:k=1
 ·rw [if_pos e1]; have:=hv e1; omega
 rw [if_neg e1];by_cases e2:k=2
 ·rw [if_pos e2];have:=hc e2;unfold j1
  split
  ·simp only [cG]; omega
  ·rw [bH];have e:(⟨#[46]⟩:ByteArray).size=1:=rfl;simp only [cG]; omega
 rw [if_neg e2];have L0:cG [⟨#[110,111,116]⟩]=4:=rfl;have L1:cG [⟨#[105,115]⟩,⟨#[110,117,108,108]⟩]=8:=rfl;have L2:cG [⟨#[99,97,115,101]⟩]=5:=rfl;have L3:cG [⟨#[99,111,97,108,101,115,99,101]⟩]=9:=rfl;have L4:cG [⟨#[99,111,117,110,116]⟩,⟨#[40]⟩,⟨#[42]⟩,⟨#[41]⟩]=12:=rfl;by_cases e3:k=3
 ·rw [if_pos e3];rw [e3] at hl
  match ps,hl with
  | [p],_=>have:=jm 3 p; rw [bH,L0]; show 4+cG (en 3 p)≤200+(cG p.2+0); omega
 rw [if_neg e3];by_cases e16:k=16
 ·rw [if_pos e16];rw [e16] at hl
  match ps,hl with
  | [p],_=>have:=jm 5 p; rw [bH,L1]; show cG (en 5 p)+8≤200+(cG p.2+0); omega
 rw [if_neg e16];by_cases e17:k=17
 ·rw [if_pos e17];rw [e17] at hl
  match ps,hl with
  | [p,q,r],_ =>
   have a:=jm 1 p;have b:=jm 1 q;have c:=jm 1 r;rw [bH,L2];show 5+cG ((([] ++ [⟨#[119,104,101,110]⟩] ++ en 1 p) ++ [⟨#[116,104,101,110]⟩] ++ en 1 q) ++ [⟨#[101,108,115,101]⟩] ++ en 1 r ++ [⟨#[101,110,100]⟩])≤200+(cG p.2+(cG q.2+(cG r.2+0)));simp only [bH];have f1:cG [⟨#[119,104,101,110]⟩]=5:=rfl;have f2:cG [⟨#[116,104,101,110]⟩]=5:=rfl;have f3:cG [⟨#[101,108,115,101]⟩]=5:=rfl;have f4:cG [⟨#[101,110,100]⟩]=4:=rfl;have f5:cG []=0:=rfl;omega
 rw [if_neg e17];by_cases e18:k=18
 ·rw [if_pos e18];rw [e18] at hl
  match ps,hl with
  | [p,q],_ =>
   have a:=jm 1 p;have b:=jm 1 q;rw [bH,L3];show 9+cG (([] ++ [⟨#[40]⟩] ++ en 1 p) ++ [⟨#[44]⟩] ++ en 1 q ++ [⟨#[41]⟩])≤200+(cG p.2+(cG q.2+0));simp only [bH];have f1:cG [⟨#[40]⟩]=2:=rfl;have f2:cG [⟨#[44]⟩]=2:=rfl;have f3:cG [⟨#[41]⟩]=2:=rfl;have f5:cG []=0:=rfl;omega
 rw [if_neg e18];by_cases e19:k=19
 ·rw [if_pos e19,L4]; omega
 rw [if_neg e19];by_cases e20:20≤k∧k≤23
 ·rw [if_pos e20];have hk1:fv k=1:=by unfold fv; rw [if_neg (by omega),if_pos (by omega)]
  rw [hk1] at hl
  match ps,hl with
  | [p],_ =>
   have a:=jm 1 p;have hw:=lO k 8 fc (by decide);rw [bH];show cG [bK k fc]+cG (([] ++ [⟨#[40]⟩] ++ en 1 p) ++ [⟨#[41]⟩])≤200+(cG p.2+0);simp only [bH];have f1:cG [⟨#[40]⟩]=2:=rfl;have f3:cG [⟨#[41]⟩]=2:=rfl;have f5:cG []=0:=rfl;have f6:cG [bK k fc]=(bK k fc).size+1:=rfl;omega
 rw [if_neg e20];have hk2:fv k=2:=by unfold fv; rw [if_neg (by omega),if_neg (by omega),if_neg (by omega)]
 rw [hk2] at hl
 match ps,hl with
 | [p,q],_ =>
  unfold jW;rw [bH,bH];have a:=jm (rG (dS k).2.2) p;have b:=jm ((dS k).2.2+1) q;have hw:(dS k).2.1.size≤8:=xu k 8 cJ (by decide);have f6:cG [(dS k).2.1]=(dS k).2.1.size+1:=rfl;show cG (en _ p)+cG [(dS k).2.1]+cG (en _ q)≤200+(cG p.2+(cG q.2+0));omega
mutual
theorem sR:∀ (x:SX),nc x→cG (aU x)≤200*nX x
 | .mk k v t n ks,h=>by
  rw [aU,nX]
  cases h with
  | mk h1 h2 h3 h4 h5 =>
   have hp:=oz ks h5
   unfold ga at h4
   have:=wu (k:=k) (v:=v) (t:=t) (n:=n) (ps:=dT ks) (fun e=>by rw [if_pos (show (SX.mk k v t n ks).k=1 from e)] at h4; exact uU h4) (fun e=>by
    rw [if_neg (show ¬ (SX.mk k v t n ks).k=1 by show ¬ k=1; omega),if_pos (show (SX.mk k v t n ks).k=2 from e)] at h4
    have:=eQ h4
    exact ⟨qg this.2,ie this.1⟩) h1 h2 (by rw [jZ]; exact h3)
   rw [Nat.mul_add]
   omega
theorem oz:∀ (l:List SX),(∀ y ∈ l,nc y)→BS (dT l)≤200*oJ l
 | [],_=>by rw [dT]; exact Dm _
 | x :: r,h=>by
  rw [dT,BS,oJ,Nat.mul_add]
  have a:=sR x (h x (List.mem_cons_self ..))
  have b:=oz r fun y hy=>h y (DP _ hy)
  exact Nat.add_le_add a b
end
theorem kO {x:SX} (h:nc x∧nX x≤200):cG (bm x)≤40004:=by
 have a:=sR x h.1;have b:=jm 1 (aZ x.k,aU x);have c:cG (bm x)≤cG (aU x)+4:=b;have:=h.2;omega
theorem lk {α:Type} (ew:α→List ByteArray) (l:List α) (m:Nat) (h:∀ x ∈ l,cG (ew x)≤m):cG (cr ew l)≤l.length*(m+2):=by
 have:∀ i,cG (bR ew l i)≤i*(m+2):=by
  intro i
  induction i with
  | zero=>exact Dm _
  | succ i ih =>
   rw [bR,bH,bH,Nat.add_mul,DT];have a:cG (if i=0 then [] else [⟨#[44]⟩])≤2:=by split <;> decide
   refine Dt (Nat.add_le_add (Nat.add_le_add ih a) (?_:_≤m)) (by omega);cases hi:l[i]? with
   | none=>exact Dm _
   | some x=>exact h x (List.mem_of_getElem? hi)
 exact this l.length
theorem zg {s:ByteArray} (h:cM s=0):cG (iP s)≤16:=by
 unfold iP;have:=qg h
 split
 ·exact Dm _
 ·simp only [cG];have e:(⟨#[97,115]⟩:ByteArray).size=2:=rfl;omega
theorem Az {x:kQ} (h:(nc x.1∧nX x.1≤200)∧cM x.2=0):cG (eR x)≤40020:=by
 unfold eR;rw [bH];have a:=kO h.1;have b:=zg h.2;omega
theorem Av {first:Bool} {x:Src} (h:pR first x):cG (gH first x)≤40100:=by
 unfold gH;have a:=zg h.alias;have b:=ie h.name;have c:cG [x.name]=x.name.size+1:=rfl;have z:cG []=0:=rfl;cases first
 ·have e:=kO (h.on rfl);rw [if_neg (by decide)];simp only [bH];have f1:cG [⟨#[106,111,105,110]⟩]=5:=rfl;have f2:cG [⟨#[111,110]⟩]=3:=rfl;have f3:cG (if x.kind=2 then [] else [bK x.kind uP])≤9:=by
   split
   ·exact Dm _
   ·have:=lO x.kind 8 uP (by decide);simp only [cG]; omega
  omega
 ·rw [if_pos rfl];simp only [bH];omega
theorem sE {l:List Src} (h:∀ (i:Nat) (h:i<l.length),pR (i == 0) l[i]):∀ i,cG (ed l i)≤i*40100
 | 0=>Dm _
 | i+1=>by
  rw [ed,bH,Nat.add_mul,DT]
  refine Nat.add_le_add (sE h i) ?_
  cases hi:l[i]? with
  | none=>exact Dm _
  | some x =>
   obtain ⟨hl,rfl⟩:=List.getElem?_eq_some_iff.1 hi
   exact Av (h i hl)
theorem rB {wd:ByteArray} {has:Bool} {x:SX} (hw:wd.size≤10) (h:has=true→nc x∧nX x≤200):cG (dV wd has x)≤40020:=by
 unfold dV;cases has
 ·exact Dm _
 ·rw [if_pos rfl,bH];have:=kO (h rfl);have e:cG [wd]=wd.size+1:=rfl;omega
theorem zz {x:fD} (h:mA x):cG (fK x)≤1000000:=by
 unfold fK;simp only [bH];have a1:cG [⟨#[115,101,108,101,99,116]⟩]=7:=rfl;have a2:cG (jx x.distinct ⟨#[100,105,115,116,105,110,99,116]⟩)≤9:=by unfold jx; split <;> decide
 have a3:cG (eT x)≤400000:=by
  unfold eT;cases hs:x.star
  ·rw [if_neg (by decide)];have h1:=h.items hs;have:=lk eR x.items 40020 fun y hy=>Az (h1.2 y hy)
   have h2:x.items.length*(40020+2)≤8*(40020+2):=Dy _ h1.1;omega
  ·exact (by decide:cG [⟨#[42]⟩]≤400000)
 have a4:cG [⟨#[102,114,111,109]⟩]=5:=rfl;have a5:=sE h.sources.2 x.sources.length;have a6:=rB (wd:=⟨#[119,104,101,114,101]⟩) (by decide) h.ah;have a7:=rB (wd:=⟨#[104,97,118,105,110,103]⟩) (by decide) h.aj;have a8:cG (iY x.group)≤330000:=by
  unfold iY
  split
  ·exact Dm _
  ·rw [bH];have e:cG [⟨#[103,114,111,117,112]⟩,⟨#[98,121]⟩]=9:=rfl;have:=lk bm x.group 40004 fun y hy=>kO (h.group.2 y hy)
   have h2:x.group.length*(40004+2)≤8*(40004+2):=Dy _ h.group.1;omega
 have:=h.sources.1;omega
theorem zJ (op:Int):cG (ix op)≤20:=by
 unfold ix;rw [bH];have a:cG (if op=1∨op=2 then [⟨#[117,110,105,111,110]⟩] else [⟨#[101,120,99,101,112,116]⟩])≤8:=by split <;> decide
 have b:cG (if op=1∨op=3 then [⟨#[97,108,108]⟩] else [])≤8:=by split <;> decide
 omega
theorem vi {l:List fD} {ops:List Int} (h:∀ y ∈ l,mA y):∀ i,cG (eO l ops i)≤i*1000020
 | 0=>Dm _
 | i+1=>by
  rw [eO,bH,bH,Nat.add_mul,DT]
  have a:cG (if i=0 then [] else ix (ops.getD (i - 1) 0))≤20:=by
   split
   ·exact Dm _
   ·exact zJ _
  refine Dt (Nat.add_le_add (Nat.add_le_add (vi h i) a) (?_:_≤1000000)) (by omega);cases hi:l[i]? with
  | none=>exact Dm _
  | some x=>exact zz (h x (List.mem_of_getElem? hi))
theorem vO {q:j3} (h:AQ q):cG (fm q)≤10000000:=by
 unfold fm;rw [bH];have a:=vi (ops:=q.ops) h.parts.2 q.parts.length;have b:cG (jX q)≤400000:=by
  unfold jX;by_cases hl:0≤q.aE
  ·rw [if_pos hl];simp only [bH];have h1:=h.order hl;have:=lk bm q.order 40004 fun y hy=>kO (h1.2 y hy)
   have h2:q.order.length*(40004+2)≤8*(40004+2):=Dy _ h1.1;have h3:=h.aE;have h4:=vk (n:=q.aE) (by omega) (by omega);have e1:cG [⟨#[111,114,100,101,114]⟩,⟨#[98,121]⟩]=9:=rfl;have e2:cG [⟨#[108,105,109,105,116]⟩]=6:=rfl;omega
  ·rw [if_neg hl]; exact Dm _
 have:=h.parts.1;omega
theorem zX {l:List Vl} (h:l.length≤8∧∀ y ∈ l,fu y=0):cG (dZ l)≤2000:=by
 unfold dZ;rw [bH,bH];have e1:cG [⟨#[40]⟩]=2:=rfl;have e2:cG [⟨#[41]⟩]=2:=rfl;have:=lk cF l 200 fun y hy=>uU (h.2 y hy)
 have h2:l.length*(200+2)≤8*(200+2):=Dy _ h.1;omega
theorem yu {x:qs} (h:dB x.1=0):cG (cB x)≤30:=by
 unfold cB;have a:=ie h;have b:=lO x.2 8 wF (by decide);simp only [cG];omega
theorem zK {x:cW} (h:pb x):cG (ct x)≤20000000:=by
 have hk:=h.kind;have hc:x.kind=1∨x.kind=2∨x.kind=3∨x.kind=4∨x.kind=5:=by omega
 rcases hc with e | e | e | e | e
 ·have es:ct x = [⟨#[99,114,101,97,116,101]⟩,⟨#[116,97,98,108,101]⟩,x.name,⟨#[40]⟩] ++ cr cB x.bx ++ [⟨#[41]⟩] ++ [⟨#[59]⟩]:=by unfold ct; rw [if_pos e]
  rw [es];simp only [bH];have hn:=ie (h.name (by omega));have w0:cG [⟨#[99,114,101,97,116,101]⟩,⟨#[116,97,98,108,101]⟩,x.name,⟨#[40]⟩]≤x.name.size+30:=by
   simp only [cG];have u0:(⟨#[99,114,101,97,116,101]⟩:ByteArray).size=6:=rfl;have u1:(⟨#[116,97,98,108,101]⟩:ByteArray).size=5:=rfl;have u3:(⟨#[40]⟩:ByteArray).size=1:=rfl;omega
  have w9:cG [⟨#[59]⟩]=2:=rfl;have w8:cG [⟨#[41]⟩]=2:=rfl;have h1:=h.bx e;have:=lk cB x.bx 30 fun y hy=>yu (h1.2 y hy)
  have h2:x.bx.length*(30+2)≤8*(30+2):=Dy _ h1.1;omega
 ·have es:ct x = [⟨#[99,114,101,97,116,101]⟩,⟨#[118,105,101,119]⟩,x.name,⟨#[97,115]⟩] ++ fm x.query ++ [⟨#[59]⟩]:=by unfold ct; rw [if_neg (by omega),if_pos e]
  rw [es];simp only [bH];have hn:=ie (h.name (by omega));have w0:cG [⟨#[99,114,101,97,116,101]⟩,⟨#[118,105,101,119]⟩,x.name,⟨#[97,115]⟩]≤x.name.size+30:=by
   simp only [cG];have u0:(⟨#[99,114,101,97,116,101]⟩:ByteArray).size=6:=rfl;have u1:(⟨#[118,105,101,119]⟩:ByteArray).size=4:=rfl;have u3:(⟨#[97,115]⟩:ByteArray).size=2:=rfl;omega
  have w9:cG [⟨#[59]⟩]=2:=rfl;have:=vO (h.query (.inl e));omega
 ·have es:ct x = [⟨#[105,110,115,101,114,116]⟩,⟨#[105,110,116,111]⟩,x.name,⟨#[118,97,108,117,101,115]⟩] ++ cr dZ x.rows ++ [⟨#[59]⟩]:=by unfold ct; rw [if_neg (by omega),if_neg (by omega),if_pos e]
  rw [es];simp only [bH];have hn:=ie (h.name (by omega));have w0:cG [⟨#[105,110,115,101,114,116]⟩,⟨#[105,110,116,111]⟩,x.name,⟨#[118,97,108,117,101,115]⟩]≤x.name.size+30:=by
   simp only [cG];have u0:(⟨#[105,110,115,101,114,116]⟩:ByteArray).size=6:=rfl;have u1:(⟨#[105,110,116,111]⟩:ByteArray).size=4:=rfl;have u3:(⟨#[118,97,108,117,101,115]⟩:ByteArray).size=6:=rfl;omega
  have w9:cG [⟨#[59]⟩]=2:=rfl;have h1:=h.rows e;have:=lk dZ x.rows 2000 fun y hy=>zX (h1.2 y hy)
  have h2:x.rows.length*(2000+2)≤400*(2000+2):=Dy _ h1.1;omega
 ·have es:ct x = [⟨#[100,101,108,101,116,101]⟩,⟨#[102,114,111,109]⟩,x.name] ++ dV ⟨#[119,104,101,114,101]⟩ x.aB x.ah ++ [⟨#[59]⟩]:=by unfold ct; rw [if_neg (by omega),if_neg (by omega),if_neg (by omega),if_pos e]
  rw [es];simp only [bH];have hn:=ie (h.name (by omega));have w0:cG [⟨#[100,101,108,101,116,101]⟩,⟨#[102,114,111,109]⟩,x.name]≤x.name.size+30:=by
   simp only [cG];have u0:(⟨#[100,101,108,101,116,101]⟩:ByteArray).size=6:=rfl;have u1:(⟨#[102,114,111,109]⟩:ByteArray).size=4:=rfl;omega
  have w9:cG [⟨#[59]⟩]=2:=rfl;have:=rB (wd:=⟨#[119,104,101,114,101]⟩) (by decide) (h.ah e);omega
 ·have es:ct x = [⟨#[115,104,111,119]⟩] ++ fm x.query ++ [⟨#[59]⟩]:=by unfold ct; rw [if_neg (by omega),if_neg (by omega),if_neg (by omega),if_neg (by omega),if_pos e]
  rw [es];simp only [bH];have w0:cG [⟨#[115,104,111,119]⟩]≤30:=by decide
  have w9:cG [⟨#[59]⟩]=2:=rfl;have:=vO (h.query (.inr e));omega
theorem xe {x:cW} {bs:List UInt8} (h:pb x) (hb:bs.length≤4000):(an bs (ct x)).length≤fW:=by
 have a:=sW (ct x) bs;have b:=zK h;show _≤1099511627776;omega
def gJ:List UInt8→List cW→Option (List UInt8)
 | bs,[]=>some bs
 | bs,x :: r=>if 4000<(an bs (ct x)).length then none else gJ (an bs (ct x)) r
def cb (l:List cW):ByteArray × Er:=if (cC l).1≠0 then (eB,cC l) else match gJ [] l with | none=>(eB,(4,0)) | some bs=>(⟨bs.toArray⟩,(0,0))
theorem GP.up {W W':World} {PB PB':Nat} (h:GP W PB) (hb:Below W.heap.size W W') (hp:PB≤W.heap.size) (hpp:PB≤PB'):GP W' PB':=by
 have:=h.p;exact ⟨h.gl.next hb,ml h.aH (hb.block 2 (by omega)),by obtain ⟨m,hm⟩:=h.mx; exact ⟨m,(Dq (a:=⟨3,0,none⟩) (hb.block 3 (by omega))).trans hm⟩,by omega⟩
theorem vM:∀ {l:List cW} {i:Int},(jk l i).1=0→∀ x ∈ l,pb x
 | [],_,_=>by simp
 | y :: r,i,h=>by
  rw [jk] at h
  by_cases e:hH y=0
  ·rw [if_pos e] at h
   intro x hx
   rcases List.mem_cons.1 hx with rfl | hx
   ·exact zP e
   ·exact vM h x hx
  ·rw [if_neg e] at h; exact absurd h e
theorem uT {l:List cW} (h:(cC l).1=0):l.length≤60∧∀ x ∈ l,pb x:=by
 unfold cC at h;by_cases e:eD l.length 0 60=0
 ·rw [if_pos e] at h;exact ⟨by have:=cI e; omega,vM h⟩
 ·rw [if_neg e] at h; exact absurd h (by simp)
theorem yZ {W:World} {PB:Nat} {v:Value} {bs:List UInt8} (h:ax W PB v bs):(convert 24 9 v).run Tryz.prog W = .ok (.string ⟨bs.toArray⟩) W:=by
 obtain ⟨h0,⟨h1,h2⟩ | ⟨g,cap,cur,rfl,hb,hq,hr⟩⟩:=h.own
 ·subst h1;have e:bs = []:=List.length_eq_zero_iff.1 h2;subst e;exact run_convert_nil_bytes W _ _ 5 0 (by kernel_rfl) (by kernel_rfl) (by kernel_rfl)
 ·refine run_convert_bytes_back W _ _ 5 ⟨g,0,none⟩ cap bs (by kernel_rfl) (by kernel_rfl) (by kernel_rfl) (fun j hj=>?_);exact h.own.cells (g:=g) rfl j _ (by simp [gW,hj])
theorem uQ (l:List cW) (a:Option Addr) (c:Nat) {w:World} (hG:GP w w.heap.size) (hks:aI bG 16 (fun b=>b<w.heap.size) w a l):Calls Tryz.prog 16 #[.slice a l.length c] w fun e w'=>Below w.heap.size w w'∧e = .returned (.tuple #[.string (cb l).1,.agg #[.int .i64 (cb l).2.1,.int .i64 (cb l).2.2]]):=by
 have hal1:=ab w (.cells #[.int .i64 0,.int .i64 0] 27);have QF1:=ar w #[.int .i64 0,.int .i64 0] 27;have HK1:Hid (aI bG 16 (fun b=>b<w.heap.size) (w.alloc (.cells #[.int .i64 0,.int .i64 0] 27)) a l):=hks.nx bZ hal1;have HG1:Hid (GP (w.alloc (.cells #[.int .i64 0,.int .i64 0] 27)) w.heap.size):=hG.up hal1 (CX _) (CX _);generalize hM:cb l=M;have HM:Hid (cb l=M):=hM;clear hM hks hG;go_enter Tryz.func16,Tryz.ntmps16;go_upto_region 1 with fail
 generalize (w.alloc (.cells #[.int .i64 0,.int .i64 0] 27))=w1 at *;have con:=oe l a c _ w1 HK1.out;have HR:Hid (∃ r,cC l=r):=⟨_,rfl⟩
 obtain ⟨r,hr⟩:=HR.out;rw [hr] at con;have HRR:Hid (cC l=r):=hr;clear HR hr;go_wp2_with fail
 refine con.mono ?_;rintro e w2 ⟨rfl,hb2⟩;have hal2:=ab w2 (.cells #[.int .i64 r.1,.int .i64 r.2] 27);have QR2:=ar w2 #[.int .i64 r.1,.int .i64 r.2] 27;have hl1:=lt_of_heap QF1;have hs2:=hb2.size;have hb3:=chain hb2 hal2;have QF3:=(hb3.block _ hl1).trans QF1;have HK3:Hid (aI bG 16 (fun b=>b<w.heap.size) (w2.alloc (.cells #[.int .i64 r.1,.int .i64 r.2] 27)) a l):=HK1.out.nx bZ hb3;have HG3:Hid (GP (w2.alloc (.cells #[.int .i64 r.1,.int .i64 r.2] 27)) w.heap.size):=HG1.out.up hb3 (by omega) (CX _)
 have hbw:=chain hal1 hb3;have hs3:=hb3.size;clear con HK1 HG1 hal1 hal2 hb2 QF1;go_upto_region 2 with fail
 generalize (w2.alloc (.cells #[.int .i64 r.1,.int .i64 r.2] 27))=w3 at *;obtain ⟨r0,r1⟩:=cX QR2;by_cases hz:r.1=0
 case neg =>
  have HE:Hid (M=(eB,r)):=by show M=_; rw [← HM.out,cb,HRR.out,if_pos hz]
  have hzb:(r.1 == 0)=false:=by rw [beq_eq_false_iff_ne]; exact hz
  obtain ⟨c0,c1⟩:=cX QF3;obtain ⟨f0,f1⟩:=jO QF3;go_upto_region 3 with fail
  go_region
  have QE:=dH QF3 (.int .i64 r.1) (.int .i64 r.2);have hbE:=iI (g:=w.heap.size) hbw (by omega) (.int .i64 r.1) (.int .i64 r.2);go_wp2_with fail
  generalize ((w3.setCell ⟨w.heap.size,0,none⟩ (.int .i64 r.1)).setCell ⟨w.heap.size,1,none⟩ (.int .i64 r.2))=wE at *;obtain ⟨x0,x1⟩:=cX QE;exact C0 (v:=.tuple #[.string eB,.agg #[.int .i64 r.1,.int .i64 r.2]]) (by simp [results,Tryz.results16,go_sem,x0,x1]) rfl ⟨hbE.drew,by rw [HE.out]⟩
 case pos =>
  obtain ⟨hl60,hrt⟩:=uT (by rw [HRR.out]; exact hz);have HRT:Hid (∀ x ∈ l,pb x):=hrt;have hm:(match gJ [] l with | none=>(eB,((4,0):Er)) | some bs=>(⟨bs.toArray⟩,(0,0)))=M:=by rw [← HM.out,cb,HRR.out,if_neg (by simpa using hz)]
  have HM2:Hid ((match gJ [] l with | none=>(eB,((4,0):Er)) | some bs=>(⟨bs.toArray⟩,(0,0)))=M):=hm;clear hm hrt HM HRR;have hzb:(r.1 == 0)=true:=by rw [beq_iff_eq]; exact hz
  rw [hz] at r0;clear hz hzb;go_upto_region 4 with fail
  clear r0 r1 QR2;have hal3:=ab w3 (.cells #[.slice none 0 0] 81);have P0:Hid (ax (w3.alloc (.cells #[.slice none 0 0] 81)) w3.heap.size (.slice none 0 0) []):=⟨ar w3 _ _,⟨rfl,.inl ⟨rfl,rfl⟩⟩⟩
  have HG4:Hid (GP (w3.alloc (.cells #[.slice none 0 0] 81)) w3.heap.size):=HG3.out.up hal3 (by omega) (by omega);have HK4:Hid (aI bG 16 (fun b=>b<w3.heap.size) (w3.alloc (.cells #[.slice none 0 0] 81)) a l):=(HK3.out.nx bZ hal3).mono bZ (fun b h _=>by have:b<w.heap.size:=h; show b<w3.heap.size; omega);have QF4:=(hal3.block _ (by omega)).trans QF3;have hbw4:=chain hbw hal3;have hPB:w.heap.size<w3.heap.size:=by omega
  clear HG3 HK3 QF3 hal3 hb3;go_upto_region 5 with fail
  generalize (w3.alloc (.cells #[.slice none 0 0] 81))=w4 at *;generalize w3.heap.size=PB at *;go_wp2_with fail
  go_loopw [16] (fun jv wr=>∃ (j:Nat) (v':Value) (bs:List UInt8),j≤l.length∧jv = .int .i64 j∧bs.length≤4000∧Hid (ax wr PB v' bs)∧Hid (St PB (.slice none 0 0) w4 v' wr)∧Hid (gJ [] l=gJ bs (l.drop j))) (fun jv _=>l.length - (RowKit.intOf jv).toNat)
  case atStart=>exact ⟨0,.slice none 0 0,[],Dm _,rfl,by simp,P0,St.refl _ _ _,rfl⟩
  case round =>
   obtain ⟨j,v1,bs,hj,rfl,hbs,hP1,hS1,HL1⟩:=hrel;by_cases hlt:j<l.length
   ·have hjz:(j:Int)<(l.length:Int):=by omega
    have hL:=HL1.out;rw [Da hlt,gJ] at hL;have hoj:=HRT.out _ (DC hlt);obtain ⟨b1,o1,_,rfl,t1,a1,c1,p1,d1,p2,d2,p3,d3,a2,c2,a3,c3,rfl,k1,k2,k3,k4,k5,k6⟩:=(HK4.out.bJ bZ hS1.out).get hlt;generalize l[j]=y at *;have HL2:Hid (gJ [] l=if 4000<(an bs (ct y)).length then none else gJ (an bs (ct y)) (l.drop (j+1))):=hL;have HOJ:Hid (pb y):=hoj
    have hrg:wr.rangeAt b1 (o1+j*16) [.int .i64 y.kind,.string y.name,.slice a1 y.bx.length c1,.slice p1 y.query.parts.length d1,.slice p2 y.query.ops.length d2,.slice p3 y.query.order.length d3,.int .i64 y.query.aE,.slice a2 y.rows.length c2,.bool y.aB,.int .i64 y.ah.k,.int .i64 y.ah.v.1,.int .i64 y.ah.v.2.1,.string y.ah.v.2.2,.string y.ah.aH,.string y.ah.name,.slice a3 y.ah.ks.length c3]:=fun i u hu=>t1.2 i u hu
    have halY:=ab wr (.cells (du y.kind y a1 c1 p1 d1 p2 d2 p3 d3 a2 c2 a3 c3) 57);have QY:=ar wr (du y.kind y a1 c1 p1 d1 p2 d2 p3 d3 a2 c2 a3 c3) 57;have P1:Hid (ax (wr.alloc (.cells (du y.kind y a1 c1 p1 d1 p2 d2 p3 d3 a2 c2 a3 c3) 57)) PB v1 bs):=hP1.out.next halY;have G1:Hid (GP (wr.alloc (.cells (du y.kind y a1 c1 p1 d1 p2 d2 p3 d3 a2 c2 a3 c3) 57)) PB):=(HG4.out.st hS1.out).nx halY hP1.out.lt
    have S1:Hid (St PB (.slice none 0 0) w4 v1 (wr.alloc (.cells (du y.kind y a1 c1 p1 d1 p2 d2 p3 d3 a2 c2 a3 c3) 57))):=hS1.out.trans (St.of halY hP1.out.lt);have K1:Hid _:=k1.nx je halY;have K2:Hid _:=k2.nx cf halY;have K3:Hid _:=k3.nx fV halY;have K4:Hid _:=k4.nx bX halY;have K5:Hid _:=k5.nx (bd fP 3) halY;have K6:Hid _:=aD.next halY k6;clear HL1 hL hoj t1 k1 k2 k3 k4 k5 k6 hP1 hS1 P0
    go_upto_region 8 with (first | (refine wpList_load_mid rfl 57 _ rfl b1 (o1+j*16) rfl (du y.kind y a1 c1 p1 d1 p2 d2 p3 d3 a2 c2 a3 c3).toList _ hrg Tryz.underlying57 rfl dh ?_) | (refine bB rfl 57 _ _ rfl bL (du y.kind y a1 c1 p1 d1 p2 d2 p3 d3 a2 c2 a3 c3) rfl rfl dh rfl (fX rfl) ?_))
    generalize (wr.alloc (.cells (du y.kind y a1 c1 p1 d1 p2 d2 p3 d3 a2 c2 a3 c3) 57))=wa at *;have con:=nC y HOJ.out.ok a1 p1 p2 p3 a2 a3 c1 d1 d2 d3 c2 c3 G1.out P1.out K1.out K2.out K3.out K4.out K5.out K6.out (xe HOJ.out hbs);clear K1 K2 K3 K4 K5 K6 hrg;go_upto_region 9 with (first | (refine wpList_load_row rfl 57 _ rfl wr.heap.size rfl 57 (du y.kind y a1 c1 p1 d1 p2 d2 p3 d3 a2 c2 a3 c3) (0,0) _ QY Tryz.underlying57 rfl dh ?_))
    refine con.mono ?_;rintro e wb ⟨rfl,v2,P2,S2⟩;have HP2:Hid _:=P2;have HS2:Hid _:=S1.out.trans S2;generalize an bs (ct y)=bs2 at *;obtain ⟨a9,cap9,e9⟩:=P2.val;have q0:wb.cell? ⟨PB,0,none⟩=some v2:=cell_of (i:=0) P2.q rfl;rw [e9] at q0;clear con P2 S2 S1 P1 G1 QY;have hbb:Below w.heap.size w wb:=hbw4.trans (HS2.out.kD.mono (by omega));by_cases h4:4000<bs2.length
    ·have hq:(4000:Int)<(bs2.length:Int):=by omega
     have QFb:=(HS2.out.kD.block _ hPB).trans QF4;obtain ⟨c0,c1⟩:=cX QFb;obtain ⟨f0,f1⟩:=jO QFb;have QE:=dH QFb (.int .i64 4) (.int .i64 0);have hbE:=iI (g:=w.heap.size) hbb (by omega) (.int .i64 4) (.int .i64 0);have HE:Hid (M=(eB,(4,0))):=by show M=_; rw [← HM2.out,HL2.out,if_pos h4]
     go_wp2_with fail
     generalize ((wb.setCell ⟨w.heap.size,0,none⟩ (.int .i64 4)).setCell ⟨w.heap.size,1,none⟩ (.int .i64 0))=wE at *;obtain ⟨x0,x1⟩:=cX QE;exact C0 (v:=.tuple #[.string eB,.agg #[.int .i64 4,.int .i64 0]]) (by simp [results,Tryz.results16,go_sem,x0,x1]) rfl ⟨hbE,by rw [HE.out]⟩
    ·have hq:¬ (4000:Int)<(bs2.length:Int):=by omega
     have HL3:Hid (gJ [] l=gJ bs2 (l.drop (j+1))):=by show gJ [] l=_; rw [HL2.out,if_neg h4]
     go_wp2_with fail
     go_roundw
     case rel=>exact ⟨j+1,v2,bs2,by omega,by go_num,by omega,HP2,HS2,HL3⟩
     case measure=>simp [RowKit.intOf]; omega
   ·have hjz:¬ (j:Int)<(l.length:Int):=by omega
    have hL:=HL1.out;rw [Dh (by omega),gJ] at hL;have HE:Hid (M=(⟨bs.toArray⟩,(0,0))):=by show M=_; rw [← HM2.out,hL]
    have hcv:=yZ hP1.out;obtain ⟨a9,cap9,e9⟩:=hP1.out.val;have q0:wr.cell? ⟨PB,0,none⟩=some v1:=cell_of (i:=0) hP1.out.q rfl;rw [e9] at q0 hcv;have hbb:Below w.heap.size w wr:=hbw4.trans (hS1.out.kD.mono (by omega));have QFb:=(hS1.out.kD.block _ hPB).trans QF4;obtain ⟨c0,c1⟩:=cX QFb;obtain ⟨f0,f1⟩:=jO QFb;have QE:=dH QFb (.int .i64 0) (.int .i64 0);have hbE:=iI (g:=w.heap.size) hbb (by omega) (.int .i64 0) (.int .i64 0);clear hL HL1 HM2;go_wp2_with fail
    generalize ((wr.setCell ⟨w.heap.size,0,none⟩ (.int .i64 0)).setCell ⟨w.heap.size,1,none⟩ (.int .i64 0))=wE at *;obtain ⟨x0,x1⟩:=cX QE;exact C0 (v:=.tuple #[.string ⟨bs.toArray⟩,.agg #[.int .i64 0,.int .i64 0]]) (by simp [results,Tryz.results16,go_sem,x0,x1]) rfl ⟨hbE,by rw [HE.out]⟩
def jh:List fD→List Int→List ByteArray
 | x :: r,o :: os=>ix o ++ fK x ++ jh r os
 | _,_=>[]
theorem xx:∀ (r:List fD) (x:fD) (os:List Int),r.length=os.length→∀ n,n≤r.length→eO (x :: r) os (n+1)=fK x ++ jh (r.take n) (os.take n)
 | r,x,os,h,0,_=>by simp [eO,jh]
 | r,x,os,h,n+1,hn=>by
  have h1:n<r.length:=by omega
  have h2:n<os.length:=by omega
  have happ:∀ (a:List fD) (b:List Int) (y:fD) (o:Int),a.length=b.length→jh (a ++ [y]) (b ++ [o])=jh a b ++ (ix o ++ fK y):=by
   intro a
   induction a with
   | nil=>intro b y o hl; cases b with
    | nil=>simp [jh]
    | cons c b=>simp at hl
   | cons z a ih=>intro b y o hl; cases b with
    | nil=>simp at hl
    | cons c b=>rw [Dw,Dw,jh,jh,ih b y o (by simpa using hl)]; simp
  rw [eO,xx r x os h n (by omega)];have e1:os.getD (n+1 - 1) 0=os[n]:=by simp [List.getD,h2]
  have e2:(x :: r)[n+1]? = some r[n]:=by simp [h1]
  rw [if_neg (by omega),e1,e2,List.take_add_one,List.take_add_one,Dj h1,Dj h2];show _=fK x ++ jh (r.take n ++ [r[n]]) (os.take n ++ [os[n]]);rw [happ _ _ _ _ (by simp; omega)];simp
theorem rm {o:Int} (ho:1≤o∧o≤4) {ts rest:List Tk} (ht:TW (ix o) ts) (hr:Fs [⟨#[115,101,108,101,99,116]⟩] rest):bp (ts ++ rest)=(o,rest):=by
 have:o=1∨o=2∨o=3∨o=4:=by omega
 have hall:=hr.bu (s:=⟨#[97,108,108]⟩) (by decide);rcases this with rfl | rfl | rfl | rfl
 ·change TW [iz,⟨#[97,108,108]⟩] ts at ht;replace ht:=ht.cons;obtain ⟨p,t1,rfl,ht⟩:=ht;replace ht:=ht.cons;obtain ⟨q,t2,rfl,ht⟩:=ht;obtain rfl:=ht.nil;show bp (br iz p :: br ⟨#[97,108,108]⟩ q :: rest)=_;rw [bp,if_pos (by rw [aO]; decide),bc,if_pos (by rw [aO]; decide),bc]
 ·change TW [iz] ts at ht;replace ht:=ht.cons;obtain ⟨p,t1,rfl,ht⟩:=ht;obtain rfl:=ht.nil;show bp (br iz p :: rest)=_;rw [bp,if_pos (by rw [aO]; decide),bc,if_neg (by rw [hall]; decide)]
 ·change TW [fz,⟨#[97,108,108]⟩] ts at ht;replace ht:=ht.cons;obtain ⟨p,t1,rfl,ht⟩:=ht;replace ht:=ht.cons;obtain ⟨q,t2,rfl,ht⟩:=ht;obtain rfl:=ht.nil;show bp (br fz p :: br ⟨#[97,108,108]⟩ q :: rest)=_;rw [bp,if_neg (by rw [aO]; decide),if_pos (by rw [aO]; decide),bc,if_pos (by rw [aO]; decide),bc]
 ·change TW [fz] ts at ht;replace ht:=ht.cons;obtain ⟨p,t1,rfl,ht⟩:=ht;obtain rfl:=ht.nil;show bp (br fz p :: rest)=_;rw [bp,if_neg (by rw [aO]; decide),if_pos (by rw [aO]; decide),bc,if_neg (by rw [hall]; decide)]
theorem rY {rest:List Tk} (h:Fs [gy,cD] rest):bp rest=(0,rest):=by
 rw [bp,if_neg (by rw [h.bu (by decide)]; decide),if_neg (by rw [h.bu (by decide)]; decide)]
theorem za {o:Int} (ho:1≤o∧o≤4):∃ w r,ix o=w :: r∧w ∈ [iz,fz]:=by
 have:o=1∨o=2∨o=3∨o=4:=by omega
 rcases this with rfl | rfl | rfl | rfl
 ·exact ⟨_,_,rfl,by simp⟩
 ·exact ⟨_,_,rfl,by simp⟩
 ·exact ⟨fz,_,rfl,by simp⟩
 ·exact ⟨fz,_,rfl,by simp⟩
theorem Fs.parts {rest:List Tk} (h:Fs [gy,cD] rest) {r:List fD} {os:List Int} (ho:∀ o ∈ os,1≤o∧o≤4) {ts:List Tk} (ht:TW (jh r os) ts):Fs [iz,fz,gy,cD] (ts ++ rest):=by
 have hnil:∀ ts,TW [] ts→Fs [iz,fz,gy,cD] (ts ++ rest):=by
  intro ts ht;rw [ht.nil];exact h.mono fun w hw=>DP _ (DP _ hw)
 cases r with
 | nil=>exact hnil ts ht
 | cons x r=>cases os with
  | nil=>exact hnil ts ht
  | cons o os =>
   obtain ⟨w,q,e,hw⟩:=za (ho o (by simp));rw [jh,e] at ht;replace ht:=TW.cons (w:=w) (ws:=q ++ fK x ++ jh r os) (by simpa using ht);obtain ⟨p,t1,rfl,_⟩:=ht;exact ⟨w,p,t1 ++ rest,rfl,by simp at hw ⊢; rcases hw with rfl | rfl <;> simp⟩
theorem zS {x:fD} {ts:List Tk} (ht:TW (fK x) ts) (rest:List Tk):Fs [⟨#[115,101,108,101,99,116]⟩] (ts ++ rest):=by
 have e:∃ r,fK x=⟨#[115,101,108,101,99,116]⟩ :: r:=by unfold fK; exact ⟨_,by simp only [Dc,List.singleton_append]; rfl⟩
 obtain ⟨r,e⟩:=e;rw [e] at ht;replace ht:=ht.cons;obtain ⟨p,t1,rfl,_⟩:=ht;exact Fs.lit _ p _
theorem mB:∀ (r:List fD) (os:List Int) (n:Nat) (ps:List fD) (acc:List Int) (ts rest:List Tk),r.length=os.length→(∀ x ∈ r,lz x)→(∀ o ∈ os,1≤o∧o≤4)→r.length<n→ps.length+r.length≤4→TW (jh r os) ts→Fs [gy,cD] rest→fa n ps acc (ts ++ rest) = .ok ((ps ++ r.map fj,acc ++ os),rest)
 | [],os,n,ps,acc,ts,rest,hl,_,_,hn,_,ht,hr=>by
  obtain rfl:os = []:=List.length_eq_zero_iff.1 hl.symm
  obtain ⟨m,rfl⟩:∃ m,n=m+1:=⟨n - 1,by simp at hn; omega⟩
  rw [TW.nil ht,Ds,fa,rY hr,if_pos rfl]
  simp
 | x :: r,[],n,ps,acc,ts,rest,hl,_,_,_,_,_,_=>by simp at hl
 | x :: r,o :: os,n,ps,acc,ts,rest,hl,h1,ho,hn,hm,ht,hr=>by
  simp only [Dn] at hl hn hm
  obtain ⟨m,rfl⟩:∃ m,n=m+1:=⟨n - 1,by omega⟩
  rw [jh,Dc] at ht
  replace ht:=ht.app
  obtain ⟨tb,t1,rfl,hb,ht⟩:=ht
  replace ht:=ht.app
  obtain ⟨tsx,tr,rfl,hx,ht⟩:=ht
  have hoo:=ho o (by simp)
  have e:tb ++ (tsx ++ tr) ++ rest=tb ++ (tsx ++ (tr ++ rest)):=by simp
  have hnext:=hr.parts (fun q hq=>ho q (by simp [hq])) ht
  rw [e,fa,rm hoo hb (zS hx _),if_neg (show ¬ o=0 by omega),if_neg (by omega),bq _ (nR (h1 x (by simp)) hx hnext)]
  rw [mB r os m _ _ tr rest (by omega) (fun y hy=>h1 y (by simp [hy])) (fun q hq=>ho q (by simp [hq])) (by omega) (by simp only [Dk,Dn,DQ]; omega) ht hr]
  simp
structure BR (q:j3):Prop where
 parts:1≤q.parts.length∧q.parts.length≤4∧∀ x ∈ q.parts,lz x
 ops:q.parts.length=q.ops.length+1∧∀ o ∈ q.ops,1≤o∧o≤4
 order:0≤q.aE→(∀ y ∈ q.order,eh y=0)∧1≤q.order.length∧q.order.length≤8
 aE:q.aE≤50
theorem ob {ops:List Int}:∀ {l:List fD} {j:Nat},fe ops j l=0→(∀ x ∈ l,lz x)∧∀ i,i<l.length→j+i≠0→1≤ops.getD (j+i - 1) 0∧ops.getD (j+i - 1) 0≤4
 | [],_,_=>by simp
 | y :: r,j,h=>by
  rw [fe] at h
  obtain ⟨h1,h⟩:=eQ h
  obtain ⟨h2,h3⟩:=eQ h
  obtain ⟨q1,q2⟩:=ob h3
  refine ⟨?_,?_⟩
  ·intro x hx
   rcases List.mem_cons.1 hx with rfl | hx
   ·exact Bm h2
   ·exact q1 x hx
  ·intro i hi h0
   match i,hi with
   | 0,_ =>
    rw [if_neg (by omega)] at h1
    unfold Bb at h1
    simp only [DJ]
    by_cases hc:(decide (1≤ops.getD (j - 1) 0) && decide (ops.getD (j - 1) 0≤4))=true
    ·simpa using hc
    ·rw [if_neg hc] at h1; exact absurd h1 (by decide)
   | i+1,hi =>
    have:=q2 i (by simpa using hi) (by omega)
    rw [show j+(i+1) - 1=j+1+i - 1 by omega]
    exact this
theorem CN {q:j3} (h:lG q=0):BR q:=by
 unfold lG at h;obtain ⟨h1,h⟩:=eQ h;obtain ⟨h2,h⟩:=eQ h;obtain ⟨h3,h⟩:=eQ h;obtain ⟨h4,h⟩:=eQ h;obtain ⟨h5,h⟩:=eQ h;obtain ⟨h6,_⟩:=eQ h;have g1:=cI h1;have g2:=cI h2;obtain ⟨p1,p2⟩:=ob h5;refine ⟨⟨by omega,by omega,p1⟩,⟨by omega,fun o ho=>?_⟩,fun hl=>?_,?_⟩
 ·obtain ⟨i,hi,rfl⟩:=List.mem_iff_getElem.1 ho;have:=p2 (i+1) (by omega) (by omega)
  simpa [List.getD,hi] using this
 ·unfold uv at h3;unfold nj at h6;rw [if_pos hl] at h3 h6;have:=cI h3;exact ⟨ll h6,by omega,by omega⟩
 ·unfold rR at h4;by_cases e:q.aE≤50
  ·exact e
  ·rw [if_neg e] at h4; exact absurd h4 (by decide)
theorem xd {q:j3} {x:fD} {r:List fD} (hp:q.parts=x :: r) (hl:r.length=q.ops.length):fm q=fK x ++ jh r q.ops ++ jX q:=by
 unfold fm;rw [hp,Dn,xx r x q.ops hl r.length (CX _),List.take_length,hl,List.take_length]
theorem pL {q:j3} (h:BR q) {ts rest:List Tk} (ht:TW (fm q) ts) (hr:Fs [cD] rest):iA (ts ++ rest) = .ok (pn q,rest):=by
 obtain ⟨h1,h4,hs⟩:=h.parts;cases hp:q.parts with
 | nil=>rw [hp] at h1; simp at h1
 | cons x r =>
  have hl:r.length=q.ops.length:=by have:=h.ops.1; rw [hp] at this; simpa using this
  rw [hp] at hs h4;rw [xd hp hl] at ht;replace ht:=ht.app;obtain ⟨t1,t9,rfl,ht,ho⟩:=ht;replace ht:=ht.app;obtain ⟨tx,tr,rfl,hx,htr⟩:=ht;have hord:Fs [gy,cD] (t9 ++ rest):=hr.opt ho (by
   unfold jX
   split
   ·exact .inr ⟨_,rfl⟩
   ·exact .inl rfl)
  have hnext:=hord.parts h.ops.2 htr;have e:tx ++ tr ++ t9 ++ rest=tx ++ (tr ++ (t9 ++ rest)):=by simp
  rw [e,iA,bq _ (nR (hs x (by simp)) hx hnext),bq _ (mB r q.ops 5 [fj x] [] tr _ hl (fun y hy=>hs y (by simp [hy])) h.ops.2 (by simp at h4; omega) (by simp at h4 ⊢; omega) htr hord)];by_cases hlim:0≤q.aE
  ·have eo:jX q=gy :: ⟨#[98,121]⟩ :: (cr bm q.order ++ (⟨#[108,105,109,105,116]⟩ :: gZ q.aE)):=by
    unfold jX; rw [if_pos hlim]; simp
   rw [eo] at ho;replace ho:=ho.cons;obtain ⟨p1,t2,rfl,ho⟩:=ho;replace ho:=ho.cons;obtain ⟨p2,t3,rfl,ho⟩:=ho;replace ho:=ho.app;obtain ⟨te,t4,rfl,he,ho⟩:=ho;replace ho:=ho.cons;obtain ⟨p3,tn,rfl,hn⟩:=ho;obtain ⟨o1,o2,o3⟩:=h.order hlim;have hlt:=h.aE;have e2:br gy p1 :: br ⟨#[98,121]⟩ p2 :: (te ++ br ⟨#[108,105,109,105,116]⟩ p3 :: tn) ++ rest=br gy p1 :: br ⟨#[98,121]⟩ p2 :: (te ++ (br ⟨#[108,105,109,105,116]⟩ p3 :: (tn ++ rest))):=by simp
   rw [e2,if_pos (by rw [aO]; decide),bc,b8 (by decide)];show bf (bS eP 8 9 (te ++ (br ⟨#[108,105,109,105,116]⟩ p3 :: (tn ++ rest)))) _=_;rw [bq _ (gM (L:=[⟨#[108,105,109,105,116]⟩]) (by decide) (fun y hy ts rest ht hr=>pY (o1 y hy) ht (hr.yT (by decide))) o2 (by omega) (by omega) he (Fs.lit _ _ _)),b8 (by decide)];show bf (dp 0 50 (tn ++ rest)) _=_;rw [bq _ (mJ (by omega) (by omega) hlim hlt hn rest)];simp [pn,hp,hlim]
  ·have eo:jX q = []:=by unfold jX; rw [if_neg hlim]
   rw [eo] at ho;rw [ho.nil,Ds,if_neg (by rw [hr.bu (by decide)]; decide)];simp [pn,hp,hlim]
theorem Ao {o:Int}:∀ w ∈ ix o,GW w:=by
 unfold ix;refine bI ?_ ?_
 ·split <;> exact aJ (ba (by decide)) bD
 ·split
  ·exact aJ (ba (by decide)) bD
  ·exact bD
theorem vK:∀ {r:List fD} {os:List Int},(∀ x ∈ r,lz x)→∀ w ∈ jh r os,GW w
 | [],_,_=>bD
 | x :: r,[],_=>bD
 | x :: r,o :: os,h=>by
  rw [jh]
  exact bI (bI Ao (xA (h x (by simp)))) (vK fun y hy=>h y (by simp [hy]))
theorem wQ {q:j3} (h:BR q):∀ w ∈ fm q,GW w:=by
 obtain ⟨h1,h4,hs⟩:=h.parts;cases hp:q.parts with
 | nil=>rw [hp] at h1; simp at h1
 | cons x r =>
  have hl:r.length=q.ops.length:=by have:=h.ops.1; rw [hp] at this; simpa using this
  rw [hp] at hs;rw [xd hp hl];refine bI (bI (xA (hs x (by simp))) (vK fun y hy=>hs y (by simp [hy]))) ?_;unfold jX
  split
  ·rename_i hlim
   have hlt:=h.aE;exact bI (bI (bI (aJ (ba (by decide)) (aJ (ba (by decide)) bD)) (kU fun y hy=>kG ((h.order hlim).1 y hy))) (aJ (ba (by decide)) bD)) (vV (by omega) (by omega))
  ·exact bD
def eC (x:cW):cW :=
 if x.kind=1 then ⟨1,x.name,x.bx,mF,[],false,jN⟩
 else if x.kind=2 then ⟨2,x.name,[],pn x.query,[],false,jN⟩
 else if x.kind=3 then ⟨3,x.name,[],mF,x.rows.map (·.map ja),false,jN⟩
 else if x.kind=4 then ⟨4,x.name,[],mF,[],x.aB,uO x.aB x.ah⟩
 else ⟨5,eB,[],pn x.query,[],false,jN⟩
structure BO (x:cW):Prop where
 kind:x.kind=1∨x.kind=2∨x.kind=3∨x.kind=4∨x.kind=5
 name:x.kind≠5→cN x.name=true
 bx:x.kind=1→(∀ y ∈ x.bx,dB y.1=0∧kn y.2=0)∧1≤x.bx.length∧x.bx.length≤8
 query:x.kind=2∨x.kind=5→BR x.query
 rows:x.kind=3→(∀ l ∈ x.rows,(∀ v ∈ l,fu v=0)∧1≤l.length∧l.length≤8)∧1≤x.rows.length∧x.rows.length≤400
 ah:x.kind=4→dx x.aB x.ah=0
theorem pT:∀ {l:List (List Vl)},gv l=0→∀ x ∈ l,(∀ v ∈ x,fu v=0)∧1≤x.length∧x.length≤8
 | [],_=>by simp
 | y :: r,h=>by
  rw [gv] at h
  obtain ⟨h1,h⟩:=eQ h
  obtain ⟨h2,h3⟩:=eQ h
  have:=cI h1
  intro x hx
  rcases List.mem_cons.1 hx with rfl | hx
  ·exact ⟨oM h2,by omega,by omega⟩
  ·exact pT h3 x hx
theorem AO {x:cW} (h:hH x=0):BO x:=by
 unfold hH at h;obtain ⟨h1,h⟩:=eQ h;obtain ⟨h2,h⟩:=eQ h;obtain ⟨h3,_⟩:=eQ h;have hk:1≤x.kind∧x.kind≤5:=by
  unfold xP at h1;by_cases hc:(decide (1≤x.kind) && decide (x.kind≤5))=true
  ·simpa using hc
  ·rw [if_neg hc] at h1; exact absurd h1 (by decide)
 unfold iJ at h3;refine ⟨by omega,fun e=>?_,fun e=>?_,fun e=>?_,fun e=>?_,fun e=>?_⟩
 ·unfold jG at h2; rw [if_neg e] at h2; exact fM h2
 ·rw [if_pos e] at h3;unfold mo at h3;obtain ⟨g1,g2⟩:=eQ h3;have:=cI g1;exact ⟨qA (eQ g2).1,by omega,by omega⟩
 ·rw [if_neg (by omega),if_neg (by omega),if_neg (by omega)] at h3;exact CN h3
 ·rw [if_neg (by omega),if_pos e] at h3;unfold lE at h3;obtain ⟨g1,g2⟩:=eQ h3;have:=cI g1;exact ⟨pT (eQ g2).1,by omega,by omega⟩
 ·rw [if_neg (by omega),if_neg (by omega),if_pos e] at h3;exact h3
abbrev ic:ByteArray:=⟨#[99,114,101,97,116,101]⟩
theorem zV {x:cW} (h:BO x) {ts rest:List Tk} (ht:TW (ct x) ts):∃ p r,ts ++ rest=p :: r∧p.1≠5∧∃ u,dD (ts ++ rest) = .ok (eC x,br cD u :: rest):=by
 rcases h.kind with hk | hk | hk | hk | hk
 ·have e:ct x=ic :: ⟨#[116,97,98,108,101]⟩ :: x.name :: ⟨#[40]⟩ :: (cr cB x.bx ++ (⟨#[41]⟩ :: [cD])):=by unfold ct; rw [if_pos hk]; simp
  rw [e] at ht;replace ht:=ht.cons;obtain ⟨p1,t1,rfl,ht⟩:=ht;replace ht:=ht.cons;obtain ⟨p2,t2,rfl,ht⟩:=ht;replace ht:=ht.cons;obtain ⟨p3,t3,rfl,ht⟩:=ht;replace ht:=ht.cons;obtain ⟨p4,t4,rfl,ht⟩:=ht;replace ht:=ht.app;obtain ⟨tc,t5,rfl,hc,ht⟩:=ht;replace ht:=ht.cons;obtain ⟨p5,t6,rfl,ht⟩:=ht;replace ht:=ht.cons;obtain ⟨p6,t7,rfl,ht⟩:=ht;obtain rfl:=ht.nil;obtain ⟨c1,c2,c3⟩:=h.bx hk;have hn:=h.name (by omega)
  have e:br ic p1 :: br ⟨#[116,97,98,108,101]⟩ p2 :: br x.name p3 :: br ⟨#[40]⟩ p4 :: (tc ++ br ⟨#[41]⟩ p5 :: [br cD p6]) ++ rest=br ic p1 :: br ⟨#[116,97,98,108,101]⟩ p2 :: br x.name p3 :: br ⟨#[40]⟩ p4 :: (tc ++ (br ⟨#[41]⟩ p5 :: br cD p6 :: rest)):=by simp
  rw [e];refine ⟨_,_,rfl,(by decide:¬ (wk ic).1=5),p6,?_⟩;rw [dD,if_pos (by rw [aO]; decide),bc,gV,if_neg (by rw [aO]; decide),b8 (by decide)];show bf (cV (br x.name p3 :: _)) _=_;rw [bq _ (fw hn p3 _),b8 (by decide)];show bf (bS db 8 9 (tc ++ (br ⟨#[41]⟩ p5 :: br cD p6 :: rest))) _=_;rw [bq _ (gM (X:=fun x=>x) (L:=[⟨#[41]⟩]) (by decide) (fun y hy ts rest ht _=>Ar (c1 y hy).1 (c1 y hy).2 ht) c2 (by omega) (by omega) hc (Fs.lit _ _ _)),b8 (by decide)];rw [eC,if_pos hk,List.map_id'];rfl
 ·have e:ct x=ic :: ⟨#[118,105,101,119]⟩ :: x.name :: ⟨#[97,115]⟩ :: (fm x.query ++ [cD]):=by unfold ct; rw [if_neg (by omega),if_pos hk]; simp
  rw [e] at ht;replace ht:=ht.cons;obtain ⟨p1,t1,rfl,ht⟩:=ht;replace ht:=ht.cons;obtain ⟨p2,t2,rfl,ht⟩:=ht;replace ht:=ht.cons;obtain ⟨p3,t3,rfl,ht⟩:=ht;replace ht:=ht.cons;obtain ⟨p4,t4,rfl,ht⟩:=ht;replace ht:=ht.app;obtain ⟨tc,t5,rfl,hc,ht⟩:=ht;replace ht:=ht.cons;obtain ⟨p6,t7,rfl,ht⟩:=ht;obtain rfl:=ht.nil;have hn:=h.name (by omega);have e:br ic p1 :: br ⟨#[118,105,101,119]⟩ p2 :: br x.name p3 :: br ⟨#[97,115]⟩ p4 :: (tc ++ [br cD p6]) ++ rest=br ic p1 :: br ⟨#[118,105,101,119]⟩ p2 :: br x.name p3 :: br ⟨#[97,115]⟩ p4 :: (tc ++ (br cD p6 :: rest)):=by simp
  rw [e];refine ⟨_,_,rfl,(by decide:¬ (wk ic).1=5),p6,?_⟩;rw [dD,if_pos (by rw [aO]; decide),bc,gV,if_pos (by rw [aO]; decide),bc,bq _ (fw hn p3 _),b8 (by decide)];show bf (iA (tc ++ (br cD p6 :: rest))) _=_;rw [bq _ (pL (h.query (.inl hk)) hc (Fs.lit _ _ _)),eC,if_neg (by omega),if_pos hk]
 ·have e:ct x=⟨#[105,110,115,101,114,116]⟩ :: ⟨#[105,110,116,111]⟩ :: x.name :: ⟨#[118,97,108,117,101,115]⟩ :: (cr dZ x.rows ++ [cD]):=by unfold ct; rw [if_neg (by omega),if_neg (by omega),if_pos hk]; simp
  rw [e] at ht;replace ht:=ht.cons;obtain ⟨p1,t1,rfl,ht⟩:=ht;replace ht:=ht.cons;obtain ⟨p2,t2,rfl,ht⟩:=ht;replace ht:=ht.cons;obtain ⟨p3,t3,rfl,ht⟩:=ht;replace ht:=ht.cons;obtain ⟨p4,t4,rfl,ht⟩:=ht;replace ht:=ht.app;obtain ⟨tc,t5,rfl,hc,ht⟩:=ht;replace ht:=ht.cons;obtain ⟨p6,t7,rfl,ht⟩:=ht;obtain rfl:=ht.nil;have hn:=h.name (by omega);obtain ⟨c1,c2,c3⟩:=h.rows hk
  have e:br ⟨#[105,110,115,101,114,116]⟩ p1 :: br ⟨#[105,110,116,111]⟩ p2 :: br x.name p3 :: br ⟨#[118,97,108,117,101,115]⟩ p4 :: (tc ++ [br cD p6]) ++ rest=br ⟨#[105,110,115,101,114,116]⟩ p1 :: br ⟨#[105,110,116,111]⟩ p2 :: br x.name p3 :: br ⟨#[118,97,108,117,101,115]⟩ p4 :: (tc ++ (br cD p6 :: rest)):=by simp
  rw [e];refine ⟨_,_,rfl,(by decide:¬ (wk ⟨#[105,110,115,101,114,116]⟩).1=5),p6,?_⟩;rw [dD,if_neg (by rw [aO]; decide),if_pos (by rw [aO]; decide),bc,gP,b8 (by decide)];show bf (cV (br x.name p3 :: _)) _=_;rw [bq _ (fw hn p3 _),b8 (by decide)];show bf (bS im 400 401 (tc ++ (br cD p6 :: rest))) _=_;rw [bq _ (gM (L:=[cD]) (by decide) (fun y hy ts rest ht _=>zI (c1 y hy).1 (c1 y hy).2.1 (c1 y hy).2.2 ht) c2 (by omega) (by omega) hc (Fs.lit _ _ _)),eC,if_neg (by omega),if_neg (by omega),if_pos hk]
 ·have e:ct x=⟨#[100,101,108,101,116,101]⟩ :: ⟨#[102,114,111,109]⟩ :: x.name :: (dV pk x.aB x.ah ++ [cD]):=by unfold ct; rw [if_neg (by omega),if_neg (by omega),if_neg (by omega),if_pos hk]; simp
  rw [e] at ht;replace ht:=ht.cons;obtain ⟨p1,t1,rfl,ht⟩:=ht;replace ht:=ht.cons;obtain ⟨p2,t2,rfl,ht⟩:=ht;replace ht:=ht.cons;obtain ⟨p3,t3,rfl,ht⟩:=ht;replace ht:=ht.app;obtain ⟨tc,t5,rfl,hc,ht⟩:=ht;replace ht:=ht.cons;obtain ⟨p6,t7,rfl,ht⟩:=ht;obtain rfl:=ht.nil;have hn:=h.name (by omega);have e:br ⟨#[100,101,108,101,116,101]⟩ p1 :: br ⟨#[102,114,111,109]⟩ p2 :: br x.name p3 :: (tc ++ [br cD p6]) ++ rest=br ⟨#[100,101,108,101,116,101]⟩ p1 :: br ⟨#[102,114,111,109]⟩ p2 :: br x.name p3 :: (tc ++ (br cD p6 :: rest)):=by simp
  rw [e];refine ⟨_,_,rfl,(by decide:¬ (wk ⟨#[100,101,108,101,116,101]⟩).1=5),p6,?_⟩;rw [dD,if_neg (by rw [aO]; decide),if_neg (by rw [aO]; decide),if_pos (by rw [aO]; decide),bc,iF,b8 (by decide)];show bf (cV (br x.name p3 :: _)) _=_;rw [bq _ (fw hn p3 _),bq _ (qW (by decide) (h.ah hk) hc (L:=[cD]) (by decide) (Fs.lit _ _ _)),eC,if_neg (by omega),if_neg (by omega),if_neg (by omega),if_pos hk]
 ·have e:ct x=⟨#[115,104,111,119]⟩ :: (fm x.query ++ [cD]):=by unfold ct; rw [if_neg (by omega),if_neg (by omega),if_neg (by omega),if_neg (by omega),if_pos hk]; simp
  rw [e] at ht;replace ht:=ht.cons;obtain ⟨p1,t1,rfl,ht⟩:=ht;replace ht:=ht.app;obtain ⟨tc,t5,rfl,hc,ht⟩:=ht;replace ht:=ht.cons;obtain ⟨p6,t7,rfl,ht⟩:=ht;obtain rfl:=ht.nil;have e:br ⟨#[115,104,111,119]⟩ p1 :: (tc ++ [br cD p6]) ++ rest=br ⟨#[115,104,111,119]⟩ p1 :: (tc ++ (br cD p6 :: rest)):=by simp
  rw [e];refine ⟨_,_,rfl,(by decide:¬ (wk ⟨#[115,104,111,119]⟩).1=5),p6,?_⟩;rw [dD,if_neg (by rw [aO]; decide),if_neg (by rw [aO]; decide),if_neg (by rw [aO]; decide),if_pos (by rw [aO]; decide),bc,bq _ (pL (h.query (.inr hk)) hc (Fs.lit _ _ _)),eC,if_neg (by omega),if_neg (by omega),if_neg (by omega),if_neg (by omega)]
theorem xD {x:cW} (h:BO x):(∀ w ∈ ct x,GW w)∧ct x ≠ []:=by
 rcases h.kind with hk | hk | hk | hk | hk
 ·unfold ct; rw [if_pos hk];obtain ⟨c1,_,_⟩:=h.bx hk;exact ⟨bI (bI (bI (aJ (ba (by decide)) (aJ (ba (by decide)) (aJ (fO (h.name (by omega))) (aJ (ba (by decide)) bD)))) (kU fun y hy=>Ah (c1 y hy).1 (c1 y hy).2)) (aJ (ba (by decide)) bD)) (aJ (ba (by decide)) bD),by simp⟩
 ·unfold ct; rw [if_neg (by omega),if_pos hk];exact ⟨bI (bI (aJ (ba (by decide)) (aJ (ba (by decide)) (aJ (fO (h.name (by omega))) (aJ (ba (by decide)) bD)))) (wQ (h.query (.inl hk)))) (aJ (ba (by decide)) bD),by simp⟩
 ·unfold ct; rw [if_neg (by omega),if_neg (by omega),if_pos hk];obtain ⟨c1,_,_⟩:=h.rows hk;exact ⟨bI (bI (aJ (ba (by decide)) (aJ (ba (by decide)) (aJ (fO (h.name (by omega))) (aJ (ba (by decide)) bD)))) (kU fun y hy=>zB (c1 y hy).1)) (aJ (ba (by decide)) bD),by simp⟩
 ·unfold ct; rw [if_neg (by omega),if_neg (by omega),if_neg (by omega),if_pos hk];exact ⟨bI (bI (aJ (ba (by decide)) (aJ (ba (by decide)) (aJ (fO (h.name (by omega))) bD))) (oE (by decide) (h.ah hk))) (aJ (ba (by decide)) bD),by simp⟩
 ·unfold ct; rw [if_neg (by omega),if_neg (by omega),if_neg (by omega),if_neg (by omega),if_pos hk];exact ⟨bI (bI (aJ (ba (by decide)) bD) (wQ (h.query (.inr hk)))) (aJ (ba (by decide)) bD),by simp⟩
theorem oq:∀ (l:List cW) (n:Nat) (acc:List cW) (ts:List Tk) (q:Int),(∀ x ∈ l,BO x)→l.length<n→acc.length+l.length≤60→TW (l.flatMap ct) ts→∃ r,cT n acc (ts ++ [(5,eB,q)]) = .ok (acc ++ l.map eC,r)
 | [],n,acc,ts,q,_,hn,_,ht=>by
  obtain ⟨m,rfl⟩:∃ m,n=m+1:=⟨n - 1,by simp at hn; omega⟩
  rw [TW.nil ht,Ds,cT,if_pos (show (cy [((5:Int),eB,q)]).1=5 from rfl)]
  exact ⟨[(5,eB,q)],by simp⟩
 | x :: l,n,acc,ts,q,h1,hn,hm,ht=>by
  simp only [Dn] at hn hm
  obtain ⟨m,rfl⟩:∃ m,n=m+1:=⟨n - 1,by omega⟩
  rw [DV] at ht
  replace ht:=ht.app
  obtain ⟨ta,tb,rfl,ha,hb⟩:=ht
  obtain ⟨p,r,e,hp,u,hs⟩:=zV (h1 x (by simp)) ha (rest:=tb ++ [(5,eB,q)])
  obtain ⟨r2,hr2⟩:=oq l m (acc ++ [eC x]) tb q (fun y hy=>h1 y (by simp [hy])) (by omega) (by simp only [Dk,Dn,DQ]; omega) hb
  refine ⟨r2,?_⟩
  have hnow:(cy (ta ++ (tb ++ [(5,eB,q)]))).1≠5:=by rw [e]; exact hp
  rw [Dc,cT,if_neg hnow,if_neg (by omega),bq _ hs,b8 (by decide)]
  show cT m (acc ++ [eC x]) (tb ++ [(5,eB,q)])=_
  rw [hr2]
  simp
theorem p7 (v:Vl):fu (ja v)=fu v:=by
 unfold fu ja;by_cases h1:v.1=1
 ·simp [h1]
 by_cases h2:v.1=2
 ·simp [h2]
 by_cases h3:v.1=3
 ·simp [h3]
 by_cases h4:v.1=4
 ·simp [h4]
 ·simp [h1,h2,h3,h4]
theorem s8 (x:SX):(bY x).k=x.k∧(bY x).ks=x.ks.map bY:=by
 obtain ⟨k,v,t,n,ks⟩:=x;rw [bY,kV];exact ⟨rfl,rfl⟩
theorem ub (x:SX):ga (bY x)=ga x:=by
 obtain ⟨k,v,t,n,ks⟩:=x;rw [bY];by_cases h1:k=1
 ·subst h1;exact p7 v
 ·by_cases h2:k=2
  ·subst h2; rfl
  ·unfold ga;show (if k=1 then _ else if k=2 then _ else _)=(if k=1 then _ else if k=2 then _ else _)
   rw [if_neg h1,if_neg h2,if_neg h1,if_neg h2]
theorem nW {g:SX→Int→Int × Int} (hg:∀ y m,g (bY y) m=g y m):∀ (ks:List SX) (n:Int),gr g (ks.map bY) n=gr g ks n
 | [],n=>rfl
 | y :: r,n=>by
  rw [DO,gr,gr,hg,nW hg r]
theorem od:∀ (f:Nat) (x:SX) (d n:Int),eX f (bY x) d n=eX f x d n
 | 0,_,_,_=>rfl
 | f+1,x,d,n=>by
  rw [eX,eX,(s8 x).1,(s8 x).2,ub,DG,nW (fun y m=>od f y (d+1) m)]
theorem jD (x:SX):eh (bY x)=eh x:=by unfold eh; rw [od]
theorem lC (b:Bool) (x:SX):dx b (uO b x)=dx b x:=by
 cases b
 ·rfl
 ·exact jD x
theorem jY:∀ l:List SX,eA (l.map bY)=eA l
 | []=>rfl
 | x :: r=>by rw [DO,eA,eA,jD,jY r]
theorem mz:∀ l:List kQ,fE (l.map fun i=>(bY i.1,i.2))=fE l
 | []=>rfl
 | x :: r=>by rw [DO,fE,fE,jD,mz r]
theorem qm:∀ (l:List Src) (b:Bool),(dk b l).length=l.length
 | [],_=>rfl
 | x :: r,b=>by rw [dk,Dn,Dn,qm r]
theorem j8:∀ (l:List Src) (b:Bool),cL b (dk b l)=cL b l
 | [],_=>rfl
 | x :: r,b=>by
  rw [dk,cL,cL,j8 r]
  congr 1
  unfold dY oH
  cases b
  ·simp only [Bool.not_false,De,if_false]
   show dy _ (dy _ (dy _ (dy (eh (bY x.on)) 0)))=dy _ (dy _ (dy _ (dy (eh x.on) 0)))
   rw [jD]
  ·rfl
theorem xh (x:fD):kE (fj x)=kE x:=by
 unfold kE fj pG;simp only [qm,DG,j8,lC,jY]
 congr 2
 unfold kI jw;cases x.star
 ·simp only [De,if_false,DG,mz]
 ·rfl
theorem mT (ops:List Int):∀ (l:List fD) (j:Nat),fe ops j (l.map fj)=fe ops j l
 | [],_=>rfl
 | x :: r,j=>by rw [DO,fe,fe,xh,mT ops r]
theorem qa (q:j3):lG (pn q)=lG q:=by
 unfold lG pn uv nj rR;simp only [DG,mT];by_cases h:0≤q.aE
 ·simp only [h,if_true,DG,jY]
 ·have h1:¬ (0:Int) ≤ -1:=by decide
  have h2:(-1:Int)≤50:=by decide
  have h3:q.aE≤50:=by omega
  simp only [h,h1,h2,h3,if_true,if_false]
theorem oc:∀ l:List Vl,ia (l.map ja)=ia l
 | []=>rfl
 | x :: r=>by rw [DO,ia,ia,p7,oc r]
theorem nQ:∀ l:List (List Vl),gv (l.map (·.map ja))=gv l
 | []=>rfl
 | x :: r=>by rw [DO,gv,gv,oc,nQ r,DG]
theorem xG {x:cW} (h:x.kind=1∨x.kind=2∨x.kind=3∨x.kind=4∨x.kind=5):hH (eC x)=hH x:=by
 rcases h with hk | hk | hk | hk | hk
 ·rw [eC,if_pos hk]; unfold hH xP jG iJ; simp [hk]
 ·rw [eC,if_neg (by omega),if_pos hk]; unfold hH xP jG iJ; simp [hk,qa]
 ·rw [eC,if_neg (by omega),if_neg (by omega),if_pos hk]; unfold hH xP jG iJ lE; simp [hk,nQ]
 ·rw [eC,if_neg (by omega),if_neg (by omega),if_neg (by omega),if_pos hk]; unfold hH xP jG iJ; simp [hk,lC]
 ·rw [eC,if_neg (by omega),if_neg (by omega),if_neg (by omega),if_neg (by omega)]; unfold hH xP jG iJ; simp [hk,qa]
theorem qc:∀ {l:List cW} {i:Int},(jk l i).1=0→∀ x ∈ l,hH x=0
 | [],_,_=>by simp
 | y :: r,i,h=>by
  rw [jk] at h
  by_cases e:hH y=0
  ·rw [if_pos e] at h
   intro x hx
   rcases List.mem_cons.1 hx with rfl | hx
   ·exact e
   ·exact qc h x hx
  ·rw [if_neg e] at h; exact absurd h e
theorem qK:∀ {l:List cW} {i:Int},(∀ x ∈ l,hH x=0)→jk (l.map eC) i=jk l i
 | [],_,_=>rfl
 | y :: r,i,h=>by
  have h1:=h y (by simp)
  rw [DO,jk,jk,xG (AO h1).kind,if_pos h1,if_pos h1,qK fun x hx=>h x (by simp [hx])]
theorem gI {l:List cW} (h:(cC l).1=0):l.length≤60∧∀ x ∈ l,hH x=0:=by
 unfold cC at h;by_cases e:eD l.length 0 60=0
 ·rw [if_pos e] at h;have:=cI e;exact ⟨by omega,qc h⟩
 ·rw [if_neg e] at h; exact absurd h (by decide)
theorem lS {l:List cW} (h:(cC l).1=0):(cC (l.map eC))=cC l:=by
 have:=(gI h).2;unfold cC;rw [DG,qK this]
theorem pD (v:Vl):cF (ja v)=cF v:=by
 unfold cF ja;by_cases h1:v.1=1
 ·simp [h1]
 by_cases h2:v.1=2
 ·simp [h2]
 by_cases h3:v.1=3
 ·simp [h3]
 by_cases h4:v.1=4
 ·simp [h4]
 ·simp [h1,h2,h3,h4]
mutual
theorem nO:∀ x:SX,aU (bY x)=aU x
 | .mk k v t n ks=>by
  rw [bY,eS,eS,lV ks]
  by_cases h1:k=1
  ·subst h1; exact pD v
  ·by_cases h2:k=2
   ·subst h2; rfl
   ·unfold gp
    rw [if_neg h1,if_neg h2,if_neg h1,if_neg h2]
theorem lV:∀ ks:List SX,(jM ks).map (fun y=>(aZ y.k,aU y))=ks.map fun y=>(aZ y.k,aU y)
 | []=>by rw [jM]
 | x :: r=>by rw [jM,DO,DO,nO x,lV r,(s8 x).1]
end
theorem iN (x:SX):bm (bY x)=bm x:=by unfold bm; rw [nO,(s8 x).1]
theorem mW (wd:ByteArray) (b:Bool) (x:SX):dV wd b (uO b x)=dV wd b x:=by
 cases b
 ·rfl
 ·show [wd] ++ bm (bY x) = [wd] ++ bm x;rw [iN]
theorem kq {α:Type} {ew:α→List ByteArray} {f:α→α} (h:∀ x,ew (f x)=ew x) (l:List α):cr ew (l.map f)=cr ew l:=by
 rw [mV,mV];cases l with
 | nil=>rfl
 | cons x r =>
  show ew (f x) ++ (r.map f).flatMap (fun y=>⟨#[44]⟩ :: ew y)=ew x ++ r.flatMap fun y=>⟨#[44]⟩ :: ew y
  rw [h,List.flatMap_map]
  congr 1
  congr 1
  funext y
  show ⟨#[44]⟩ :: ew (f y)=⟨#[44]⟩ :: ew y;rw [h]
theorem pz:∀ l:List Src,gu (dk false l)=gu l
 | []=>rfl
 | x :: r=>by
  rw [dk,gu,gu,pz r]
  show zY x.kind ++ ([x.name] ++ iP x.alias ++ ([An] ++ bm (bY x.on))) ++ gu r=_
  rw [iN]
theorem wi (l:List Src):ed (dk true l) (dk true l).length=ed l l.length:=by
 cases l with
 | nil=>rfl
 | cons x r=>rw [dk,kz,kz,pz]; rfl
theorem vt (x:fD):fK (fj x)=fK x:=by
 unfold fK;have e1:eT (fj x)=eT x:=by
  unfold eT fj;cases x.star
  ·simp only [De,if_false];exact kq (fun y=>by unfold eR; rw [iN]) _
  ·rfl
 have e2:iY (fj x).group=iY x.group:=by
  unfold iY fj;simp only [DG];rw [kq iN]
 rw [e1,e2];show _ ++ jx x.distinct _ ++ eT x ++ _ ++ ed (dk true x.sources) (dk true x.sources).length ++ dV _ x.aB (uO x.aB x.ah) ++ iY x.group ++ dV _ x.aG (uO x.aG x.aj)=_;rw [wi,mW,mW]
theorem pZ (l:List fD) (ops:List Int):∀ n,eO (l.map fj) ops n=eO l ops n
 | 0=>rfl
 | n+1=>by
  rw [eO,eO,pZ l ops n,List.getElem?_map]
  cases l[n]? with
  | none=>rfl
  | some x=>show _ ++ fK (fj x)=_ ++ fK x; rw [vt]
theorem pM (q:j3):fm (pn q)=fm q:=by
 unfold fm jX pn;simp only [DG,pZ];by_cases h:0≤q.aE
 ·simp only [h,if_true];rw [kq iN]
 ·have h1:¬ (0:Int) ≤ -1:=by decide
  simp only [h,h1,if_false]
theorem xH {x:cW} (h:x.kind=1∨x.kind=2∨x.kind=3∨x.kind=4∨x.kind=5):ct (eC x)=ct x:=by
 rcases h with hk | hk | hk | hk | hk
 ·rw [eC,if_pos hk]; unfold ct; simp [hk]
 ·rw [eC,if_neg (by omega),if_pos hk]; unfold ct; simp [hk,pM]
 ·rw [eC,if_neg (by omega),if_neg (by omega),if_pos hk]; unfold ct; simp only [hk]; rw [kq (fun y=>by unfold dZ; rw [kq pD])]; rfl
 ·rw [eC,if_neg (by omega),if_neg (by omega),if_neg (by omega),if_pos hk]; unfold ct; simp [hk,mW]
 ·rw [eC,if_neg (by omega),if_neg (by omega),if_neg (by omega),if_neg (by omega)]; unfold ct; simp [hk,pM]
theorem qt:∀ (l:List cW) (bs bs':List UInt8),bs.length≤4000→gJ bs l=some bs'→bs'=an bs (l.flatMap ct)∧bs'.length≤4000
 | [],bs,bs',hb,h=>by rw [gJ] at h; cases h; exact ⟨rfl,hb⟩
 | x :: r,bs,bs',hb,h=>by
  rw [gJ] at h
  by_cases hc:4000<(an bs (ct x)).length
  ·rw [if_pos hc] at h; cases h
  ·rw [if_neg hc] at h
   obtain ⟨h1,h2⟩:=qt r _ _ (by omega) h
   exact ⟨by rw [h1,DV,ak],h2⟩
theorem mq {l:List cW} (h:(cb l).2.1=0):(cC l).1=0∧(cb l).1=⟨(eW (l.flatMap ct)).toArray⟩∧(eW (l.flatMap ct)).length≤4000:=by
 unfold cb at h ⊢;by_cases hw:(cC l).1≠0
 ·rw [if_pos hw] at h; exact absurd h hw
 ·rw [if_neg hw] at h ⊢;have hw0:(cC l).1=0:=by simpa using hw
  have hs:=(gI hw0).2;cases e:gJ [] l with
  | none=>rw [e] at h; exact absurd h (by decide)
  | some bs =>
   obtain ⟨h1,h2⟩:=qt l [] bs (by decide) e;have hb:bs=eW (l.flatMap ct):=by
    rw [h1];cases l with
    | nil=>rfl
    | cons x r =>
     obtain ⟨g1,g2⟩:=xD (AO (hs x (by simp)));cases ew:ct x with
     | nil=>exact absurd ew g2
     | cons w ws =>
      rw [ew] at g1;obtain ⟨c,t,hc,_⟩:=(g1 w (by simp)).head;rw [DV,ew,Dw];exact tJ (by rw [hc]; simp)
   exact ⟨hw0,by rw [← hb],by rw [← hb]; exact h2⟩
theorem qX {l:List cW} (h:(cb l).2.1=0):eY (cb l).1 = .ok (l.map eC):=by
 obtain ⟨h1,h2,h3⟩:=mq h;obtain ⟨c1,c2⟩:=gI h1;have hgw:∀ w ∈ l.flatMap ct,GW w:=by
  intro w hw;obtain ⟨x,hx,hw⟩:=List.mem_flatMap.1 hw;exact (xD (AO (c2 x hx))).1 w hw
 obtain ⟨ts,q,t1,t2⟩:=ny hgw;obtain ⟨r,hr⟩:=oq l 61 [] ts q (fun x hx=>AO (c2 x hx)) (by omega) (by simpa using c1) t2;rw [h2,eY,if_neg (by show ¬ (eW (l.flatMap ct)).toArray.size > 4000; simpa using h3),t1];simp only;rw [hr];simp only [Ds];rw [lS h1,if_pos h1]
theorem xt {x:cW} (h:(cb [x]).2.1=0):cb [eC x]=cb [x]:=by
 obtain ⟨h1,_⟩:=mq h;have hk:=(AO ((gI h1).2 x (by simp))).kind;have e:=lS h1;unfold cb;rw [show [eC x] = [x].map eC from rfl,e];show (if _ then _ else match gJ [] [eC x] with | none=>_ | some bs=>_)=_;rw [gJ,gJ,xH hk];rfl
theorem oP {x:cW} (h:(cb [x]).2.1=0):kK (eY (cb [x]).1)=(0,0)∧iR (eY (cb [x]).1) = [eC x]:=by
 rw [qX h]; exact ⟨rfl,rfl⟩
theorem bG.size {S:Nat→Prop} {W:World} {x:cW} {V:Array Value} (h:bG S W x V.toList):V.size=16∧V.all (·.oneCell')=true:=by
 obtain ⟨a1,c1,p1,d1,p2,d2,p3,d3,a2,c2,a3,c3,e,_⟩:=h;have:V=_:=Array.ext' (ys:=(du x.kind x a1 c1 p1 d1 p2 d2 p3 d3 a2 c2 a3 c3)) e;subst this;exact ⟨rfl,fX rfl⟩
theorem pW {V:Array Value} (h:V.size=16):∃ v0 v1 v2 v3 v4 v5 v6 v7 v8 v9 v10 v11 v12 v13 v14 v15,V = #[v0,v1,v2,v3,v4,v5,v6,v7,v8,v9,v10,v11,v12,v13,v14,v15]:=by
 obtain ⟨l⟩:=V
 match l,h with
 | [v0,v1,v2,v3,v4,v5,v6,v7,v8,v9,v10,v11,v12,v13,v14,v15],_=>exact ⟨v0,v1,v2,v3,v4,v5,v6,v7,v8,v9,v10,v11,v12,v13,v14,v15,rfl⟩
theorem mg (x:cW) {w:World} (V:Array Value) (hV:bG (fun b=>b<w.heap.size) w x V.toList) (hG:GP w w.heap.size):Calls Tryz.prog 23 #[.agg V] w fun e w'=>Below w.heap.size w w'∧e = .returned (.tuple #[.string (cb [x]).1,.int .i64 (cb [x]).2.1]):=by
 generalize hR:cb [x]=R;have HR:Hid (cb [x]=R):=hR;clear hR;obtain ⟨hs,h1⟩:=bG.size hV;obtain ⟨v0,v1,v2,v3,v4,v5,v6,v7,v8,v9,v10,v11,v12,v13,v14,v15,rfl⟩:=pW hs;have hal:=ab w (.cells #[v0,v1,v2,v3,v4,v5,v6,v7,v8,v9,v10,v11,v12,v13,v14,v15] 57)
 have hal2:Below (w.alloc (.cells #[v0,v1,v2,v3,v4,v5,v6,v7,v8,v9,v10,v11,v12,v13,v14,v15] 57)).heap.size (w.alloc (.cells #[v0,v1,v2,v3,v4,v5,v6,v7,v8,v9,v10,v11,v12,v13,v14,v15] 57)) ((w.alloc (.cells #[v0,v1,v2,v3,v4,v5,v6,v7,v8,v9,v10,v11,v12,v13,v14,v15] 57)).alloc (.cells #[v0,v1,v2,v3,v4,v5,v6,v7,v8,v9,v10,v11,v12,v13,v14,v15] 57)):=(CY _ _).alloc (CX _) _;have q2:=ar (w.alloc (.cells #[v0,v1,v2,v3,v4,v5,v6,v7,v8,v9,v10,v11,v12,v13,v14,v15] 57)) #[v0,v1,v2,v3,v4,v5,v6,v7,v8,v9,v10,v11,v12,v13,v14,v15] 57
 have e1:(w.alloc (.cells #[v0,v1,v2,v3,v4,v5,v6,v7,v8,v9,v10,v11,v12,v13,v14,v15] 57)).heap.size=w.heap.size+1:=by simp
 rw [e1] at q2;have hb2:=chain hal hal2;have hs2:=lt_of_heap q2;have HG:Hid (GP ((w.alloc (.cells #[v0,v1,v2,v3,v4,v5,v6,v7,v8,v9,v10,v11,v12,v13,v14,v15] 57)).alloc (.cells #[v0,v1,v2,v3,v4,v5,v6,v7,v8,v9,v10,v11,v12,v13,v14,v15] 57)) ((w.alloc (.cells #[v0,v1,v2,v3,v4,v5,v6,v7,v8,v9,v10,v11,v12,v13,v14,v15] 57)).alloc (.cells #[v0,v1,v2,v3,v4,v5,v6,v7,v8,v9,v10,v11,v12,v13,v14,v15] 57)).heap.size):=hG.up hb2 (CX _) hb2.size
 have HL:Hid (aI bG 16 (fun b=>b<((w.alloc (.cells #[v0,v1,v2,v3,v4,v5,v6,v7,v8,v9,v10,v11,v12,v13,v14,v15] 57)).alloc (.cells #[v0,v1,v2,v3,v4,v5,v6,v7,v8,v9,v10,v11,v12,v13,v14,v15] 57)).heap.size) ((w.alloc (.cells #[v0,v1,v2,v3,v4,v5,v6,v7,v8,v9,v10,v11,v12,v13,v14,v15] 57)).alloc (.cells #[v0,v1,v2,v3,v4,v5,v6,v7,v8,v9,v10,v11,v12,v13,v14,v15] 57)) (some ⟨w.heap.size+1,0,none⟩) [x]):=by
  refine .inr ⟨w.heap.size+1,0,rfl,hs2,hs2,fun i hi=>?_⟩;obtain rfl:i=0:=by simpa using hi
  refine ⟨[v0,v1,v2,v3,v4,v5,v6,v7,v8,v9,v10,v11,v12,v13,v14,v15],rfl,fun j u hu=>?_,bZ.mono (fun b hb _=>Dg hb hb2.size) (bZ.next (ay.of hb2) hV)⟩;have:=cell_of (i:=j) (v:=u) q2 (by simpa using hu)
  simpa using this
 clear hal hal2 e1 hs2 hG;have hal:=hb2;have q1:=ar w #[v0,v1,v2,v3,v4,v5,v6,v7,v8,v9,v10,v11,v12,v13,v14,v15] 57;go_enter Tryz.func23,Tryz.ntmps23;go_wp2_with (first | (refine wpList_load_row rfl 57 _ rfl w.heap.size rfl 57 #[v0,v1,v2,v3,v4,v5,v6,v7,v8,v9,v10,v11,v12,v13,v14,v15] (0,0) _ q1 Tryz.underlying57 rfl dh ?_))
 clear q1 q2;generalize ((w.alloc (.cells #[v0,v1,v2,v3,v4,v5,v6,v7,v8,v9,v10,v11,v12,v13,v14,v15] 57)).alloc (.cells #[v0,v1,v2,v3,v4,v5,v6,v7,v8,v9,v10,v11,v12,v13,v14,v15] 57))=w2 at *;have con:=uQ [x] (some ⟨w.heap.size+1,0,none⟩) 1 (HG.out) HL.out;rw [HR.out] at con;refine con.mono ?_;rintro e w3 ⟨hb3,rfl⟩;have hbw:=chain hal hb3;have hal4:=ab w3 (.cells #[.int .i64 R.2.1,.int .i64 R.2.2] 27);have Q4:=ar w3 #[.int .i64 R.2.1,.int .i64 R.2.2] 27;have hb5:=chain hbw hal4;clear con hal hb3 hal4
 go_upto_region 2 with fail
 generalize (w3.alloc (.cells #[.int .i64 R.2.1,.int .i64 R.2.2] 27))=w4 at *;obtain ⟨c0,c1⟩:=cX Q4;have c0d:w4.drew.cell? ⟨w3.heap.size,0,none⟩=_:=c0;go_region
 go_wp2_with fail
 exact C0 (v:=.tuple #[.string R.1,.int .i64 R.2.1]) (by simp [results,Tryz.results23,go_sem]) rfl ⟨hb5.drew,rfl⟩
def zc (t:ByteArray):List cW→Option cW
 | [x]=>if (cb [x]).2.1=0∧(cb [x]).1=t then some x else none
 | _=>none
def fS (t:ByteArray):Option cW:=if (kK (eY t)).1=0 then zc t (iR (eY t)) else none
def AW (w:World) (r:Option cW) (e:Ending) (w':World):Prop :=
 Below w.heap.size w w'∧match r with
  | none=>e = .returned (.tuple #[.agg bL,.bool false])
  | some x=>∃ V:Array Value,e = .returned (.tuple #[.agg V,.bool true])∧bG (fun b=>w.heap.size≤b) w' x V.toList
theorem results_cell_tmp {fn:Func} {p q:Tmp} {ty:TypeId} (h:fn.results = #[.cell p ty,.tmp q]) (tmps:Array Value) (w:World) (g:Nat) (t:TypeId) (cs:Array Value) (fr:Nat × Nat) (d:TypeDesc)
  (hp:tmps.getD p undef = .pointer (some ⟨g,0,none⟩)) (hg:w.heap[g]? = some (.cells cs t fr))
  (hd:(match d with | .struct _ | .array _ _=>true | _=>false)=true) (hu:Tryz.prog.underlying ty=some d) (hi:(Tryz.prog.info? ty).map (·.size)=some cs.size) :
  (results fn tmps).run Tryz.prog w = .ok (.tuple #[.agg cs,tmps.getD q undef]) w:=by
 have hp':tmps[p]?.getD undef = .pointer (some ⟨g,0,none⟩):=by simpa using hp
 cases d <;> first | (cases hd; done) | simp [results,h,hp',asAddr,run_loadVar_row w g t ty cs fr _ hg hu rfl hi]
theorem xK {a b:ByteArray} (h:a.toList=b.toList):a=b:=by
 rw [Lib.toList_data,Lib.toList_data] at h;exact ByteArray.ext (Array.ext' h)
theorem aI.Cu {S:Nat→Prop} {W:World} {a:Option Addr} {x:cW} (h:aI bG 16 S W a [x]):∃ b off,a=some ⟨b,off,none⟩∧∃ V:Array Value,V.size=16∧W.rangeAt b off V.toList∧bG S W x V.toList:=by
 rcases h with h | ⟨b,off,e,_,_,h3⟩
 ·cases h
 ·obtain ⟨cs,c1,c2,c3⟩:=h3 0 (by simp);refine ⟨b,off,e,cs.toArray,by simpa using c1,fun i u hu=>?_,c3⟩;have:=c2 i u hu
  rwa [show off+0*16+i=off+i by omega] at this
theorem uu (t:ByteArray) {w:World} (hG:GP w w.heap.size):Calls Tryz.prog 26 #[.string t] w (AW w (fS t)):=by
 generalize hM:fS t=M;unfold fS at hM;have hal1:=ab w (.cells bL 57);have Q1:=ar w bL 57;have HG1:Hid (GP (w.alloc (.cells bL 57)) w.heap.size):=hG.up hal1 (CX _) (CX _);have con1:=yU t (w:=w.alloc (.cells bL 57)) HG1.out.gl;generalize hR:eY t=R at *;obtain ⟨E,hE⟩:∃ E,kK R=E:=⟨_,rfl⟩
 obtain ⟨l,hl⟩:∃ l,iR R=l:=⟨_,rfl⟩
 rw [hE,hl] at con1 hM;have HM:Hid _:=hM;clear hM hR hE hl hG;go_enter Tryz.func26,Tryz.ntmps26;go_upto_region 1 with fail
 generalize (w.alloc (.cells bL 57))=w1 at *;go_wp2_with fail
 refine con1.mono ?_;rintro e w2 ⟨hb2,a,cap,rfl,L2⟩;have hal3:=ab w2 (.cells #[.int .i64 E.1,.int .i64 E.2] 27);have QF:=ar w2 #[.int .i64 E.1,.int .i64 E.2] 27;have hb3:=chain hb2 hal3;have hl1:=lt_of_heap Q1;have QZ:=(hb3.block _ hl1).trans Q1;have hbw:=chain hal1 hb3;have hs1:=hal1.size;have hs3:=hb3.size;have L3:Hid (aI bG 16 (fun b=>w1.heap.size≤b) (w2.alloc (.cells #[.int .i64 E.1,.int .i64 E.2] 27)) a l):=L2.nx bZ hal3
 have HG3:Hid (GP (w2.alloc (.cells #[.int .i64 E.1,.int .i64 E.2] 27)) (w2.alloc (.cells #[.int .i64 E.1,.int .i64 E.2] 27)).heap.size):=HG1.out.up hb3 (by omega) (by omega);clear con1 hal1 hal3 hb2 L2 HG1 Q1;go_upto_region 2 with fail
 generalize (w2.alloc (.cells #[.int .i64 E.1,.int .i64 E.2] 27))=w3 at *;obtain ⟨f0,f1⟩:=cX QF;by_cases hz:E.1=0
 case neg =>
  have e:M=none:=by rw [← HM.out,if_neg hz]
  subst e;have hzb:(E.1 != 0)=true:=by rw [bne_iff_ne]; exact hz
  clear HM hz L3 HG3;go_wp2_with (first | (refine wpList_store_row rfl 57 _ _ rfl w.heap.size bL rfl rfl 57 bL QZ dh rfl (fX rfl) ?_))
  have QE:=setRow_heap w3 w.heap.size bL bL _ _ QZ;have hbE:=below_setRow hbw (CX _) bL;generalize w3.setRow w.heap.size bL=wE at *;exact C0 (results_cell_tmp Tryz.results26 _ _ _ _ _ _ _ rfl QE rfl Tryz.underlying57 dh) rfl ⟨hbE,rfl⟩
 case pos =>
  have hm:=HM.out;rw [if_pos hz] at hm;have HM2:Hid (zc t l=M):=hm;have hzb:(E.1 != 0)=false:=by rw [bne_eq_false_iff_eq]; exact hz
  rw [hz] at f0;clear HM hz hm;by_cases hl:l.length=1
  case neg =>
   have e:M=none:=by
    rw [← HM2.out];unfold zc
    split
    ·exact absurd rfl hl
    ·rfl
   subst e;have hlz:((l.length:Int) != 1)=true:=by rw [bne_iff_ne]; omega
   clear HM2 hl L3 HG3 hzb;go_wp2_with (first | (refine wpList_store_row rfl 57 _ _ rfl w.heap.size bL rfl rfl 57 bL QZ dh rfl (fX rfl) ?_))
   have QE:=setRow_heap w3 w.heap.size bL bL _ _ QZ;have hbE:=below_setRow hbw (CX _) bL;generalize w3.setRow w.heap.size bL=wE at *;exact C0 (results_cell_tmp Tryz.results26 _ _ _ _ _ _ _ rfl QE rfl Tryz.underlying57 dh) rfl ⟨hbE,rfl⟩
  case pos =>
   obtain ⟨x,rfl⟩:∃ x,l = [x]:=by
    match l,hl with
    | [x],_=>exact ⟨x,rfl⟩
   obtain ⟨b,off,rfl,V,hV,hR,hE⟩:=L3.out.Cu;have hm:=HM2.out;rw [zc] at hm;have con2:=mg x V (bZ.mono (fun b _ hb=>hb) hE) HG3.out;have HE:Hid (bG (fun b=>w1.heap.size≤b) w3 x V.toList):=hE;obtain ⟨P,hP⟩:∃ P,cb [x]=P:=⟨_,rfl⟩
   rw [hP] at con2 hm;have HM3:Hid ((if P.2.1=0∧P.1=t then some x else none)=M):=hm;obtain ⟨v0,v1,v2,v3,v4,v5,v6,v7,v8,v9,v10,v11,v12,v13,v14,v15,rfl⟩:=pW hV;clear hm HM2 hl L3 hE hP hzb HG3;go_upto_region 4 with fail
   go_wp2_with (first | (refine wpList_load_mid rfl 57 _ rfl b off rfl [v0,v1,v2,v3,v4,v5,v6,v7,v8,v9,v10,v11,v12,v13,v14,v15] _ hR Tryz.underlying57 rfl dh ?_))
   refine con2.mono ?_;rintro e w4 ⟨hb4,rfl⟩;have QZ4:=(hb4.block _ (lt_of_heap QZ)).trans QZ;have hR4:w4.rangeAt b off [v0,v1,v2,v3,v4,v5,v6,v7,v8,v9,v10,v11,v12,v13,v14,v15]:=fun i u hu=>(hb4.cell (p:=⟨b,off+i,none⟩) (hJ (hR i u hu))).trans (hR i u hu)
   have hbw4:=chain hbw hb4;have HE4:Hid (bG (fun b=>w1.heap.size≤b) w4 x [v0,v1,v2,v3,v4,v5,v6,v7,v8,v9,v10,v11,v12,v13,v14,v15]):=bZ.next (ay.of hb4) HE.out;clear con2 hR HE QZ;by_cases hc:P.2.1=0∧P.1=t
   case neg =>
    have e:M=none:=by rw [← HM3.out,if_neg hc]
    subst e;clear HM3;by_cases h0:P.2.1=0
    ·have h1:P.1≠t:=fun c=>hc ⟨h0,c⟩
     have h0z:(P.2.1 != 0)=false:=by rw [bne_eq_false_iff_eq]; exact h0
     have h1z:(P.1.toList == t.toList)=false:=by rw [beq_eq_false_iff_ne]; exact fun e=>h1 (xK e)
     clear h0 h1 hc;go_wp2_with (first | (refine wpList_store_row rfl 57 _ _ rfl w.heap.size bL rfl rfl 57 bL QZ4 dh rfl (fX rfl) ?_))
     have QE:=setRow_heap w4 w.heap.size bL bL _ _ QZ4;have hbE:=below_setRow hbw4 (CX _) bL;generalize w4.setRow w.heap.size bL=wE at *;exact C0 (results_cell_tmp Tryz.results26 _ _ _ _ _ _ _ rfl QE rfl Tryz.underlying57 dh) rfl ⟨hbE,rfl⟩
    ·have h0z:(P.2.1 != 0)=true:=by rw [bne_iff_ne]; exact h0
     clear h0 hc;go_wp2_with (first | (refine wpList_store_row rfl 57 _ _ rfl w.heap.size bL rfl rfl 57 bL QZ4 dh rfl (fX rfl) ?_))
     have QE:=setRow_heap w4 w.heap.size bL bL _ _ QZ4;have hbE:=below_setRow hbw4 (CX _) bL;generalize w4.setRow w.heap.size bL=wE at *;exact C0 (results_cell_tmp Tryz.results26 _ _ _ _ _ _ _ rfl QE rfl Tryz.underlying57 dh) rfl ⟨hbE,rfl⟩
   case pos =>
    have e:M=some x:=by rw [← HM3.out,if_pos hc]
    subst e;have h0z:(P.2.1 != 0)=false:=by rw [bne_eq_false_iff_eq]; exact hc.1
    have h1z:(P.1.toList == t.toList)=true:=by rw [hc.2,beq_iff_eq]
    obtain ⟨_,h16⟩:=bG.size (V:=#[v0,v1,v2,v3,v4,v5,v6,v7,v8,v9,v10,v11,v12,v13,v14,v15]) HE4.out;clear HM3 hc;go_wp2_with (first | (refine wpList_load_mid rfl 57 _ rfl b off rfl [v0,v1,v2,v3,v4,v5,v6,v7,v8,v9,v10,v11,v12,v13,v14,v15] _ hR4 Tryz.underlying57 rfl dh ?_) | (refine wpList_store_row rfl 57 _ _ rfl w.heap.size #[v0,v1,v2,v3,v4,v5,v6,v7,v8,v9,v10,v11,v12,v13,v14,v15] rfl rfl 57 bL QZ4 dh rfl h16 ?_))
    have QE:=setRow_heap w4 w.heap.size bL #[v0,v1,v2,v3,v4,v5,v6,v7,v8,v9,v10,v11,v12,v13,v14,v15] _ _ QZ4;have hbE:=below_setRow hbw4 (CX _) #[v0,v1,v2,v3,v4,v5,v6,v7,v8,v9,v10,v11,v12,v13,v14,v15];have HEE:bG (fun b=>w.heap.size≤b) (w4.setRow w.heap.size #[v0,v1,v2,v3,v4,v5,v6,v7,v8,v9,v10,v11,v12,v13,v14,v15]) x [v0,v1,v2,v3,v4,v5,v6,v7,v8,v9,v10,v11,v12,v13,v14,v15]:=bZ.mono (S:=fun b=>w1.heap.size≤b) (fun b hb _=>by have:_≤b:=hb; show _≤b; omega) (bZ.next ⟨by simp,fun k hk hl=>setRow_other w4 w.heap.size k _ (by have:w1.heap.size≤k:=hk; omega)⟩ HE4.out)
    generalize w4.setRow w.heap.size #[v0,v1,v2,v3,v4,v5,v6,v7,v8,v9,v10,v11,v12,v13,v14,v15]=wE at *;exact C0 (results_cell_tmp Tryz.results26 _ _ _ _ _ _ _ rfl QE rfl Tryz.underlying57 dh) rfl ⟨hbE,_,rfl,HEE⟩
end Go.Proofs.YtoknmnngaackkaaGreatDoor
