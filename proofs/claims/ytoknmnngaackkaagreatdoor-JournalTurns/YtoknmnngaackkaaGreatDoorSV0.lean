/- Together: JU1, JU2, JOb. -/
import Derived.OpenShut
import Derived.Test.YtoknmnngaackkaaGreatDoorSU0
import Derived.Test.YtoknmnngaackkaaGreatDoorST14
namespace Go.Proofs.YtoknmnngaackkaaGreatDoor
open Go.RowKit Go.Lib Go.Shelf
set_option maxRecDepth 100000
set_option maxHeartbeats 16000000
set_option maxRecDepth 100000
set_option maxHeartbeats 4000000
theorem BY {bs:List UInt8} (h:2≤bs.length):uw (eV bs)=bs.take 2:=by
 match bs,h with
 | [],h=>simp at h
 | [_],h=>simp at h
 | x :: y :: r,_ =>
  have hx:=x.toNat_lt;have hy:=y.toNat_lt;show [UInt8.ofNat ((x.toNat*256+y.toNat) / 256),UInt8.ofNat (x.toNat*256+y.toNat)] = [x,y]
  have e1:(x.toNat*256+y.toNat) / 256=x.toNat:=by omega
  have e2:UInt8.ofNat (x.toNat*256+y.toNat)=y:=by
   apply UInt8.toNat.inj;rw [UInt8.toNat_ofNat'];omega
  rw [e1,e2,UInt8.ofNat_toNat]
theorem AK {bs:List UInt8} (h:(dd bs).1≠eB):bs.take (dd bs).2=dL (dd bs).1:=by
 unfold dd at h ⊢;by_cases h1:bs.length<2
 ·rw [if_pos h1] at h; exact absurd rfl h
 rw [if_neg h1] at h ⊢;by_cases h2:bs.length<2+eV bs+2
 ·rw [if_pos h2] at h; exact absurd rfl h
 rw [if_neg h2] at h ⊢;by_cases h3:eV (bs.drop (2+eV bs))=jt 7439 (bs.take (2+eV bs))
 ·rw [if_pos h3];have hsz:(⟨((bs.drop 2).take (eV bs)).toArray⟩:ByteArray).size=eV bs:=by
   show ((bs.drop 2).take (eV bs)).toArray.size=_;simp; omega
  have hh:fU ⟨((bs.drop 2).take (eV bs)).toArray⟩=bs.take (2+eV bs):=by
   unfold fU;rw [hsz,BY ak];show bs.take 2 ++ (bs.drop 2).take (eV bs)=_;rw [List.take_add]
  show bs.take (2+eV bs+2)=dL ⟨((bs.drop 2).take (eV bs)).toArray⟩;unfold dL;rw [hh,← h3,BY (by rw [Jz]; omega),List.take_add]
 ·rw [if_neg h3] at h; exact absurd rfl h
theorem vu {t:ByteArray} {x:cM} (h:fq t=some x):(bW [x]).2.1=0∧(bW [x]).1=t:=by
 unfold fq at h;by_cases h1:(jL (da t)).1=0
 ·rw [if_pos h1] at h;generalize fN (da t)=m at h
  match m,h with
  | [],h=>cases h
  | [y],h =>
   unfold zr at h;dsimp only at h;by_cases h2:(bW [y]).2.1=0∧(bW [y]).1=t
   ·rw [if_pos h2] at h; cases h; exact h2
   ·rw [if_neg h2] at h; cases h
  | _ :: _ :: _,h=>cases h
 ·rw [if_neg h1] at h; cases h
theorem s8 (bs:List UInt8):∀ (n p:Nat) (acc:List cM),p≤bs.length→cH acc=bs.take p→(∀ x ∈ acc,(bW [x]).2.1=0) →
  (km n bs p acc).2≤bs.length∧cH (km n bs p acc).1=bs.take (km n bs p acc).2∧∀ x ∈ (km n bs p acc).1,(bW [x]).2.1=0
 | 0,p,acc,h1,h2,h3=>⟨h1,h2,h3⟩
 | n+1,p,acc,h1,h2,h3=>by
  rw [km]
  cases hs:fq (dd (bs.drop p)).1 with
  | none=>exact ⟨h1,h2,h3⟩
  | some x =>
   obtain ⟨k1,k2⟩:=vu hs
   have hne:(dd (bs.drop p)).1≠eB:=fun c=>by rw [c,iT] at hs; cases hs
   have hsz:=oS hne
   rw [Jz] at hsz
   refine s8 bs n _ _ ak ?_ ?_
   ·rw [l8,h2]
    show _ ++ cH [x]=_
    have e:cH [x]=dL (bW [x]).1:=by simp [cH]
    rw [e,k2,← AK hne,List.take_add]
   ·intro y hy
    rcases List.mem_append.1 hy with hy | hy
    ·exact h3 y hy
    ·rw [JA] at hy; rw [hy]; exact k1
theorem AH {bs:List UInt8} (h:bs.length≤100000):(eF bs).2≤bs.length∧ga 0 [] (eF bs).1 = .ok (bs.take (eF bs).2)∧(eF bs).1.length≤100000:=by
 obtain ⟨h1,h2,h3⟩:=s8 bs (bs.length+1) 0 [] (Jc _) (by simp [cH]) (by simp);have hr:(cH (eF bs).1).length≤100000:=by
  show (cH (km (bs.length+1) bs 0 []).1).length≤_;rw [h2,Jr]; omega
 refine ⟨h1,?_,Jj (kX _) hr⟩;have:=rK (eF bs).1 0 [] h3 (by rw [Jq]; exact hr);rw [Jq] at this;rw [this];exact congrArg _ h2
theorem Ct {l:List cM} {r:List UInt8} (hl:ga 0 [] l = .ok r):eF r=(l.map ct,r.length)∧l.length≤100000∧∀ x ∈ l,(bW [x]).2.1=0:=by
 obtain ⟨k,k1,k2,k3,k4,k5⟩:=xI hl (I6 _);obtain ⟨h1,h2⟩:=jE l 0 [] r hl;rw [Jq] at h1;have hlen:=jD l 0 [] (Jc _) hl;have hle:=kX l;have hk:k=l.length:=by
  rcases Jw k l.length with h | h
  ·obtain ⟨_,h6⟩:=k5 h;exfalso;have e:cH l=cH (l.take k) ++ cH (l.drop k):=by rw [← l8,List.take_append_drop]
   have e4:cH (l.drop k)=dL (bW [l[k]]).1 ++ cH (l.drop (k+1)):=by rw [I9 h]; exact JN
   have:r.length=(cH (l.take k)).length+((dL (bW [l[k]]).1).length+(cH (l.drop (k+1))).length):=by rw [h1,e,e4,Jf,Jf]
   omega
  ·omega
 rw [JR] at k2;have h4:=k4 hk;rw [hk,JR] at k2 h4;rw [k2,h4];exact ⟨rfl,by rw [← h1] at hle; omega,h2⟩
theorem tY (n:Nat) (a:Option Addr) (c:Nat) {w:World} (h:100000<n):Calls Tryz.prog 12 #[.slice a n c] w fun e w'=>Below w w w'∧e = .returned (.tuple #[aL,aB,(4:Int)]):=by
 have hz:(100000:Int)<(n:Int):=by omega
 clear h;go_enter Tryz.func12,Tryz.ntmps12;go_wp2_with fail
 exact I7 (v:=.tuple #[aL,aB,(4:Int)]) (by simp [results,Tryz.results12,go_sem]) rfl ⟨I8 _ _,rfl⟩
theorem rC (a:Option Addr) (c:Nat) {w:World} (hG:GP w w):Calls Tryz.prog 12 #[.slice a 0 c] w fun e w'=>Below w w w'∧e = .returned (.tuple #[aL,aB,aB]):=by
 have con:∀ (a':Option Addr) (c':Nat),Calls Tryz.prog 25 #[.slice a' 0 c'] w fun e w'=>e = .returned (.tuple #[eB,aB])∧Below w w w':=fun a' c'=>jg [] a' c' (fun _=>True) (w:=w) (.inl rfl) (Jc _) (by decide)
 have HG:=ah hG;have HC:=ah con;clear hG con;go_enter Tryz.func12,Tryz.ntmps12;go_wp2_with fail
 go_loopw [5,6] (fun ov pv wr=>ov = .slice none 0 0∧pv = .int .i64 0∧wr=w) (fun _ _ _=>0)
 case atStart=>exact ⟨rfl,rfl,rfl⟩
 case round =>
  obtain ⟨rfl,rfl,rfl⟩:=hrel;rcases a with _ | ⟨b,off,cur⟩ <;> rcases Nat.eq_zero_or_pos c with rfl | hc
  all_goals
   go_wp2_with fail
   refine cR (HC.out _ _) fun w2 hb2=>?_;have con:=mK eB (HG.out.up hb2 (I6 _) hb2.size);rw [iT] at con;go_wp2_with fail
   refine con.mono ?_;rintro e w3 ⟨hb3,rfl⟩;clear con;have hb:=chain hb2 hb3;have hal:=bR w3 (.cells cO 57);have hbe:=chain hb hal;go_wp2_with (first | (refine aT rfl 57 _ _ rfl cO cO rfl rfl dB rfl (eh rfl) ?_))
   exact I7 (v:=.tuple #[aL,aB,aB]) (by simp [results,Tryz.results12,go_sem]) rfl ⟨hbe,rfl⟩
theorem sR (bs:List UInt8) (A:Option Addr) (cap:Nat) {w:World} (hG:GP w w) (hl:bf mC 1 (fun b=>b<w.heap.size) w A bs) (hc:bs.length≤cap) (hn:bs.length≤100000):Calls Tryz.prog 12 #[.slice A bs.length cap] w fun e w'=>Below w w w'∧∃ a c,e = .returned (.tuple #[.slice a (eF bs).1.length c,.int .i64 ((eF bs).2:Nat),aB])∧bf cy 16 (fun b=>w.heap.size≤b) w' a (eF bs).1:=by
 rcases hl with rfl | ⟨b,off,rfl,h⟩
 ·refine (rC A cap hG).mono ?_;rintro e w2 ⟨hb,rfl⟩;rw [qi];exact ⟨hb,none,0,rfl,.inl rfl⟩
 ·exact lG bs b off cap hG (.inr ⟨b,off,rfl,h⟩) hc hn
theorem nE (l:List cM) (a:Option Addr) (c:Nat) (bs:List UInt8) (bA:Option Addr) (cb:Nat) {w:World} (hG:GP w w) (hn:l.length≤100000000000000) (hl:bf cy 16 (fun b=>b<w.heap.size) w a l)
  (hbs:bf mC 1 (fun b=>b<w.heap.size) w bA bs) (hbc:bs.length≤cb) (hbn:bs.length≤140737488355328):Calls Tryz.prog 4 #[.slice a l.length c,.slice bA bs.length cb] w fun e w'=>e = .returned true∧Below w w w':=by
 have con0:=pE hG;have HG:=ah hG;have L0:=ah hl;have HN:=ah hn;have HBS:Hid (bf mC 1 (fun b=>b<w.heap.size) w bA bs∧bs.length≤cb∧bs.length≤140737488355328):=⟨hbs,hbc,hbn⟩
 clear hl hG hn hbs hbc hbn;go_enter Tryz.func4,Tryz.ntmps4;go_wp2_with fail
 refine con0.mono ?_;rintro e w1 ⟨hb1,rfl⟩;have low:∀ {W:World} {a:Option Addr} {l:List cM},Below w w W→bf cy 16 (fun b=>b<w.heap.size) w a l→bf cy 16 (fun b=>b<W.heap.size) W a l:=fun hb h=>bf.mono bJ (fun b h _=>Ja h hb.size) (h.nx bJ (hb:Below w w _))
 have gup:∀ {W:World},Below w w W→GP W W.heap.size:=fun hb=>HG.out.up hb (I6 _) hb.size
 have con1:=qL l a c (gup hb1) (by have:=HN.out; omega) (low hb1 L0.out);have HB1:=ah hb1;obtain ⟨A,hA⟩:∃ A,A=ga 0 [] l:=⟨_,rfl⟩
 have HA':=ah hA.symm;rw [← hA] at con1;clear con0 hb1 hA;go_wp2_with fail
 refine con1.mono ?_;rintro e w2 ⟨hb2,aA,cA,rfl,LA,hcA,hAd⟩;clear con1;obtain ⟨hal3,QA⟩:=dZ w2 #[.int .i64 (jr A).1,.int .i64 (jr A).2] 27;have hb3:=chain hb2 hal3;have HB3:=ah (HB1.out.trans (hb3.mono HB1.out.size))
 have LA3:=ah ((LA.nx pK hal3).mono pK fun b _ h=>h)
 have HC:Hid ((lf A).length≤cA∧GS aA):=⟨hcA,hAd⟩
 clear LA hal3 hb2 hb3 HB1 hcA hAd;go_upto_region 4 with fail
 generalize w2.alloc _=w3 at *;obtain ⟨a0,a1⟩:=dp QA;go_upto_if 24 with fail
 clear a0 a1 QA;go_cut [] (fun wx=>Hid (Below w w wx))
 case first =>
  by_cases h1:(jr A).1=0
  case neg =>
   have z1:((jr A).1 == 0)=false:=by rw [beq_eq_false_iff_ne]; exact h1
   clear h1;go_wp2_with fail
   go_meet
   case rel=>exact HB3
  have z1:((jr A).1 == 0)=true:=by rw [h1]; rfl
  obtain ⟨r,rfl⟩:∃ r,A = .ok r:=by
   cases A with
   | ok r=>exact ⟨r,rfl⟩
   | error e=>exact absurd h1 (oe l _ _ HA'.out)
  obtain ⟨k1,k2,k3⟩:=Ct HA'.out;have hr5:=jD l 0 [] (Jc _) HA'.out;have hlb:(l.map ct).length=l.length:=by rw [JB]
  have hBD:∀ x ∈ l.map ct,sQ x:=fun x h=>by
   obtain ⟨y,hy,rfl⟩:=List.mem_map.1 h;exact (vY (k3 y hy)).2 _ (by simp)
  have hGD:∀ x ∈ l,yi x:=fun x h=>(vB (iX (k3 x h)).1).2 x (by simp)
  have con2:Calls Tryz.prog 12 #[.slice aA (lf (.ok r)).length cA] w3 fun e w'=>Below w3 w3 w'∧∃ a c,e = .returned (.tuple #[.slice a l.length c,.int .i64 ((lf (.ok r)).length:Nat),aB])∧bf cy 16 (fun b=>w3.heap.size≤b) w' a (l.map ct):=by
   have:=nc r aA cA (w:=w3) HC.out.2 (gup HB3.out) LA3.out HC.out.1 hr5;rw [k1,hlb] at this;exact this
  have con3:∀ W,Below w w W→Calls Tryz.prog 14 #[.slice a l.length c] W fun e w'=>Below W W w'∧∃ a' c',e = .returned (.slice a' l.length c')∧bf cy 16 (fun _=>True) w' a' (l.map ct):=fun W hW=>by
   have:=mU l k2 hGD a c W (low hW L0.out);unfold G9 at this;rw [hlb] at this;exact this
  have con4:∀ (W:World) (a1 a2:Option Addr) (c1 c2:Nat),bf cy 16 (fun _=>True) W a1 (l.map ct)→bf cy 16 (fun _=>True) W a2 (l.map ct)→Calls Tryz.prog 13 #[.slice a1 l.length c1,.slice a2 l.length c2] W (Cm W):=fun W a1 a2 c1 c2 x1 x2=>by
   have:=oP (l.map ct) (by rw [hlb]; exact k2) hBD a1 a2 c1 c2 W ⟨x1,x2⟩;rw [hlb] at this;exact this
  have H3:=ah con3;have H4:=ah con4;generalize l.map ct=B at *;generalize (lf (.ok r):List UInt8).length=q at *;clear h1 k1 k2 k3 hr5 hlb hBD hGD con3 con4 LA3 HC HA';go_wp2_with fail
  refine con2.mono ?_;rintro e w4 ⟨hb4,am,cm,rfl,Lm⟩;clear con2 z1;have HB4:=ah (chain HB3.out hb4);have con:=H3.out w4 HB4.out;have HLm:=ah (Lm.mono bJ fun _ _ _=>trivial)
  have b3:((q:Int) != (q:Int))=false:=by simp
  clear Lm hb4;go_wp2_with fail
  refine con.mono ?_;rintro e w5 ⟨hb5,a3,c3,rfl,L3⟩;clear con b3;have con:=H4.out w5 am a3 cm c3 (HLm.out.nx bJ hb5) L3;go_wp2_with fail
  refine cR con fun w6 hb6=>?_;clear con;have HB6:=ah (chain HB4.out (chain hb5 hb6));go_wp2_with fail
  go_meet
  case rel=>exact HB6
 case rest =>
  have HW:=ah hcut;clear hcut LA3 HC HB3 HA';obtain ⟨w8,ew⟩:∃ x,x=wc:=⟨_,rfl⟩
  subst ew;by_cases hbig:100000<bs.length
  ·have con:=tY bs.length bA cb (w:=w8) hbig;clear hbig;go_wp2_with fail
   refine con.mono ?_;rintro e w9 ⟨hb9,rfl⟩;clear con;have HB9:=ah (chain HW.out hb9);go_wp2_with fail
   go_ret;exact ⟨rfl,HB9.out⟩
  ·obtain ⟨k1,k2,k3⟩:=AH (bs:=bs) ak;have hb8:=HBS.out.1.aM pK (ay.Dt HW.out (fun b h=>h));have con:=sR bs bA cb (w:=w8) (gup HW.out) (hb8.mono pK fun b h _=>Ja h HW.out.size) HBS.out.2.1 ak;have HK:=ah k2;have HZ:Hid ((eF bs).2≤bs.length∧(eF bs).1.length≤100000∧bs.length≤100000):=⟨k1,k3,by omega⟩
   have HB8:=ah hb8;generalize (eF bs).1=m at *;generalize (eF bs).2=n at *;clear hbig k1 k2 k3 hb8;go_wp2_with fail
   refine con.mono ?_;rintro e w9 ⟨hb9,am,cm,rfl,Lm⟩;clear con;have HB9:=ah (chain HW.out hb9);have con:=lM m am cm (gup HB9.out) (by have:=HZ.out; omega) (Lm.mono bJ fun b _ h=>h);rw [HK.out] at con;have HBB:=ah (HB8.out.aM pK (ay.Dt hb9 (fun b h=>Ja h HW.out.size)));clear Lm hb9 HB8;go_wp2_with fail
   refine con.mono ?_;rintro e w10 ⟨hb10,aX,cX,rfl,LX,hcX⟩;clear con hcX;obtain ⟨hal,QF⟩:=dZ w10 #[aB,aB] 27;have hb11:=chain hb10 hal;have HB11:=ah (chain HB9.out hb11);have HX11:=ah ((LX.mono pK fun _ _ _=>trivial).nx pK hal)
   have HY11:=ah (((HBB.out.aM pK (ay.Dt hb11 (fun b h=>Ja h HB9.out.size))).zP n).mono pK fun _ _ _=>trivial)
   clear LX hb10 hal hb11;go_upto_region 12 with fail
   generalize w10.alloc _=w11 at *;obtain ⟨x0,x1⟩:=dp QF;have hlt:(bs.take n).length=n:=by rw [Jr]; have:=HZ.out; omega
   have con:Calls Tryz.prog 11 #[.slice aX (min n bs.length) cX,.slice bA n cb] w11 fun e w'=>e = .returned true∧Below w11 w11 w':=by
    have:=AG (bs.take n) (bs.take n) aX bA cX cb (fun _=>True) (w:=w11) HX11.out HY11.out (by have:=HZ.out; omega) (by have:=HZ.out; omega);rw [decide_eq_true rfl] at this;rw [← Jr,hlt];rw [hlt] at this;exact this
   have hnn:(0:Int)≤(n:Int):=by omega
   have hnb:(n:Int)≤(bs.length:Int):=by have:=HZ.out; omega
   have hncb:n≤cb:=by have:=HZ.out; have:=HBS.out.2.1; omega
   clear hlt;go_wp2_with fail
   refine cR con fun w12 hb12=>?_;clear con x0 x1;have HB12:=ah (chain HB11.out hb12);go_wp2_with fail
   go_ret;exact ⟨rfl,HB12.out⟩
end Go.Proofs.YtoknmnngaackkaaGreatDoor
namespace Go.Proofs.YtoknmnngaackkaaGreatDoor
open Go.RowKit Go.Lib Go.Shelf Go.ChangeShapes Go.WideShapes Go.ChangeAt Go.Joins
set_option maxRecDepth 100000
set_option maxHeartbeats 16000000
set_option maxRecDepth 100000
set_option maxHeartbeats 8000000
section
variable {H:Type} {enc:TypeId × Value→H} {W:World} {hd:Bool}
theorem IW:Tryz.prog.cellsOf 5=1:=by kernel_rfl
theorem xZ (n:Nat):tL enc W hd 5 mC 1 n:=by
 intro m hm cs x h;obtain ⟨u,e,_,hw⟩:=DataW.trod_int Tryz.underlying5 h;have hb:=bounds_u8 hw;refine ⟨UInt8.ofNat u.toNat,by rw [e]; rfl,?_⟩;show cs=_;rw [e,UInt8.toNat_ofNat_of_lt' (by show u.toNat<256; omega),show ((u.toNat:Nat):Int)=u by omega]
theorem wH {r:Reach} {b0:Nat} {v:Value} {d:DataW H} {p:List MemPlace} (hv:Value.okWide Tryz.prog W r b0 24 v) (h:DataW.Trod enc Tryz.prog W 0 (fun _=>true) true 24 v d p):∃ (a:Option Addr) (cap:Nat) (l:List UInt8),v = .slice a l.length cap∧bf mC 1 (fun b=>b<W.heap.size) W a l∧l.length≤cap:=by
 obtain ⟨a0,yS,cap0,rfl⟩:=okWide_slice Tryz.underlying24 hv;obtain ⟨fuel,hf0⟩:=h;have hcap:yS≤cap0:=by
  rcases DataW.trod_slice Tryz.underlying24 hf0 with ⟨hcs,_⟩ | ⟨a',len,cap',elems,rest,m,hm,hcs,hx,_,hlc,_,hlen,_⟩
  ·simp [Value.cells] at hcs; omega
  ·simp [Value.cells] at hcs;obtain ⟨rfl,rfl,rfl⟩:=hcs;exact hlc
 obtain ⟨a,cap,l,e,L⟩:=gh Tryz.underlying24 IW (by decide) (xZ fuel) hf0;simp [Value.cells] at e;obtain ⟨rfl,rfl,rfl⟩:=e;exact ⟨_,_,l,rfl,L,hcap⟩
theorem uJ {a:Option Addr} {n cap:Nat} {d:DataW H} {p:List MemPlace} (h:DataW.Trod enc Tryz.prog W 0 (fun _=>true) true 24 (.slice a n cap) d p)
  {ts:List TypeId} {ds:List (DataW H)} (hs:(DataW.weightsEach Tryz.prog ts ds).all (· ≤ reachBytes)=true) {j:Nat} (ht:ts[j]? = some 24) (hd:ds[j]? = some d):n≤140737488355328:=by
 obtain ⟨fuel,hf⟩:=h
 rcases DataW.trod_slice Tryz.underlying24 hf with ⟨hcs,_⟩ | ⟨a',len,cap',elems,rest,m,hm,hcs,hx,_,_,_,hlen,_⟩
 ·simp [Value.cells] at hcs
  omega
 ·simp [Value.cells] at hcs
  obtain ⟨rfl,rfl,rfl⟩:=hcs
  simp only [Prod.mk.injEq] at hx
  have e:=hx.1
  subst e
  have h1:=sized_slice hs ht hd Tryz.underlying24
  simp only [JB] at h1
  have h2:=reachBytes_lt
  have h3:1≤Tryz.prog.bytesOf 5:=by decide +kernel
  have h4:n*1≤(elems.length+rest.length)*Tryz.prog.bytesOf 5:=Nat.mul_le_mul ak h3
  omega
end
theorem mS (l:List cM) (a:Option Addr) (c:Nat) (bs:List UInt8) (bA:Option Addr) (cb:Nat) {w:World} (hG:GP w w) (hn:l.length≤100000000000000) (_:l.length≤c) (hbn:bs.length≤140737488355328) (hl:bf cy 16 (fun b=>b<w.heap.size) w a l)
  (hbs:bf mC 1 (fun b=>b<w.heap.size) w bA bs∧bs.length≤cb):Calls Tryz.prog 4 #[.slice a l.length c,.slice bA bs.length cb] w fun e w'=>e = .returned true∧Below w w w':=nE l a c bs bA cb hG hn hl hbs.1 hbs.2 hbn
end Go.Proofs.YtoknmnngaackkaaGreatDoor
