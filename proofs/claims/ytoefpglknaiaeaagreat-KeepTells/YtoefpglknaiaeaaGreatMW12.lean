import Derived.Test.YtoefpglknaiaeaaGreatMW11
set_option maxHeartbeats 16000000
set_option maxRecDepth 100000
namespace Go.Proofs.YtoefpglknaiaeaaGreat
open Go.RowKit Go.Lib Go.Shelf _root_.Go.Proofs.Tryz
abbrev Wp:Type:=Vl × Int
def kg:List Wp→List Value
 | []=>[]
 | p :: r=>.int .i64 p.1.1 :: .int .i64 p.1.2.1 :: .string p.1.2.2 :: .int .i64 p.2 :: kg r
theorem oE:∀ l r:List Wp,kg (l ++ r)=kg l ++ kg r
 | [],_=>rfl
 | p :: t,r=>by rw [Nu,kg,kg,oE t r]; rfl
theorem xV:∀ (l:List Wp) (i:Nat) (h:i<l.length),(kg l)[i*4]? = some (.int .i64 l[i].1.1)∧(kg l)[i*4+1]? = some (.int .i64 l[i].1.2.1)∧(kg l)[i*4+2]? = some (.string l[i].1.2.2)∧(kg l)[i*4+3]? = some (.int .i64 l[i].2)
 | p :: r,0,_=>⟨rfl,rfl,rfl,rfl⟩
 | p :: r,i+1,h=>by
  have ih:=xV r i (by simpa using h)
  have e:(i+1)*4=i*4+4:=by omega
  rw [e]
  exact ih
def bK (f:List Vl→Vl) (rows:List Zp):List Wp:=rows.filterMap fun r=>if (f r.1).1=1 then none else some (f r.1,r.2)
theorem mc (f:List Vl→Vl) {rows:List Zp} {k:Nat} (h:k<rows.length):bK f (rows.take (k+1))=bK f (rows.take k) ++ (if (f rows[k].1).1=1 then [] else [(f rows[k].1,rows[k].2)]):=by
 unfold bK;rw [MJ h,List.filterMap_append]
 congr 1
 by_cases c:(f rows[k].1).1=1
 ·simp [c]
 ·simp [c]
theorem sI (f:List Vl→Vl) (rows:List Zp):(bK f rows).length≤rows.length:=List.length_filterMap_le _ _
theorem K5:(Tryz.prog.info? 234).map (fun i=>(i.zero,i.size,i.bytes))=some (some (.agg #[aD,aD,(),aD]),4,40):=by kernel_rfl
theorem G2 (cols:List Int) (lo:Nat) (u:Value) (f:List Vl→Vl) (a:Option Addr) (cap:Nat) (rows:List Zp) (w:World) (hA:gZ cols lo u f w) (h:aK w a rows) (hf:∀ p ∈ rows,dX cols p.1) (hl:rows.length≤400) :
  Calls prog 176 #[.slice a rows.length cap,u] w fun e w'=>∃ v,e = .returned v∧w'.ownsRow w 234 4 v (bK f rows).length (kg (bK f rows))∧Below w w w':=by
 obtain ⟨iw,hi,hj0,hj1,hj2⟩:=info_parts K5;obtain ⟨g,cb,rfl,eg,hd⟩:=hA;have HD:=aB hd;have HF:=aB hf;clear hd hf;go_enter func176,ntmps176;go_wp2_with fail
 go_loopw [5,11] (fun v i wr=>∃ k:Nat,k≤rows.length∧i = .int .i64 k∧wr.ownsRow w 234 4 v (bK f (rows.take k)).length (kg (bK f (rows.take k)))∧Below w w wr) (fun _ i _=>rows.length - (intOf i).toNat)
 case atStart=>exact ⟨0,MD _,rfl,M4 _ _ _ _,Mz _ _⟩
 case round =>
  obtain ⟨k,hk,rfl,HO,hb⟩:=hrel;have hz:=hb.size;by_cases hlt:k<rows.length
  ·obtain ⟨b,off,rfl,hbl,c1,ar,cr,c0,sr⟩:=(h.next hb).elem hlt;obtain ⟨hal,q0⟩:=iV wr #[.slice ar rows[k].1.length cr,.int .i64 rows[k].2] 47;have hal':=chain hb hal;have con:=HD.out rows[k].1 ar cr _ (HF.out _ (MC hlt)) (sr.next hal) (aI.of hal');have HT:=aB (mc f hlt);have hkl:=sI f (rows.take k)
   rw [MR] at hkl;have O1:=aL HO hal;generalize f rows[k].1=fv at *;generalize bK f (rows.take k)=acc at *;unfold dV at con;go_upto_region 5 with fail
   clear c0 c1 sr HO;generalize wr.alloc _=wk at *;have p0:=cell_of (i:=0) q0 rfl;go_upto_region 6 with (go_at_fn g; refine con.mono ?_; rintro e w2 ⟨rfl,hb2⟩)
   clear con p0;have q2:=iX hb2 q0;have O2:=aL O1 hb2;obtain ⟨hal2,q3⟩:=iV w2 #[fv.1,fv.2.1,fv.2.2] 24;have q2:=iX hal2 q2;have O3:=aL O2 hal2;have hA3:=chain (chain hal' hb2) hal2;have hz3:=hA3.size;generalize w2.alloc _=w3 at *
   have c0:=cell_of (i:=0) q3 rfl;have c1:=cell_of (i:=1) q3 rfl;have c2:=cell_of (i:=2) q3 rfl;have c3:=cell_of (i:=1) q2 rfl;by_cases hn:fv.1=1
   ·have hnb:(fv.1 != 1)=false:=by simp [hn]
    have HT':Hid (bK f (rows.take (k+1))=acc):=by show _=_; rw [HT.out,if_pos hn,M8]
    clear hn;go_wp2
    go_roundw
    case rel=>exact ⟨k+1,by omega,by go_num,by rw [HT'.out]; exact O3,hA3⟩
    case measure=>simp [intOf]; omega
   ·have hnb:(fv.1 != 1)=true:=by simp [hn]
    have HT':Hid (bK f (rows.take (k+1))=acc ++ [(fv,rows[k].2)]):=by show _=_; rw [HT.out,if_neg hn]
    clear hn;go_wp2_with (first | (at_builtin; refine MX _ rfl _ _ 201 rfl w 234 iw _ 4 40 underlying201 hi hj0 hj1 hj2 rfl (by decide) _ _ _ rfl (O3.alloc _) (ah w3 0) 1 1 [.int .i64 fv.1,fv.2.1,fv.2.2,.int .i64 rows[k].2] rfl rfl ?Ac1 ?Ac2 ?Ac3 ?Ac4 ?Ac5 ?_))
    case Ac1 =>
     intro i u hu
     match i,hu with
     | 0,hu=>simp at hu; subst hu; simp [Addr.add]
     | 1,hu=>simp at hu; subst hu; simp [Addr.add]
     | 2,hu=>simp at hu; subst hu; simp [Addr.add]
     | 3,hu=>simp at hu; subst hu; simp [Addr.add]
    case Ac2=>intro u hu; simp at hu; rcases hu with rfl | rfl | rfl | rfl <;> rfl
    case Ac3=>unfold maxLen; omega
    case Ac4=>omega
    case Ac5=>simp; omega
    intro v' w4 o4 g4 _;have hb4:Below w w w4:=hA3.trans (((Mz _ _).alloc ag _).grown g4 (by simp; omega) (fun q hq=>((O3.alloc (.cells #[fv.1,fv.2.1,fv.2.2,.int .i64 rows[k].2] 234)).lt q hq).1));have o4':w4.ownsRow w 234 4 v' (acc ++ [(fv,rows[k].2)]).length (kg (acc ++ [(fv,rows[k].2)])):=by rw [oE,ME]; exact o4
    clear g4 o4 O3 O2 O1;go_wp2
    go_roundw
    case rel=>exact ⟨k+1,by omega,by go_num,by rw [HT'.out]; exact o4',hb4⟩
    case measure=>simp [intOf]; omega
  ·have e:k=rows.length:=by omega
   subst e;rw [MM] at HO;obtain ⟨av,cv,rfl⟩:=fa HO;go_wp2
   go_ret;exact ⟨_,rfl,HO,hb⟩
def kV (W:World) (a:Option Addr) (l:List Wp):Prop:=l.length≤maxLen∧(l = []∨∃ b off,a=some ⟨b,off,none⟩∧b<W.heap.size∧∀ (i:Nat) (h:i<l.length),W.cell? ⟨b,off+i*4,none⟩=some (.int .i64 l[i].1.1)∧W.cell? ⟨b,off+i*4+1,none⟩=some (.int .i64 l[i].1.2.1)∧W.cell? ⟨b,off+i*4+2,none⟩=some (.string l[i].1.2.2)∧W.cell? ⟨b,off+i*4+3,none⟩=some (.int .i64 l[i].2))
theorem kV.next {W w1:World} {a:Option Addr} {l:List Wp} (h:kV W a l) (hb:Below W W w1):kV w1 a l:=by
 obtain ⟨h0,h | ⟨b,off,e,hlt,hr⟩⟩:=h
 ·exact ⟨h0,.inl h⟩
 ·refine ⟨h0,.inr ⟨b,off,e,My hlt hb.size,fun i hi=>?_⟩⟩;obtain ⟨a0,a1,a2,a3⟩:=hr i hi;exact ⟨(hb.cell (p:=⟨b,_,none⟩) hlt).trans a0,(hb.cell (p:=⟨b,_,none⟩) hlt).trans a1,(hb.cell (p:=⟨b,_,none⟩) hlt).trans a2,(hb.cell (p:=⟨b,_,none⟩) hlt).trans a3⟩
theorem kV.elem {W:World} {a:Option Addr} {l:List Wp} (h:kV W a l) {i:Nat} (hi:i<l.length):∃ b off,a=some ⟨b,off,none⟩∧b<W.heap.size∧W.cell? ⟨b,off+i*4,none⟩=some (.int .i64 l[i].1.1)∧W.cell? ⟨b,off+i*4+1,none⟩=some (.int .i64 l[i].1.2.1)∧W.cell? ⟨b,off+i*4+2,none⟩=some (.string l[i].1.2.2)∧W.cell? ⟨b,off+i*4+3,none⟩=some (.int .i64 l[i].2):=by
 obtain ⟨_,h | ⟨b,off,e,hlt,hr⟩⟩:=h
 ·subst h; simp at hi
 ·exact ⟨b,off,e,hlt,hr i hi⟩
theorem Kx {W:World} {B:Nat} {v:Value} {l:List Wp} (h:W.ownsRow B 234 4 v l.length (kg l)):∃ a c,v = .slice a l.length c∧kV W a l:=by
 have h':=h;rcases h.2 with ⟨rfl,h0⟩ | ⟨g,cap,cur,rfl,_,_,hn,hc,_⟩
 ·have:l = []:=MH h0;subst this;exact ⟨none,0,rfl,MD _,.inl rfl⟩
 ·refine ⟨_,_,rfl,MO hn hc,.inr ⟨g,0,rfl,(h'.lt g rfl).2,fun i hi=>?_⟩⟩;obtain ⟨a0,a1,a2,a3⟩:=xV l i hi;refine ⟨?_,?_,?_,?_⟩
  ·rw [h'.cellAt _ ag,← a0]; congr 1; omega
  ·rw [h'.cellAt _ ag,← a1]; congr 1; omega
  ·rw [h'.cellAt _ ag,← a2]; congr 1; omega
  ·rw [h'.cellAt _ ag,← a3]; congr 1; omega
def jm (v:Vl):Prop:=dY v.1 v.2.1=v.2.1
theorem uN (v:Vl):jm (cM v):=by
 unfold jm cM dY;by_cases h:v.1=2∨v.1=3 <;> simp [h]
theorem jF (o:Option Bool):jm (oC o):=by rcases o with _ | _ | _ <;> rfl
theorem tL (c:Int) (a b:Vl):jm (mD c a b):=by
 unfold jm mD;generalize iT c a.1 a.2.1 b.1 b.2.1=o;cases o with
 | none=>simp [jK,kl,dY]
 | some n =>
  simp only [jK,kl,gT,gY]
  split <;> simp [dY]
theorem Dd (a b:Vl):jm (oK a b):=by
 unfold jm oK;generalize fS a.1 a.2.2 b.1 b.2.2=k;simp [dY]
theorem Hg {k:Int} {a b:Vl} (ha:jm a) (hb:jm b):jm (gL k a b):=by
 have h1:jm (GN a b):=by unfold GN; exact jF _
 have h2:jm (Lk a b):=by unfold Lk; exact jF _
 have h3:∀ a b,jm (Gl a b):=fun a b=>by unfold Gl; exact jF _
 have h4:∀ a,jm (kI a):=fun a=>by unfold kI; exact jF _
 have h5:∀ a b,jm (wV a b):=fun a b=>by unfold wV; exact jF _
 have h6:=tL 43 a b;have h7:=tL 45 a b;have h8:=tL 42 a b;have h9:=Dd a b;have hc:jm (lR a b):=by
  unfold lR
  split
  ·exact hb
  ·exact ha
 have n1:=h4 (Gl a b);have n2:=h4 (wV a b);have n3:=h4 (wV b a);have e1:=h3 a b;have l1:=h5 a b;have l2:=h5 b a;clear h3 h4 h5;unfold gL;by_cases k4:k=4
 ·rw [if_pos k4]; exact h1
 rw [if_neg k4];by_cases k5:k=5
 ·rw [if_pos k5]; exact h2
 rw [if_neg k5];by_cases k6:k=6
 ·rw [if_pos k6]; exact e1
 rw [if_neg k6];by_cases k7:k=7
 ·rw [if_pos k7]; exact n1
 rw [if_neg k7];by_cases k8:k=8
 ·rw [if_pos k8]; exact l1
 rw [if_neg k8];by_cases k11:k=11
 ·rw [if_pos k11]; exact n2
 rw [if_neg k11];by_cases k10:k=10
 ·rw [if_pos k10]; exact l2
 rw [if_neg k10];by_cases k9:k=9
 ·rw [if_pos k9]; exact n3
 rw [if_neg k9];by_cases k12:k=12
 ·rw [if_pos k12]; exact h6
 rw [if_neg k12];by_cases k13:k=13
 ·rw [if_pos k13]; exact h7
 rw [if_neg k13];by_cases k14:k=14
 ·rw [if_pos k14]; exact h8
 rw [if_neg k14];by_cases k15:k=15
 ·rw [if_pos k15]; exact h9
 rw [if_neg k15];exact hc
theorem Ee (row:List Vl):∀ x,jm (bQ row x):=Ex.ind fun k v c ks ih=>by
 have hk:∀ i,jm ((qF row ks).getD i gX):=fun i=>by
  rw [mM]
  by_cases h:i<ks.length
  ·have:(ks.map (bQ row)).getD i gX=bQ row ks[i]:=by simp [List.getD,h]
   rw [this]
   exact ih _ (MC h)
  ·have:(ks.map (bQ row)).getD i gX=gX:=by simp [List.getD,h]
   rw [this]
   rfl
 rw [bQ]
 unfold nA
 split
 ·exact uN _
 split
 ·exact uN _
 split
 ·exact jF _
 split
 ·exact jF _
 split
 ·split
  ·exact hk 1
  ·exact hk 2
 ·exact Hg (hk 0) (hk 1)
theorem H9 {v:Vl} (h:aJ v=0) (hn:jm v):-1000000000000000≤v.2.1∧v.2.1≤1000000000000000:=by
 unfold jm dY at hn;unfold aJ aO at h
 split at hn
 ·rename_i hk
  rcases hk with hk | hk
  ·rw [hk] at h;simp at h;omega
  ·rw [hk] at h;simp at h;omega
 ·omega
structure JV (l:List Wp):Prop where
 len:l.length≤400
 wt:∀ p ∈ l,0≤p.2∧p.2≤1000000
 right:∀ p ∈ l,aJ p.1=0
 num:∀ p ∈ l,jm p.1
def gW:List Wp→Int
 | []=>0
 | p :: r=>p.2+gW r
theorem EO {l:List Wp} {k:Nat} (h:k<l.length):gW (l.take (k+1))=gW (l.take k)+l[k].2:=by
 have aux:∀ (l:List Wp) (p:Wp),gW (l ++ [p])=gW l+p.2:=by
  intro l p
  induction l with
  | nil=>simp [gW]
  | cons q r ih=>rw [Nu,gW,gW,ih]; omega
 rw [MJ h,aux]
theorem Cb {l:List Wp} (h:∀ p ∈ l,0≤p.2∧p.2≤1000000):0≤gW l∧gW l≤1000000*(l.length:Int):=by
 induction l with
 | nil=>simp [gW]
 | cons p r ih =>
  have h1:=h p (by simp);have h2:=ih fun q hq=>h q (by simp [hq])
  rw [gW,Ng];omega
def countP (l:List Wp):Vl:=(3,gW l,⟨#[]⟩)
theorem Iw (a:Option Addr) (cap:Nat) (l:List Wp) (w:World) (h:kV w a l) (hok:JV l) :
  Calls prog 212 #[.slice a l.length cap] w fun e w'=>e = .returned (dV (countP l))∧Below w w w':=by
 have hl:=hok.len;have HK:=aB hok;clear hok;obtain ⟨hal0,q00⟩:=iV w #[aD,aD,()] 24;unfold dV countP;generalize hs:gW l=s;have HS:=aB hs;clear hs;go_enter func212,ntmps212;go_wp2_with fail
 generalize w.alloc _=w0 at *;go_loopw [3,8] (fun v i wr=>∃ (k:Nat) (n:Int),k≤l.length∧i = .int .i64 k∧v = .int .i64 n∧Hid (n=gW (l.take k))∧0≤n∧n≤1000000*(k:Int)∧Below w0 w0 wr) (fun _ i _=>l.length - (intOf i).toNat)
 case atStart=>exact ⟨0,0,MD _,rfl,rfl,rfl,by omega,by omega,Mz _ _⟩
 case round =>
  obtain ⟨k,n,hk,rfl,rfl,HN,hn0,hn1,hb⟩:=hrel;have hA:=chain hal0 hb;by_cases hlt:k<l.length
  ·obtain ⟨b,off,rfl,hbl,c0,c1,c2,c3⟩:=(h.next hA).elem hlt;have hw:=HK.out.wt _ (MC hlt);have hal:=aN wr (.cells #[.int .i64 l[k].1.1,.int .i64 l[k].1.2.1,.string l[k].1.2.2,.int .i64 l[k].2] 234);have HN':Hid (n+l[k].2=gW (l.take (k+1))):=by show _=_; rw [EO hlt,HN.out]
   go_wp2
   go_roundw
   case rel=>exact ⟨k+1,n+l[k].2,by omega,by go_num,rfl,HN',by omega,by omega,chain hb hal⟩
   case measure=>simp [intOf]; omega
  ·have e:k=l.length:=by omega
   subst e;have es:n=s:=by rw [HN.out,MM,HS.out]
   subst es;have con:=Bn n wr (by simp [kO]; omega);have c0:=cell_of (i:=0) q00 rfl;go_wp2_with fail
   refine bC con fun w2 hb2=>?_;clear con;have q2:=((chain hb hb2).block _ (an q00)).trans q00;have d0:=cell_of (i:=0) q2 rfl;have d1:=cell_of (i:=1) q2 rfl;have d2:=cell_of (i:=2) q2 rfl;have f0:=MB w2 w 0 _ _ q2;have f1:=MB w2 w 1 _ _ q2
   have f2:=MB w2 w 2 _ _ q2;have hA2:=chain hA hb2;go_wp2
   exact MA (v:=.agg #[(3:Int),n,()]) (by simp [results,results212,go_sem,d0,d1,d2]) rfl ⟨rfl,((hA2.setCell (p:=ah w 0) (Mx _) _).setCell (p:=ah w 1) (Mx _) _).setCell (p:=ah w 2) (Mx _) _⟩
structure Fv (cols:List Int) (rows:List Zp):Prop where
 len:rows.length≤400
 fit:∀ p ∈ rows,dX cols p.1
 wt:∀ p ∈ rows,0≤p.2∧p.2≤1000000
theorem Fv.known {cols:List Int} {rows:List Zp} (h:Fv cols rows) {f:List Vl→Vl} (hf:∀ row,dX cols row→aJ (f row)=0∧jm (f row)):JV (bK f rows):=by
 have hm:∀ p ∈ bK f rows,∃ q ∈ rows,p=(f q.1,q.2):=fun p hp=>by
  unfold bK at hp;obtain ⟨q,hq,e⟩:=List.mem_filterMap.1 hp
  split at e
  ·cases e
  ·exact ⟨q,hq,(Nk e).symm⟩
 refine ⟨MO (sI f rows) h.len,fun p hp=>?_,fun p hp=>?_,fun p hp=>?_⟩
 ·obtain ⟨q,hq,rfl⟩:=hm p hp; exact h.wt q hq
 ·obtain ⟨q,hq,rfl⟩:=hm p hp; exact (hf _ (h.fit q hq)).1
 ·obtain ⟨q,hq,rfl⟩:=hm p hp; exact (hf _ (h.fit q hq)).2
def qY (lo:Nat) (u:Value) (T:List Wp→Vl) (w:World):Prop :=
 ∃ g cb,u = .func (.func g) #[] cb∧(∀ args w,(callFunc g args).run prog w = .ok (.enter g args) w) ∧
  ∀ (l:List Wp) (a:Option Addr) (cap:Nat) (W:World),JV l→kV W a l→aI lo w W →
   Calls prog g (#[.slice a l.length cap] ++ cb) W fun e w'=>e = .returned (dV (T l))∧Below W W w'
theorem qY.next {lo:Nat} {u:Value} {T:List Wp→Vl} {w w1:World} (h:qY lo u T w) (hb:aI lo w w1):qY lo u T w1:=by
 obtain ⟨g,cb,e,eg,hd⟩:=h;exact ⟨g,cb,e,eg,fun l a cap W hk hs hW=>hd l a cap W hk hs (hb.trans hW)⟩
theorem qY.down {lo lo':Nat} {u:Value} {T:List Wp→Vl} {w:World} (h:qY lo u T w) (hl:lo'≤lo):qY lo' u T w:=by
 obtain ⟨g,cb,e,eg,hd⟩:=h;exact ⟨g,cb,e,eg,fun l a cap W hk hs hW=>hd l a cap W hk hs (hW.up hl)⟩
def lO (cols:List Int) (lo:Nat) (u:Value) (F:List Zp→Vl) (w:World):Prop :=
 ∃ g cb,u = .func (.func g) #[] cb∧(∀ args w,(callFunc g args).run prog w = .ok (.enter g args) w) ∧
  ∀ (rows:List Zp) (a:Option Addr) (cap:Nat) (W:World),Fv cols rows→aK W a rows→aI lo w W →
   Calls prog g (#[.slice a rows.length cap] ++ cb) W fun e w'=>e = .returned (dV (F rows))∧Below W W w'
theorem lO.next {cols:List Int} {lo:Nat} {u:Value} {F:List Zp→Vl} {w w1:World} (h:lO cols lo u F w) (hb:aI lo w w1):lO cols lo u F w1:=by
 obtain ⟨g,cb,e,eg,hd⟩:=h;exact ⟨g,cb,e,eg,fun l a cap W hk hs hW=>hd l a cap W hk hs (hb.trans hW)⟩
theorem lO.down {cols:List Int} {lo lo':Nat} {u:Value} {F:List Zp→Vl} {w:World} (h:lO cols lo u F w) (hl:lo'≤lo):lO cols lo' u F w:=by
 obtain ⟨g,cb,e,eg,hd⟩:=h;exact ⟨g,cb,e,eg,fun l a cap W hk hs hW=>hd l a cap W hk hs (hW.up hl)⟩
theorem IG (cols:List Int) (lo:Nat) (ut uv:Value) (T:List Wp→Vl) (f:List Vl→Vl) (hfr:∀ row,dX cols row→aJ (f row)=0∧jm (f row)) (tb vb:Nat) (a:Option Addr) (cap:Nat) (rows:List Zp) (W:World) (c0:W.cell? (ah tb 0)=some ut) (c1:W.cell? (ah vb 0)=some uv) (hT:qY lo ut T W) (hV:gZ cols lo uv f W) (hr:Fv cols rows) (h:aK W a rows) :
  Calls prog 175 #[.slice a rows.length cap,ah tb 0,ah vb 0] W fun e w'=>e = .returned (dV (T (bK f rows)))∧Below W W w':=by
 have hV':=hV;obtain ⟨gv,cv,rfl,_,_⟩:=hV';have hT':=hT;obtain ⟨gt,ct,rfl,egt,dt⟩:=hT';have HDt:=aB dt;have HV:=aB hV;have HW:=aB (hr.known hfr);have HR:=aB hr;clear hV hT dt hr hfr;have hal:=aN W (.cells #[aD,aD,()] 24)
 have q0:=bq W #[aD,aD,()] 24;generalize hres:T (bK f rows)=res;have HRes:=aB hres;clear hres;go_enter func175,ntmps175;go_wp2_with fail
 generalize W.alloc (.cells #[aD,aD,()] 24)=w0 at *;have d0:=(hal.cell (p:=ah tb 0) (ML _ _ c0)).trans c0;have d1:=(hal.cell (p:=ah vb 0) (ML _ _ c1)).trans c1;have lt0:tb<W.heap.size:=ML _ _ c0;have lt1:vb<W.heap.size:=ML _ _ c1
 have hCC:∀ X X':World,(X.cell? (ah tb 0)=some (.func (.func gt) #[] ct)∧X.cell? (ah vb 0)=some (.func (.func gv) #[] cv))→Below X X X'→(X'.cell? (ah tb 0)=some (.func (.func gt) #[] ct)∧X'.cell? (ah vb 0)=some (.func (.func gv) #[] cv)):=fun X X' h hb=>⟨(hb.cell (ML _ _ h.1)).trans h.1,(hb.cell (ML _ _ h.2)).trans h.2⟩
 have hdr:Below w0 w0 w0.drew:=(Mz _ _).drew;have CW:(w0.drew.cell? (ah tb 0)=some (.func (.func gt) #[] ct)∧w0.drew.cell? (ah vb 0)=some (.func (.func gv) #[] cv)):=hCC _ _ ⟨d0,d1⟩ hdr;clear c0 c1;refine aP (fun X=>(X.cell? (ah tb 0)=some (.func (.func gt) #[] ct)∧X.cell? (ah vb 0)=some (.func (.func gv) #[] cv))) aG ?_;refine bB hCC 5 0 (.func (.func gt) #[] ct) (fun n hn=>?_) CW ?_
 ·have hc:=hn.1;go_simp
 simp only [Act.put,pA,pB,pC];refine bB hCC 6 1 (.slice a rows.length cap) (fun n hn=>?_) CW ?_
 ·go_simp
 simp only [Act.put,pA,pB,pC];refine bB hCC 7 2 (.func (.func gv) #[] cv) (fun n hn=>?_) CW ?_
 ·have hc:=hn.2;go_simp
 simp only [Act.put,pA,pB,pC];refine gp 3 aG fun w3 hb3=>?_
 have CW3:=hCC _ _ CW hb3;have D3:=chain hal (chain hdr hb3);have con:=G2 cols lo _ f a cap rows w3 (HV.out.next (aI.of D3)) (h.next D3) HR.out.fit HR.out.len;refine wpOp_step rfl (fun K hK=>?_);go_simp;refine con.mono ?_;rintro e w4 ⟨v4,rfl,O4,hb4⟩;clear con;obtain ⟨a4,c4,rfl,S4⟩:=Kx O4;have CW4:=hCC _ _ CW3 hb4;have D4:=chain D3 hb4;refine hK _ _ ⟨CW4,?_⟩;clear hK K O4;refine gp 4 aG fun w5 hb5=>?_
 have CW5:=hCC _ _ CW4 hb5;have D5:=chain D4 hb5;have con:=HDt.out (bK f rows) a4 c4 w5 HW.out (S4.next hb5) (aI.of D5);rw [HRes.out] at con;refine wpOp_step rfl (fun K hK=>?_);go_simp
 first | (refine con.mono ?_) | (go_at_fn gt; refine con.mono ?_)
 rintro e w6 ⟨rfl,hb6⟩;clear con;have CW6:=hCC _ _ CW5 hb6;have D6:=chain D5 hb6;refine hK _ _ ⟨CW6,?_⟩;clear hK K;refine gp 5 aG fun w7 hb7=>?_
 have CW7:=hCC _ _ CW6 hb7;have D7:=chain D6 hb7;have q7:w7.heap[W.heap.size]? = some (.cells #[aD,aD,()] 24 (0,0)):=((chain hdr (chain hb3 (chain hb4 (chain hb5 (chain hb6 hb7))))).block _ (an q0)).trans q0;have e0:w7.cell? (ah W 0)=some (.int .i64 0):=cell_of (i:=0) q7 rfl;have e1:w7.cell? (ah W 1)=some (.int .i64 0):=cell_of (i:=1) q7 rfl;have e2:w7.cell? (ah W 2)=some (.string ⟨#[]⟩):=cell_of (i:=2) q7 rfl;have f0:w7.frozen? (ah W 0)=false:=MB w7 W 0 _ _ q7
 have f1:w7.frozen? (ah W 1)=false:=MB w7 W 1 _ _ q7;have f2:w7.frozen? (ah W 2)=false:=MB w7 W 2 _ _ q7;have ne0:∀ o u (X:World),(X.setCell (ah W o) u).cell? (ah tb 0)=X.cell? (ah tb 0):=fun o u X=>MN _ _ _ _ (by intro e; injection e with e; omega)
 have ne1:∀ o u (X:World),(X.setCell (ah W o) u).cell? (ah vb 0)=X.cell? (ah vb 0):=fun o u X=>MN _ _ _ _ (by intro e; injection e with e; omega)
 unfold dV;refine wpOp_step rfl (fun K hK=>?_);go_simp;refine hK _ _ ⟨⟨by rw [ne0,ne0,ne0]; exact CW7.1,by rw [ne1,ne1,ne1]; exact CW7.2⟩,?_⟩;clear hK K CW3 CW4 CW5 CW6;have B8:Below W W (((w7.setCell (ah W 0) res.1).setCell (ah W 1) res.2.1).setCell (ah W 2) res.2.2):=((D7.setCell (p:=ah W 0) (Mx _) _).setCell (p:=ah W 1) (Mx _) _).setCell (p:=ah W 2) (Mx _) _
 have g0:(((w7.setCell (ah W 0) res.1).setCell (ah W 1) res.2.1).setCell (ah W 2) res.2.2).cell? (ah W 0)=some (.int .i64 res.1):=by simp [go_sem,e0]
 have g1:(((w7.setCell (ah W 0) res.1).setCell (ah W 1) res.2.1).setCell (ah W 2) res.2.2).cell? (ah W 1)=some (.int .i64 res.2.1):=by simp [go_sem,e1]
 have g2:(((w7.setCell (ah W 0) res.1).setCell (ah W 1) res.2.1).setCell (ah W 2) res.2.2).cell? (ah W 2)=some (.string res.2.2):=by simp [go_sem,e2]
 have l8:=ML _ _ g0;clear e0 e1 e2 f0 f1 f2 q7 CW7 ne0 ne1;generalize (((w7.setCell (ah W 0) res.1).setCell (ah W 1) res.2.1).setCell (ah W 2) res.2.2)=w8 at *;refine cA aG ?_;intro w9 hb9;have k0:=(hb9.cell (p:=ah W 0) l8).trans g0;have k1:=(hb9.cell (p:=ah W 1) l8).trans g1
 have k2:=(hb9.cell (p:=ah W 2) l8).trans g2;have B9:=chain B8 hb9;clear g0 g1 g2 CW hCC;go_wp2
 exact MA (v:=.agg #[.int .i64 res.1,.int .i64 res.2.1,.string res.2.2]) (by simp [results,results175,go_sem,k0,k1,k2]) rfl ⟨rfl,B9⟩
def uO (cols:List Int) (lo:Nat) (W:World) (kb:Nat) (Fs:List (List Zp→Vl)):Prop :=
 ∃ K,lo≤kb∧kb<W.heap.size∧lo≤K∧K<W.heap.size∧W.cell? (ah kb 0)=some (.slice (some (ah K 0)) Fs.length Fs.length) ∧
  ∀ (i:Nat) (h:i<Fs.length),∃ u,W.cell? (ah K i)=some u∧lO cols lo u Fs[i] W
theorem uO.next {cols:List Int} {lo:Nat} {W w1:World} {kb:Nat} {Fs:List (List Zp→Vl)} (h:uO cols lo W kb Fs) (hb:aI lo W w1):uO cols lo w1 kb Fs:=by
 obtain ⟨K,h1,h2,h3,h4,h5,h6⟩:=h;refine ⟨K,h1,My h2 hb.1,h3,My h4 hb.1,(hb.cell (p:=ah kb 0) h1 h2).trans h5,fun i hi=>?_⟩;obtain ⟨u,c,a⟩:=h6 i hi;exact ⟨u,(hb.cell (p:=ah K i) h3 h4).trans c,a.next hb⟩
theorem IS (cols:List Int) (lo:Nat) (vb:Nat) (Fs:List (List Zp→Vl)) (a:Option Addr) (rows:List Zp) (cap:Nat) (W:World) (hK:uO cols lo W vb Fs) (h8:Fs.length≤8) (hr:Fv cols rows) (hs:aK W a rows) :
  Calls prog 177 #[.slice a rows.length cap,ah vb 0] W fun e w'=>e = .returned (.slice (some (ah W 0)) Fs.length Fs.length)∧xr W w' (Fs.map fun F=>F rows)∧Below W W w':=by
 obtain ⟨i0,hi,hz0,hz1,hz2⟩:=info_parts Tryz.pD;obtain ⟨K,k1,k2,k3,k4,k5,k6⟩:=hK;have HK:=aB k6;go_enter func177,ntmps177;go_wp2_with (first | (at_make; refine wpList_make_full _ rfl _ _ 45 rfl W 24 i0 _ 3 underlying45 hi hz0 hz1 .i64 .i64 Fs.length Fs.length Fs.length rfl rfl rfl rfl (by rw [hz2]; omega) (by unfold maxLen; omega) (Mx _) ?_))
 intro w1 hown hgrow;have hb0:Below W W w1:=(Mz _ _).grown hgrow (Mx _) (by simp);have hB0:Cf w1 W Fs.length (fun j=>(Fs.getD j (fun _=>gX)) rows) 0:=⟨_,hown,fun j _ hj=>absurd hj (M9 _)⟩
 have c1:=(hb0.cell (p:=ah vb 0) k2).trans k5;clear hown hgrow k5 k6;go_wp2_with fail
 clear c1;go_loopw [12] (fun i wr=>∃ k:Nat,k≤Fs.length∧i = .int .i64 k∧Cf wr W Fs.length (fun j=>(Fs.getD j (fun _=>gX)) rows) k∧Below W W wr) (fun i _=>Fs.length - (intOf i).toNat)
 case atStart=>exact ⟨0,MD _,rfl,hB0,hb0⟩
 case round =>
  obtain ⟨k,hk,rfl,HB,hb⟩:=hrel;have hz:=hb.size;by_cases hlt:k<Fs.length
  ·obtain ⟨u,cu,A⟩:=HK.out k hlt;have cu:=(hb.cell (p:=ah K k) k4).trans cu;obtain ⟨g,cb,rfl,eg,d⟩:=A;have d:=d rows a cap wr hr (hs.next hb) (aI.of hb);have ev:Fs[k] rows=(fun j=>(Fs.getD j (fun _=>gX)) rows) k:=by simp [List.getD,hlt]
   rw [ev] at d;generalize (fun j=>(Fs.getD j (fun _=>gX)) rows)=f at *;have i0:(0:Int)≤(k:Int):=by omega
   have i1:(k:Int)<(Fs.length:Int):=by omega
   go_wp2_with (go_at_fn g; refine d.mono ?_; rintro e w2 ⟨rfl,hb2⟩; have HB2:=HB.next hb2; obtain ⟨⟨u0,u1,u2,d0,d1,d2⟩,f0,f1,f2,hlb⟩:=HB2.cells hlt; have zz:=hb2.size)
   go_roundw
   case rel =>
    refine ⟨k+1,by omega,by go_num,?_,?_⟩
    ·exact HB2.step hlt
    ·exact (((chain hb hb2).setCell (p:=⟨W,k*3,none⟩) (Mx _) _).setCell (p:=⟨W,k*3+1,none⟩) (Mx _) _).setCell (p:=⟨W,k*3+2,none⟩) (Mx _) _
   case measure=>simp [intOf]; omega
  ·have e:k=Fs.length:=by omega
   subst e;go_wp2
   go_ret;exact ⟨rfl,HB.done (Fs.map fun F:List Zp→Vl=>F rows) (by simp) (fun j hj=>by simp at hj; simp [List.getD,hj]) (by simp; omega),hb⟩
abbrev Ag:Type:=Int × Ex
def dh (cols:List Int) (g:Ag):Int:=if g.1=1 then 0 else if g.1<2∨5<g.1 then 1 else if (ax cols g.2).2≠0 then (ax cols g.2).2 else if g.1=3∧(ax cols g.2).1≠3∧(ax cols g.2).1≠1 then 9 else 0
def gQ (g:Ag):List Vl→Vl:=if g.1=1 then fun _=>(2,1,⟨#[]⟩) else fun row=>bQ row g.2
theorem mi {cols:List Int} {g:Ag} (h:dh cols g=0):∀ row,dX cols row→aJ (gQ g row)=0∧jm (gQ g row):=by
 intro row hf;unfold gQ
 split
 ·exact ⟨by simp [aJ,aO],rfl⟩
 ·rename_i h1
  unfold dh at h;rw [if_neg h1] at h;by_cases h2:g.1<2∨5<g.1
  ·rw [if_pos h2] at h; cases h
  ·rw [if_neg h2] at h;by_cases h3:(ax cols g.2).2=0
   ·exact ⟨(lH hf g.2 _ (mw h3)).1,Ee row g.2⟩
   ·rw [if_pos h3] at h; exact absurd h h3
def jc:List Wp→Int
 | []=>0
 | p :: r=>p.2*p.1.2.1+jc r
def CG (l:List Wp):Vl:=if l = [] then (1,0,⟨#[]⟩) else if kO (jc l)=true then (3,jc l,⟨#[]⟩) else (1,0,⟨#[]⟩)
def BJ:List Wp→Vl
 | []=>(1,0,⟨#[]⟩)
 | p :: r=>r.foldl (fun m x=>if dP x.1 m<0 then x.1 else m) p.1
def BU:List Wp→Vl
 | []=>(1,0,⟨#[]⟩)
 | p :: r=>r.foldl (fun m x=>if 0<dP x.1 m then x.1 else m) p.1
def eQ (k:Int) (l:List Wp):Vl:=if k=3 then CG l else if k=4 then BJ l else if k=5 then BU l else countP l
def fF (g:Ag) (rows:List Zp):Vl:=eQ g.1 (bK (gQ g) rows)
def dF (cols:List Int):List Ag→Int
 | []=>0
 | g :: r=>if dh cols g=0 then dF cols r else dh cols g
theorem tu (cols:List Int) (gs:List Ag) (j:Nat) (h:j<gs.length) (h0:dh cols gs[j]=0):dF cols (gs.drop j)=dF cols (gs.drop (j+1)):=by
 rw [MI h,dF,if_pos h0]
theorem vI (cols:List Int) (gs:List Ag) (j:Nat) (h:j<gs.length) (h0:¬ dh cols gs[j]=0):dF cols (gs.drop j)=dh cols gs[j]:=by
 rw [MI h,dF,if_neg h0]
def iO (B:Nat) (W:World) (a:Option Addr) (l:List Ag):Prop:=l = []∨∃ (b off:Nat) (ai:Nat→Option Addr) (cap:Nat→Nat),a=some ⟨b,off,none⟩∧b<B∧∀ (i:Nat) (h:i<l.length),W.cell? ⟨b,off+i*7,none⟩=some (.int .i64 l[i].1)∧ki W b (off+i*7+1) l[i].2.k l[i].2.v l[i].2.c (ai i) l[i].2.ks.length (cap i)∧aU B W (ai i) l[i].2.ks
theorem iO.next {B B':Nat} {W w1:World} (hb:Below B' W w1) (hB:B≤B') {a:Option Addr} {l:List Ag} (h:iO B W a l):iO B w1 a l:=by
 rcases h with h | ⟨b,off,ai,cap,e,hlt,h⟩
 ·exact .inl h
 ·refine .inr ⟨b,off,ai,cap,e,hlt,fun i hi=>?_⟩;obtain ⟨h1,h2,h3⟩:=h i hi;exact ⟨(hb.cell (p:=⟨b,_,none⟩) (My hlt hB)).trans h1,h2.next hb (My hlt hB),aU.next hb hB h3⟩
theorem iO.up {B B':Nat} {W:World} (hB:B≤B') {a:Option Addr} {l:List Ag} (h:iO B W a l):iO B' W a l:=by
 rcases h with h | ⟨b,off,ai,cap,e,hlt,h⟩
 ·exact .inl h
 ·refine .inr ⟨b,off,ai,cap,e,My hlt hB,fun i hi=>?_⟩;obtain ⟨h1,h2,h3⟩:=h i hi;exact ⟨h1,h2,h3.up hB⟩
theorem iO.elem {B:Nat} {W:World} {a:Option Addr} {l:List Ag} (h:iO B W a l) {i:Nat} (hi:i<l.length):∃ b off ai ci,a=some ⟨b,off,none⟩∧b<B∧W.cell? ⟨b,off+i*7,none⟩=some (.int .i64 l[i].1)∧ki W b (off+i*7+1) l[i].2.k l[i].2.v l[i].2.c ai l[i].2.ks.length ci∧aU B W ai l[i].2.ks:=by
 rcases h with h | ⟨b,off,ai,cap,e,hlt,h⟩
 ·subst h; simp at hi
 ·exact ⟨b,off,ai i,cap i,e,hlt,h i hi⟩
theorem Hv (a:Option Addr) (n cap:Nat) (w:World):Calls prog 206 #[.slice a n cap] w fun e w'=>e = .returned (.agg #[(2:Int),(1:Int),()])∧Below w w w':=by
 obtain ⟨hal,q0⟩:=iV w #[aD,aD,()] 24;go_enter func206,ntmps206;go_wp2_with fail
 generalize w.alloc _=w0 at *;refine bC (kv w0) fun w2 hb2=>?_;have q2:=iX hb2 q0;have d0:=cell_of (i:=0) q2 rfl;have d1:=cell_of (i:=1) q2 rfl;have d2:=cell_of (i:=2) q2 rfl;have f0:=MB w2 w 0 _ _ q2;have f1:=MB w2 w 1 _ _ q2
 have f2:=MB w2 w 2 _ _ q2;have hA2:=chain hal hb2;go_wp2
 exact MA (v:=.agg #[(2:Int),(1:Int),()]) (by simp [results,results206,go_sem,d0,d1,d2]) rfl ⟨rfl,((hA2.setCell (p:=ah w 0) (Mx _) _).setCell (p:=ah w 1) (Mx _) _).setCell (p:=ah w 2) (Mx _) _⟩
theorem uf (cols:List Int) (g:Ag) (ca:Option Addr) (ccap:Nat) (a:Option Addr) (cap:Nat) (w:World) (hk:aU w w a g.2.ks) (hc:bf w w ca cols) (h:dh cols g=0) :
  Calls prog 173 #[.slice ca cols.length ccap,.agg #[g.1,g.2.k,g.2.v.1,g.2.v.2.1,g.2.v.2.2,g.2.c,.slice a g.2.ks.length cap]] w fun e w'=>∃ u,e = .returned (.tuple #[u,aD])∧gZ cols w u (gQ g) w'∧Below w w w':=by
 obtain ⟨hal,q0⟩:=iV w #[g.1,g.2.k,g.2.v.1,g.2.v.2.1,g.2.v.2.2,g.2.c,.slice a g.2.ks.length cap] 123;by_cases h1:g.1=1
 ·have hF:gQ g=fun _=>(2,1,⟨#[]⟩):=by unfold gQ; rw [if_pos h1]
  have HF:=aB hF;clear hF h;rw [h1] at hal;generalize gQ g=F at *;go_enter func173,ntmps173;go_wp2_with fail
  exact bJ rfl rfl ⟨_,rfl,by
   rw [HF.out];exact ⟨206,#[],rfl,enters_of func206 aG rfl,fun row a cap W _ _ _=>by simpa [dV] using Hv a row.length cap W⟩,hal⟩
 ·have hF:gQ g=fun row=>bQ row g.2:=by unfold gQ; rw [if_neg h1]
  have HF:=aB hF;have h2:¬ (g.1<2∨5<g.1):=fun h2=>by unfold dh at h; rw [if_neg h1,if_pos h2] at h; cases h
  have h3:=Classical.byContradiction fun h3=>by unfold dh at h; rw [if_neg h1,if_neg h2,if_pos h3] at h; exact h3 h
  have h4:g.1=3→(ax cols g.2).1=3∨(ax cols g.2).1=1:=fun e=>by
   unfold dh at h;rw [if_neg h1,if_neg h2,if_neg (by simpa using h3)] at h;by_cases h5:(ax cols g.2).1=3
   ·exact .inl h5
   ·by_cases h6:(ax cols g.2).1=1
    ·exact .inr h6
    ·rw [if_pos ⟨e,h5,h6⟩] at h; cases h
  have con:=jH cols g.2 ca ccap a cap _ ((aU.next hal (Mx _) hk).up hal.size) ((hc.next hal (Mx _)).up hal.size) h3;have hk4:g.1=2∨g.1=3∨g.1=4∨g.1=5:=by omega
  clear hF h h3 h2 h1;generalize gQ g=F at *;generalize (ax cols g.2).1=t at *;unfold fN at con;go_enter func173,ntmps173;generalize hk1:g.1=kd at *;clear hk1;have main:(kd=2∨kd=4∨kd=5)∨(kd=3∧(t=3∨t=1)):=by
   rcases hk4 with e | e | e | e
   ·exact .inl (.inl e)
   ·exact .inr ⟨e,h4 e⟩
   ·exact .inl (.inr (.inl e))
   ·exact .inl (.inr (.inr e))
  clear hk4 h4;rcases main with (rfl | rfl | rfl) | ⟨rfl,rfl | rfl⟩
  all_goals (
   go_wp2_with fail
   generalize w.alloc _=w1 at *;refine con.mono ?_;rintro e w2 ⟨u,rfl,hA2,hb2⟩;have hA:=chain hal hb2;have q2:=iX hb2 q0;have c0:=cell_of (i:=0) q2 rfl;clear con;have hA2:=hA2.down hal.size;obtain ⟨g',cb,rfl⟩:∃ g' cb,u = .func (.func g') #[] cb:=by obtain ⟨g',cb,e,_⟩:=hA2; exact ⟨g',cb,e⟩
   dsimp only;go_wp2_with fail
   exact bJ rfl rfl ⟨_,rfl,by rw [HF.out]; exact hA2,hA⟩)
theorem tB (cols:List Int) (g:Ag) (ca:Option Addr) (ccap:Nat) (a:Option Addr) (cap:Nat) (w:World) (hk:aU w w a g.2.ks) (hc:bf w w ca cols) (h:¬ dh cols g=0) :
  Calls prog 173 #[.slice ca cols.length ccap,.agg #[g.1,g.2.k,g.2.v.1,g.2.v.2.1,g.2.v.2.2,g.2.c,.slice a g.2.ks.length cap]] w fun e w'=>e = .returned (.tuple #[.nilFunc,.int .i64 (dh cols g)])∧Below w w w':=by
 obtain ⟨hal,q0⟩:=iV w #[g.1,g.2.k,g.2.v.1,g.2.v.2.1,g.2.v.2.2,g.2.c,.slice a g.2.ks.length cap] 123;have h1:¬ g.1=1:=fun h1=>h (by unfold dh; rw [if_pos h1])
 generalize hme:dh cols g=me at *;have HM:=aB hme;clear hme;by_cases h2:g.1<2∨5<g.1
 ·have e:me=1:=by rw [← HM.out]; unfold dh; rw [if_neg h1,if_pos h2]
  subst e;have n1:(g.1 == 1)=false:=by simpa using h1
  have n2:(g.1 == 2)=false:=by simp; omega
  have n3:(g.1 == 3)=false:=by simp; omega
  have n4:(g.1 == 4)=false:=by simp; omega
  have n5:(g.1 == 5)=false:=by simp; omega
  clear h h1 h2;go_enter func173,ntmps173;go_wp2_with fail
  exact bJ rfl rfl ⟨rfl,hal⟩
 ·have hk4:g.1=2∨g.1=3∨g.1=4∨g.1=5:=by omega
  by_cases h3:(ax cols g.2).2=0
  ·have e3:g.1=3∧(ax cols g.2).1≠3∧(ax cols g.2).1≠1:=Classical.byContradiction fun hn=>by
    have:=HM.out;unfold dh at this;rw [if_neg h1,if_neg h2,if_neg (by simpa using h3),if_neg hn] at this;exact h this.symm
   have e9:me=9:=by rw [← HM.out]; unfold dh; rw [if_neg h1,if_neg h2,if_neg (by simpa using h3),if_pos e3]
   subst e9;have con:=jH cols g.2 ca ccap a cap _ ((aU.next hal (Mx _) hk).up hal.size) ((hc.next hal (Mx _)).up hal.size) h3;obtain ⟨e31,e32,e33⟩:=e3;generalize (ax cols g.2).1=t at *;unfold fN at con;go_enter func173,ntmps173;clear h h1 h2 h3 hk4;generalize hk1:g.1=kd at *;clear hk1;subst e31;have t3:(t != 3)=true:=by simpa using e32
   have t1:(t != 1)=true:=by simpa using e33
   clear e32 e33;go_wp2_with fail
   generalize w.alloc _=w1 at *;refine con.mono ?_;rintro e w2 ⟨u,rfl,hA2,hb2⟩;have hA:=chain hal hb2;have q2:=iX hb2 q0;have c0:=cell_of (i:=0) q2 rfl;clear con;obtain ⟨g',cb,rfl⟩:∃ g' cb,u = .func (.func g') #[] cb:=by obtain ⟨g',cb,e,_⟩:=hA2; exact ⟨g',cb,e⟩
   dsimp only;go_wp2_with fail
   exact bJ rfl rfl ⟨rfl,hA⟩
  ·have con:=mr cols g.2 ca ccap a cap _ ((aU.next hal (Mx _) hk).up hal.size) ((hc.next hal (Mx _)).up hal.size) h3;have em:me=(ax cols g.2).2:=by rw [← HM.out]; unfold dh; rw [if_neg h1,if_neg h2,if_pos h3]
   have hne:(me != 0)=true:=by simpa using h
   rw [← em] at con;unfold fN at con;go_enter func173,ntmps173;clear h h1 h2 h3 em HM;generalize hk1:g.1=kd at *;clear hk1;rcases hk4 with rfl | rfl | rfl | rfl
   all_goals (
    go_wp2_with fail
    generalize w.alloc _=w1 at *;refine bC con fun w2 hb2=>?_;have hA:=chain hal hb2;clear con;dsimp only;go_wp2_with fail
    exact bJ rfl rfl ⟨rfl,hA⟩)
def iK (k:Int):Prop:=∀ w,Calls prog 174 #[k] w fun e w'=>∃ u,e = .returned u∧qY w u (eQ k) w'∧Below w w w'
theorem Dx (lo:Nat) (w:World):qY lo (.func (.func 212) #[] #[]) countP w :=
 ⟨212,#[],rfl,enters_of func212 aG rfl,fun l a cap W hk hs _=>by simpa using Iw a cap l W hs hk⟩
theorem DU (k:Int) (h3:¬ k=3) (h4:¬ k=4) (h5:¬ k=5):iK k:=by
 intro w;have eT:eQ k=countP:=by funext l; unfold eQ; rw [if_neg h3,if_neg h4,if_neg h5]
 rw [eT];have n3:(k == 3)=false:=by simpa using h3
 have n4:(k == 4)=false:=by simpa using h4
 have n5:(k == 5)=false:=by simpa using h5
 clear h3 h4 h5 eT;go_enter func174,ntmps174;go_wp2
 go_ret;exact ⟨_,rfl,Dx _ _,Mz _ _⟩
theorem xH {n:Nat} (h:n≤8) (w:World):(Instr.makeSlice 196 n n).run prog w = .ok (.slice (some (ah w 0)) n n) (w.alloc (.cells (Array.replicate n Value.nilFunc) 203)):=by
 obtain rfl | rfl | rfl | rfl | rfl | rfl | rfl | rfl | rfl:n=0∨n=1∨n=2∨n=3∨n=4∨n=5∨n=6∨n=7∨n=8:=by omega
 all_goals kernel_rfl
structure Ek (cols:List Int) (K kb M:Nat) (W:World) (Fs:List (List Zp→Vl)) (j:Nat):Prop where
 lt:K<M∧kb<M∧K≠kb∧M≤W.heap.size
 box:W.cell? (ah kb 0)=some (.slice (some (ah K 0)) Fs.length Fs.length)
 room:∀ i,i<Fs.length→(∃ u,W.cell? (ah K i)=some u)∧W.frozen? (ah K i)=false
 done:∀ i (h:i<Fs.length),i<j→∃ u,W.cell? (ah K i)=some u∧lO cols M u Fs[i] W
theorem Ek.next {cols:List Int} {K kb M:Nat} {W w1:World} {Fs:List (List Zp→Vl)} {j:Nat} (h:Ek cols K kb M W Fs j) (hb:Below W W w1):Ek cols K kb M w1 Fs j:=by
 obtain ⟨h1,h2,h3,h4⟩:=h;have z:=hb.size;refine ⟨⟨h1.1,h1.2.1,h1.2.2.1,by omega⟩,(hb.cell (p:=ah kb 0) (by show kb<_; omega)).trans h2,fun i hi=>?_,fun i hi hj=>?_⟩
 ·obtain ⟨⟨u,hu⟩,hf⟩:=h3 i hi;exact ⟨⟨u,(hb.cell (p:=ah K i) (by show K<_; omega)).trans hu⟩,(hb.frozen (p:=ah K i) (by show K<_; omega)).trans hf⟩
 ·obtain ⟨u,hu,ha⟩:=h4 i hi hj;exact ⟨u,(hb.cell (p:=ah K i) (by show K<_; omega)).trans hu,ha.next (aI.of hb)⟩
theorem Ek.store {cols:List Int} {K kb M:Nat} {W:World} {Fs:List (List Zp→Vl)} {j:Nat} (h:Ek cols K kb M W Fs j) (hj:j<Fs.length) {u:Value} (ha:lO cols M u Fs[j] W):Ek cols K kb M (W.setCell (ah K j) u) Fs (j+1):=by
 obtain ⟨h1,h2,h3,h4⟩:=h;have hS:=(aI.refl M W).set K j u ag;have same:(W.setCell (ah K j) u).cell? (ah K j)=some u:=NS _ _ _ (by obtain ⟨⟨u',hu⟩,_⟩:=h3 j hj; rw [hu]; rfl);refine ⟨⟨h1.1,h1.2.1,h1.2.2.1,by simpa using h1.2.2.2⟩,?_,fun i hi=>?_,fun i hi hij=>?_⟩
 ·rw [MN _ _ _ _ (by intro e; injection e with e; omega)]; exact h2
 ·obtain ⟨⟨u',hu⟩,hf⟩:=h3 i hi;refine ⟨?_,by rw [Na]; exact hf⟩;by_cases e:i=j
  ·subst e; exact ⟨_,same⟩
  ·exact ⟨u',by rw [MN _ _ _ _ (by intro e; injection e with _ e; omega)]; exact hu⟩
 ·by_cases e:i=j
  ·subst e; exact ⟨u,same,ha.next hS⟩
  ·obtain ⟨u',hu,ha'⟩:=h4 i hi ag;exact ⟨u',by rw [MN _ _ _ _ (by intro e; injection e with _ e; omega)]; exact hu,ha'.next hS⟩
theorem Ek.kids {cols:List Int} {K kb M lo:Nat} {W:World} {Fs:List (List Zp→Vl)} (h:Ek cols K kb M W Fs Fs.length) (h1:lo≤K) (h2:lo≤kb):uO cols lo W kb Fs:=by
 obtain ⟨l1,l2,_,l4⟩:=h;refine ⟨K,h2,by omega,h1,by omega,l2,fun i hi=>?_⟩;obtain ⟨u,hu,ha⟩:=l4 i hi hi;exact ⟨u,hu,ha.down ag⟩
theorem Ek.new {cols:List Int} {w:World} {n:Nat} (Fs:List (List Zp→Vl)) (hn:n=Fs.length) (T T':TypeId) :
  Ek cols w (w+1) (w.heap.size+2) ((w.alloc (.cells (Array.replicate n Value.nilFunc) T)).alloc (.cells #[.slice (some (ah w 0)) n n] T')) Fs 0:=by
 subst hn;refine ⟨⟨by omega,by omega,by omega,by simp⟩,?_,fun i hi=>⟨⟨Value.nilFunc,?_⟩,?_⟩,fun i _ h=>absurd h (M9 _)⟩
 ·rw [Nv _ _ _ _ (by simp)]; rfl
 ·rw [World.cell?_alloc_past _ _ _ (by simp),Nv _ _ _ _ rfl];simp [hi]
 ·rw [World.frozen?_alloc_past _ _ _ (by simp)];exact NV _ _ _ _ rfl
def Df (cols:List Int) (lo:Nat) (u:Value) (gs:List Ag) (w:World):Prop :=
 ∃ g cb,u = .func (.func g) #[] cb∧(∀ args w,(callFunc g args).run prog w = .ok (.enter g args) w) ∧
  ∀ (rows:List Zp) (a:Option Addr) (cap:Nat) (W:World),Fv cols rows→aK W a rows→aI lo w W →
   Calls prog g (#[.slice a rows.length cap] ++ cb) W fun e w'=>e = .returned (.slice (some (ah W 0)) gs.length gs.length)∧xr W w' (gs.map fun g=>fF g rows)∧Below W W w'
theorem Df.next {cols:List Int} {lo:Nat} {u:Value} {gs:List Ag} {w w1:World} (h:Df cols lo u gs w) (hb:aI lo w w1):Df cols lo u gs w1:=by
 obtain ⟨g,cb,e,eg,hd⟩:=h;exact ⟨g,cb,e,eg,fun row a cap W hf hs hW=>hd row a cap W hf hs (hb.trans hW)⟩
theorem Js {gs:List Ag} {j:Nat} (h:j<gs.length):(gs.map fun g=>fF g)[j]'(by simpa using h)=fF gs[j]:=by simp
theorem ux (cols:List Int) (gs:List Ag) (hT:∀ g ∈ gs,dh cols g=0→iK g.1) (ca:Option Addr) (ccap:Nat) (xa:Option Addr) (xcap:Nat) (w:World) (hk:iO w w xa gs) (hc:bf w w ca cols) (h8:gs.length≤8) :
  Calls prog 134 #[.slice ca cols.length ccap,.slice xa gs.length xcap] w fun e w'=>∃ u,e = .returned (.tuple #[u,.int .i64 (dF cols gs)])∧((dF cols gs=0∧Df cols w u gs w')∨(¬ dF cols gs=0∧u = .nilFunc))∧Below w w w':=by
 have HTot:=aB hT;obtain ⟨Fs,eFs⟩:∃ Fs:List (List Zp→Vl),Fs=gs.map fun g=>fF g:=⟨_,rfl⟩
 have HFs:=aB eFs;have lFs:Fs.length=gs.length:=by rw [eFs]; simp
 generalize hle:dF cols gs=le;have HE:=aB hle;clear hT eFs hle;have hmk:=xH h8;have F0:Ek cols w (w+1) (w.heap.size+2) ((w.alloc (.cells (Array.replicate gs.length Value.nilFunc) 203)).alloc (.cells #[.slice (some (ah w 0)) gs.length gs.length] 196)) Fs 0:=Ek.new Fs lFs.symm _ _;have hA:Below w w ((w.alloc (.cells (Array.replicate gs.length Value.nilFunc) 203)).alloc (.cells #[.slice (some (ah w 0)) gs.length gs.length] 196)):=(aN ..).alloc (by simp) _
 go_enter func134,ntmps134;go_wp2_with fail
 generalize w.alloc _=w2 at *;clear hmk;go_loopw [17] (fun i wr=>∃ j:Nat,j≤gs.length∧i = .int .i64 j∧Ek cols w (w+1) (w.heap.size+2) wr Fs j∧Hid (le=dF cols (gs.drop j))∧Below w w wr) (fun i _=>gs.length - (intOf i).toNat)
 case atStart=>exact ⟨0,MD _,rfl,F0,HE.out.symm,hA⟩
 case round =>
  clear F0 hA;obtain ⟨j,hj,rfl,F,HT,hb⟩:=hrel;have hz:=hb.size;have hzF:=F.lt.2.2.2;by_cases hlt:j<gs.length
  ·obtain ⟨b,off,ai,ci,rfl,hbl,x0,sx,kx⟩:=(iO.next hb (Mx _) hk).elem hlt;obtain ⟨x1,x2,x3,x4,x5,x6⟩:=sx;obtain ⟨hal,q0⟩:=iV wr #[.int .i64 gs[j].1,.int .i64 gs[j].2.k,.int .i64 gs[j].2.v.1,.int .i64 gs[j].2.v.2.1,.string gs[j].2.v.2.2,.int .i64 gs[j].2.c,.slice ai gs[j].2.ks.length ci] 123;have Fk:=F.next hal
   have zk:(wr.alloc (.cells #[.int .i64 gs[j].1,.int .i64 gs[j].2.k,.int .i64 gs[j].2.v.1,.int .i64 gs[j].2.v.2.1,.string gs[j].2.v.2.2,.int .i64 gs[j].2.c,.slice ai gs[j].2.ks.length ci] 123)).heap.size=wr.heap.size+1:=by simp
   have kk:=(aU.next hal hz kx).up (show w.heap.size≤(wr.alloc (.cells #[.int .i64 gs[j].1,.int .i64 gs[j].2.k,.int .i64 gs[j].2.v.1,.int .i64 gs[j].2.v.2.1,.string gs[j].2.v.2.2,.int .i64 gs[j].2.c,.slice ai gs[j].2.ks.length ci] 123)).heap.size by omega);have cc:=((hc.next hb (Mx _)).next hal hz).up (show w.heap.size≤(wr.alloc (.cells #[.int .i64 gs[j].1,.int .i64 gs[j].2.k,.int .i64 gs[j].2.v.1,.int .i64 gs[j].2.v.2.1,.string gs[j].2.v.2.2,.int .i64 gs[j].2.c,.slice ai gs[j].2.ks.length ci] 123)).heap.size by omega);have hjz:(j:Int)<gs.length:=by omega
   by_cases h0:dh cols gs[j]=0
   ·have con:=uf cols gs[j] ca ccap ai ci _ kk cc h0;have HTo:=aB (HTot.out _ (MC hlt) h0);have Hr:=aB (mi h0);have HN:=aB (HT.out.trans (tu cols gs j hlt h0));clear h0 HT;go_upto_region 5 with fail
    clear x0 x1 x2 x3 x4 x5 x6 kx kk cc;generalize wr.alloc _=wk at *;have p0:=cell_of (i:=0) q0 rfl;have p1:=cell_of (i:=1) q0 rfl;have p2:=cell_of (i:=2) q0 rfl
    have p3:=cell_of (i:=3) q0 rfl;have p4:=cell_of (i:=4) q0 rfl;have p5:=cell_of (i:=5) q0 rfl;have p6:=cell_of (i:=6) q0 rfl;go_wp2_with fail
    refine con.mono ?_;rintro e w3 ⟨u,rfl,hA3,hb3⟩;clear con p0 p1 p2 p3 p4 p5 p6;obtain ⟨ug,ucb,rfl⟩:∃ g cb,u = .func (.func g) #[] cb:=by obtain ⟨g,cb,e,_⟩:=hA3; exact ⟨g,cb,e⟩
    obtain ⟨hal4,q4⟩:=iV w3 #[.func (.func ug) #[] ucb] 191;have q0':=((chain hb3 hal4).block _ (an q0)).trans q0;have z3:=hb3.size;have hV:gZ cols (w+2) (.func (.func ug) #[] ucb) (gQ gs[j]) (w3.alloc (.cells #[.func (.func ug) #[] ucb] 191)):=(hA3.down ag).next (aI.of hal4);have F4:=(Fk.next hb3).next hal4;have hA4:=chain (chain (chain hb hal) hb3) hal4;dsimp only;go_upto_region 8 with fail
    clear hA3;generalize w3.alloc _=w4 at *;have c8:=cell_of (i:=0) q0' rfl;have con:=HTo.out w4;go_wp2_with fail
    refine con.mono ?_;rintro e w5 ⟨u5,rfl,hT5,hb5⟩;clear con c8;obtain ⟨tg,tcb,rfl⟩:∃ g cb,u5 = .func (.func g) #[] cb:=by obtain ⟨g,cb,e,_⟩:=hT5; exact ⟨g,cb,e⟩
    have hal6:=aN w5 (.cells #[.func (.func tg) #[] tcb] 199);have q6:=bq w5 #[.func (.func tg) #[] tcb] 199;have q4':=((chain hb5 hal6).block _ (an q4)).trans q4;have z5:=hb5.size;have z4:=hal4.size;have hT6:qY (w+2) (.func (.func tg) #[] tcb) (eQ gs[j].1) (w5.alloc (.cells #[.func (.func tg) #[] tcb] 199)):=(hT5.down ag).next (aI.of hal6);have hV6:=(hV.next (aI.of hb5)).next (aI.of hal6);have F6:=(F4.next hb5).next hal6;have hA6:=chain (chain hA4 hb5) hal6
    have t6:=an q6;have v6:=an q4';dsimp only;go_upto_region 9 with fail
    clear hT5 hV;generalize w5.alloc (.cells #[.func (.func tg) #[] tcb] 199)=w6 at *;have RF:lO cols (w+2) (.func (.func 175) #[] #[ah w5 0,ah w3 0]) (fF gs[j]) w6:=by
     refine ⟨175,_,rfl,enters_of func175 (by kernel_rfl) rfl,fun rows a cap W hr hs hW=>?_⟩;exact IG cols (w.heap.size+2) _ _ (eQ gs[j].1) (gQ gs[j]) Hr.out w5.heap.size w3.heap.size a cap rows W ((hW.cell (p:=⟨w5.heap.size,0,none⟩) (by show _≤w5.heap.size; omega) t6).trans (cell_of (i:=0) q6 rfl)) ((hW.cell (p:=⟨w3.heap.size,0,none⟩) (by show _≤w3.heap.size; omega) v6).trans (cell_of (i:=0) q4' rfl)) (hT6.next hW) (hV6.next hW) hr hs
    have HRF:Hid (lO cols (w+2) (.func (.func 175) #[] #[ah w5 0,ah w3 0]) (Fs[j]'ag) w6):=by
     show lO _ _ _ _ _;have e:Fs[j]'ag=fF gs[j]:=by simp only [HFs.out]; exact Js hlt
     rw [e]; exact RF
    have b6:=F6.box;obtain ⟨⟨un,r2⟩,r3⟩:=F6.room j ag;rw [lFs] at b6;clear RF hT6 hV6;go_wp2
    go_roundw
    case rel=>exact ⟨j+1,by omega,by go_num,F6.store ag HRF.out,HN,hA6.setCell (p:=ah w j) (Mx _) _⟩
    case measure=>simp [intOf]; omega
   ·have con:=tB cols gs[j] ca ccap ai ci _ kk cc h0;have HN:=aB (HT.out.trans (vI cols gs j hlt h0));have hne:(dh cols gs[j] != 0)=true:=by simpa using h0
    have HN0:Hid (¬ le=0):=by show ¬ _; rw [HN.out]; exact h0
    rw [← HN.out] at con hne;clear h0 HT;go_upto_region 5 with fail
    clear x0 x1 x2 x3 x4 x5 x6 kx kk cc;generalize wr.alloc _=wk at *;have p0:=cell_of (i:=0) q0 rfl;have p1:=cell_of (i:=1) q0 rfl;have p2:=cell_of (i:=2) q0 rfl
    have p3:=cell_of (i:=3) q0 rfl;have p4:=cell_of (i:=4) q0 rfl;have p5:=cell_of (i:=5) q0 rfl;have p6:=cell_of (i:=6) q0 rfl;go_wp2_with fail
    refine bC con fun w3 hb3=>?_;clear con p0 p1 p2 p3 p4 p5 p6;have hal4:=aN w3 (.cells #[.nilFunc] 191);dsimp only;go_wp2
    exact bJ rfl rfl ⟨_,rfl,.inr ⟨HN0.out,rfl⟩,chain (chain (chain hb hal) hb3) hal4⟩
  ·have e:j=gs.length:=by omega
   subst e;have e0:le=0:=by rw [HT.out,NY]; rfl
   subst e0;have KF:Hid (uO cols w wr (w+1) Fs):=by rw [← lFs] at F; exact F.kids (Mx _) ag
   have AF:Hid (Df cols w (.func (.func 177) #[] #[ah (w+1) 0]) gs wr):=⟨177,_,rfl,enters_of func177 aG rfl,fun rows a cap W hr hs hW=>by
    have:=IS cols w (w+1) Fs a rows cap W (KF.out.next hW) ag hr hs;have em:(Fs.map fun F:List Zp→Vl=>F rows)=gs.map fun g=>fF g rows:=by rw [HFs.out,List.map_map]; rfl
    rw [lFs,em] at this;exact this⟩
   go_wp2_with fail
   first
    | exact bJ rfl rfl ⟨_,rfl,.inl ⟨rfl,AF.out⟩,hb⟩
    | exact bJ rfl rfl ⟨_,rfl,AF.out,hb⟩
end Go.Proofs.YtoefpglknaiaeaaGreat
namespace Go.Proofs.YtoefpglknaiaeaaGreat
open Go.RowKit
inductive Pl where
 | mk (k n:Int) (x:Ex) (xs:List Ex) (gs:List Ag) (ks:List Pl)
def Pl.k:Pl→Int | .mk k _ _ _ _ _=>k
def Pl.n:Pl→Int | .mk _ n _ _ _ _=>n
def Pl.x:Pl→Ex | .mk _ _ x _ _ _=>x
def Pl.xs:Pl→List Ex | .mk _ _ _ xs _ _=>xs
def Pl.gs:Pl→List Ag | .mk _ _ _ _ gs _=>gs
def Pl.ks:Pl→List Pl | .mk _ _ _ _ _ ks=>ks
mutual
theorem Pl.ind {P:Pl→Prop} (h:∀ k n x xs gs ks,(∀ p ∈ ks,P p)→P (.mk k n x xs gs ks)):∀ p,P p
 | .mk k n x xs gs ks=>h k n x xs gs ks (Pl.G4 h ks)
theorem Pl.G4 {P:Pl→Prop} (h:∀ k n x xs gs ks,(∀ p ∈ ks,P p)→P (.mk k n x xs gs ks)):∀ ks:List Pl,∀ p ∈ ks,P p
 | [],_,hx=>by simp at hx
 | y :: r,x,hx=>by
  rcases List.mem_cons.mp hx with e | hx
  ·exact e ▸ Pl.ind h y
  ·exact Pl.G4 h r x hx
end
structure Pw where
 xa:Option Addr
 xc:Nat
 sa:Option Addr
 sc:Nat
 ga:Option Addr
 gc:Nat
 ka:Option Addr
 kc:Nat
abbrev fE (p:Pl) (q:Pw):Array Value:=#[p.k,p.n,p.x.k,p.x.v.1,p.x.v.2.1,p.x.v.2.2,p.x.c,.slice q.xa p.x.ks.length q.xc,.slice q.sa p.xs.length q.sc,.slice q.ga p.gs.length q.gc,.slice q.ka p.ks.length q.kc]
abbrev xB (p:Pl) (q:Pw) (ca:Option Addr) (n cc:Nat) (na:Option Addr) (m nc:Nat):Array Value:=#[p.k,p.n,p.x.k,p.x.v.1,p.x.v.2.1,p.x.v.2.2,p.x.c,.slice q.xa p.x.ks.length q.xc,.slice q.sa p.xs.length q.sc,.slice q.ga p.gs.length q.gc,.slice q.ka p.ks.length q.kc,.slice ca n cc,.slice na m nc]
structure ft (W:World) (b off:Nat) (p:Pl) (q:Pw):Prop where
 c0:W.cell? (ah b off)=some (.int .i64 p.k)
 c1:W.cell? ⟨b,off+1,none⟩=some (.int .i64 p.n)
 tX:ki W b (off+2) p.x.k p.x.v p.x.c q.xa p.x.ks.length q.xc
 c8:W.cell? ⟨b,off+8,none⟩=some (.slice q.sa p.xs.length q.sc)
 c9:W.cell? ⟨b,off+9,none⟩=some (.slice q.ga p.gs.length q.gc)
 Bm:W.cell? ⟨b,off+10,none⟩=some (.slice q.ka p.ks.length q.kc)
theorem ft.next {B:Nat} {W w1:World} {b off:Nat} {p:Pl} {q:Pw} (h:ft W b off p q) (hb:Below B W w1) (hB:b<B):ft w1 b off p q :=
 ⟨(hb.cell (p:=⟨b,_,none⟩) hB).trans h.c0,(hb.cell (p:=⟨b,_,none⟩) hB).trans h.c1,h.tX.next hb hB,(hb.cell (p:=⟨b,_,none⟩) hB).trans h.c8,(hb.cell (p:=⟨b,_,none⟩) hB).trans h.c9,(hb.cell (p:=⟨b,_,none⟩) hB).trans h.Bm⟩
theorem ft.mx {t:Nat} {W w1:World} {b off:Nat} {p:Pl} {q:Pw} (h:ft W b off p q) (hb:aw t W w1) (hB:b<W.heap.size) (hn:b≠t):ft w1 b off p q :=
 ⟨(hb.cell (p:=⟨b,_,none⟩) hB hn).trans h.c0,(hb.cell (p:=⟨b,_,none⟩) hB hn).trans h.c1,h.tX.mx hb hB hn,(hb.cell (p:=⟨b,_,none⟩) hB hn).trans h.c8,(hb.cell (p:=⟨b,_,none⟩) hB hn).trans h.c9,(hb.cell (p:=⟨b,_,none⟩) hB hn).trans h.Bm⟩
inductive nn (B:Nat) (W:World):Option Addr→List Pl→Prop
 | nil (a:Option Addr):nn B W a []
 | some (b off:Nat) (l:List Pl) (q:Nat→Pw) (hb:b<B)
   (hc:∀ (i:Nat) (h:i<l.length),ft W b (off+i*11) l[i] (q i))
   (hx:∀ (i:Nat) (h:i<l.length),aU B W (q i).xa l[i].x.ks)
   (hs:∀ (i:Nat) (h:i<l.length),aU B W (q i).sa l[i].xs)
   (hg:∀ (i:Nat) (h:i<l.length),iO B W (q i).ga l[i].gs)
   (hk:∀ (i:Nat) (h:i<l.length),nn B W (q i).ka l[i].ks):nn B W (some (ah b off)) l
theorem nn.next {B B':Nat} {W w1:World} (hb:Below B' W w1) (hB:B≤B') {a:Option Addr} {l:List Pl} (h:nn B W a l):nn B w1 a l:=by
 induction h with
 | nil a=>exact .nil a
 | some b off l q hlt hc hx hs hg _ ih=>exact .some b off l q hlt (fun i hi=>(hc i hi).next hb (My hlt hB)) (fun i hi=>aU.next hb hB (hx i hi)) (fun i hi=>aU.next hb hB (hs i hi)) (fun i hi=>iO.next hb hB (hg i hi)) ih
theorem nn.up {B B':Nat} {W:World} (hB:B≤B') {a:Option Addr} {l:List Pl} (h:nn B W a l):nn B' W a l:=by
 induction h with
 | nil a=>exact .nil a
 | some b off l q hlt hc hx hs hg _ ih=>exact .some b off l q (My hlt hB) hc (fun i hi=>(hx i hi).up hB) (fun i hi=>(hs i hi).up hB) (fun i hi=>(hg i hi).up hB) ih
structure kH (B:Nat) (W:World) (p:Pl) (q:Pw):Prop where
 x:aU B W q.xa p.x.ks
 xs:aU B W q.sa p.xs
 gs:iO B W q.ga p.gs
 ks:nn B W q.ka p.ks
theorem kH.next {B B':Nat} {W w1:World} {p:Pl} {q:Pw} (h:kH B W p q) (hb:Below B' W w1) (hB:B≤B'):kH B w1 p q:=⟨aU.next hb hB h.x,aU.next hb hB h.xs,iO.next hb hB h.gs,nn.next hb hB h.ks⟩
theorem kH.up {B B':Nat} {W:World} {p:Pl} {q:Pw} (h:kH B W p q) (hB:B≤B'):kH B' W p q:=⟨h.x.up hB,h.xs.up hB,h.gs.up hB,h.ks.up hB⟩
theorem nn.elem {B:Nat} {W:World} {a:Option Addr} {l:List Pl} (h:nn B W a l) {k:Nat} (hk:k<l.length) :
  ∃ b off q,a=Option.some ⟨b,off,none⟩∧b<B∧ft W b (off+k*11) l[k] q∧kH B W l[k] q:=by
 cases h with
 | nil=>simp at hk
 | some b off l q hlt hc hx hs hg hh=>exact ⟨b,off,q k,rfl,hlt,hc k hk,⟨hx k hk,hs k hk,hg k hk,hh k hk⟩⟩
end Go.Proofs.YtoefpglknaiaeaaGreat
