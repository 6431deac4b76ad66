import Derived.Test.YtoefpglknaiaeaaGreatMW14
import Derived.Test.YtoefpglknaiaeaaGreatMW18
set_option maxHeartbeats 16000000
set_option maxRecDepth 100000
namespace Go.Proofs.YtoefpglknaiaeaaGreat
open Go.RowKit Go.Lib Go.Shelf _root_.Go.Proofs.Tryz
theorem A9 (g:Nat) (fs cb:Array Value) (p:Zp→Bool) (a:Option Addr) (cap:Nat) (l:List Zp) (w0 w:World) (Inv:World→Prop) (h:aK w0 a l) (hl:l.length≤100000)
  (eg:∀ args w,(callFunc g args).run prog w = .ok (.enter g args) w) (hI0:Inv w) (hI1:∀ W,Inv W→Below w0 w0 W) (hI2:∀ W W',Inv W→Below w W W'→Inv W')
  (hcall:∀ x ∈ l,∀ (ra:Option Addr) (rc:Nat) (W:World),Inv W→aZ w0 ra x.1→w.heap.size≤W.heap.size→Calls prog g (fs ++ #[.agg #[.slice ra x.1.length rc,x.2]] ++ cb) W fun e w'=>e = .returned (.bool (p x))∧Inv w'∧aI w W w') :
  Calls prog 129 #[.slice a l.length cap,.func (.func g) fs cb] w fun e w'=>∃ v,e = .returned v∧qW w0 w w' v (l.filter p)∧Inv w'∧w.heap.size≤w'.heap.size:=by
 obtain ⟨i0,hi,hj0,hj1,hj2⟩:=info_parts Tryz.fK;have HC:=aB hcall;have H1:=aB hI1;have H2:=aB hI2;clear hcall hI1 hI2;go_enter func129,ntmps129;go_wp2_with fail
 go_loopw [5,10] (fun v i wr=>∃ k:Nat,k≤l.length∧i = .int .i64 k∧qW w0 w wr v ((l.take k).filter p)∧Hid (Inv wr)∧w.heap.size≤wr.heap.size) (fun _ i _=>l.length - (intOf i).toNat)
 case atStart=>exact ⟨0,MD _,rfl,⟨[],by simpa using M4 _ _ _ _,by simp [iy]⟩,hI0,Mx _⟩
 case round =>
  clear hI0;obtain ⟨k,hk,rfl,HO,HI,hz⟩:=hrel;by_cases hlt:k<l.length
  ·obtain ⟨b,off,rfl,hbl,d1,ar,cr,d0,sr⟩:=h.elem hlt;have hB:=H1.out _ HI.out;have c1:=(hB.cell (p:=⟨b,_,none⟩) hbl).trans d1;have c0:=(hB.cell (p:=⟨b,_,none⟩) hbl).trans d0;have hbl':=My hbl hB.size;have hlen:((l.take k).filter p).length≤k:=by have:=Nn p (l.take k); simp only [MR] at this; omega
   have hal:=aN wr (.cells #[.slice ar l[k].1.length cr,.int .i64 l[k].2] 47);have IA:=H2.out _ _ HI.out (hal.mono hz);have con:=HC.out l[k] (MC hlt) ar cr _ IA sr (MO hz hal.size);have q0:(wr.alloc (.cells #[.slice ar l[k].1.length cr,.int .i64 l[k].2] 47)).cell? (ah wr 0)=some (.slice ar l[k].1.length cr):=by simp
   have q1:(wr.alloc (.cells #[.slice ar l[k].1.length cr,.int .i64 l[k].2] 47)).cell? (ah wr 1)=some (.int .i64 l[k].2):=by simp
   have za:(wr.alloc (.cells #[.slice ar l[k].1.length cr,.int .i64 l[k].2] 47)).heap.size=wr.heap.size+1:=by simp
   have HS:=aB sr;obtain ⟨xs,ho,he⟩:=HO;have HE:=aB he;have ho1:=aL ho hal;clear d0 d1 sr he ho IA;by_cases hp:p l[k]=true
   ·rw [hp] at con;have HP:=aB hp;clear hp
    go_wp2_with (first | (go_at_fn g; refine con.mono ?_; rintro e w1 ⟨rfl,I1,s1⟩; have r0:=(s1.cell (p:=ah wr 0) hz (by show wr.heap.size<_; omega)).trans q0; have r1:=(s1.cell (p:=ah wr 1) hz (by show wr.heap.size<_; omega)).trans q1; have z1:=s1.1; have o1:=kF ho1 (Mx _) s1) | (at_builtin; refine MX _ rfl _ _ 38 rfl w 47 i0 _ 2 32 underlying38 hi hj0 hj1 hj2 rfl (by decide) _ _ _ rfl (o1.alloc _) (ah w1 0) 1 1 [.slice ar l[k].1.length cr,.int .i64 l[k].2] rfl rfl ?Ac1 ?Ac2 ?Ac3 ?Ac4 ?Ac5 ?_))
    case Ac1 =>
     intro j u hj
     match j,hj with
     | 0,hj=>simp at hj; subst hj; simp [Addr.add]
     | 1,hj=>simp at hj; subst hj; simp [Addr.add]
    case Ac2=>intro u hu; simp at hu; rcases hu with rfl | rfl <;> rfl
    case Ac3=>unfold maxLen; omega
    case Ac4=>omega
    case Ac5=>simp; omega
    intro v' w5 ho5 hg5 _;have hb5:=((Mz w w1).alloc ag _).grown hg5 (by simp; omega) (fun q hq=>((o1.alloc (.cells #[.slice ar l[k].1.length cr,.int .i64 l[k].2] 47)).lt q hq).1);have HI1:=aB (H2.out _ _ I1 hb5);have z5:=hb5.size;clear hg5 o1 I1 con q0 q1 ho1;go_wp2
    go_roundw
    case rel=>exact ⟨k+1,by omega,by go_num,by rw [ke p hlt,if_pos HP.out]; exact ⟨_,by simpa using ho5,HE.out.push HS.out⟩,HI1,by omega⟩
    case measure=>simp [intOf]; omega
   ·have hp:p l[k]=false:=by simpa using hp
    rw [hp] at con;have HP:=aB hp;clear hp;go_wp2_with (go_at_fn g; refine con.mono ?_; rintro e w1 ⟨rfl,I1,s1⟩)
    have o1:=kF ho1 (Mx _) s1;have z1:=s1.1;have HI1:=aB I1;clear con q0 q1 ho1 I1;go_roundw
    case rel=>exact ⟨k+1,by omega,by go_num,by rw [ke p hlt,HP.out,if_neg (by decide),M8]; exact ⟨_,o1,HE.out⟩,HI1,by omega⟩
    case measure=>simp [intOf]; omega
  ·have e:k=l.length:=by omega
   subst e;rw [MM] at HO;obtain ⟨av,cv,rfl,_⟩:=HO.zs (H1.out _ HI.out);go_wp2
   go_ret;exact ⟨_,rfl,HO,HI.out,hz⟩
theorem AY (cols:List Int) (x:Ex) (w0 wp w:World) (a b:Option Addr) (ca cb:Nat) (l r:List Zp) (v:Value) (R rv:Nat) (hP:dW cols x w0 wp a b ca cb l r v R rv) (hI:fc wp R rv w) (za:aK w0 a l) (zb:aK w0 b r) (hq:rq cols l r) :
  Calls prog 140 #[v] w fun e w'=>∃ u,e = .returned u∧qW w0 (w+1) w' u (vK x l r)∧fc wp R rv w'∧w.heap.size≤w'.heap.size:=by
 have hP':=hP;obtain ⟨lo,wc,hv,u,rfl,hn,hv0,hc,hC,hcR,hcp,h0,h0p⟩:=hP;have hrv:=hI.sz hn;have hll:=hq.ll;have h1:=aN w (.cells #[.slice a l.length ca,.slice b r.length cb,.func (.func 246) #[] #[ah rv 0,ah hv 0]] 170);have e1:(w.alloc (.cells #[.slice a l.length ca,.slice b r.length cb,.func (.func 246) #[] #[ah rv 0,ah hv 0]] 170)).heap.size=w.heap.size+1:=by simp
 clear hC;go_enter func140,ntmps140;go_wp2_with fail
 generalize w.alloc _=w1 at *;have I1:=hI.eO hn hI.size h1;refine (A9 183 #[.agg #[.slice a l.length ca,.slice b r.length cb,.func (.func 246) #[] #[ah rv 0,ah hv 0]]] #[] (fun y=>fY x r y.1) a ca l w0 w1 (fun W=>fc wp R rv W) za ag (enters_of func183 aG rfl) I1 (fun W hW=>h0p.trans ((hW.below hn).mono h0)) (fun W W' hW hb=>hW.eO hn I1.size hb) ?_).mono ?_
 ·intro y hy ra rc W hW sy hz;refine (oO cols x w0 wp W a b ca cb l r _ R rv hP' hW zb hq.rl ra rc y sy (fun q hq'=>hq.row y hy q hq') (fun q hq'=>hq.fit y hy q hq')).mono ?_;rintro e w' ⟨rfl,I',S'⟩;exact ⟨rfl,I',S'.up ag⟩
 rintro e w2 ⟨v2,rfl,O2,I2,z2⟩;have HI2:=aB I2;have hs:l.filter (fun y=>fY x r y.1)=vK x l r:=rfl;rw [hs,e1] at O2;obtain ⟨a2,c2,rfl,_⟩:=O2.zs (h0p.trans ((I2.below hn).mono h0));clear I2 I1 hP';dsimp only;go_wp2
 go_ret;exact ⟨_,rfl,O2,HI2.out,by omega⟩
theorem ur (cols:List Int) (x:Ex) (w0 wp:World) (a b:Option Addr) (ca cb:Nat) (l r:List Zp) (R rv hv pb:Nat) (hP:dW cols x w0 wp a b ca cb l r (.agg #[.slice a l.length ca,.slice b r.length cb,.func (.func 246) #[] #[ah rv 0,ah hv 0]]) R rv) (W:World) (hI:fc wp R rv W) (zb:aK w0 b r) (hr:r.length≤400) (ra:Option Addr) (rc:Nat) (y:Zp) (sy:aZ w0 ra y.1) (h8:∀ q ∈ r,y.1.length+q.1.length≤8) (hf:∀ q ∈ r,dX cols (y.1 ++ q.1))
  (cp:W.heap[pb]? = some (.cells #[.slice a l.length ca,.slice b r.length cb,.func (.func 246) #[] #[ah rv 0,ah hv 0]] 170 (0,0))) :
  Calls prog 184 #[.agg #[.slice ra y.1.length rc,y.2],ah pb 0] W fun e w'=>e = .returned (.bool (!fY x r y.1))∧fc wp R rv w'∧aI (rv+1) W w':=by
 have hn:pO wp R rv:=by obtain ⟨_,_,_,_,_,hn,_⟩:=hP; exact hn
 have h1:=aN W (.cells #[.slice ra y.1.length rc,y.2] 47);have p1:=(h1.block pb (an cp)).trans cp;have k0:=cell_of (i:=0) p1 rfl;have k1:=cell_of (i:=1) p1 rfl
 have k2:=cell_of (i:=2) p1 rfl;have I1:=hI.eO hn hI.size h1;have con:=oO cols x w0 wp _ a b ca cb l r _ R rv hP I1 zb hr ra rc y sy h8 hf;generalize fY x r y.1=t at *;clear hP p1 cp I1 h8 hf;go_enter func184,ntmps184;go_wp2_with fail
 generalize W.alloc _=w1 at *;refine con.mono ?_;rintro e w2 ⟨rfl,I2,S2⟩;have HI2:=aB I2;have S3:=(aI.of h1).trans S2;clear con I2 k0 k1 k2 hI;dsimp only;go_wp2
 go_ret;exact ⟨rfl,HI2.out,S3⟩
theorem oW (cols:List Int) (x:Ex) (w0 wp w:World) (a b:Option Addr) (ca cb:Nat) (l r:List Zp) (v:Value) (R rv:Nat) (hP:dW cols x w0 wp a b ca cb l r v R rv) (hI:fc wp R rv w) (za:aK w0 a l) (zb:aK w0 b r) (hq:rq cols l r) :
  Calls prog 141 #[v] w fun e w'=>∃ u,e = .returned u∧qW w0 (w+1) w' u (jf x l r)∧fc wp R rv w'∧w.heap.size≤w'.heap.size:=by
 have hP':=hP;obtain ⟨lo,wc,hv,u,rfl,hn,hv0,hc,hC,hcR,hcp,h0,h0p⟩:=hP;have hrv:=hI.sz hn;have hll:=hq.ll;obtain ⟨h1,p1⟩:=iV w #[.slice a l.length ca,.slice b r.length cb,.func (.func 246) #[] #[ah rv 0,ah hv 0]] 170
 have e1:(w.alloc (.cells #[.slice a l.length ca,.slice b r.length cb,.func (.func 246) #[] #[ah rv 0,ah hv 0]] 170)).heap.size=w.heap.size+1:=by simp
 clear hC;go_enter func141,ntmps141;go_wp2_with fail
 generalize w.alloc _=w1 at *;have I1:=hI.eO hn hI.size h1
 refine (qf 184 #[ah w 0] (fun y=>!fY x r y.1) a ca l w0 w1 (fun W=>fc wp R rv W∧W.heap[w.heap.size]? = some (.cells #[.slice a l.length ca,.slice b r.length cb,.func (.func 246) #[] #[ah rv 0,ah hv 0]] 170 (0,0))) za ag (enters_of func184 aG rfl) ⟨I1,p1⟩ (fun W hW=>h0p.trans ((hW.1.below hn).mono h0)) (fun W W' hW hb=>⟨hW.1.eO hn I1.size hb,(hb.block _ ag).trans hW.2⟩) ?_).mono ?_
 ·intro y hy ra rc W hW sy hz;refine (ur cols x w0 wp a b ca cb l r R rv hv w hP' W hW.1 zb hq.rl ra rc y sy (fun q hq'=>hq.row y hy q hq') (fun q hq'=>hq.fit y hy q hq') hW.2).mono ?_;rintro e w' ⟨rfl,I',S'⟩;exact ⟨rfl,⟨I',(S'.2 _ ag ag).trans hW.2⟩,S'.up ag⟩
 rintro e w2 ⟨v2,rfl,O2,⟨I2,_⟩,z2⟩;have HI2:=aB I2;have hs:l.filter (fun y=>!fY x r y.1)=jf x l r:=rfl;rw [hs,e1] at O2;obtain ⟨a2,c2,rfl,_⟩:=O2.zs (h0p.trans ((I2.below hn).mono h0));clear I2 I1 hP' p1;dsimp only;go_wp2
 go_ret;exact ⟨_,rfl,O2,HI2.out,by omega⟩
theorem IX (left right:List Int) (x:Ex) (la:Option Addr) (lcap:Nat) (ra:Option Addr) (rcap:Nat) (xa:Option Addr) (xcap:Nat) (a:Option Addr) (ca:Nat) (l:List Zp) (b:Option Addr) (cb:Nat) (r:List Zp) (w:World)
  (hcl:bf w w la left) (hcr:bf w w ra right) (hx:aU w w xa x.ks) (h:aK w a l) (h':aK w b r) (hll:left.length≤100000000000000) (hrl:right.length≤100000000000000) :
  Calls prog 99 #[.slice la left.length lcap,.slice ra right.length rcap,fN x.k x.v x.c xa x.ks.length xcap,.slice a l.length ca,.slice b r.length cb] w fun e w'=>∃ v,e = .returned (.tuple #[v,.int .i64 (cw 1 left right x l r)])∧eA w w' v (cB 1 left right x l r)∧Below w w w':=by
 have h1:=aN w (.cells (hJ x xa xcap) 27);have zs1:=h.next h1;have zs1':=h'.next h1;have con:=kU 1 140 #[] left right x la lcap ra rcap xa xcap a ca l b cb r (w.alloc (.cells (hJ x xa xcap) 27)) ((hcl.next h1 (Mx _)).up h1.size) ((hcr.next h1 (Mx _)).up h1.size) ((aU.next h1 (Mx _) hx).up h1.size) zs1 zs1' hll hrl (enters_of func140 aG rfl) (fun W v R rv hP hI hT=>by
  refine (AY (left ++ right) x _ W W a b ca cb l r v R rv hP hI zs1 zs1' (fx hT)).mono ?_;rintro e w' ⟨u,rfl,OJ,I',z'⟩;obtain ⟨_,_,_,_,_,hn,_,_,_,_,_,hR,hB⟩:=hP;have hE:=hB.trans ((I'.below hn).mono hR);obtain ⟨ua,uc,rfl,zu,_⟩:=OJ.zs hE;exact ⟨ua,uc,rfl,zu,hE⟩)
 generalize hfz:cB 1 left right x l r=fz at *;generalize hfe:cw 1 left right x l r=fe at *;clear hfz hfe;go_enter func99,ntmps99;go_wp2_with fail
 generalize w.alloc _=w1 at *;refine con.mono ?_;rintro e w2 ⟨v2,rfl,O2,hb2⟩;have O2':=O2.mono h1.size;obtain ⟨a2,c2,rfl,_⟩:=O2.zs;clear con O2;dsimp only;go_wp2
 exact bJ rfl rfl ⟨_,rfl,O2',chain h1 hb2⟩
theorem IP (left right:List Int) (x:Ex) (la:Option Addr) (lcap:Nat) (ra:Option Addr) (rcap:Nat) (xa:Option Addr) (xcap:Nat) (a:Option Addr) (ca:Nat) (l:List Zp) (b:Option Addr) (cb:Nat) (r:List Zp) (w:World)
  (hcl:bf w w la left) (hcr:bf w w ra right) (hx:aU w w xa x.ks) (h:aK w a l) (h':aK w b r) (hll:left.length≤100000000000000) (hrl:right.length≤100000000000000) :
  Calls prog 100 #[.slice la left.length lcap,.slice ra right.length rcap,fN x.k x.v x.c xa x.ks.length xcap,.slice a l.length ca,.slice b r.length cb] w fun e w'=>∃ v,e = .returned (.tuple #[v,.int .i64 (cw 2 left right x l r)])∧eA w w' v (cB 2 left right x l r)∧Below w w w':=by
 have h1:=aN w (.cells (hJ x xa xcap) 27);have zs1:=h.next h1;have zs1':=h'.next h1;have con:=kU 2 141 #[] left right x la lcap ra rcap xa xcap a ca l b cb r (w.alloc (.cells (hJ x xa xcap) 27)) ((hcl.next h1 (Mx _)).up h1.size) ((hcr.next h1 (Mx _)).up h1.size) ((aU.next h1 (Mx _) hx).up h1.size) zs1 zs1' hll hrl (enters_of func141 aG rfl) (fun W v R rv hP hI hT=>by
  refine (oW (left ++ right) x _ W W a b ca cb l r v R rv hP hI zs1 zs1' (fx hT)).mono ?_;rintro e w' ⟨u,rfl,OJ,I',z'⟩;obtain ⟨_,_,_,_,_,hn,_,_,_,_,_,hR,hB⟩:=hP;have hE:=hB.trans ((I'.below hn).mono hR);obtain ⟨ua,uc,rfl,zu,_⟩:=OJ.zs hE;exact ⟨ua,uc,rfl,zu,hE⟩)
 generalize hfz:cB 2 left right x l r=fz at *;generalize hfe:cw 2 left right x l r=fe at *;clear hfz hfe;go_enter func100,ntmps100;go_wp2_with fail
 generalize w.alloc _=w1 at *;refine con.mono ?_;rintro e w2 ⟨v2,rfl,O2,hb2⟩;have O2':=O2.mono h1.size;obtain ⟨a2,c2,rfl,_⟩:=O2.zs;clear con O2;dsimp only;go_wp2
 exact bJ rfl rfl ⟨_,rfl,O2',chain h1 hb2⟩
theorem Hq (c:Nat) (hc:c≤8) (w:World):Calls prog 249 #[.int .u64 1,.int .u64 c] w fun e w'=>e = .returned (.tuple #[.int .u64 0,.int .u64 c])∧w'=w:=by
 have h:c=0∨c=1∨c=2∨c=3∨c=4∨c=5∨c=6∨c=7∨c=8:=by omega
 rcases h with rfl | rfl | rfl | rfl | rfl | rfl | rfl | rfl | rfl
 all_goals (
  have b0:bits BinOp.and IntKind.u64 0 4294967295=0:=by decide +kernel
  have b1:bits BinOp.and IntKind.u64 1 4294967295=1:=by decide +kernel
  have b2:bits BinOp.and IntKind.u64 2 4294967295=2:=by decide +kernel
  have b3:bits BinOp.and IntKind.u64 3 4294967295=3:=by decide +kernel
  have b4:bits BinOp.and IntKind.u64 4 4294967295=4:=by decide +kernel
  have b5:bits BinOp.and IntKind.u64 5 4294967295=5:=by decide +kernel
  have b6:bits BinOp.and IntKind.u64 6 4294967295=6:=by decide +kernel
  have b7:bits BinOp.and IntKind.u64 7 4294967295=7:=by decide +kernel
  have b8:bits BinOp.and IntKind.u64 8 4294967295=8:=by decide +kernel
  go_enter func249,ntmps249;go_wp2_with fail
  exact MA (by simp [results,results249,go_sem]) rfl ⟨rfl,rfl⟩)
theorem Km (c:Nat) (hc:c≤8) (w:World):Calls prog 217 #[.int .u64 1,.int .u64 c] w fun e w'=>e = .returned (.tuple #[.int .u64 0,.int .u64 c])∧w'=w:=by
 go_enter func217,ntmps217;go_wp2_with fail
 refine (Hq c hc w).mono ?_;rintro e w1 ⟨rfl,rfl⟩;dsimp only;go_wp2
 exact bJ rfl rfl ⟨rfl,rfl⟩
theorem sF {P:Program} (w:World) (dT sT ty elem:TypeId) (g o dLen dCap:Nat) (a:Addr) (sLen sCap k m:Nat) (cur:List Value) (t:TypeId) (cs:List Value)
  (hu:P.underlying dT=some (.slice elem)) (hs:(P.info? elem).map (·.size)=some k)
  (hg:w.heap[g]? = some (.cells cur.toArray t (0,0))) (hm:Nat.min sLen dLen=m) (hn:cs.length=m*k)
  (hsrc:∀ j v,cs[j]? = some v→w.cell? (a.add j)=some v) (hfit:o+cs.length≤cur.length) (h1:∀ v ∈ cs,v.oneCell'=true) :
  (Builtin.copy_ #[dT,sT] ty #[.slice (some (ah g o)) dLen dCap,.slice (some a) sLen sCap]).run P w =
   .ok (goInt m) (w.setRow g (splice cur o cs).toArray):=by
 have hl:=run_loadCells_list (P:=P) w a cs hsrc;have hst:=run_storeCells_at P g o t cs 0 cur.toArray w hg (by simpa using hfit) h1;rw [hn] at hl;cases hq:P.info? elem with
 | none=>simp [hq] at hs
 | some i =>
  have hi:i.size=k:=by simpa [hq] using hs
  simp [Builtin.copy_,run_underlying hu,Builtin.lenOf,Builtin.firstCells,sizeOf,typeInfo,hq,hi,hm,hl,hst,splice]
def il (v:Vl) (n c:Nat):List Value:=bG (List.replicate n v ++ List.replicate (c - n) gX)
theorem yg (v:Vl) (n c:Nat) (h:n≤c):(il v n c).length=c*3:=by
 unfold il; rw [dK]; simp; omega
theorem qz (v:Vl) (n m c:Nat) (h:n+m≤c):splice (il v n c) (n*3) (bG (List.replicate m v))=il v (n+m) c:=by
 have e1:il v n c=bG (List.replicate n v) ++ (bG (List.replicate m gX) ++ bG (List.replicate (c - n - m) gX)):=by
  unfold il;rw [← bW,← bW,List.replicate_append_replicate,show m+(c - n - m)=c - n by omega]
 have l1:(bG (List.replicate n v)).length=n*3:=by rw [dK]; simp
 have l2:(bG (List.replicate m v)).length=m*3:=by rw [dK]; simp
 have l3:(bG (List.replicate m gX)).length=m*3:=by rw [dK]; simp
 have t1:(il v n c).take (n*3)=bG (List.replicate n v):=by rw [e1]; exact List.take_left' l1
 have t2:(il v n c).drop (n*3+m*3)=bG (List.replicate (c - n - m) gX):=by rw [e1,← Nh]; exact List.drop_left' (by rw [ME,l1,l3])
 unfold splice;rw [l2,t1,t2];unfold il;rw [← Nh,← bW,← bW,List.replicate_append_replicate,show c - n - m=c - (n+m) by omega]
theorem J4:(Tryz.prog.info? 24).map (·.size)=some 3:=by kernel_rfl
theorem tG {W:World} {g n c:Nat} {v:Vl} (h:W.heap[g]? = some (.cells (il v n c).toArray 24 (0,0))) {m:Nat} (hm:m≤n):∀ j u,(bG (List.replicate m v))[j]? = some u→W.cell? (((ah g 0):Addr).add j)=some u:=fun j u hj=>by
 rw [iq,MG]
 have e:il v n c=bG (List.replicate m v) ++ bG (List.replicate (n - m) v ++ List.replicate (c - n) gX):=by
  unfold il;rw [← bW,← Nh,List.replicate_append_replicate,show m+(n - m)=n by omega]
 have hl:j<(bG (List.replicate m v)).length:=by
  rcases Nl j (bG (List.replicate m v)).length with h | h
  ·exact h
  ·rw [Nr h] at hj; cases hj
 simp only [World.cell?,h];simp only [Option.isSome_none,NN,if_false,List.getElem?_toArray];rw [e,MT hl];exact hj
theorem Ii (v:Vl) (c:Nat) (hc:c≤8):il v 0 c=(madeCells #[aD,aD,()] (c*3)).toList:=by
 have h:c=0∨c=1∨c=2∨c=3∨c=4∨c=5∨c=6∨c=7∨c=8:=by omega
 rcases h with rfl | rfl | rfl | rfl | rfl | rfl | rfl | rfl | rfl <;> simp [il,bG,madeCells,gX,List.replicate,List.range_succ]
theorem Ar {P:Program} {w:World} {o:Oper} {a:Act} {K:Act→World→Prop} {Q:Exit→Act→World→Prop} (d:Option Tmp) (hd:o.dst=d) (s x:Operand) (t:TypeId)
  (ho:o.op = .call { callee:=.builtin .copy,args:=#[s,x],argTypes:=#[t,t] })
  (elem:TypeId) (g off dLen dCap:Nat) (ad:Addr) (sLen sCap k m:Nat) (cur:List Value) (T:TypeId) (cs:List Value)
  (hu:P.underlying t=some (.slice elem)) (hsz:(P.info? elem).map (·.size)=some k)
  (hg:w.heap[g]? = some (.cells cur.toArray T (0,0))) (hm:Nat.min sLen dLen=m) (hn:cs.length=m*k)
  (hsrc:∀ j v,cs[j]? = some v→w.cell? (ad.add j)=some v) (hfit:off+cs.length≤cur.length) (h1:∀ v ∈ cs,v.oneCell'=true)
  (hs:a.eval s = .slice (some (ah g off)) dLen dCap) (hx:a.eval x = .slice (some ad) sLen sCap)
  (h:K (a.put d (goInt m)) (w.setRow g (splice cur off cs).toArray)):o.wp P a w K Q:=by
 subst hd;have hr:=sF (P:=P) w t t o.type elem g off dLen dCap ad sLen sCap k m cur T cs hu hsz hg hm hn hsrc hfit h1;unfold Oper.wp execOp;simp only [ho,resolve,invoke,builtin,Sem.run_bind,Sem.run_pure,Result.andThen_ok,List.map_toArray,Oe,List.map_nil,hs,hx,hr];exact h
theorem JJ {W:World} {g c:Nat} {v:Vl} (h:W.heap[g]? = some (.cells (il v c c).toArray 24 (0,0))) (hc:c≤8):aZ W (some (ah g 0)) (List.replicate c v)∧fi W (some (ah g 0)):=by
 have hlt:=an h;refine ⟨⟨by simp; unfold maxLen; omega,.inr ⟨g,0,rfl,fun i hi=>?_,hlt⟩⟩,fun b off e=>?_⟩
 ·have hi':i<c:=by simpa using hi
  have hc:=tG h (Mx c);obtain ⟨f0,f1,f2⟩:=mY (List.replicate c v) i hi;have g0:=hc _ _ f0;have g1:=hc _ _ f1;have g2:=hc _ _ f2;rw [iq] at g0 g1 g2;exact ⟨g0,g1,g2⟩
 ·have e:=Nk e;injection e with e1
  subst e1;exact ⟨_,_,h⟩
theorem Eo (B:Nat) (v:Vl) (c:Nat) (hc:c≤8) (w:World) (q0:w.cell? (ah B 0)=some (.int .i64 v.1)) (q1:w.cell? (ah B 1)=some (.int .i64 v.2.1)) (q2:w.cell? (ah B 2)=some (.string v.2.2)) :
  Calls prog 185 #[.slice (some (ah B 0)) 1 1,c] w fun e w'=>e = .returned (.slice (some (ah w 0)) c c)∧aZ w' (some (ah w 0)) (List.replicate c v)∧fi w' (some (ah w 0))∧Below w w w':=by
 obtain ⟨i0,hi,hj0,hj1,hj2⟩:=info_parts sZ;have hB:=ML _ _ q0;go_enter func185,ntmps185;go_wp2_with fail
 refine (Km c hc w).mono ?_;rintro e w1 ⟨rfl,rfl⟩;dsimp only;go_wp2_with (first | (at_make; refine wpList_make_full _ rfl _ _ 45 rfl w1 24 i0 _ 3 underlying45 hi hj0 hj1 .i64 .i64 c c c rfl rfl rfl rfl (by rw [hj2]; omega) (by unfold maxLen; omega) (Mx _) ?_))
 intro w2 hown hgrow;have hb2:Below w1 w1 w2:=(Mz _ _).grown hgrow (Mx _) (by simp);have hrow:w2.heap[w1.heap.size]? = some (.cells (il v 0 c).toArray 24 (0,0)):=by
  obtain ⟨hx,⟨e,_⟩ | ⟨g,cap,cur,e,_,hh,_,hcs,hs,ht⟩⟩:=hown
  ·cases e
  ·injection e with e1 _ e3
   have e1:=Nk e1;injection e1 with e1
   subst e1 e3;have hcl:cur.toList=(madeCells #[aD,aD,()] (c*3)).toList:=by
    rw [← ht]; exact (List.take_of_length_le (by simp [hs])).symm
   have hrp:=Ii v c hc;rw [hrp,← hcl];exact hh
 clear hown hgrow;have p0:=(hb2.cell (p:=ah B 0) hB).trans q0;have p1:=(hb2.cell (p:=ah B 1) hB).trans q1;have p2:=(hb2.cell (p:=ah B 2) hB).trans q2;obtain ⟨m0,hm0⟩:∃ m,m=Nat.min 1 c:=⟨_,rfl⟩
 have hm1:m0≤1:=by rw [hm0]; exact Nat.min_le_left _ _
 have hm2:m0≤c:=by rw [hm0]; exact Nat.min_le_right _ _
 have hm3:c=0∨m0=1:=by
  rcases Nat.eq_zero_or_pos c with h | h
  ·exact .inl h
  ·exact .inr (by rw [hm0]; exact Nat.min_eq_left h)
 have HM3:=aB hm3;have hrow1:(w2.setRow w1 (splice (il v 0 c) (0*3) (bG (List.replicate m0 v))).toArray).heap[w1.heap.size]? = some (.cells (il v (0+m0) c).toArray 24 (0,0)):=by
  rw [setRow_heap w2 w1 _ _ _ _ hrow,qz v 0 m0 c ag]
 have hbr:Below w1 w1 (w2.setRow w1 (splice (il v 0 c) (0*3) (bG (List.replicate m0 v))).toArray):=below_setRow hb2 (Mx _) _;have hs1:∀ j u,(bG (List.replicate m0 v))[j]? = some u→w2.cell? (((ah B 0):Addr).add j)=some u:=by
  intro j u hj;have hj':j<(bG (List.replicate m0 v)).length:=by
   rcases Nl j (bG (List.replicate m0 v)).length with h | h
   ·exact h
   ·rw [Nr h] at hj; cases hj
  have e1:m0=1:=by
   rw [dK] at hj'; simp at hj'; omega
  rw [e1] at hj;have hj3:j=0∨j=1∨j=2:=by rw [dK] at hj'; simp at hj'; omega
  rcases hj3 with rfl | rfl | rfl
  ·simp [bG] at hj; subst hj; rw [iq]; exact p0
  ·simp [bG] at hj; subst hj; rw [iq]; exact p1
  ·simp [bG] at hj; subst hj; rw [iq]; exact p2
 have hs2:0*3+(bG (List.replicate m0 v)).length≤(il v 0 c).length:=by rw [dK,yg v 0 c (MD _)]; simp; omega
 have hs3:(bG (List.replicate m0 v)).length=m0*3:=by rw [dK]; simp
 have hcopy:Sem.run prog (Builtin.copy_ #[45,45] 3 #[.slice (some (ah w1 0)) c c,.slice (some (ah B 0)) 1 1]) w2 = .ok m0 (w2.setRow w1 (splice (il v 0 c) (0*3) (bG (List.replicate m0 v))).toArray):=sF w2 _ _ _ 24 w1.heap.size 0 c c (ah B 0) 1 1 3 m0 (il v 0 c) 24 (bG (List.replicate m0 v)) underlying45 J4 hrow hm0.symm hs3 hs1 hs2 (mW _);rw [MG] at hrow1;clear hrow hm0 hm3 hs1 hs2 hs3;generalize w2.setRow _ _=w3 at *;go_wp2_with fail
 go_loopw [8] (fun s8 wr=>∃ n:Nat,n≤c∧s8 = .int .i64 n∧Hid (c=0∨0<n)∧Hid (wr.heap[w1.heap.size]? = some (.cells (il v n c).toArray 24 (0,0)))∧Below w1 w1 wr) (fun s8 _=>c - (intOf s8).toNat)
 case atStart=>exact ⟨m0,hm2,by first | rfl | simp [goInt],by rcases HM3.out with h | h; exact .inl h; exact .inr ag,hrow1,hbr⟩
 case round =>
  clear hrow1 hbr;obtain ⟨n,hnc,rfl,HN,HR,hb⟩:=hrel;by_cases hlt:n<c
  ·have hltz:(n:Int)<(c:Int):=by omega
   have hn0:0<n:=by rcases HN.out with h | h; omega; exact h
   obtain ⟨m,hm⟩:∃ m,m=Nat.min n (c - n):=⟨_,rfl⟩
   have hm1:m≤n:=by rw [hm]; exact Nat.min_le_left _ _
   have hm2:m≤c - n:=by rw [hm]; exact Nat.min_le_right _ _
   have hm3:0<m:=by rw [hm]; exact Nat.lt_min.2 ⟨hn0,by omega⟩
   have HM:=aB hm;clear hm;go_wp2_with fail
   have hCC:∀ W W':World,True→Below W W W'→True:=fun _ _ _ _=>trivial
   have hdr:Below wr wr wr.drew:=(Mz _ _).drew;refine aP (fun _=>True) aG ?_;refine bB hCC 38 0 n (fun k hk=>?_) trivial ?_
   ·go_simp
   simp only [pX];refine bB hCC 39 1 (.slice (some (ah w1 0)) c c) (fun k hk=>?_) trivial ?_
   ·go_simp
   simp only [pX];refine bB hCC 40 2 n (fun k hk=>?_) trivial ?_
   ·go_simp
   simp only [pX];refine bB hCC 41 3 (.slice (some ⟨w1,n*3,none⟩) (c - n) (c - n)) (fun k hk=>?_) trivial ?_
   ·go_simp;omega
   simp only [pX];refine bB hCC 42 4 (.slice (some (ah w1 0)) c c) (fun k hk=>?_) trivial ?_
   ·go_simp
   simp only [pX];refine bB hCC 43 5 n (fun k hk=>?_) trivial ?_
   ·go_simp
   simp only [pX];refine bB hCC 44 6 (.slice (some (ah w1 0)) n c) (fun k hk=>?_) trivial ?_
   ·go_simp
   simp only [pX];refine gp 7 aG fun w4 hb4=>?_
   have D4:=chain hdr hb4;have R4:=(D4.block _ (an HR.out)).trans HR.out;have hrow1:(w4.setRow w1 (splice (il v n c) (n*3) (bG (List.replicate m v))).toArray).heap[w1.heap.size]? = some (.cells (il v (n+m) c).toArray 24 (0,0)):=by
    rw [setRow_heap w4 w1 _ _ _ _ R4,qz v n m c ag]
   have hbr:Below w1 w1 (w4.setRow w1 (splice (il v n c) (n*3) (bG (List.replicate m v))).toArray):=below_setRow (chain hb D4) (Mx _) _;refine wpOp_step rfl (fun K hK=>?_);refine Eq.mpr (if_pos aG) ?_;refine Ar (some 45) rfl (Operand.tmp 41) (Operand.tmp 44) 45 rfl 24 w1.heap.size (n*3) (c - n) (c - n) (ah w1 0) n c 3 m (il v n c) 24 (bG (List.replicate m v)) underlying45 J4 R4 HM.out.symm (by rw [dK]; simp) (tG R4 hm1) (by rw [dK,yg v n c hnc]; simp; omega) (mW _) rfl rfl ?_
   refine hK _ _ ⟨trivial,?_⟩;clear hK K R4;generalize w4.setRow _ _=w5 at *;simp only [pX];refine bB hCC 46 8 (.int .i64 ((n+m:Nat):Int)) (fun k hk=>?_) trivial ?_
   ·go_simp;rw [IntKind.wrap_i64];omega
   simp only [pX];refine bB hCC 8 9 (.int .i64 ((n+m:Nat):Int)) (fun k hk=>?_) trivial ?_
   ·go_simp
   simp only [pX];refine cA aG ?_;intro w6 hb6;have HR6:=aB (iX hb6 hrow1);have hB6:=chain hbr hb6;clear hrow1 hbr hb6;go_wp2
   go_roundw
   case rel=>exact ⟨n+m,by omega,by first | rfl | go_num,.inr ag,HR6,hB6⟩
   case measure=>simp [intOf]; omega
  ·have e:n=c:=by omega
   subst e;obtain ⟨s1,s2⟩:=JJ HR.out hc;go_wp2
   go_ret;exact ⟨rfl,s1,s2,hb⟩
theorem JK (w:World):Calls prog 186 #[] w fun e w'=>e = .returned (.agg #[(1:Int),aD,()])∧Below w w w':=by
 go_enter func186,ntmps186;go_wp2
 exact MA (v:=.agg #[(1:Int),aD,()]) (by simp [results,results186,go_sem]) rfl ⟨rfl,by first | exact Mz _ _ | exact aN ..⟩
theorem yP.Kz {w:World} {a b:Option Addr} {ca cb:Nat} {l l':List Zp} (h:aK w a l) (n:a=none→ca=0) (h':aK w b l') (n':b=none→cb=0) (T:TypeId):yP (w.alloc (.cells #[.slice a l.length ca,.slice b l'.length cb] T)) w l l':=by
 have hal:=aN w (.cells #[.slice a l.length ca,.slice b l'.length cb] T);refine ⟨by simp,fun k hk=>?_⟩
 match k,hk with
 | 0,_=>exact ⟨a,ca,l,by simp,h.next hal,n,by simp [iU]⟩
 | 1,_=>exact ⟨b,cb,l',by simp,h'.next hal,n',by simp [iU]⟩
theorem mU (n:Nat) (l:List Zp):(je n l).length=l.length:=by simp [je]
theorem BL (a:Option Addr) (ca:Nat) (l:List Zp) (m:Nat) (hm:m≤8) (w:World) (h:aK w a l) (hl:l.length≤400) (h8:∀ y ∈ l,y.1.length+m≤8) :
  Calls prog 143 #[.slice a l.length ca,m] w fun e w'=>∃ a' c',e = .returned (.slice a' (je m l).length c')∧aK w' a' (je m l)∧(a'=none→c'=0)∧Below w w w':=by
 obtain ⟨i0,hi,hz0,hz1,hz2⟩:=info_parts Tryz.fK;rw [mU];go_enter func143,ntmps143;go_wp2_with fail
 refine bC (JK w) fun w1 hb1=>?_;dsimp only;go_wp2_with fail
 have h2:=aN w1 (.cells #[(1:Int),aD,()] 24);have con:=Eo w1 (1,0,⟨#[]⟩) m hm (w1.alloc (.cells #[(1:Int),aD,()] 24)) (by simp) (by simp) (by simp);generalize w1.alloc (.cells #[(1:Int),aD,()] 24)=w2 at *;refine con.mono ?_;rintro e w3 ⟨rfl,sn,tn,hb3⟩;clear con;have hA:=chain (chain hb1 h2) hb3;have hnl:(eK m).length=m:=by simp [eK]
 have sn:aZ w3 (some (ah w2 0)) (eK m):=sn;dsimp only;go_wp2_with (first | (at_make; refine wpList_make_full _ rfl _ _ 38 rfl w3 47 i0 _ 2 underlying38 hi hz0 hz1 .i64 .i64 l.length l.length l.length rfl rfl rfl rfl (by rw [hz2]; omega) (by unfold maxLen; omega) (Mx _) ?_))
 intro w4 hown hgrow;have hb4:Below w3 w3 w4:=(Mz _ _).grown hgrow (Mx _) (by simp);obtain ⟨f,hf⟩:∃ f:Nat→Zp,f=(fun j=>(je m l).getD j ([],0)):=⟨_,rfl⟩
 have HFn:Hid (f=(fun j=>(je m l).getD j ([],0))):=hf;clear hf;have hB0:xz w4 w3 l.length f 0:=⟨_,hown,fun j _ hj=>absurd hj (M9 _)⟩
 have HNL:Hid ((eK m).length=m):=hnl;clear hown hgrow hnl;go_wp2_with fail
 go_loopw [18] (fun i wr=>∃ k:Nat,k≤l.length∧i = .int .i64 k∧xz wr w3 l.length f k∧Below w3 w3 wr) (fun i _=>l.length - (intOf i).toNat)
 case atStart=>exact ⟨0,MD _,rfl,hB0,hb4⟩
 case round =>
  clear hB0 hb4;obtain ⟨k,hk,rfl,HB,hb⟩:=hrel;have hz:=hb.size;by_cases hlt:k<l.length
  ·obtain ⟨bb,off,rfl,hbl,c1,ar,cr,c0,sr⟩:=(h.next (chain hA hb)).elem hlt;have hal:=aN wr (.cells #[.slice ar l[k].1.length cr,.int .i64 l[k].2] 47);have q0:=bq wr #[.slice ar l[k].1.length cr,.int .i64 l[k].2] 47;have za:(wr.alloc (.cells #[.slice ar l[k].1.length cr,.int .i64 l[k].2] 47)).heap.size=wr.heap.size+1:=by simp
   have ef:f k=(l[k].1 ++ eK m,l[k].2):=by rw [HFn.out]; simp [je,List.getD,hlt]
   have EF:Hid (f k=(l[k].1 ++ eK m,l[k].2)):=ef;have h8k:=h8 l[k] (MC hlt);have HS:Hid (aZ wr ar l[k].1):=sr;have i0':(0:Int)≤(k:Int):=by omega
   have i1:(k:Int)<(l.length:Int):=by omega
   clear ef sr;go_wp2_with fail
   clear c0 c1;generalize wr.alloc (.cells #[.slice ar l[k].1.length cr,.int .i64 l[k].2] 47)=wk at *;have CELW:∀ W:World,(W.heap[wr.heap.size]? = some (.cells #[.slice ar l[k].1.length cr,.int .i64 l[k].2] 47 (0,0)))=(W.heap[wr.heap.size]? = some (.cells #[.slice ar l[k].1.length cr,.int .i64 l[k].2] 47 (0,0))):=fun _=>rfl
   clear CELW;have hCC:∀ W W':World,W.heap[wr.heap.size]? = some (.cells #[.slice ar l[k].1.length cr,.int .i64 l[k].2] 47 (0,0))→Below W W W'→W'.heap[wr.heap.size]? = some (.cells #[.slice ar l[k].1.length cr,.int .i64 l[k].2] 47 (0,0)):=fun W W' h hb=>(hb.block _ (an h)).trans h
   have hdr:Below wk wk wk.drew:=(Mz _ _).drew;have CW:wk.drew.heap[wr.heap.size]? = some (.cells #[.slice ar l[k].1.length cr,.int .i64 l[k].2] 47 (0,0)):=hCC _ _ q0 hdr;refine aP (fun W=>W.heap[wr.heap.size]? = some (.cells #[.slice ar l[k].1.length cr,.int .i64 l[k].2] 47 (0,0))) aG ?_;refine bB hCC 23 0 (.slice (some (ah w3 0)) l.length l.length) (fun n hn=>?_) CW ?_
   ·go_simp
   simp only [Act.put,pA,pB,pC];refine bB hCC 24 1 k (fun n hn=>?_) CW ?_
   ·go_simp
   simp only [Act.put,pA,pB,pC];refine bB hCC 25 2 (ah wr 0) (fun n hn=>?_) CW ?_
   ·go_simp
   simp only [Act.put,pA,pB,pC];refine bB hCC 26 3 (.slice ar l[k].1.length cr) (fun n hn=>?_) CW ?_
   ·have hcell:n.cell? (ah wr 0)=some (.slice ar l[k].1.length cr):=cell_of (i:=0) hn rfl;go_simp
   simp only [Act.put,pA,pB,pC];refine bB hCC 27 4 (.slice (some (ah w2 0)) m m) (fun n hn=>?_) CW ?_
   ·go_simp
   simp only [Act.put,pA,pB,pC];refine bB hCC 30 7 (ah wr 1) (fun n hn=>?_) CW ?_
   ·go_simp
   simp only [Act.put,pA,pB,pC];refine bB hCC 31 8 (.int .i64 l[k].2) (fun n hn=>?_) CW ?_
   ·have hcell:n.cell? (ah wr 1)=some (.int .i64 l[k].2):=cell_of (i:=1) hn rfl;go_simp
   simp only [Act.put,pA,pB,pC];refine gp 5 aG fun w5 hb5=>?_
   refine wpOp_step rfl (fun K hK=>?_);go_simp;have D5:=chain (chain hal hdr) hb5;have CW5:=hCC _ _ CW hb5;have B5:=chain hb D5;have hal5:=aN w5 (.cells #[.slice ar l[k].1.length cr,.slice (some (ah w2 0)) m m] 45);have PC:=jA.new cr m (fj (HS.out.next D5)) (fj (sn.next B5)) 45;rw [HNL.out] at PC;have D6:=chain D5 hal5;have CW6:=hCC _ _ CW5 hal5;refine hK _ _ ⟨CW6,?_⟩;clear hK K hal5 hb5 CW CW5
   generalize w5.alloc _=w6 at *;refine gp 6 aG fun w7 hb7=>?_
   refine wpOp_step rfl (fun K hK=>?_);go_simp;have D7:=chain D6 hb7;have CW7:=hCC _ _ CW6 hb7;refine (kY _ _ _ _ _ w7 (PC.next hb7) ag).mono ?_;rintro e w8 ⟨v8,rfl,O8,hb8⟩;rw [← bW] at O8;obtain ⟨a8,c8,rfl,S8,T8,_⟩:=dQ O8 (by rw [ME,HNL.out]);have D8:=chain D7 hb8;have CW8:=hCC _ _ CW7 hb8;refine hK _ _ ⟨CW8,?_⟩;clear hK K PC O8 CW6 CW7
   refine bB hCC 32 9 (.agg #[.slice a8 (l[k].1 ++ eK m).length c8,.int .i64 l[k].2]) (fun n hn=>?_) CW8 ?_
   ·go_simp
   simp only [pX];refine bB hCC 33 10 (.pointer (some ⟨w3,k*2,none⟩)) (fun n hn=>?_) CW8 ?_
   ·go_simp
   simp only [pX];refine gp 11 aG fun w9 hb9=>?_
   have D9:=chain D8 hb9;have CW9:=hCC _ _ CW8 hb9;have HB9:=HB.next D9;have S9:=S8.next hb9;have T9:=T8.next hb9;obtain ⟨⟨u0,u1,d0,d1⟩,g0,g1,hlb9⟩:=HB9.cells hlt;have hne:wr.heap.size≠w3.heap.size:=by
    have:=(HB.cells hlt).2.2.2;omega
   refine wpOp_step rfl (fun K hK=>?_);go_simp;have CWS:((w9.setCell ⟨w3,k*2,none⟩ (.slice a8 (l[k].1.length+(eK m).length) c8)).setCell ⟨w3,k*2+1,none⟩ (.int .i64 l[k].2)).heap[wr.heap.size]? = some (.cells #[.slice ar l[k].1.length cr,.int .i64 l[k].2] 47 (0,0)):=by
    rw [Nf _ ⟨w3,k*2+1,none⟩ _ _ hne,Nf _ ⟨w3,k*2,none⟩ _ _ hne];exact CW9
   have MS:=HB9.step hlt (a:=a8) (cap:=c8) (by rw [EF.out]; exact S9) T9;rw [EF.out] at MS;have BS:=((chain hb D9).setCell (p:=⟨w3,k*2,none⟩) (Mx _) (.slice a8 (l[k].1 ++ eK m).length c8)).setCell (p:=⟨w3,k*2+1,none⟩) (Mx _) (.int .i64 l[k].2);rw [ME] at MS BS;refine hK _ _ ⟨CWS,?_⟩;clear hK K CW9 CW8 S9 T9 S8 T8 D9 D8 HB9 CWS;generalize (w9.setCell ⟨w3,k*2,none⟩ (.slice a8 (l[k].1.length+(eK m).length) c8)).setCell ⟨w3,k*2+1,none⟩ (.int .i64 l[k].2)=w10 at *;refine cA aG ?_;intro w11 hb11
   have M11:=MS.next hb11;have B11:=chain BS hb11;clear MS BS hb11 HB;go_wp2
   go_roundw
   case rel=>exact ⟨k+1,by omega,by go_num,M11,B11⟩
   case measure=>simp [intOf]; omega
  ·have e:k=l.length:=by omega
   subst e;have zsm:=HB.done (je m l) (mU m l).symm (fun j hj=>by rw [HFn.out]; simp [List.getD,hj]) (by rw [mU]; omega);have hAe:=chain hA hb;go_wp2
   go_ret;exact ⟨_,_,rfl,zsm,(fun e=>by cases e),hAe⟩
theorem dW.step {cols:List Int} {x:Ex} {w0 wp W:World} {a b:Option Addr} {ca cb:Nat} {l r:List Zp} {v:Value} {R rv:Nat} (h:dW cols x w0 wp a b ca cb l r v R rv) (hI:fc wp R rv W):dW cols x w0 W a b ca cb l r v R rv∧fc W R rv W:=by
 obtain ⟨lo,wc,hv,u,e,hn,h2,h3,h4,h5,h6,h7,h8⟩:=h;have hr:=hn.r;have hrv:=hn.v;have hb:=hI.below hn;have z:=hI.size;refine ⟨⟨lo,wc,hv,u,e,⟨hr,by omega⟩,h2,(hb.cell (p:=ah hv 0) h2).trans h3,h4,h5,⟨by have:=h6.1; omega,fun k h1 h2'=>?_⟩,h7,h8.trans (hb.mono h7)⟩,⟨rfl,rfl,rfl,Mx _,fun _ _ _ _=>rfl,hI.var,hI.Gt,hI.room⟩⟩;exact (hb.block k ag).trans (h6.2 k h1 h2')
theorem Ht (left right:List Int) (x:Ex) (ra:Option Addr) (rcap:Nat) (rb:Nat) (w0 wp w:World) (a b:Option Addr) (ca cb:Nat) (l r:List Zp) (v:Value) (R rv:Nat) (hP:dW (left ++ right) x w0 wp a b ca cb l r v R rv) (hI:fc wp R rv w) (za:aK w0 a l) (zb:aK w0 b r) (hT:nE left right x l r)
  (hrb:w.heap[rb]? = some (.cells #[.slice ra right.length rcap] 33 (0,0))) (hrb0:rb<w0.heap.size) :
  Calls prog 142 #[v,ah rb 0] w fun e w'=>∃ ua uc,e = .returned (.slice ua (qS x right.length l r).length uc)∧aK w' ua (qS x right.length l r)∧Below w0 w0 w':=by
 have hq:=fx hT;have hlen:=hT.len;generalize hlz:qS x right.length l r=z;have HLz:=aB hlz;clear hlz;obtain ⟨hP0,hI0⟩:=hP.step hI;have hP':=hP0;obtain ⟨lo,wc,hv,u,rfl,hn,hv0,hc,hC,hcR,hcp,h0,h0p⟩:=hP0;have hrv:=hn.v;have hrr:=hn.r;have h1:=aN w (.cells #[.slice a l.length ca,.slice b r.length cb,.func (.func 246) #[] #[ah rv 0,ah hv 0]] 170)
 have p1:=bq w #[.slice a l.length ca,.slice b r.length cb,.func (.func 246) #[] #[ah rv 0,ah hv 0]] 170;obtain ⟨P1,I1⟩:=hP'.step (hI0.eO hn (Mx _) h1);have r1:=(h1.block rb (an hrb)).trans hrb;clear hC;go_enter func142,ntmps142;go_wp2_with fail
 generalize w.alloc _=w1 at *
 have hCC:∀ W W':World,(W.heap[w.heap.size]? = some (.cells #[.slice a l.length ca,.slice b r.length cb,.func (.func 246) #[] #[ah rv 0,ah hv 0]] 170 (0,0))∧W.heap[rb]? = some (.cells #[.slice ra right.length rcap] 33 (0,0)))→Below W W W'→(W'.heap[w.heap.size]? = some (.cells #[.slice a l.length ca,.slice b r.length cb,.func (.func 246) #[] #[ah rv 0,ah hv 0]] 170 (0,0))∧W'.heap[rb]? = some (.cells #[.slice ra right.length rcap] 33 (0,0))):=fun W W' h hb=>⟨(hb.block _ (an h.1)).trans h.1,(hb.block _ (an h.2)).trans h.2⟩
 have hd:Below w1 w1 w1.drew:=(Mz _ _).drew;have CW:=hCC _ _ ⟨p1,r1⟩ hd
 refine aP (fun W=>W.heap[w.heap.size]? = some (.cells #[.slice a l.length ca,.slice b r.length cb,.func (.func 246) #[] #[ah rv 0,ah hv 0]] 170 (0,0))∧W.heap[rb]? = some (.cells #[.slice ra right.length rcap] 33 (0,0))) aG ?_;refine bB hCC 4 0 (.agg #[.slice a l.length ca,.slice b r.length cb,.func (.func 246) #[] #[ah rv 0,ah hv 0]]) (fun n hn=>?_) CW ?_
 ·have hc0:=cell_of (i:=0) hn.1 rfl;have hc1:=cell_of (i:=1) hn.1 rfl;have hc2:=cell_of (i:=2) hn.1 rfl;go_simp
 simp only [pX];refine bB hCC 6 2 (.agg #[.slice a l.length ca,.slice b r.length cb,.func (.func 246) #[] #[ah rv 0,ah hv 0]]) (fun n hn=>?_) CW ?_
 ·have hc0:=cell_of (i:=0) hn.1 rfl;have hc1:=cell_of (i:=1) hn.1 rfl;have hc2:=cell_of (i:=2) hn.1 rfl;go_simp
 simp only [pX];refine bB hCC 8 4 (.slice ra right.length rcap) (fun n hn=>?_) CW ?_
 ·have hc0:=cell_of (i:=0) hn.2 rfl;go_simp
 simp only [pX];refine bB hCC 9 5 right.length (fun n hn=>?_) CW ?_
 ·go_simp
 simp only [pX];refine gp 1 aG fun w2 hb2=>?_
 have D2:=chain hd hb2;have CW2:=hCC _ _ CW hb2;obtain ⟨P2,I2⟩:=P1.step (I1.eO (by obtain ⟨_,_,_,_,_,hn,_⟩:=P1; exact hn) (Mx _) D2);have con:=vV (left ++ right) x w0 w2 w2 a b ca cb l r _ R rv P2 I2 za zb hq;refine wpOp_step rfl (fun K hK=>?_);go_simp;refine con.mono ?_;rintro e w3 ⟨u3,rfl,O3,I3,z3⟩;clear con;obtain ⟨P3,J3⟩:=P2.step I3;have ne1:w.heap.size≠R∧w.heap.size≠rv:=by omega
 have ne2:rb≠R∧rb≠rv:=by omega
 have CW3:w3.heap[w.heap.size]? = some (.cells #[.slice a l.length ca,.slice b r.length cb,.func (.func 246) #[] #[ah rv 0,ah hv 0]] 170 (0,0))∧w3.heap[rb]? = some (.cells #[.slice ra right.length rcap] 33 (0,0)):=⟨(I3.block _ (an CW2.1) ne1.1 ne1.2).trans CW2.1,(I3.block _ (an CW2.2) ne2.1 ne2.2).trans CW2.2⟩
 obtain ⟨a3,c3,rfl⟩:=O3.slice;refine hK _ _ ⟨CW3,?_⟩;clear hK K CW CW2 I2 P2 I3;refine gp 3 aG fun w4 hb4=>?_
 have CW4:=hCC _ _ CW3 hb4;have hn3:pO w3 R rv:=by obtain ⟨_,_,_,_,_,hn,_⟩:=P3; exact hn
 obtain ⟨P4,I4⟩:=P3.step (J3.eO hn3 (Mx _) hb4);have hn4:pO w4 R rv:=by obtain ⟨_,_,_,_,_,hn,_⟩:=P4; exact hn
 have O4:=O3.since (lo:=0) (MD _) (aI.of hb4);have con:=oW (left ++ right) x w0 w4 w4 a b ca cb l r _ R rv P4 I4 za zb hq;refine wpOp_step rfl (fun K hK=>?_);go_simp;refine con.mono ?_;rintro e w5 ⟨u5,rfl,O5,I5,z5⟩;clear con;obtain ⟨P5,J5⟩:=P4.step I5;have hn5:pO w5 R rv:=by obtain ⟨_,_,_,_,_,hn,_⟩:=P5; exact hn
 have CW5:w5.heap[w.heap.size]? = some (.cells #[.slice a l.length ca,.slice b r.length cb,.func (.func 246) #[] #[ah rv 0,ah hv 0]] 170 (0,0))∧w5.heap[rb]? = some (.cells #[.slice ra right.length rcap] 33 (0,0)):=⟨(I5.block _ (an CW4.1) ne1.1 ne1.2).trans CW4.1,(I5.block _ (an CW4.2) ne2.1 ne2.2).trans CW4.2⟩
 have S5:aI (rv+1) w4 w5:=⟨I5.size,fun k h1 h2=>I5.block k h2 ag ag⟩
 have O4':=O4.since (lo:=rv+1) (by have:=hI.size; have:=hb2.size; have:=D2.size; have:=h1.size; have:=hn.v; omega) S5;have hE5:Below w0 w0 w5:=by obtain ⟨_,_,_,_,_,_,_,_,_,_,_,_,hB⟩:=P5; exact hB
 obtain ⟨a5,c5,rfl,zs5,_⟩:=O5.zs hE5;refine hK _ _ ⟨CW5,?_⟩;clear hK K CW3 CW4 I4 P4 I5 O5 O4;refine gp 6 aG fun w6 hb6=>?_
 have CW6:=hCC _ _ CW5 hb6;have O6:=O4'.since (lo:=0) (MD _) (aI.of hb6);have al:(jf x l r).length≤l.length:=Nn _ _;have con:=BL a5 c5 (jf x l r) right.length ag w6 (zs5.next hb6) (by have:=hq.ll; omega) (fun y hy=>by
  have:=(hT.left.fit y (List.mem_filter.1 hy).1).len;omega)
 refine wpOp_step rfl (fun K hK=>?_);go_simp;refine con.mono ?_;rintro e w7 ⟨a7,c7,rfl,zs7,n7,hb7⟩;clear con;have CW7:=hCC _ _ CW6 hb7;have O7:=O6.since (lo:=0) (MD _) (aI.of hb7);have D7:=chain hb6 hb7;refine hK _ _ ⟨CW7,?_⟩;clear hK K CW5 CW6 O6 O4';refine gp 7 aG fun w8 hb8=>?_
 refine wpOp_step rfl (fun K hK=>?_);go_simp;have O8:=O7.since (lo:=0) (MD _) (aI.of hb8);have zs8:=zs7.next hb8;obtain ⟨aj,cj,ej,zj,nj⟩:=O8.z.KW;injection ej with ej1 _ ej3
 subst ej1 ej3;have hal:=aN w8 (.cells #[.slice a3 (ep x l r).length c3,.slice a7 (je right.length (jf x l r)).length c7] 38);have PR:=yP.Kz zj nj zs8 n7 38;have D9:=chain (chain D7 hb8) hal;have CW9:=hCC _ _ (hCC _ _ CW7 hb8) hal;refine hK _ _ ⟨CW9,?_⟩;clear hK K CW7 O7 O8;generalize w8.alloc _=w9 at *;refine gp 8 aG fun w10 hb10=>?_
 have jl:=(B4 hT).1;have wl:(je right.length (jf x l r)).length≤400:=by rw [mU]; have:=hq.ll; omega
 have con:=uS w8 (ep x l r) (je right.length (jf x l r)) w10 (PR.next hb10) ag;refine wpOp_step rfl (fun K hK=>?_);go_simp;refine con.mono ?_;rintro e w11 ⟨a11,c11,rfl,zs11,n11,hb11⟩;clear con;have CW11:=hCC _ _ (hCC _ _ CW9 hb10) hb11;have hE11:=chain hE5 (chain (chain D9 hb10) hb11);refine hK _ _ ⟨CW11,?_⟩;clear hK K CW9;refine bB hCC 3 9 (.slice a11 (ep x l r ++ je right.length (jf x l r)).length c11) (fun n hn=>?_) CW11 ?_
 ·go_simp
 simp only [pX];refine cA aG ?_;intro w12 hb12;have zs12:=zs11.next hb12;have hE12:=chain hE11 hb12;have hl2:ep x l r ++ je right.length (jf x l r)=z:=HLz.out;rw [hl2] at zs12 ⊢;clear zs11 CW11 hl2;go_wp2
 go_ret
 first | exact ⟨_,_,rfl,zs12,hE12⟩ | exact ⟨_,⟨_,rfl⟩,zs12,hE12⟩
theorem left_at (left right:List Int) (x:Ex) (la:Option Addr) (lcap:Nat) (ra:Option Addr) (rcap:Nat) (xa:Option Addr) (xcap:Nat) (a:Option Addr) (ca:Nat) (l:List Zp) (b:Option Addr) (cb:Nat) (r:List Zp) (w:World)
  (hcl:bf w w la left) (hcr:bf w w ra right) (hx:aU w w xa x.ks) (h:aK w a l) (h':aK w b r) (hll:left.length≤100000000000000) (hrl:right.length≤100000000000000) :
  Calls prog 101 #[.slice la left.length lcap,.slice ra right.length rcap,fN x.k x.v x.c xa x.ks.length xcap,.slice a l.length ca,.slice b r.length cb] w fun e w'=>∃ v,e = .returned (.tuple #[v,.int .i64 (cw 3 left right x l r)])∧eA w w' v (cB 3 left right x l r)∧Below w w w':=by
 obtain ⟨h1,q1⟩:=iV w #[.slice ra right.length rcap] 33;have c1:(w.alloc (.cells #[.slice ra right.length rcap] 33)).cell? (ah w 0)=some (.slice ra right.length rcap):=by simp
 have e1:(w.alloc (.cells #[.slice ra right.length rcap] 33)).heap.size=w.heap.size+1:=by simp
 generalize hfz:cB 3 left right x l r=fz;generalize hfe:cw 3 left right x l r=fe;have HZ:=aB hfz;have HE:=aB hfe;clear hfz hfe;go_enter func101,ntmps101;go_wp2_with fail
 generalize w.alloc _=w0 at *;have h2:=aN w0 (.cells (hJ x xa xcap) 27);have q2:=(h2.block w ag).trans q1;have c2:=(h2.cell (p:=ah w 0) (by show w.heap.size<_; omega)).trans c1;have e2:(w0.alloc (.cells (hJ x xa xcap) 27)).heap.size=w0.heap.size+1:=by simp
 have hA:=chain h1 h2;generalize w0.alloc _=w1 at *;have zs1:=h.next hA;have zs1':=h'.next hA;have con:=kU 3 142 #[ah w 0] left right x la lcap ra rcap xa xcap a ca l b cb r w1 ((hcl.next hA (Mx _)).up hA.size) ((hcr.next hA (Mx _)).up hA.size) ((aU.next hA (Mx _) hx).up hA.size) zs1 zs1' hll hrl (enters_of func142 aG rfl) (fun W v R rv hP hI hT=>by
  have hBW:Below w1 w1 W:=by obtain ⟨_,_,_,_,_,_,_,_,_,_,_,_,hB⟩:=hP; exact hB
  have:=Ht left right x ra rcap w w1 W W a b ca cb l r v R rv hP hI zs1 zs1' hT ((hBW.block _ ag).trans q2) ag;exact this)
 rw [HZ.out,HE.out] at con;go_wp2_with fail
 refine con.mono ?_;rintro e w2 ⟨v2,rfl,O2,hb2⟩;have O2':=O2.mono hA.size;obtain ⟨a2,c2',rfl,_⟩:=O2.zs;clear con O2;dsimp only;go_wp2
 exact bJ rfl rfl ⟨_,rfl,O2',chain hA hb2⟩
def ints (l:List Int):List Value:=l.map (Value.int .i64)
theorem vN (l:List Int) (t:Int):ints (l ++ [t])=ints l ++ [.int .i64 t]:=by unfold ints; rw [Nc]; rfl
theorem ji (cols:List Int) (xs:List Ex) (ca:Option Addr) (ccap:Nat) (xa:Option Addr) (xcap:Nat) (w:World) (hk:aU w w xa xs) (hc:bf w w ca cols) :
  Calls prog 68 #[.slice ca cols.length ccap,.slice xa xs.length xcap] w fun e w'=>∃ v,e = .returned (.tuple #[v,.int .i64 (bM cols xs)])∧(bM cols xs=0→w'.ownsRow w 3 1 v xs.length (ints (gf cols xs)))∧(¬ bM cols xs=0→v = .slice none 0 0)∧Below w w w':=by
 obtain ⟨ii,hii,hv0,hv1,hv2⟩:=info_parts qU;by_cases h8:8<xs.length
 ·have e:bM cols xs=5:=by simp [bM,h8]
  rw [e];have hz:(8:Int)<(xs.length:Int):=by omega
  go_enter func68,ntmps68;go_wp2
  exact bJ rfl rfl ⟨_,rfl,fun c=>by omega,fun _=>rfl,Mz _ _⟩
 ·have e:bM cols xs=fM cols xs:=by simp [bM,h8]
  have HE:=aB e;generalize bM cols xs=le at *;clear e;have hz:¬ (8:Int)<(xs.length:Int):=by omega
  go_enter func68,ntmps68;go_wp2_with fail
  go_loopw [6,15] (fun v i wr=>∃ j:Nat,j≤xs.length∧i = .int .i64 j∧wr.ownsRow w 3 1 v j (ints (gf cols (xs.take j)))∧Hid (fM cols xs=fM cols (xs.drop j))∧Below w w wr) (fun _ i _=>xs.length - (intOf i).toNat)
  case atStart=>exact ⟨0,MD _,rfl,M4 _ _ _ _,rfl,Mz _ _⟩
  case round =>
   obtain ⟨j,hj,rfl,Oj,HT,hb⟩:=hrel;have hzb:=hb.size;by_cases hlt:j<xs.length
   ·obtain ⟨b,off,ai,ci,rfl,hbl,sx,kx⟩:=(aU.next hb (Mx _) hk).elem hlt;obtain ⟨x0,x1,x2,x3,x4,x5⟩:=sx;have con:=nQ cols xs[j] ca ccap ai ci wr (kx.up hzb) ((hc.next hb (Mx _)).up hzb);have hj0:(0:Int)≤(j:Int):=by omega
    have hjz:(j:Int)<(xs.length:Int):=by omega
    by_cases h0:(ax cols xs[j]).2=0
    ·have HN:=aB (HT.out.trans (qP cols xs j hlt h0));have HY:Hid (ints (gf cols (xs.take (j+1)))=ints (gf cols (xs.take j)) ++ [.int .i64 (ax cols xs[j]).1]):=by show _=_; rw [vg cols hlt,vN]
     rw [h0] at con;generalize (ax cols xs[j]).1=t at *;generalize ints (gf cols (xs.take j))=ys at *;clear h0;go_wp2_with fail
     refine bC con fun w2 hb2=>?_;clear con x0 x1 x2 x3 x4 x5;have O2:=aL Oj hb2;have hz2:=hb2.size;dsimp only;go_wp2_with (first | (at_builtin; refine MX _ rfl _ _ 33 rfl w 3 ii _ 1 8 underlying33 hii hv0 hv1 hv2 rfl (by decide) _ _ _ rfl (O2.alloc _) (ah w2 0) 1 1 [.int .i64 t] rfl rfl ?Ac1 ?Ac2 ?Ac3 ?Ac4 ?Ac5 ?_))
     case Ac1 =>
      intro i u hu
      match i,hu with
      | 0,hu=>simp at hu; subst hu; simp [Addr.add]
     case Ac2=>intro u hu; simp at hu; subst hu; rfl
     case Ac3=>unfold maxLen; omega
     case Ac4=>omega
     case Ac5=>simp; omega
     intro v' w3 o3 g3 _;have hb3:Below w w w3:=(chain hb hb2).trans (((Mz _ _).alloc ag _).grown g3 (by simp; omega) (fun q hq=>((O2.alloc (.cells #[t] 3)).lt q hq).1));rw [← HY.out] at o3;clear g3 O2 Oj HY;go_wp2
     go_roundw
     case rel=>exact ⟨j+1,by omega,by go_num,o3,HN,hb3⟩
     case measure=>simp [intOf]; omega
    ·have HN:=aB (HE.out.trans (HT.out.trans (sG cols xs j hlt h0)));have hne:((ax cols xs[j]).2 != 0)=true:=by simpa using h0
     generalize (ax cols xs[j]).1=t at *;generalize (ax cols xs[j]).2=t2 at *;have el:=HN.out;subst el;have H0:=aB h0;clear h0;go_wp2_with fail
     refine bC con fun w2 hb2=>?_;clear con;dsimp only;go_wp2
     exact bJ rfl rfl ⟨_,rfl,fun c=>absurd c H0.out,fun _=>rfl,chain hb hb2⟩
   ·have el:le=0:=HE.out.trans (HT.out.trans (sR cols xs j ag));subst el;have ej:j=xs.length:=by omega
    subst ej;rw [MM] at Oj;have OH:=aB Oj;obtain ⟨aj,cj,rfl⟩:=eX Oj;clear Oj;go_wp2_with fail
    first
     | exact bJ rfl rfl ⟨_,rfl,fun _=>OH.out,fun c=>absurd rfl c,hb⟩
     | exact bJ rfl rfl ⟨_,rfl,OH.out,hb⟩
theorem my (cols:List Int) (xs:List Ex) (ca:Option Addr) (ccap:Nat) (xa:Option Addr) (xcap:Nat) (w:World) (hk:aU w w xa xs) (hc:bf w w ca cols) :
  Calls prog 68 #[.slice ca cols.length ccap,.slice xa xs.length xcap] w fun e w'=>∃ v,e = .returned (.tuple #[v,.int .i64 (bM cols xs)])∧Below w w w' :=
 (ji cols xs ca ccap xa xcap w hk hc).mono fun _ _ ⟨v,h1,_,_,h4⟩=>⟨v,h1,h4⟩
theorem gP {cols:List Int} (xs:List Ex) (hxs:bM cols xs=0) (row:List Vl) (hf:dX cols row) (xa:Option Addr) (xcap:Nat) (ra:Option Addr) (rcap:Nat) (w:World) (hk:aU w w xa xs) (hs:aZ w ra row) :
  Calls prog 145 #[.slice xa xs.length xcap,.slice ra row.length rcap] w fun e w'=>∃ v,e = .returned v∧w'.ownsRow w 24 3 v xs.length (bG (bp xs row))∧Below w w w':=by
 obtain ⟨iv,hiv,hv0,hv1,hv2⟩:=info_parts sZ;obtain ⟨hx8,HXS0⟩:=kG hxs;have HXS:=aB HXS0;have HFt:=aB hf;clear HXS0 hf;go_enter func145,ntmps145;go_wp2_with fail
 go_loopw [5,9] (fun v i wr=>∃ j:Nat,j≤xs.length∧i = .int .i64 j∧wr.ownsRow w 24 3 v j (bG (bp (xs.take j) row))∧Below w w wr) (fun _ i _=>xs.length - (intOf i).toNat)
 case atStart=>exact ⟨0,MD _,rfl,M4 _ _ _ _,Mz _ _⟩
 case round =>
  obtain ⟨j,hj,rfl,Oj,hb⟩:=hrel;have hzb:=hb.size;by_cases hlt:j<xs.length
  ·obtain ⟨b,off,ai,ci,rfl,hbl,sx,kx⟩:=(aU.next hb (Mx _) hk).elem hlt;obtain ⟨x0,x1,x2,x3,x4,x5⟩:=sx;have con:=Ay HFt.out xs[j] _ (mw (HXS.out xs[j] (MC hlt))) w ai ci ra rcap wr kx hzb (hs.next hb);have HR:Hid (bp (xs.take (j+1)) row=bp (xs.take j) row ++ [bQ row xs[j]]):=by
    show _=_;unfold bp;rw [MJ hlt,Nc]; rfl
   have hj0:(0:Int)≤(j:Int):=by omega
   have hjz:(j:Int)<(xs.length:Int):=by omega
   generalize bQ row xs[j]=u at *;unfold dV at con;go_wp2_with fail
   refine bC con fun w2 hb2=>?_;clear con x0 x1 x2 x3 x4 x5;have O2:=aL Oj hb2;have hz2:=hb2.size;dsimp only;go_wp2_with (first | (at_builtin; refine MX _ rfl _ _ 45 rfl w 24 iv _ 3 32 underlying45 hiv hv0 hv1 hv2 rfl (by decide) _ _ _ rfl (O2.alloc _) (ah w2 0) 1 1 [.int .i64 u.1,u.2.1,u.2.2] rfl rfl ?Ac1 ?Ac2 ?Ac3 ?Ac4 ?Ac5 ?_))
   case Ac1 =>
    intro i u hu
    match i,hu with
    | 0,hu=>simp at hu; subst hu; simp [Addr.add]
    | 1,hu=>simp at hu; subst hu; simp [Addr.add]
    | 2,hu=>simp at hu; subst hu; simp [Addr.add]
   case Ac2=>intro u hu; simp at hu; rcases hu with rfl | rfl | rfl <;> rfl
   case Ac3=>unfold maxLen; omega
   case Ac4=>omega
   case Ac5=>simp; omega
   intro v' w3 o3 g3 _;have hb3:Below w w w3:=(chain hb hb2).trans (((Mz _ _).alloc ag _).grown g3 (by simp; omega) (fun q hq=>((O2.alloc (.cells #[u.1,u.2.1,u.2.2] 24)).lt q hq).1));have o3':w3.ownsRow w 24 3 v' (j+1) (bG (bp (xs.take (j+1)) row)):=by rw [HR.out,bW]; exact o3
   clear g3 O2 Oj o3;go_wp2
   go_roundw
   case rel=>exact ⟨j+1,by omega,by go_num,o3',hb3⟩
   case measure=>simp [intOf]; omega
  ·have e:j=xs.length:=by omega
   subst e;rw [MM] at Oj;obtain ⟨aj,cj,rfl⟩:=eX Oj;go_wp2
   go_ret;exact ⟨_,rfl,Oj,hb⟩
theorem BH {x:Ex} {l:List Zp} {k:Nat} (h:k<l.length):fB x (l.take (k+1))=fB x (l.take k) ++ (if cX x l[k].1=true then [l[k]] else []):=by
 unfold fB;rw [MJ h,Ob,List.filter_cons];simp
theorem Dn {xs:List Ex} {l:List Zp} {k:Nat} (h:k<l.length):ig xs (l.take (k+1))=ig xs (l.take k) ++ [(bp xs l[k].1,l[k].2)]:=by
 unfold ig;rw [MJ h,Nc];rfl
theorem Ct {cols:List Int} {l:List Zp} (hO:gN cols l) {p:Zp} (hp:p ∈ l):bZ p.1=true ∧ -1000000000000≤p.2∧p.2≤1000000000000 :=
 ⟨mP (hO.fit p hp),by have:=jb hO p hp; rw [cK] at this; omega⟩
theorem Jw {cols:List Int} {xs:List Ex} {l:List Zp} (hx:bM cols xs=0) (hO:gN cols l) {p:Zp} (hp:p ∈ l):bZ (bp xs p.1)=true ∧ -1000000000000≤p.2∧p.2≤1000000000000 :=
 ⟨((bR _).1 (AU hx hO (bp xs p.1,p.2) (List.mem_map.2 ⟨p,hp,rfl⟩))).2,(Ct hO hp).2⟩
theorem xd (cols:List Int) (x:Ex) (ca:Option Addr) (ccap:Nat) (xa:Option Addr) (xcap:Nat) (a:Option Addr) (cap:Nat) (l:List Zp) (w:World) (hc:bf w w ca cols) (hx:aU w w xa x.ks) (h:aK w a l) :
  Calls prog 102 #[.slice ca cols.length ccap,fN x.k x.v x.c xa x.ks.length xcap,.slice a l.length cap] w fun e w'=>∃ v,e = .returned (.tuple #[v,.int .i64 (fU cols x l)])∧(∃ ua uc,v = .slice ua (iQ cols x l).length uc∧aK w' ua (iQ cols x l))∧Below w w w':=by
 have h1:=aN w (.cells (hJ x xa xcap) 27);have S1:=aB (ki.new w x.k x.v x.c xa x.ks.length xcap 27);have z1:(w.alloc (.cells (hJ x xa xcap) 27)).heap.size=w.heap.size+1:=by simp
 generalize hfz:iQ cols x l=fz;generalize hfe:fU cols x l=fe;have HZ:=aB hfz;have HE:=aB hfe;clear hfz hfe;go_enter func102,ntmps102;obtain ⟨s0,s1,s2,s3,s4,s5⟩:=S1.out;simp only [MG] at s1 s2 s3 s4 s5;go_wp2_with fail
 clear s0 s1 s2 s3 s4 s5;generalize w.alloc _=w1 at *;have con:=ij cols x ca ccap xa xcap w1 ((aU.next h1 (Mx _) hx).up h1.size) ((hc.next h1 (Mx _)).up h1.size);generalize hte:cH cols x=te at con;have HTe:=aB hte;clear hte;refine bC con fun w2 hb2=>?_;clear con;have hA2:=chain h1 hb2;dsimp only;by_cases ht:te=0
 ·subst ht;have con:=eV cols ca ccap a cap l w2 ((hc.next hA2 (Mx _)).up hA2.size) (h.next hA2);generalize hie:bV cols l=ie at con;have HIe:=aB hie;clear hie;go_wp2_with fail
  refine bC con fun w3 hb3=>?_;clear con;have hA3:=chain hA2 hb3;have hS3:=chain hb2 hb3;dsimp only;by_cases hi:ie=0
  ·subst hi;have HO:=aB ((gj cols l).1 HIe.out);have hl4:=dg HO.out;have e0:fe=0:=by rw [← HE.out]; unfold fU; rw [HTe.out,HIe.out]; rfl
   have e1:fz=canon (fB x l):=by rw [← HZ.out]; unfold iQ; rw [HE.out,e0,if_pos rfl]
   subst e0;have HZe:=aB e1;clear HE HZ e1;go_wp2_with fail
   go_loopw [10,27] (fun v i wr=>∃ k:Nat,k≤l.length∧i = .int .i64 k∧Acc wr v (fB x (l.take k))∧Hid (iL k (fB x (l.take k)))∧Below w3 w3 wr) (fun _ i _=>l.length - (intOf i).toNat)
   case atStart=>exact ⟨0,MD _,rfl,Acc.nil _,⟨by simp [fB],fun y hy=>by simp [fB] at hy⟩,Mz _ _⟩
   case round =>
    obtain ⟨k,hk,rfl,HA,HP,hb⟩:=hrel;by_cases hlt:k<l.length
    ·have hAr:=chain hA3 hb;obtain ⟨bb,off,rfl,hbl,c1,ar,cr,c0,sr⟩:=(h.next hAr).elem hlt;obtain ⟨hal,q0⟩:=iV wr #[.slice ar l[k].1.length cr,.int .i64 l[k].2] 47;have za:(wr.alloc (.cells #[.slice ar l[k].1.length cr,.int .i64 l[k].2] 47)).heap.size=wr.heap.size+1:=by simp
     have HTk:Hid (fB x (l.take (k+1))=fB x (l.take k) ++ (if cX x l[k].1=true then [l[k]] else [])):=BH hlt;have hrow:=Ct HO.out (MC hlt);have HRow:=aB hrow;have hwl:=hrow.2;have h8:=JR HO.out l[k] (MC hlt);have HFt:=aB (HO.out.fit l[k] (MC hlt));have hAk:=chain hAr hal;have hSk:=chain (chain hS3 hb) hal;have HSr:=aB (sr.next hal);have HAk:=HA.next hal
     clear hrow sr HA;have HPk:=aB HP;clear HP;go_upto_region 11 with fail
     clear c0 c1;generalize wr.alloc _=wk at *;have hB:=chain hb hal;have con:=j4 (cols:=cols) x HTe.out l[k].1 HFt.out xa xcap ar cr wk ((aU.next hAk (Mx _) hx).up hAk.size) HSr.out;generalize hhs:cX x l[k].1=has at con;have HHs:=aB hhs;clear hhs;have p0:=cell_of (i:=0) q0 rfl;obtain ⟨s0,s1,s2,s3,s4,s5⟩:=S1.out.next hSk ag;simp only [MG] at s1 s2 s3 s4 s5;go_wp2_with fail
     refine bC con fun w5 hb5=>?_;clear s0 s1 s2 s3 s4 s5;clear con p0;have q0:=iX hb5 q0;have HSr:=aB (HSr.out.next hb5);have HAk:=HAk.next hb5;have hB:=chain hB hb5;dsimp only;cases has with
     | true =>
      have p0:=cell_of (i:=0) q0 rfl;have p1:=cell_of (i:=1) q0 rfl;have con:=j7 _ _ _ ag HPk.out ar cr l[k].1 l[k].2 w5 HAk HSr.out h8 hwl;go_wp2_with fail
      refine con.mono ?_;rintro e w6 ⟨v6,rfl,HA6,hb6⟩;clear con p0 p1;have hB:=chain hB hb6;dsimp only;go_wp2_with fail
      have HR:Hid (fB x (l.take (k+1))=fB x (l.take k) ++ [(l[k].1,l[k].2)]):=by
       show _=_;rw [HTk.out,HHs.out];rfl
      have HPn:Hid (iL (k+1) (fB x (l.take (k+1)))):=by
       show iL _ _;rw [HR.out];exact HPk.out.push (y:=(l[k].1,l[k].2)) HRow.out
      go_roundw
      case rel=>exact ⟨k+1,by omega,by go_num,by rw [HR.out]; exact HA6,HPn,hB⟩
      case measure=>simp [intOf]; omega
     | false =>
      have HR:Hid (fB x (l.take (k+1))=fB x (l.take k)):=by
       show _=_;rw [HTk.out,HHs.out];simp
      have HPn:Hid (iL (k+1) (fB x (l.take (k+1)))):=by
       show iL _ _;rw [HR.out];exact HPk.out.up ag
      go_wp2
      go_roundw
      case rel=>exact ⟨k+1,by omega,by go_num,by rw [HR.out]; exact HAk,HPn,hB⟩
      case measure=>simp [intOf]; omega
    ·have e:k=l.length:=by omega
     subst e;rw [MM] at HA;obtain ⟨av,cv,rfl,zv,lv⟩:=HA;rw [← HZe.out] at zv lv ⊢;have hA:=chain hA3 hb;clear HP;go_wp2
     exact bJ rfl rfl ⟨_,rfl,⟨_,_,rfl,zv⟩,hA⟩
  ·have e0:fe=ie:=by rw [← HE.out]; unfold fU; rw [HTe.out,HIe.out,if_neg (by simp),if_pos hi]
   have e1:fz = []:=by rw [← HZ.out]; unfold iQ; rw [HE.out,e0,if_neg hi]
   have hne:(ie != 0)=true:=by simpa using hi
   subst e0 e1;clear hi;go_wp2
   exact bJ rfl rfl ⟨_,rfl,⟨_,_,rfl,⟨by simp,.inl rfl⟩⟩,hA3⟩
 ·have e0:fe=te:=by rw [← HE.out]; unfold fU; rw [HTe.out,if_pos ht]
  have e1:fz = []:=by rw [← HZ.out]; unfold iQ; rw [HE.out,e0,if_neg ht]
  have hne:(te != 0)=true:=by simpa using ht
  subst e0 e1;clear ht;go_wp2
  exact bJ rfl rfl ⟨_,rfl,⟨_,_,rfl,⟨by simp,.inl rfl⟩⟩,hA2⟩
theorem C5 (cols:List Int) (xs:List Ex) (ca:Option Addr) (ccap:Nat) (xa:Option Addr) (xcap:Nat) (a:Option Addr) (cap:Nat) (l:List Zp) (w:World) (hc:bf w w ca cols) (hx:aU w w xa xs) (h:aK w a l) :
  Calls prog 103 #[.slice ca cols.length ccap,.slice xa xs.length xcap,.slice a l.length cap] w fun e w'=>∃ v,e = .returned (.tuple #[v,.int .i64 (jS cols xs l)])∧(∃ ua uc,v = .slice ua (nr cols xs l).length uc∧aK w' ua (nr cols xs l))∧Below w w w':=by
 have con:=my cols xs ca ccap xa xcap w hx hc;generalize hfz:nr cols xs l=fz;generalize hfe:jS cols xs l=fe;have HZ:=aB hfz;have HE:=aB hfe;clear hfz hfe;generalize hte:bM cols xs=te at con;have HTe:=aB hte;clear hte;go_enter func103,ntmps103;go_wp2_with fail
 refine con.mono ?_;rintro e w2 ⟨u,rfl,hA2⟩;clear con;dsimp only;by_cases ht:te=0
 ·subst ht;have con:=eV cols ca ccap a cap l w2 ((hc.next hA2 (Mx _)).up hA2.size) (h.next hA2);generalize hie:bV cols l=ie at con;have HIe:=aB hie;clear hie;go_wp2_with fail
  refine bC con fun w3 hb3=>?_;clear con;have hA3:=chain hA2 hb3;dsimp only;by_cases hi:ie=0
  ·subst hi;have HO:=aB ((gj cols l).1 HIe.out);have hl4:=dg HO.out;have hx8:=(kG HTe.out).1;have HEe:Hid (fe=aR (ig xs l)):=by show _=_; rw [← HE.out]; unfold jS; rw [HTe.out,HIe.out]; rfl
   have HZe:Hid (fz=bh (ig xs l)):=by show _=_; rw [← HZ.out]; unfold nr bh; rw [HE.out,HEe.out]
   clear HE HZ;go_wp2_with fail
   go_loopw [11,31] (fun v i wr=>∃ k:Nat,k≤l.length∧i = .int .i64 k∧Acc wr v (ig xs (l.take k))∧Hid (iL k (ig xs (l.take k)))∧Below w3 w3 wr) (fun _ i _=>l.length - (intOf i).toNat)
   case atStart=>exact ⟨0,MD _,rfl,Acc.nil _,⟨by simp [ig],fun y hy=>by simp [ig] at hy⟩,Mz _ _⟩
   case round =>
    obtain ⟨k,hk,rfl,HA,HP,hb⟩:=hrel;by_cases hlt:k<l.length
    ·have hAr:=chain hA3 hb;obtain ⟨bb,off,rfl,hbl,c1,ar,cr,c0,sr⟩:=(h.next hAr).elem hlt;obtain ⟨hal,q0⟩:=iV wr #[.slice ar l[k].1.length cr,.int .i64 l[k].2] 47;have HTk:Hid (ig xs (l.take (k+1))=ig xs (l.take k) ++ [(bp xs l[k].1,l[k].2)]):=Dn hlt;have hrow:=Jw HTe.out HO.out (MC hlt);have HRow:=aB hrow;have hwl:=hrow.2
     have HFt:=aB (HO.out.fit l[k] (MC hlt));have hAk:=chain hAr hal;have HSr:=aB (sr.next hal);have HAk:=HA.next hal;clear hrow sr HA;have HPk:=aB HP;clear HP;go_wp2_with fail
     clear c0 c1;generalize wr.alloc _=wk at *;have hCC:∀ W W':World,(W.heap[wr.heap.size]? = some (.cells #[.slice ar l[k].1.length cr,.int .i64 l[k].2] 47 (0,0)))→Below W W W'→(W'.heap[wr.heap.size]? = some (.cells #[.slice ar l[k].1.length cr,.int .i64 l[k].2] 47 (0,0))):=fun W W' h hb=>(hb.block _ (an h)).trans h
     have hd:Below wk wk wk.drew:=(Mz _ _).drew;have CW:=hCC _ _ q0 hd;have hDk:=chain hal hd;refine aP (fun W=>(W.heap[wr.heap.size]? = some (.cells #[.slice ar l[k].1.length cr,.int .i64 l[k].2] 47 (0,0)))) aG ?_;refine bB hCC 35 0 u11 (fun n hn=>?_) CW ?_
     ·go_simp
     simp only [pX];refine bB hCC 36 1 (.slice xa xs.length xcap) (fun n hn=>?_) CW ?_
     ·go_simp
     simp only [pX];refine bB hCC 37 2 (ah wr 0) (fun n hn=>?_) CW ?_
     ·go_simp
     simp only [pX];refine bB hCC 38 3 (.slice ar l[k].1.length cr) (fun n hn=>?_) CW ?_
     ·have hc:=cell_of (i:=0) hn rfl;go_simp
     simp only [pX];refine bB hCC 40 5 (ah wr 1) (fun n hn=>?_) CW ?_
     ·go_simp
     simp only [pX];refine bB hCC 41 6 (.int .i64 l[k].2) (fun n hn=>?_) CW ?_
     ·have hc:=cell_of (i:=1) hn rfl;go_simp
     simp only [pX];refine gp 4 aG fun w4 hb4=>?_
     have CW4:=hCC _ _ CW hb4;have D4:=chain hd hb4;have A4:=chain hAk D4;have con:=gP (cols:=cols) xs HTe.out l[k].1 HFt.out xa xcap ar cr w4 ((aU.next A4 (Mx _) hx).up A4.size) (HSr.out.next D4);refine wpOp_step rfl (fun K hK=>?_);go_simp;refine con.mono ?_;rintro e w5 ⟨v5,rfl,O5,hb5⟩;clear con;obtain ⟨a5,c5,rfl,S5,T5,_⟩:=dQ O5 (by simp [bp]);have hr8:(bp xs l[k].1).length≤8:=by simp only [bp,Nt]; omega
     have CW5:=hCC _ _ CW4 hb5;have D5:=chain D4 hb5;refine hK _ _ ⟨CW5,?_⟩;clear hK K O5 T5;refine gp 7 aG fun w6 hb6=>?_
     have CW6:=hCC _ _ CW5 hb6;have D6:=chain D5 hb6;have con:=j7 _ _ _ ag HPk.out a5 c5 (bp xs l[k].1) l[k].2 w6 (HAk.next D6) (S5.next hb6) hr8 hwl;refine wpOp_step rfl (fun K hK=>?_);go_simp;refine con.mono ?_;rintro e w7 ⟨v7,rfl,HA7,hb7⟩;clear con;have CW7:=hCC _ _ CW6 hb7;have D7:=chain D6 hb7;refine hK _ _ ⟨CW7,?_⟩;clear hK K CW4 CW5 CW6;refine bB hCC 11 8 v7 (fun n hn=>?_) CW7 ?_
     ·go_simp
     simp only [pX];refine cA aG ?_;intro w8 hb8;have HA8:=HA7.next hb8;have hB:=chain hb (chain hal (chain D7 hb8));have HPn:Hid (iL (k+1) (ig xs (l.take (k+1)))):=by
      show iL _ _;rw [HTk.out];exact HPk.out.push (y:=(bp xs l[k].1,l[k].2)) HRow.out
     clear CW CW7 hb8 D7 HA7;go_wp2
     go_roundw
     case rel=>exact ⟨k+1,by omega,by go_num,by rw [HTk.out]; exact HA8,HPn,hB⟩
     case measure=>simp [intOf]; omega
    ·have e:k=l.length:=by omega
     subst e;rw [MM] at HA;obtain ⟨av,cv,rfl,zv,lv⟩:=HA;have con:=oc av cv (canon (ig xs l)) wr zv (by have:=eY (ig xs l); have:=HP.out.len; rw [MM] at this; omega);have e1:kE (canon (ig xs l))=fe:=by rw [HEe.out]; rfl
     have e2:ja (canon (ig xs l))=fz:=by
      unfold ja;rw [e1,HZe.out];unfold bh;rw [← HEe.out]
     rw [e1,e2] at con;clear e1 e2 HP;have hA:=chain hA3 hb;go_wp2_with fail
     refine con.mono ?_;rintro e w9 ⟨⟨a9,c9,rfl,zs9⟩,hb9⟩;clear con;dsimp only;go_wp2
     exact bJ rfl rfl ⟨_,rfl,⟨_,_,rfl,zs9⟩,chain hA hb9⟩
  ·have e0:fe=ie:=by rw [← HE.out]; unfold jS; rw [HTe.out,HIe.out,if_neg (by simp),if_pos hi]
   have e1:fz = []:=by rw [← HZ.out]; unfold nr; rw [HE.out,e0,if_neg hi]
   have hne:(ie != 0)=true:=by simpa using hi
   subst e0 e1;clear hi;go_wp2
   exact bJ rfl rfl ⟨_,rfl,⟨_,_,rfl,⟨by simp,.inl rfl⟩⟩,hA3⟩
 ·have e0:fe=te:=by rw [← HE.out]; unfold jS; rw [HTe.out,if_pos ht]
  have e1:fz = []:=by rw [← HZ.out]; unfold nr; rw [HE.out,e0,if_neg ht]
  have hne:(te != 0)=true:=by simpa using ht
  subst e0 e1;clear ht;go_wp2
  exact bJ rfl rfl ⟨_,rfl,⟨_,_,rfl,⟨by simp,.inl rfl⟩⟩,hA2⟩
end Go.Proofs.YtoefpglknaiaeaaGreat
