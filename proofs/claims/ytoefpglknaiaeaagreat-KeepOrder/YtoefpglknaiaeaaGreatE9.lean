/- Together: KB, KC, T4, R1, R2, R3, VI, KD, LF. -/
import Derived.Test.YtoefpglknaiaeaaGreatE8
import Derived.Test.YtoefpglknaiaeaaGreatE7
import Derived.Test.YtoefpglknaiaeaaGreatE1
import Derived.Test.YtoefpglknaiaeaaGreatE2
import Derived.Test.YtoefpglknaiaeaaGreatE0
/- Tables as they change, one after the other; keep's after. -/
namespace Go.Proofs.YtoefpglknaiaeaaGreat
open Go.RowKit Go.Lib Go.Shelf

set_option maxRecDepth 100000 in
set_option maxHeartbeats 8000000 in
theorem applyS_at (data more:List (List Zp)) (da:Option Addr) (dc:Nat) (ma:Option Addr) (mc:Nat) (w:World) (hD:DtAt w da data) (hM:DtAt w ma more) (hn:data.length≤10000000000000) (h0:applyE data more=0) :
  Calls Tryz.prog 28 #[.slice da data.length dc,.slice ma more.length mc] w fun e w'=>e = .returned (.tuple #[.slice (some ⟨w.heap.size,0,none⟩) (applyZ data more).length (applyZ data more).length,.int .i64 0])∧STo w' w.heap.size (applyZ data more).length (applyZ data more)∧Below w.heap.size w w':=by
 have hr:applyE data more=0:=h0
 generalize hrr:applyE data more=r at hr
 clear h0
 generalize hz:applyZ data more=z
 have HR:Hid (applyE data more=r):=hrr
 have HR0:Hid (r=0):=hr
 have HZ:Hid (applyZ data more=z):=hz
 clear hr hz hrr
 obtain ⟨cs,hcs,hmk⟩:=make_setsN hn w
 have S0:=STo.newN w cs
 rw [hcs] at S0
 go_enter Tryz.func28,Tryz.ntmps28
 by_cases hl:data.length=more.length
 rotate_left
 ·exfalso
  have e:r=8:=by rw [← HR.out]; unfold applyE; rw [if_pos hl]
  have:=HR0.out
  omega
 have hne:((data.length:Int) != (more.length:Int))=false:=by simp; omega
 have HR':Hid (r=applE (data.drop 0) (more.drop 0)):=by show _=_; rw [← HR.out]; unfold applyE; rw [if_neg (by simpa using hl)]; rfl
 have HZ':Hid (z=if r=0 then applL data more else []):=by show _=_; rw [← HZ.out,← HR.out]; rfl
 have HLn:Hid ((applL data more).length=data.length):=applL_len hl
 have hl1:data.length≤more.length:=by omega
 have hl2:more.length≤data.length:=by omega
 clear HR HZ hl hcs
 have hal:Below w.heap.size w (w.alloc (.cells cs 38)):=(Below.refl _ _).alloc (Nat.le_refl _) _
 go_upto_region 4 with fail
 clear hne hmk
 generalize w.alloc (.cells cs 38)=w1 at *
 go_wp2_with fail
 go_loopw [21] (fun i wr=>∃ j:Nat,j≤data.length∧i = .int .i64 j∧Hid (r=applE (data.drop j) (more.drop j))∧STo wr w.heap.size data.length ((applL data more).take j)∧Below w.heap.size w wr) (fun i _=>data.length - (intOf i).toNat)
 case atStart=>exact ⟨0,Nat.zero_le _,rfl,HR',by simpa using S0,hal⟩
 case round =>
  obtain ⟨j,hj,rfl,HT,hS,hb⟩:=hrel
  clear S0 HR' hal
  by_cases hlt:j<data.length
  ·have hlt':j<more.length:=by omega
   obtain ⟨b1,o1,ai,ci,rfl,hb1,c1,hz1,hn1⟩:=(hD.next hb).elem hlt
   obtain ⟨b2,o2,zi,zc,rfl,hb2,c2,hz2,_⟩:=(hM.next hb).elem hlt'
   have hjz:(j:Int)<(data.length:Int):=by omega
   have hjt:(j:Int)<(more.length:Int):=by omega
   have hj0:(0:Int)≤(j:Int):=by omega
   have hgl:=hS.lt
   have HBad:Hid (¬ bothE 1 data[j] more[j]=0→r=bothE 1 data[j] more[j]):=fun c=>HT.out.trans (applE_bad hlt hlt' c)
   have HOk:Hid (bothE 1 data[j] more[j]=0→r=applE (data.drop (j+1)) (more.drop (j+1))):=fun c=>HT.out.trans (applE_next hlt hlt' c)
   have HTk:Hid ((applL data more).take (j+1)=(applL data more).take j ++ [bothZ 1 data[j] more[j]]):=applL_take hlt hlt'
   have con:=add_at ai zi ci zc data[j] more[j] wr hz1 hz2 hn1
   clear HT
   generalize bothE 1 data[j] more[j]=er at *
   generalize bothZ 1 data[j] more[j]=zr at *
   go_wp2_with fail
   refine con.mono ?_
   rintro e w5 ⟨v5,rfl,O5,hb5⟩
   clear con c1 c2
   obtain ⟨a5,c5,ev,_,_⟩:=O5.zs2
   subst ev
   have hA5:=chain hb hb5
   dsimp only
   by_cases h0:er=0
   ·have HT':Hid (r=applE (data.drop (j+1)) (more.drop (j+1))):=HOk.out h0
    subst h0
    have S5:=hS.next hb5
    have hlen:((applL data more).take j).length=j:=by rw [List.length_take,HLn.out]; omega
    have S6:=S5.store (by rw [hlen]; exact hlt) O5 hgl
    rw [hlen,← HTk.out] at S6
    obtain ⟨u5,r5⟩:=S5.room j hlt
    have f5:=S5.fz j
    have hA6:=hA5.setCell (p:=⟨w.heap.size,j,none⟩) (Nat.le_refl _) (.slice a5 zr.length c5)
    clear HBad HOk HTk S5 hlen hS O5
    go_wp2_with fail
    go_roundw
    case rel=>exact ⟨j+1,by omega,by go_num,HT',S6,hA6⟩
    case measure=>simp [intOf]; omega
   ·exact absurd ((HBad.out h0).symm.trans HR0.out) h0
  ·have e:r=0:=by rw [HT.out,applE_end (by omega)]
   have ej:j=data.length:=by omega
   have hjn:¬ (j:Int)<(data.length:Int):=by omega
   have e':z=applL data more:=by rw [HZ'.out,if_pos e]
   have hd:=hS
   rw [ej,← HLn.out,List.take_length,← e'] at hd
   have hzl:(data.length:Nat)=z.length:=by rw [e']; exact HLn.out.symm
   have HZl:Hid ((data.length:Nat)=z.length):=hzl
   subst e
   clear HT HZ' e' hS ej hzl
   go_wp2_with fail
   exact bodyPost_ret (v:=.tuple #[.slice (some ⟨w.heap.size,0,none⟩) data.length data.length,.int .i64 0]) (by simp [results,Tryz.results28,go_sem]) rfl ⟨by rw [← HZl.out],hd,hb⟩

/-- A change that may be made, and what a plan comes to then. -/
structure AfOk (ts:List (List Int)) (p:Pl) (data ch:List (List Zp)):Prop where
 dat:dataE ts ch=0
 app:applyE data ch=0
 ev:evE ts (applyZ data ch) p=0

set_option maxRecDepth 100000 in
set_option maxHeartbeats 8000000 in
theorem after_at (ts:List (List Int)) (p:Pl) (q:Pw) (data ch:List (List Zp)) (ta:Option Addr) (tc:Nat) (da:Option Addr) (dc:Nat) (ca:Option Addr) (cc:Nat) (w:World) (hT:TbAt w.heap.size w ta ts) (hp:PlB w.heap.size w p q) (hk:PlOk p) (hD:DtAt w da data) (hC:DtAt w ca ch) (h8:ts.length≤8) (hn:data.length≤10000000000000) (hok:AfOk ts p data ch) :
  Calls Tryz.prog 61 #[.slice ta ts.length tc,plV p q,.slice da data.length dc,.slice ca ch.length cc] w fun e w'=>∃ b a c,e = .returned (.tuple #[.slice (some ⟨b,0,none⟩) (applyZ data ch).length (applyZ data ch).length,.slice a (evZ ts (applyZ data ch) p).length c,.int .i64 0])∧w.heap.size≤b∧STo w' b (applyZ data ch).length (applyZ data ch)∧OwnZ w.heap.size w' (.slice a (evZ ts (applyZ data ch) p).length c) (evZ ts (applyZ data ch) p)∧(a=none→c=0)∧Below w.heap.size w w':=by
 have TX:TbX w ta ts:=hT
 have PX:PlX w p q:=hp
 have DX:=hD
 have CX:=hC
 have HK:Hid (PlOk p):=hk
 have OK:Hid (AfOk ts p data ch):=hok
 have hA:Below w.heap.size w w:=Below.refl _ _
 clear hT hp hD hC hk hok
 have hb:Below w.heap.size w (w.alloc (.cells #[.int .i64 p.k,.int .i64 p.n,.int .i64 p.x.k,.int .i64 p.x.v.1,.int .i64 p.x.v.2.1,.string p.x.v.2.2,.int .i64 p.x.c,.slice q.xa p.x.ks.length q.xc,.slice q.sa p.xs.length q.sc,.slice q.ga p.gs.length q.gc,.slice q.ka p.ks.length q.kc] 31)):=(Below.refl _ _).alloc (Nat.le_refl _) _
 have EL:ElX (w.alloc (.cells #[.int .i64 p.k,.int .i64 p.n,.int .i64 p.x.k,.int .i64 p.x.v.1,.int .i64 p.x.v.2.1,.string p.x.v.2.2,.int .i64 p.x.c,.slice q.xa p.x.ks.length q.xc,.slice q.sa p.xs.length q.sc,.slice q.ga p.gs.length q.gc,.slice q.ka p.ks.length q.kc] 31)) w.heap.size p q:=⟨Elv.new w p q 31,by simp⟩
 replace TX:=TX.next hb
 replace PX:=PX.next hb
 replace DX:=DX.next hb
 replace CX:=CX.next hb
 replace hA:=chain hA hb
 have ev0:=OK.out.ev
 generalize hz:applyZ data ch=z at ev0 ⊢
 have HZ:Hid (applyZ data ch=z):=hz
 generalize hez:evZ ts z p=ez
 have HEZ:Hid (evZ ts z p=ez):=hez
 have EV:Hid (evE ts z p=0):=ev0
 clear hz hez ev0
 unfold plV
 go_enter Tryz.func61,Tryz.ntmps61
 go_upto_region 1 with fail
 generalize w.alloc (.cells #[.int .i64 p.k,.int .i64 p.n,.int .i64 p.x.k,.int .i64 p.x.v.1,.int .i64 p.x.v.2.1,.string p.x.v.2.2,.int .i64 p.x.c,.slice q.xa p.x.ks.length q.xc,.slice q.sa p.xs.length q.sc,.slice q.ga p.gs.length q.gc,.slice q.ka p.ks.length q.kc] 31)=w1 at *
 clear hb
 have con:=wrongQ_at ts ch ta tc ca cc w1 TX CX h8
 rw [OK.out.dat] at con
 go_wp2_with fail
 refine con.mono ?_
 rintro e w2 ⟨rfl,hb⟩
 clear con
 replace TX:=TX.next hb
 replace PX:=PX.next hb
 replace DX:=DX.next hb
 replace CX:=CX.next hb
 replace EL:=EL.next hb
 replace hA:=chain hA hb
 clear hb
 have con:=applyS_at data ch da dc ca cc w2 DX CX hn OK.out.app
 rw [HZ.out] at con
 clear OK HZ
 go_wp2_with fail
 refine con.mono ?_
 rintro e w3 ⟨rfl,S3,hb⟩
 clear con
 replace TX:=TX.next hb
 replace PX:=PX.next hb
 replace EL:=EL.next hb
 have hs2:=hA.size
 replace hA:=chain hA hb
 clear hb DX CX
 have con:=evalT_at ts z p q ta tc (some ⟨w2.heap.size,0,none⟩) z.length w3 TX S3.dt PX HK.out
 rw [EV.out,HEZ.out] at con
 clear EV HEZ
 unfold plV at con
 obtain ⟨y0,y1,⟨y2,y3,y4,y5,y6,y7⟩,y8,y9,y10⟩:=EL.el
 simp only [Nat.zero_add] at y1 y2 y3 y4 y5 y6 y7 y8 y9 y10
 go_wp2_with fail
 refine con.mono ?_
 rintro e w4 ⟨v4,rfl,O4,hb⟩
 clear con y0 y1 y2 y3 y4 y5 y6 y7 y8 y9 y10 EL
 have S4:=S3.next hb
 replace hA:=chain hA hb
 obtain ⟨a4,c4,rfl,_,n4⟩:=O4.zs2
 have hs3:=S3.lt
 have O5:=O4.mono (show w.heap.size≤w3.heap.size by omega)
 generalize w2.heap.size=gb at *
 clear hb O4 S3
 go_wp2_with fail
 exact bodyPost_ret (v:=.tuple #[.slice (some ⟨gb,0,none⟩) z.length z.length,.slice a4 ez.length c4,.int .i64 0]) (by simp [results,Tryz.results61,go_sem]) rfl ⟨gb,a4,c4,rfl,hs2,S4,O5,n4,hA⟩
end Go.Proofs.YtoefpglknaiaeaaGreat
/- keep's Keep, where nothing is wrong. -/
namespace Go.Proofs.YtoefpglknaiaeaaGreat
open Go.RowKit Go.Lib Go.Shelf

/-- Tables' rows after some changes. -/
def keepD (data:List (List Zp)) (chs:List (List (List Zp))):Nat→List (List Zp)
 | 0=>data
 | j+1=>applyZ (keepD data chs j) (chs.getD j [])
/-- Changes that may be made, one after the other. -/
structure KOk (ts:List (List Int)) (p:Pl) (data:List (List Zp)) (chs:List (List (List Zp))):Prop where
 ev:evE ts data p=0
 len:chs.length≤30
 step:∀ (i:Nat) (h:i<chs.length),AfOk ts p (keepD data chs i) chs[i]
theorem keepD_succ {data:List (List Zp)} {chs:List (List (List Zp))} {j:Nat} (h:j<chs.length):keepD data chs (j+1)=applyZ (keepD data chs j) chs[j]:=by
 rw [keepD,List.getD_eq_getElem?_getD,List.getElem?_eq_getElem h]
 rfl
theorem KOk.evs {ts:List (List Int)} {p:Pl} {data:List (List Zp)} {chs:List (List (List Zp))} (h:KOk ts p data chs):∀ (i:Nat),i≤chs.length→evE ts (keepD data chs i) p=0
 | 0,_=>h.ev
 | i+1,hi=>by rw [keepD_succ (by omega)]; exact (h.step i (by omega)).ev
theorem ev_len {ts:List (List Int)} {p:Pl} {data:List (List Zp)} (h:evE ts data p=0):ts.length≤8∧data.length≤8:=by
 obtain ⟨l1,l2,_,_⟩:=ev_inv h
 have:=tabsL (lookE_ok l1).1
 exact ⟨this,by rw [(dataE_ok l2).1]; exact this⟩
def keepZ (ts:List (List Int)) (p:Pl) (data:List (List Zp)) (chs:List (List (List Zp))) (n:Nat):List (List Zp):=(List.range n).map fun i=>evZ ts (keepD data chs i) p
theorem keepZ_len (ts:List (List Int)) (p:Pl) (data:List (List Zp)) (chs:List (List (List Zp))) (n:Nat):(keepZ ts p data chs n).length=n:=by simp [keepZ]
theorem keepZ_succ (ts:List (List Int)) (p:Pl) (data:List (List Zp)) (chs:List (List (List Zp))) (n:Nat):keepZ ts p data chs (n+1)=keepZ ts p data chs n ++ [evZ ts (keepD data chs n) p]:=by simp [keepZ,List.range_succ]
theorem keepZ_get {ts:List (List Int)} {p:Pl} {data:List (List Zp)} {chs:List (List (List Zp))} {n i:Nat} (h:i<(keepZ ts p data chs n).length):(keepZ ts p data chs n)[i]=evZ ts (keepD data chs i) p:=by simp [keepZ]
/-- Lists of changes. -/
def ChAt (W:World) (a:Option Addr) (l:List (List (List Zp))):Prop:=l = []∨∃ (b off:Nat) (ai:Nat→Option Addr) (ci:Nat→Nat),a=some ⟨b,off,none⟩∧b<W.heap.size∧∀ (i:Nat) (h:i<l.length),W.cell? ⟨b,off+i,none⟩=some (.slice (ai i) l[i].length (ci i))∧DtAt W (ai i) l[i]
theorem ChAt.next {W w1:World} {a:Option Addr} {l:List (List (List Zp))} (h:ChAt W a l) (hb:Below W.heap.size W w1):ChAt w1 a l:=by
 rcases h with h | ⟨b,off,ai,ci,e,hlt,h⟩
 ·exact .inl h
 ·exact .inr ⟨b,off,ai,ci,e,Nat.lt_of_lt_of_le hlt hb.size,fun i hi=>⟨(hb.cell (p:=⟨b,_,none⟩) hlt).trans (h i hi).1,(h i hi).2.next hb⟩⟩
theorem ChAt.elem {W:World} {a:Option Addr} {l:List (List (List Zp))} (h:ChAt W a l) {i:Nat} (hi:i<l.length):∃ b off ai ci,a=some ⟨b,off,none⟩∧b<W.heap.size∧W.cell? ⟨b,off+i,none⟩=some (.slice ai l[i].length ci)∧DtAt W ai l[i]:=by
 rcases h with h | ⟨b,off,ai,ci,e,hlt,h⟩
 ·subst h; simp at hi
 ·exact ⟨b,off,ai i,ci i,e,hlt,h i hi⟩
theorem same_set {w:World} {g i:Nat} {cs:Array Value} {T:TypeId} {v:Value} (h:w.heap[g]? = some (.cells cs T (0,0))) (hc:cs.setIfInBounds i v=cs):Below w.heap.size w (w.setCell ⟨g,i,none⟩ v):=by
 have X:=(BelowX.refl g w).set i v
 refine ⟨X.1.os,X.1.tape,X.1.output,X.1.size,fun k hk=>?_⟩
 by_cases e:k=g
 ·subst e
  rw [heap_setCell_same w k i cs T v h,hc,h]
 ·exact X.2 k hk e
theorem Stays.mv {g g':Nat} {W W1:World} {R:World→Prop} (h:Stays g W R) (hl:g<W.heap.size) (hg:W.grownBy W1 (some g)) (hd:g'=g∨W.heap.size≤g'):Stays g' W1 R:=by
 rcases hd with rfl | hd
 ·exact h.far (grown_X hg hl)
 ·exact h.grow hl (grown_X hg hl) hd
theorem KL.one {w:World} {B:Nat} {a:Option Addr} {z:List Zp} {c:Nat} (hz:OwnZ B w (.slice a z.length c) z) (hn:a=none→c=0):KL w.heap.size w.heap.size (w.alloc (.cells #[.slice a z.length c] 38)) 1 [z] [.slice a z.length c]:=by
 have hb:Below w.heap.size w (w.alloc (.cells #[.slice a z.length c] 38)):=(Below.refl _ _).alloc (Nat.le_refl _) _
 have q:=heap_new w #[.slice a z.length c] 38
 refine ⟨⟨rfl,.inr ⟨w.heap.size,1,#[.slice a z.length c],rfl,Nat.le_refl _,q,Nat.le_refl _,by decide,rfl,rfl⟩⟩,fun i hi=>?_⟩
 match i,hi with
 | 0,_ =>
  refine ⟨a,c,rfl,fun W' hb'=>?_,hn⟩
  obtain ⟨a',c',e',hz',_⟩:=((hz.next hb).stays q (by decide) (by decide) W' hb').zs2
  injection e' with e1 _ _
  rw [e1]
  exact hz'

set_option maxRecDepth 100000 in
set_option maxHeartbeats 16000000 in
theorem keep_at (ts:List (List Int)) (p:Pl) (q:Pw) (data:List (List Zp)) (chs:List (List (List Zp))) (ta:Option Addr) (tc:Nat) (da:Option Addr) (dc:Nat) (ha:Option Addr) (hc:Nat) (w:World) (hT:TbAt w.heap.size w ta ts) (hp:PlB w.heap.size w p q) (hk:PlOk p) (hD:DtAt w da data) (hC:ChAt w ha chs) (hok:KOk ts p data chs) :
  Calls Tryz.prog 38 #[.slice ta ts.length tc,plV p q,.slice da data.length dc,.slice ha chs.length hc] w fun e w'=>∃ gk cap base cs,e = .returned (.tuple #[.slice (some ⟨gk,0,none⟩) (chs.length+1) cap,.agg #[.int .i64 0,.int .i64 0]])∧KL gk base w' cap (keepZ ts p data chs (chs.length+1)) cs∧Below w.heap.size w w':=by
 obtain ⟨i0,hi,hj0,hj1,hj2⟩:=info_parts infoS
 have TX:TbX w ta ts:=hT
 have PX:PlX w p q:=hp
 have DX:=hD
 have CX:=hC
 have HK:Hid (PlOk p):=hk
 have OK:Hid (KOk ts p data chs):=hok
 have l30:=hok.len
 have hA:Below w.heap.size w w:=Below.refl _ _
 clear hT hp hD hC hk hok
 have hb1:Below w.heap.size w (w.alloc (.cells #[.int .i64 p.k,.int .i64 p.n,.int .i64 p.x.k,.int .i64 p.x.v.1,.int .i64 p.x.v.2.1,.string p.x.v.2.2,.int .i64 p.x.c,.slice q.xa p.x.ks.length q.xc,.slice q.sa p.xs.length q.sc,.slice q.ga p.gs.length q.gc,.slice q.ka p.ks.length q.kc] 31)):=(Below.refl _ _).alloc (Nat.le_refl _) _
 have EL1:ElX (w.alloc (.cells #[.int .i64 p.k,.int .i64 p.n,.int .i64 p.x.k,.int .i64 p.x.v.1,.int .i64 p.x.v.2.1,.string p.x.v.2.2,.int .i64 p.x.c,.slice q.xa p.x.ks.length q.xc,.slice q.sa p.xs.length q.sc,.slice q.ga p.gs.length q.gc,.slice q.ka p.ks.length q.kc] 31)) w.heap.size p q:=⟨Elv.new w p q 31,by simp⟩
 have z1:(w.alloc (.cells #[.int .i64 p.k,.int .i64 p.n,.int .i64 p.x.k,.int .i64 p.x.v.1,.int .i64 p.x.v.2.1,.string p.x.v.2.2,.int .i64 p.x.c,.slice q.xa p.x.ks.length q.xc,.slice q.sa p.xs.length q.sc,.slice q.ga p.gs.length q.gc,.slice q.ka p.ks.length q.kc] 31)).heap.size=w.heap.size+1:=by simp
 have hb2:Below (w.alloc (.cells #[.int .i64 p.k,.int .i64 p.n,.int .i64 p.x.k,.int .i64 p.x.v.1,.int .i64 p.x.v.2.1,.string p.x.v.2.2,.int .i64 p.x.c,.slice q.xa p.x.ks.length q.xc,.slice q.sa p.xs.length q.sc,.slice q.ga p.gs.length q.gc,.slice q.ka p.ks.length q.kc] 31)).heap.size (w.alloc (.cells #[.int .i64 p.k,.int .i64 p.n,.int .i64 p.x.k,.int .i64 p.x.v.1,.int .i64 p.x.v.2.1,.string p.x.v.2.2,.int .i64 p.x.c,.slice q.xa p.x.ks.length q.xc,.slice q.sa p.xs.length q.sc,.slice q.ga p.gs.length q.gc,.slice q.ka p.ks.length q.kc] 31)) ((w.alloc (.cells #[.int .i64 p.k,.int .i64 p.n,.int .i64 p.x.k,.int .i64 p.x.v.1,.int .i64 p.x.v.2.1,.string p.x.v.2.2,.int .i64 p.x.c,.slice q.xa p.x.ks.length q.xc,.slice q.sa p.xs.length q.sc,.slice q.ga p.gs.length q.gc,.slice q.ka p.ks.length q.kc] 31)).alloc (.cells #[.int .i64 0,.int .i64 0] 67)):=(Below.refl _ _).alloc (Nat.le_refl _) _
 have EL:=EL1.next hb2
 have QF:=heap_new (w.alloc (.cells #[.int .i64 p.k,.int .i64 p.n,.int .i64 p.x.k,.int .i64 p.x.v.1,.int .i64 p.x.v.2.1,.string p.x.v.2.2,.int .i64 p.x.c,.slice q.xa p.x.ks.length q.xc,.slice q.sa p.xs.length q.sc,.slice q.ga p.gs.length q.gc,.slice q.ka p.ks.length q.kc] 31)) #[.int .i64 0,.int .i64 0] 67
 rw [z1] at QF
 have hb:=chain hb1 hb2
 replace TX:=TX.next hb
 replace PX:=PX.next hb
 replace DX:=DX.next hb
 replace CX:=CX.next hb
 replace hA:=chain hA hb
 unfold plV
 go_enter Tryz.func38,Tryz.ntmps38
 go_upto_region 1 with fail
 generalize (w.alloc (.cells #[.int .i64 p.k,.int .i64 p.n,.int .i64 p.x.k,.int .i64 p.x.v.1,.int .i64 p.x.v.2.1,.string p.x.v.2.2,.int .i64 p.x.c,.slice q.xa p.x.ks.length q.xc,.slice q.sa p.xs.length q.sc,.slice q.ga p.gs.length q.gc,.slice q.ka p.ks.length q.kc] 31)).alloc (.cells #[.int .i64 0,.int .i64 0] 67)=w2 at *
 clear hb hb1 hb2 EL1 z1
 have con:=evalT_at ts data p q ta tc da dc w2 TX DX PX HK.out
 rw [OK.out.ev] at con
 generalize hz:evZ ts data p=z0 at con
 have HZ0:Hid (evZ ts data p=z0):=hz
 clear hz
 unfold plV at con
 obtain ⟨y0,y1,⟨y2,y3,y4,y5,y6,y7⟩,y8,y9,y10⟩:=EL.el
 simp only [Nat.zero_add] at y1 y2 y3 y4 y5 y6 y7 y8 y9 y10
 go_wp2_with fail
 refine con.mono ?_
 rintro e w3 ⟨v3,rfl,O3,hb⟩
 clear con y0 y1 y2 y3 y4 y5 y6 y7 y8 y9 y10
 obtain ⟨a3,c3,rfl,_,n3⟩:=O3.zs2
 replace TX:=TX.next hb
 replace PX:=PX.next hb
 replace DX:=DX.next hb
 replace CX:=CX.next hb
 replace EL:=EL.next hb
 replace QF:=(hb.block _ (lt_of_heap QF)).trans QF
 replace hA:=chain hA hb
 clear hb
 have l30z:¬ (30:Int)<(chs.length:Int):=by omega
 have hal:Below w3.heap.size w3 (w3.alloc (.cells #[.slice a3 z0.length c3] 38)):=(Below.refl _ _).alloc (Nat.le_refl _) _
 have K0:=KL.one O3 n3
 have D0:Stays w3.heap.size (w3.alloc (.cells #[.slice a3 z0.length c3] 38)) fun W=>DtAt W da data:=Stays.old DX hal (Nat.le_refl _)
 have HKZ:Hid ([z0]=keepZ ts p data chs (0+1)):=by show _=_; rw [keepZ_succ,← HZ0.out]; rfl
 rw [HKZ.out] at K0
 clear O3 HZ0 HKZ
 go_upto_region 7 with fail
 generalize w3.alloc (.cells #[.slice a3 z0.length c3] 38)=w4 at *
 go_wp2_with fail
 go_loopw [2,12,37] (fun d v i wr=>∃ (j:Nat) (aj:Option Addr) (cj gk cap:Nat) (cs:List Value),j≤chs.length∧i = .int .i64 j∧d = .slice aj (keepD data chs j).length cj∧v = .slice (some ⟨gk,0,none⟩) (j+1) cap∧Stays gk wr (fun W=>DtAt W aj (keepD data chs j))∧KL gk w3.heap.size wr cap (keepZ ts p data chs (j+1)) cs∧Below w3.heap.size w3 wr) (fun _ _ i _=>chs.length - (intOf i).toNat)
 case atStart=>exact ⟨0,da,dc,w3.heap.size,1,_,Nat.zero_le _,rfl,rfl,rfl,D0,K0,hal⟩
 case round =>
  obtain ⟨j,aj,cj,gk,cap,cs,hj,rfl,rfl,rfl,DJ,KJ,hb⟩:=hrel
  clear D0 K0 hal
  by_cases hlt:j<chs.length
  ·obtain ⟨b,off,ai,ci,rfl,hbl,x0,dX⟩:=(CX.next hb).elem hlt
   have hjz:(j:Int)<(chs.length:Int):=by omega
   have hl:=ev_len (OK.out.evs j (by omega))
   have con:=after_at ts p q (keepD data chs j) chs[j] ta tc aj cj ai ci wr (TX.next hb) (PX.next hb) HK.out DJ.now dX hl.1 (by omega) (OK.out.step j hlt)
   have e1:Hid (applyZ (keepD data chs j) chs[j]=keepD data chs (j+1)):=(keepD_succ hlt).symm
   rw [e1.out] at con
   have EK:=EL.next hb
   have hgl:=KJ.lt
   have HZs:Hid (keepZ ts p data chs (j+1+1)=keepZ ts p data chs (j+1) ++ [evZ ts (keepD data chs (j+1)) p]):=keepZ_succ ts p data chs (j+1)
   have HLz:Hid ((keepZ ts p data chs (j+1)).length=j+1):=keepZ_len ts p data chs (j+1)
   generalize hdn:keepD data chs (j+1)=dn at *
   have HDn:Hid (keepD data chs (j+1)=dn):=hdn
   clear hdn e1
   generalize evZ ts dn p=zn at *
   unfold plV at con
   obtain ⟨y0,y1,⟨y2,y3,y4,y5,y6,y7⟩,y8,y9,y10⟩:=EK.el
   simp only [Nat.zero_add] at y1 y2 y3 y4 y5 y6 y7 y8 y9 y10
   go_wp2_with fail
   refine con.mono ?_
   rintro e w5 ⟨b5,a5,c5,rfl,hb5,S5,O5,n5,hbb⟩
   clear con y0 y1 y2 y3 y4 y5 y6 y7 y8 y9 y10 EK x0
   have hal:Below w5.heap.size w5 (w5.alloc (.cells #[.slice a5 zn.length c5] 38)):=(Below.refl _ _).alloc (Nat.le_refl _) _
   have q6:=cell_of (i:=0) (heap_new w5 #[.slice a5 zn.length c5] 38) rfl
   have hnews:∀ jj u,[Value.slice a5 zn.length c5][jj]? = some u→(w5.alloc (.cells #[.slice a5 zn.length c5] 38)).cell? ((⟨w5.heap.size,0,none⟩:Addr).add jj)=some u:=fun jj u hu=>by
    rw [addr_addX]
    cases jj with
    | zero=>exact q6.trans hu
    | succ n=>simp at hu
   have h56:=chain hbb hal
   have K6:=KJ.next h56
   have O6:=O5.next hal
   have S6:=S5.next hal
   obtain ⟨cq,hq⟩:=K6.heap
   have D6:=S6.stays hq (by decide) (by decide) (show b5≠gk by omega)
   have hb6:=chain hb h56
   have o6:=K6.own
   rw [HLz.out] at o6
   have hgl6:=K6.lt
   clear DJ KJ hbb hal h56 S5 O5 S6
   go_upto_region 14 with (at_builtin; refine wpList_append_apart rfl _ _ 32 rfl w3.heap.size 38 i0 _ 1 24 Tryz.underlying32 hi hj0 hj1 hj2 rfl (by decide) gk (j+1) cap cs rfl o6 ⟨w5.heap.size,0,none⟩ 1 1 [.slice a5 zn.length c5] rfl rfl hnews (fun u hu=>by simp only [List.mem_singleton] at hu; subst hu; rfl) (by unfold maxLen; omega) (by omega) hb6.size ?_)
   intro g' cap' w7 ho7 hg7 hd7
   replace hd7:g'=gk∨(w5.alloc (.cells #[.slice a5 zn.length c5] 38)).heap.size≤g':=by simpa using hd7
   have K7:=K6.push O6 n5 (by rw [HLz.out]; exact ho7) hg7 hd7
   rw [← HZs.out] at K7
   have D7:=D6.mv hgl6 hg7 hd7
   have hb7:=hb6.grown hg7 hb6.size (fun k hk=>by cases hk; exact (o6.lt gk rfl).1)
   clear K6 O6 D6 ho7 hg7 hd7 hb6 hq o6 hnews q6
   go_wp2_with fail
   go_roundw
   case rel=>exact ⟨j+1,some ⟨b5,0,none⟩,dn.length,g',cap',_,by omega,by go_num,by rw [HDn.out],rfl,by rw [HDn.out]; exact D7,K7,hb7⟩
   case measure=>simp [intOf]; omega
  ·have e:j=chs.length:=by omega
   have hjn:¬ (j:Int)<(chs.length:Int):=by omega
   subst e
   have QR:=(hb.block _ (lt_of_heap QF)).trans QF
   have f0:=cell_of (i:=0) QR rfl
   have f1:=cell_of (i:=1) QR rfl
   have z0:=frozen_of_row wr (w.heap.size+1) 0 _ _ QR
   have z1:=frozen_of_row wr (w.heap.size+1) 1 _ _ QR
   have s1:=same_set (i:=0) (v:=.int .i64 0) QR rfl
   have QR1:=(s1.block _ (lt_of_heap QR)).trans QR
   have s2:=same_set (i:=1) (v:=.int .i64 0) QR1 rfl
   have KF:=(KJ.next s1).next s2
   have hF:=chain hA (chain hb (chain s1 s2))
   have g0:=cell_of (i:=0) ((s2.block _ (lt_of_heap QR1)).trans QR1) rfl
   have g1:=cell_of (i:=1) ((s2.block _ (lt_of_heap QR1)).trans QR1) rfl
   clear DJ KJ s1 s2 QR QR1
   go_wp2_with fail
   exact bodyPost_ret (v:=.tuple #[.slice (some ⟨gk,0,none⟩) (chs.length+1) cap,.agg #[.int .i64 0,.int .i64 0]]) (by simp [results,Tryz.results38,go_sem,g0,g1]) rfl ⟨gk,cap,rfl,⟨w3.heap.size,cs,KF⟩,hF⟩
end Go.Proofs.YtoefpglknaiaeaaGreat
/- The walk of the document's Fits. -/
namespace Go.Proofs.YtoefpglknaiaeaaGreat
open Go.RowKit

set_option maxHeartbeats 2000000 in
theorem refFits_at (cols:List Int) (row:List Vl) (ca:Option Addr) (ccap:Nat) (ra:Option Addr) (rcap:Nat) (w:World) (hc:IsAt w.heap.size w ca cols) (hs:SlAt w ra row) :
  Calls Tryz.prog 86 #[.slice ca cols.length ccap,.slice ra row.length rcap] w fun e w'=>e = .returned (.int .i64 (fitsL cols row))∧Below w.heap.size w w':=by
 have hl:=hs.1
 unfold maxLen at hl
 generalize hr:fitsL cols row=r
 have HR:Hid (fitsL cols row=r):=hr
 clear hr
 by_cases hlen:row.length=cols.length
 ·have HG:Hid (fitsG cols row=r):=by show fitsG cols row=r; rw [← HR.out,fitsL,if_neg (by simp [hlen])]
  have HL:Hid (row.length=cols.length):=hlen
  have q:((cols.length:Int) != (row.length:Int))=false:=by simp; omega
  clear HR hlen
  go_enter Tryz.func86,Tryz.ntmps86
  go_wp2_with fail
  go_loopw [14] (fun i wr=>∃ j:Nat,j≤row.length∧i = .int .i64 j∧Hid (fitsG cols row=fitsG (cols.drop j) (row.drop j))∧Below w.heap.size w wr) (fun i _=>row.length - (intOf i).toNat)
  case atStart=>exact ⟨0,Nat.zero_le _,rfl,rfl,Below.refl _ _⟩
  case round =>
   obtain ⟨j,hj,rfl,HE,hb⟩:=hrel
   have hz:=hb.size
   by_cases hlt:j<row.length
   ·have hlt':j<cols.length:=by have:=HL.out; omega
    obtain ⟨b,off,rfl,hbl,r0,r1,r2⟩:=(hs.next hb).elem hlt
    obtain ⟨b',off',rfl,hbl',c0⟩:=(hc.next hb (Nat.le_refl _)).elem hlt'
    generalize hv:row[j]=v at *
    generalize hcj:cols[j]=cj at *
    have HV:Hid (row[j]=v):=hv
    have HC:Hid (cols[j]=cj):=hcj
    clear hv hcj
    obtain ⟨k,n,s⟩:=v
    go_wp2_with fail
    refine (refWrong_any _ _ _ _).mono ?_
    rintro e w1 ⟨rfl,hb1⟩
    have hb1':=chain hb hb1
    have d0:=(hb1.cell (p:=⟨b,off+j*3,none⟩) hbl).trans r0
    have c1:=(hb1.cell (p:=⟨b',off'+j,none⟩) (by show b'<_; omega)).trans c0
    clear r0 r1 r2 c0
    by_cases hw:wrongF k n s=0
    ·rw [hw]
     have HW:Hid (wrongP row[j]=0):=by show wrongP row[j]=0; rw [HV.out]; exact hw
     clear hw
     have p0:=past_cell d0
     have p1:=past_cell c1
     haveI:Nonempty (Past w1):=⟨⟨_,Below.refl _ _⟩⟩
     by_cases kc:k=cj
     ·subst kc
      have HN:Hid (fitsG (cols.drop j) (row.drop j)=fitsG (cols.drop (j+1)) (row.drop (j+1))):=fitsG_next cols row j hlt hlt' HW.out (.inr (by rw [HV.out,HC.out]))
      go_wp2_with fail
      refine wp_region_past (by kernel_rfl) (by kernel_rfl) ?_
      repeat (go_big_quiet_step (fail))
      refine wpQuiet_nil ?_
      rintro w2 ⟨⟨v2,hb2⟩,h2⟩
      obtain rfl:w2=v2:=h2
      clear p0 p1 d0 c1
      go_wp2_with fail
      go_roundw
      case rel=>exact ⟨j+1,by omega,by go_num,HE.out.trans HN.out,chain hb1' hb2⟩
      case measure=>simp [intOf]; omega
     have q2:(k != cj)=true:=by simpa using kc
     by_cases k1:k=1
     ·subst k1
      have HN:Hid (fitsG (cols.drop j) (row.drop j)=fitsG (cols.drop (j+1)) (row.drop (j+1))):=fitsG_next cols row j hlt hlt' HW.out (.inl (by rw [HV.out]))
      go_wp2_with fail
      refine wp_region_past (by kernel_rfl) (by kernel_rfl) ?_
      repeat (go_big_quiet_step (fail))
      refine wpQuiet_nil ?_
      rintro w2 ⟨⟨v2,hb2⟩,h2⟩
      obtain rfl:w2=v2:=h2
      clear p0 p1 d0 c1
      go_wp2_with fail
      go_roundw
      case rel=>exact ⟨j+1,by omega,by go_num,HE.out.trans HN.out,chain hb1' hb2⟩
      case measure=>simp [intOf]; omega
     have q1:(k != 1)=true:=by simpa using k1
     have er:r=9:=by rw [← HG.out,HE.out,fitsG_type cols row j hlt hlt' HW.out (by rw [HV.out]; exact k1) (by rw [HV.out,HC.out]; exact kc)]
     subst er
     clear HG HE
     go_wp2_with fail
     refine wp_region_past (by kernel_rfl) (by kernel_rfl) ?_
     repeat (go_big_quiet_step (fail))
     refine wpQuiet_nil ?_
     rintro w2 ⟨⟨v2,hb2⟩,h2⟩
     obtain rfl:w2=v2:=h2
     clear p0 p1 d0 c1
     go_wp2_with fail
     go_ret
     exact ⟨rfl,chain hb1' hb2⟩
    ·have er:r=wrongF k n s:=by rw [← HG.out,HE.out,fitsG_wrong cols row j hlt hlt' (by rw [HV.out]; exact hw),HV.out]; rfl
     subst er
     clear HG HE
     have q3:(wrongF k n s != 0)=true:=by simpa using hw
     go_wp2_with fail
     go_ret
     exact ⟨rfl,hb1'⟩
   ·have er:r=0:=by rw [← HG.out,HE.out,fitsG_end cols row j (by omega)]
    subst er
    clear HG HE
    go_wp2_with fail
    go_ret
    exact ⟨rfl,hb⟩
 ·have er:r=8:=by rw [← HR.out,fitsL,if_pos hlen]
  subst er
  have q:((cols.length:Int) != (row.length:Int))=true:=by simp; omega
  clear HR
  go_enter Tryz.func86,Tryz.ntmps86
  go_wp2_with fail
  go_ret
  exact ⟨rfl,Below.refl _ _⟩
end Go.Proofs.YtoefpglknaiaeaaGreat
/- For the document's answer: rows of old and of new memory in a slice of the call's own; the walk of its Bare. -/
namespace Go.Proofs.YtoefpglknaiaeaaGreat
open Go.RowKit Go.Lib Go.Shelf

/-- A row's values lie below B, or in a block of values. -/
def Safe (B:Nat) (W:World) (a:Option Addr) (r:List Vl):Prop:=r = []∨TyAt W a∨∀ b off,a=some ⟨b,off,none⟩→b<B
theorem Safe.next {B:Nat} {W w1:World} {a:Option Addr} {r:List Vl} (h:Safe B W a r) (hb:Below W.heap.size W w1):Safe B w1 a r:=by
 rcases h with h | h | h
 ·exact .inl h
 ·exact .inr (.inl (h.next hb))
 ·exact .inr (.inr h)
def EncM (B:Nat) (W:World) (xs:List Value) (l:List Zp):Prop :=
 xs.length=l.length*2∧∀ (i:Nat) (h:i<l.length),∃ a cap,xs[i*2]? = some (.slice a l[i].1.length cap)∧xs[i*2+1]? = some (.int .i64 l[i].2)∧SlAt W a l[i].1∧Safe B W a l[i].1
theorem EncM.next {B:Nat} {W w1:World} {xs:List Value} {l:List Zp} (h:EncM B W xs l) (hb:Below W.heap.size W w1):EncM B w1 xs l :=
 ⟨h.1,fun i hi=>by
  obtain ⟨a,cap,h1,h2,h3,h4⟩:=h.2 i hi
  exact ⟨a,cap,h1,h2,h3.next hb,h4.next hb⟩⟩
theorem EncM.append {B:Nat} {W:World} {xs ys:List Value} {l t:List Zp} (h:EncM B W xs l) (k:EncM B W ys t):EncM B W (xs ++ ys) (l ++ t):=by
 have lx:=h.1
 have ly:=k.1
 refine ⟨by simp [lx,ly]; omega,fun i hi=>?_⟩
 by_cases hi':i<l.length
 ·obtain ⟨a',c',h1,h2,h3⟩:=h.2 i hi'
  rw [List.getElem_append_left hi']
  refine ⟨a',c',?_,?_,h3⟩
  ·rw [List.getElem?_append_left (by omega),h1]
  ·rw [List.getElem?_append_left (by omega),h2]
 ·have hi2:i - l.length<t.length:=by simp at hi; omega
  obtain ⟨a',c',h1,h2,h3⟩:=k.2 (i - l.length) hi2
  rw [List.getElem_append_right (by omega)]
  refine ⟨a',c',?_,?_,h3⟩
  ·rw [List.getElem?_append_right (by omega),← h1]; congr 1; omega
  ·rw [List.getElem?_append_right (by omega),← h2]; congr 1; omega
/-- A slice of the call's own holds these rows. -/
def OwnM (B:Nat) (W:World) (v:Value) (l:List Zp):Prop:=∃ xs,W.ownsRow B 47 2 v l.length xs∧EncM B W xs l
theorem OwnM.next {B:Nat} {W w1:World} {v:Value} {l:List Zp} (h:OwnM B W v l) (hb:Below W.heap.size W w1):OwnM B w1 v l:=by
 obtain ⟨xs,h1,h2⟩:=h
 exact ⟨xs,own_next h1 hb,h2.next hb⟩
/-- How a slice may lie: nil has no room; there is room for what there is. -/
structure Lie (a:Option Addr) (cap n:Nat):Prop where
 nil:a=none→cap=0
 room:n≤cap
 max:cap≤maxLen
theorem OwnM.zs {B:Nat} {W:World} {v:Value} {l:List Zp} (h:OwnM B W v l):∃ a cap,v = .slice a l.length cap∧ZsAt W a l∧Lie a cap l.length:=by
 obtain ⟨xs,h1,h2⟩:=h
 have h1':=h1
 obtain ⟨hx,h1 | ⟨g,cap,cur,e,hg,hh,hn,hc,hs,ht⟩⟩:=h1
 ·obtain ⟨rfl,h0⟩:=h1
  have:l = []:=List.eq_nil_of_length_eq_zero h0
  subst this
  exact ⟨none,0,rfl,⟨Nat.zero_le _,.inl rfl⟩,fun _=>rfl,by simp,Nat.zero_le _⟩
 ·subst e
  refine ⟨_,cap,rfl,⟨Nat.le_trans hn hc,.inr ⟨g,0,rfl,?_,?_⟩⟩,fun e=>(by cases e),hn,hc⟩
  ·exact (h1'.lt g rfl).2
  ·intro i hi
   obtain ⟨a,cp,e0,e1,e2,e3⟩:=h2.2 i hi
   refine ⟨?_,a,cp,?_,e2⟩
   ·rw [h1'.cellAt _ (by omega),← e1]; congr 1; omega
   ·rw [h1'.cellAt _ (by omega),← e0]; congr 1; omega

/-- Cells that hold bare values. -/
def EncV (xs:List Value) (l:List Vl):Prop:=xs.length=l.length*3∧∀ (i:Nat) (h:i<l.length),xs[i*3]? = some (.int .i64 l[i].1)∧xs[i*3+1]? = some (.int .i64 l[i].2.1)∧xs[i*3+2]? = some (.string l[i].2.2)
theorem EncV.push {xs:List Value} {l:List Vl} (h:EncV xs l) (v:Vl):EncV (xs ++ [.int .i64 v.1,.int .i64 v.2.1,.string v.2.2]) (l ++ [v]):=by
 have lx:=h.1
 refine ⟨by simp [lx]; omega,fun i hi=>?_⟩
 by_cases hi':i<l.length
 ·obtain ⟨h0,h1,h2⟩:=h.2 i hi'
  rw [List.getElem_append_left hi']
  refine ⟨?_,?_,?_⟩
  ·rw [List.getElem?_append_left (by omega),h0]
  ·rw [List.getElem?_append_left (by omega),h1]
  ·rw [List.getElem?_append_left (by omega),h2]
 ·have:i=l.length:=by simp at hi; omega
  subst this
  simp only [List.getElem_concat_length]
  refine ⟨?_,?_,?_⟩
  ·rw [List.getElem?_append_right (by omega)]; simp [lx]
  ·rw [List.getElem?_append_right (by omega)]; simp [lx]
  ·rw [List.getElem?_append_right (by omega)]; simp [lx]
end Go.Proofs.YtoefpglknaiaeaaGreat
/- The walk of the document's Put. -/
namespace Go.Proofs.YtoefpglknaiaeaaGreat
open Go.RowKit Go.Lib Go.Shelf

theorem ZsAt.take {W:World} {a:Option Addr} {z:List Zp} (h:ZsAt W a z) (k:Nat):ZsAt W a (z.take k):=by
 obtain ⟨h0,rfl | ⟨b,off,e,hlt,hr⟩⟩:=h
 ·exact ⟨by simp,.inl (by simp)⟩
 ·refine ⟨by rw [List.length_take]; omega,.inr ⟨b,off,e,hlt,fun i hi=>?_⟩⟩
  rw [List.length_take] at hi
  rw [List.getElem_take]
  exact hr i (by omega)
theorem ZsAt.drop {W:World} {b off:Nat} {z:List Zp} (h:ZsAt W (some ⟨b,off,none⟩) z) (k:Nat):ZsAt W (some ⟨b,off+k*2,none⟩) (z.drop k):=by
 obtain ⟨h0,rfl | ⟨b',off',e,hlt,hr⟩⟩:=h
 ·exact ⟨by simp,.inl (by simp)⟩
 ·injection e with e
  injection e with e1 e2 _
  subst e1 e2
  refine ⟨by rw [List.length_drop]; omega,.inr ⟨b,off+k*2,rfl,hlt,fun i hi=>?_⟩⟩
  rw [List.length_drop] at hi
  rw [List.getElem_drop]
  have:=hr (k+i) (by omega)
  rw [show off+(k+i)*2=off+k*2+i*2 by omega] at this
  exact this

end Go.Proofs.YtoefpglknaiaeaaGreat
/- The walks of the document's Wrong, Fit, Sum, Of and Weight. -/
namespace Go.Proofs.YtoefpglknaiaeaaGreat
open Go.RowKit Go.Lib Go.Shelf

set_option maxRecDepth 100000 in
set_option maxHeartbeats 4000000 in
theorem refWrongZ_at (a:Option Addr) (cap:Nat) (l:List Zp) (w:World) (h:ZsAt w a l) :
  Calls Tryz.prog 80 #[.slice a l.length cap] w fun e w'=>e = .returned (.int .i64 (wrongZ l))∧Below w.heap.size w w':=by
 have hl:=h.1
 unfold maxLen at hl
 by_cases h8:400<l.length
 ·have e:wrongZ l=5:=by simp [wrongZ,h8]
  rw [e]
  clear e
  go_enter Tryz.func80,Tryz.ntmps80
  go_wp2_with fail
  go_ret
  exact ⟨rfl,Below.refl _ _⟩
 ·have e:wrongZ l=goW none l:=by simp [wrongZ,h8]
  rw [e]
  clear e
  go_enter Tryz.func80,Tryz.ntmps80
  go_wp2_with fail
  go_loopw [10] (fun i w1=>∃ k:Nat,k≤l.length∧i = .int .i64 k∧Hid (goW none l=goW (prevOf l k) (l.drop k))∧Hid (∀ t (ht:t<l.length),t<k→wrongRowF l[t].1=0)∧Below w.heap.size w w1) (fun i _=>l.length - (intOf i).toNat)
  case atStart=>exact ⟨0,Nat.zero_le _,rfl,rfl,fun t _ ht=>absurd ht (Nat.not_lt_zero _),Below.refl _ _⟩
  case round =>
   obtain ⟨k,hk,rfl,HC,HA,hb⟩:=hrel
   by_cases hlt:k<l.length
   ·have i0:(0:Int)≤(k:Int):=by omega
    have i4:(k:Int)<(l.length:Int):=by omega
    obtain ⟨b,off,rfl,hbl,c1,ar,cr,c0,sr⟩:=(h.next hb).elem hlt
    have HZ:Hid (ZsAt w (some ⟨b,off,none⟩) l):=h
    clear h
    by_cases hw:wrongRowF l[k].1=0
    ·have Hw:Hid (wrongRowF l[k].1=0):=hw
     clear hw
     go_wp2_with fail
     refine (refRow_at _ _ _ _ sr).mono ?_
     rintro e w1 ⟨rfl,hb1⟩
     rw [Hw.out]
     have hb1':=chain1 hb hb1
     have e1:=(hb1.cell (p:=⟨b,_,none⟩) hbl).trans c1
     have e0:=(hb1.cell (p:=⟨b,_,none⟩) hbl).trans c0
     by_cases h0:l[k].2=0
     ·have HN:Hid (goW none l=3):=HC.out.trans (goW_zero l k hlt Hw.out (.inl h0))
      go_wp2_with fail
      go_ret
      exact ⟨ret_int HN.out.symm,hb1'⟩
     ·have g0:(l[k].2 == 0)=false:=by simpa using h0
      cases h1:inW l[k].2
      ·have HN:Hid (goW none l=3):=HC.out.trans (goW_zero l k hlt Hw.out (.inr h1))
       have H1:Hid (inW l[k].2=false):=h1
       clear h1
       go_wp2_with fail
       refine (refBig_any _ _).mono ?_
       rintro e w2 ⟨rfl,rfl⟩
       rw [H1.out]
       go_wp2_with fail
       go_ret
       exact ⟨ret_int HN.out.symm,hb1'⟩
      ·have H1:Hid (inW l[k].2=true):=h1
       clear h1
       by_cases hp:0<k
       ·obtain ⟨b',off',hh,hbl',⟨d1,ap,cp,d0,sp⟩,-⟩:=(HZ.out.next hb1').elem2 (j:=k - 1) (k:=k) (by omega) hlt
        simp only [Option.some.injEq,Addr.mk.injEq] at hh
        obtain ⟨rfl,rfl,-⟩:=hh
        have sr1:=sr.next hb1
        have j0:(0:Int)<(k:Int):=by omega
        have j1:(0:Int)≤(k:Int) - 1:=by omega
        have j2:(k:Int) - 1<(l.length:Int):=by omega
        have j3:((k:Int) - 1).toNat=k - 1:=by omega
        have p0:=past_cell d0
        have p1:=past_cell e0
        have HR:Hid (rightB (l[k - 1]'(by omega)).1=true):=((wrongRowF_zero _).1 (HA.out (k - 1) (by omega) (by omega))).2
        haveI:Nonempty (Past w1):=⟨⟨w1,Below.refl _ _⟩⟩
        have hbd:=cmpL_bd (l[k - 1]'(by omega)).1 l[k].1
        by_cases hc:0≤cmpL (l[k - 1]'(by omega)).1 l[k].1
        ·have HN:Hid (goW none l=2):=HC.out.trans (goW_form l k hlt Hw.out h0 H1.out hp hc)
         have hcm:(cmpL (l[k - 1]'(by omega)).1 l[k].1 != -1)=true:=by simp; omega
         clear hbd hc
         go_wp2_with fail
         refine (refBig_any _ _).mono ?_
         rintro e w2 ⟨rfl,rfl⟩
         rw [H1.out]
         go_wp2_with fail
         refine wp_region_past (by kernel_rfl) (by kernel_rfl) ?_
         repeat (go_big_quiet_step (first | (go_at_call 114; exact in_past (refRows_at _ _ _ _ _ _ _ (sp.next (Past.ok _)) (sr1.next (Past.ok _)) HR.out))))
         refine wpQuiet_nil ?_
         rintro w3 ⟨⟨v3,hb3⟩,h3⟩
         obtain rfl:w3=v3:=h3
         go_wp2_with fail
         go_ret
         exact ⟨ret_int HN.out.symm,chain1 hb1' hb3⟩
        ·have HN:Hid (goW none l=goW (prevOf l (k+1)) (l.drop (k+1))):=HC.out.trans (goW_next l k hlt Hw.out h0 H1.out (fun _=>hc))
         have hcm:cmpL (l[k - 1]'(by omega)).1 l[k].1 = -1:=by omega
         clear hbd hc
         go_wp2_with fail
         refine (refBig_any _ _).mono ?_
         rintro e w2 ⟨rfl,rfl⟩
         rw [H1.out]
         go_wp2_with fail
         refine wp_region_past (by kernel_rfl) (by kernel_rfl) ?_
         repeat (go_big_quiet_step (first | (go_at_call 114; exact in_past (refRows_at _ _ _ _ _ _ _ (sp.next (Past.ok _)) (sr1.next (Past.ok _)) HR.out))))
         refine wpQuiet_nil ?_
         rintro w3 ⟨⟨v3,hb3⟩,h3⟩
         obtain rfl:w3=v3:=h3
         go_wp2_with fail
         go_roundw
         case rel=>exact ⟨k+1,by omega,by go_num,HN.out,fun t ht htk=>by
          by_cases e:t=k
          ·subst e; exact Hw.out
          ·exact HA.out t ht (by omega),chain1 hb1' hb3⟩
         case measure=>simp [intOf]; omega
       ·have k0:k=0:=by omega
        subst k0
        have HN:Hid (goW none l=goW (prevOf l (0+1)) (l.drop (0+1))):=HC.out.trans (goW_next l 0 hlt Hw.out h0 H1.out (fun h=>absurd h hp))
        haveI:Nonempty (Past w1):=⟨⟨w1,Below.refl _ _⟩⟩
        go_wp2_with fail
        refine (refBig_any _ _).mono ?_
        rintro e w2 ⟨rfl,rfl⟩
        rw [H1.out]
        go_wp2_with fail
        refine wp_region_past (by kernel_rfl) (by kernel_rfl) ?_
        repeat (go_big_quiet_step (fail))
        refine wpQuiet_nil ?_
        rintro w3 ⟨⟨v3,hb3⟩,h3⟩
        obtain rfl:w3=v3:=h3
        go_wp2_with fail
        go_roundw
        case rel=>exact ⟨0+1,by omega,by go_num,HN.out,fun t ht htk=>by
         have:t=0:=by omega
         subst this; exact Hw.out,chain1 hb1' hb3⟩
        case measure=>simp [intOf]; omega
    ·have Hw:Hid (¬ wrongRowF l[k].1=0):=hw
     have hne:(wrongRowF l[k].1 != 0)=true:=by simpa using hw
     have HN:Hid (goW none l=wrongRowF l[k].1):=HC.out.trans (goW_row l k hlt hw)
     clear hw
     go_wp2_with fail
     refine (refRow_at _ _ _ _ sr).mono ?_
     rintro e w1 ⟨rfl,hb1⟩
     go_wp2_with fail
     go_ret
     exact ⟨ret_int HN.out.symm,chain1 hb hb1⟩
   ·go_wp2_with fail
    go_ret
    exact ⟨ret_int (by rw [HC.out,goW_end l k (by omega)]),hb⟩

end Go.Proofs.YtoefpglknaiaeaaGreat
/- The document's answer: what is wrong with the rows of tables. -/
namespace Go.Proofs.YtoefpglknaiaeaaGreat
open Go.RowKit Go.Lib Go.Shelf

set_option maxRecDepth 100000 in
set_option maxHeartbeats 2000000 in
theorem refInput_at (cols:List Int) (ca:Option Addr) (ccap:Nat) (a:Option Addr) (cap:Nat) (l:List Zp) (w:World) (hc:IsAt w.heap.size w ca cols) (h:ZsAt w a l) :
  Calls Tryz.prog 60 #[.slice ca cols.length ccap,.slice a l.length cap] w fun e w'=>e = .returned (.int .i64 (inpE cols l))∧Below w.heap.size w w':=by
 have hl:=h.1
 unfold maxLen at hl
 have hcl:=hc.1
 unfold maxLen at hcl
 by_cases h8:8<cols.length
 ·have e:inpE cols l=5:=by simp [inpE,h8]
  rw [e]
  have hz:(8:Int)<(cols.length:Int):=by omega
  go_enter Tryz.func60,Tryz.ntmps60
  go_wp2_with fail
  go_ret
  exact ⟨rfl,Below.refl _ _⟩
 have hz:¬ (8:Int)<(cols.length:Int):=by omega
 by_cases hw:wrongZ l=0
 ·have e:inpE cols l=fitsZ cols l:=by simp [inpE,h8,hw]
  rw [e]
  clear e
  have Hw:Hid (wrongZ l=0):=hw
  clear hw
  go_enter Tryz.func60,Tryz.ntmps60
  go_wp2_with fail
  refine (refWrongZ_at _ _ _ _ h).mono ?_
  rintro e w1 ⟨rfl,hb1⟩
  rw [Hw.out]
  go_wp2_with fail
  go_loopw [18] (fun i wr=>∃ k:Nat,k≤l.length∧i = .int .i64 k∧Hid (fitsZ cols l=fitsZ cols (l.drop k))∧Below w.heap.size w wr) (fun i _=>l.length - (intOf i).toNat)
  case atStart=>exact ⟨0,Nat.zero_le _,rfl,rfl,hb1⟩
  case round =>
   obtain ⟨k,hk,rfl,HC,hb⟩:=hrel
   have hz:=hb.size
   by_cases hlt:k<l.length
   ·obtain ⟨b,off,rfl,hbl,c1,ar,cr,c0,sr⟩:=(h.next hb).elem hlt
    have con:=refFits_at cols l[k].1 ca ccap ar cr wr ((hc.next hb (Nat.le_refl _)).up hb.size) sr
    have i0:(0:Int)≤(k:Int):=by omega
    have i1:(k:Int)<(l.length:Int):=by omega
    by_cases hw:fitsL cols l[k].1=0
    ·have Hw:Hid (fitsL cols l[k].1=0):=hw
     rw [hw] at con
     clear hw
     go_wp2_with fail
     refine con.mono ?_
     rintro e w2 ⟨rfl,hb2⟩
     go_wp2_with fail
     go_roundw
     case rel=>exact ⟨k+1,by omega,by go_num,HC.out.trans (fitsZ_next cols l k hlt Hw.out),chain hb hb2⟩
     case measure=>simp [intOf]; omega
    ·have HN:Hid (fitsZ cols l=fitsL cols l[k].1):=HC.out.trans (fitsZ_bad cols l k hlt hw)
     have hne:(fitsL cols l[k].1 != 0)=true:=by simpa using hw
     generalize fitsL cols l[k].1=t at *
     go_wp2_with fail
     refine con.mono ?_
     rintro e w2 ⟨rfl,hb2⟩
     go_wp2_with fail
     go_ret
     exact ⟨ret_int HN.out.symm,chain hb hb2⟩
   ·have HN:Hid (fitsZ cols l=0):=HC.out.trans (fitsZ_end cols l k (by omega))
    go_wp2_with fail
    go_ret
    exact ⟨ret_int HN.out.symm,hb⟩
 ·have e:inpE cols l=wrongZ l:=by simp [inpE,h8,hw]
  rw [e]
  have hne:(wrongZ l != 0)=true:=by simpa using hw
  clear e hw
  have con:=refWrongZ_at a cap l w h
  generalize wrongZ l=t at *
  go_enter Tryz.func60,Tryz.ntmps60
  go_wp2_with fail
  refine con.mono ?_
  rintro e w1 ⟨rfl,hb1⟩
  go_wp2_with fail
  go_ret
  exact ⟨rfl,hb1⟩


set_option maxRecDepth 100000 in
set_option maxHeartbeats 4000000 in
theorem refData_at (ts:List (List Int)) (data:List (List Zp)) (ta:Option Addr) (tc:Nat) (a:Option Addr) (cap:Nat) (w:World) (hT:TbAt w.heap.size w ta ts) (hD:DtAt w a data) (hn:data.length≤10000000000000) :
  Calls Tryz.prog 35 #[.slice ta ts.length tc,.slice a data.length cap] w fun e w'=>e = .returned (.int .i64 (dataE ts data))∧Below w.heap.size w w':=by
 generalize hr:dataE ts data=r
 have HR:Hid (dataE ts data=r):=hr
 clear hr
 go_enter Tryz.func35,Tryz.ntmps35
 by_cases hl:data.length=ts.length
 rotate_left
 ·have hne:((ts.length:Int) != (data.length:Int))=true:=by simp; omega
  have e:r=8:=by rw [← HR.out]; unfold dataE; rw [if_pos hl]
  subst e
  go_wp2_with fail
  go_ret
  exact ⟨rfl,Below.refl _ _⟩
 have hne:((ts.length:Int) != (data.length:Int))=false:=by simp; omega
 have HR':Hid (r=datasE (ts.drop 0) (data.drop 0)):=by show _=_; rw [← HR.out]; unfold dataE; rw [if_neg (by simpa using hl)]; rfl
 have hl1:data.length≤ts.length:=by omega
 have hl2:ts.length≤data.length:=by omega
 clear HR hl
 go_wp2_with fail
 clear hne
 go_loopw [14] (fun i wr=>∃ j:Nat,j≤data.length∧i = .int .i64 j∧Hid (r=datasE (ts.drop j) (data.drop j))∧Below w.heap.size w wr) (fun i _=>data.length - (intOf i).toNat)
 case atStart=>exact ⟨0,Nat.zero_le _,rfl,HR',Below.refl _ _⟩
 case round =>
  obtain ⟨j,hj,rfl,HT,hb⟩:=hrel
  by_cases hlt:j<data.length
  ·have hlt':j<ts.length:=by omega
   obtain ⟨b1,o1,ai,ci,rfl,hb1,c1,hi⟩:=(hT.next hb (Nat.le_refl _)).elem hlt'
   obtain ⟨b2,o2,zi,zc,rfl,hb2,c2,hz,_⟩:=(hD.next hb).elem hlt
   have hjz:(j:Int)<(data.length:Int):=by omega
   have hjt:(j:Int)<(ts.length:Int):=by omega
   have hj0:(0:Int)≤(j:Int):=by omega
   have HBad:Hid (¬ inpE ts[j] data[j]=0→r=inpE ts[j] data[j]):=fun c=>HT.out.trans (datasE_bad hlt' hlt c)
   have HOk:Hid (inpE ts[j] data[j]=0→r=datasE (ts.drop (j+1)) (data.drop (j+1))):=fun c=>HT.out.trans (datasE_next hlt' hlt c)
   have con:∀ n:Past wr,Calls Tryz.prog 60 #[.slice ai ts[j].length ci,.slice zi data[j].length zc] n.now fun e w'=>e = .returned (.int .i64 (inpE ts[j] data[j]))∧Below n.now.heap.size n.now w':=fun n=>refInput_at ts[j] ai ci zi zc data[j] n.now (((hi.up hb.size).next n.ok (Nat.le_refl _)).up n.ok.size) (hz.next n.ok)
   clear HT
   generalize inpE ts[j] data[j]=er at *
   have p1:=past_cell c1
   have p2:=past_cell c2
   haveI:Nonempty (Past wr):=⟨⟨_,Below.refl _ _⟩⟩
   go_wp2_with fail
   refine wp_region_past (by kernel_rfl) (by kernel_rfl) ?_
   repeat (go_big_quiet_step (first | (go_at_call 60; exact in_past (con _))))
   refine wpQuiet_nil ?_
   rintro w5 ⟨⟨v5,hb5⟩,h5⟩
   obtain rfl:w5=v5:=h5
   clear p1 p2 this c1 c2 con
   by_cases h0:er=0
   ·have HT':Hid (r=datasE (ts.drop (j+1)) (data.drop (j+1))):=HOk.out h0
    subst h0
    clear HBad HOk
    go_wp2_with fail
    go_roundw
    case rel=>exact ⟨j+1,by omega,by go_num,HT',chain hb hb5⟩
    case measure=>simp [intOf]; omega
   ·have e:r=er:=HBad.out h0
    have h0b:(er != 0)=true:=by simpa using h0
    subst e
    clear HBad HOk
    go_wp2_with fail
    go_ret
    exact ⟨rfl,chain hb hb5⟩
  ·have e:r=0:=by rw [HT.out,datasE_end (by omega)]
   have hjn:¬ (j:Int)<(data.length:Int):=by omega
   subst e
   clear HT
   go_wp2_with fail
   go_ret
   exact ⟨rfl,hb⟩
end Go.Proofs.YtoefpglknaiaeaaGreat
/- The statements' all: tables after each change. -/
namespace Go.Proofs.YtoefpglknaiaeaaGreat
open Go.RowKit Go.Lib Go.Shelf

theorem infoD:(Tryz.prog.info? 32).map (fun i=>(i.zero,i.size,i.bytes))=some (some (.slice none 0 0),1,24):=by kernel_rfl
def keepDs (data:List (List Zp)) (chs:List (List (List Zp))) (n:Nat):List (List (List Zp)):=(List.range n).map (keepD data chs)
theorem keepDs_len (data:List (List Zp)) (chs:List (List (List Zp))) (n:Nat):(keepDs data chs n).length=n:=by simp [keepDs]
theorem keepDs_succ (data:List (List Zp)) (chs:List (List (List Zp))) (n:Nat):keepDs data chs (n+1)=keepDs data chs n ++ [keepD data chs n]:=by simp [keepDs,List.range_succ]
theorem keepDs_get {data:List (List Zp)} {chs:List (List (List Zp))} {n i:Nat} (h:i<(keepDs data chs n).length):(keepDs data chs n)[i]=keepD data chs i:=by simp [keepDs]
/-- Tables' rows in a list of one's own, in block g. -/
structure KT (g base:Nat) (W:World) (cap:Nat) (ds:List (List (List Zp))) (cs:List Value):Prop where
 own:W.ownsRow base 32 1 (.slice (some ⟨g,0,none⟩) ds.length cap) ds.length cs
 at_:∀ (i:Nat) (h:i<ds.length),∃ a c,cs[i]? = some (.slice a ds[i].length c)∧Stays g W (fun W=>DtAt W a ds[i])
theorem KT.heap {g base:Nat} {W:World} {cap:Nat} {ds:List (List (List Zp))} {cs:List Value} (h:KT g base W cap ds cs):∃ c,W.heap[g]? = some (.cells c 32 (0,0)):=by
 obtain ⟨_,⟨e0,_⟩ | ⟨g0,cap0,cur,e0,_,hh,_⟩⟩:=h.own
 ·cases e0
 injection e0 with e1 _ _
 have e1:=congrArg Addr.block (Option.some.inj e1)
 simp only at e1
 subst e1
 exact ⟨cur,hh⟩
theorem KT.lt {g base:Nat} {W:World} {cap:Nat} {ds:List (List (List Zp))} {cs:List Value} (h:KT g base W cap ds cs):g<W.heap.size:=by obtain ⟨c,q⟩:=h.heap; exact lt_of_heap q
theorem KT.next {g base:Nat} {W W1:World} {cap:Nat} {ds:List (List (List Zp))} {cs:List Value} (h:KT g base W cap ds cs) (hb:Below W.heap.size W W1):KT g base W1 cap ds cs :=
 ⟨own_next h.own hb,fun i hi=>by
  obtain ⟨a,c,h1,h2⟩:=h.at_ i hi
  exact ⟨a,c,h1,h2.next h.lt hb⟩⟩
theorem KT.read {g base:Nat} {W:World} {cap:Nat} {ds:List (List (List Zp))} {cs:List Value} (h:KT g base W cap ds cs) {i:Nat} (hi:i<ds.length):∃ a c,W.cell? ⟨g,i,none⟩=some (.slice a ds[i].length c)∧DtAt W a ds[i]:=by
 obtain ⟨a,c,h1,h2⟩:=h.at_ i hi
 refine ⟨a,c,?_,h2.now⟩
 have:=World.ownsRow.cells h.own (g:=g) rfl i _ h1
 rwa [addr_addX,Nat.zero_add] at this
theorem KT.one {w:World} {a:Option Addr} {d:List (List Zp)} {c:Nat} (hd:DtAt w a d):KT w.heap.size w.heap.size (w.alloc (.cells #[.slice a d.length c] 32)) 1 [d] [.slice a d.length c]:=by
 have hb:Below w.heap.size w (w.alloc (.cells #[.slice a d.length c] 32)):=(Below.refl _ _).alloc (Nat.le_refl _) _
 have q:=heap_new w #[.slice a d.length c] 32
 refine ⟨⟨rfl,.inr ⟨w.heap.size,1,#[.slice a d.length c],rfl,Nat.le_refl _,q,Nat.le_refl _,by decide,rfl,rfl⟩⟩,fun i hi=>?_⟩
 match i,hi with
 | 0,_=>exact ⟨a,c,rfl,Stays.old hd hb (Nat.le_refl _)⟩
theorem KT.push {g g' base:Nat} {W W1:World} {cap cap':Nat} {ds:List (List (List Zp))} {cs:List Value} (h:KT g base W cap ds cs) {a:Option Addr} {d:List (List Zp)} {c:Nat} (hz:Stays g W fun W=>DtAt W a d)
  (ho:W1.ownsRow base 32 1 (.slice (some ⟨g',0,none⟩) (ds.length+1) cap') (ds.length+1) (cs ++ [.slice a d.length c])) (hg:W.grownBy W1 (some g)) (hd:g'=g∨W.heap.size≤g'):KT g' base W1 cap' (ds ++ [d]) (cs ++ [.slice a d.length c]):=by
 have hcl:cs.length=ds.length:=by have:=h.own.1; omega
 refine ⟨by rw [List.length_append]; exact ho,fun i hi=>?_⟩
 by_cases e:i<ds.length
 ·obtain ⟨a',c',h1,h2⟩:=h.at_ i e
  rw [List.getElem_append_left e]
  exact ⟨a',c',by rw [List.getElem?_append_left (by omega)]; exact h1,h2.mv h.lt hg hd⟩
 ·have e:i=ds.length:=by simp at hi; omega
  subst e
  refine ⟨a,c,by rw [List.getElem?_append_right (by omega)]; simp [hcl],?_⟩
  simpa using hz.mv h.lt hg hd

/-- What all tells. -/
def AllP (ts:List (List Int)) (p:Pl) (data:List (List Zp)) (chs:List (List (List Zp))) (W:World) (v:Value) (b:Bool):Prop:=b=true→KOk ts p data chs∧∃ gk cap base cs,v = .slice (some ⟨gk,0,none⟩) (chs.length+1) cap∧KT gk base W cap (keepDs data chs (chs.length+1)) cs

set_option maxRecDepth 100000 in
set_option maxHeartbeats 16000000 in
theorem all_at (ts:List (List Int)) (p:Pl) (q:Pw) (data:List (List Zp)) (chs:List (List (List Zp))) (ta:Option Addr) (tc:Nat) (da:Option Addr) (dc:Nat) (ha:Option Addr) (hc:Nat) (w:World) (hT:TbAt w.heap.size w ta ts) (hp:PlB w.heap.size w p q) (hk:PlOk p) (hD:DtAt w da data) (hC:ChAt w ha chs) :
  Calls Tryz.prog 42 #[.slice ta ts.length tc,plV p q,.slice da data.length dc,.slice ha chs.length hc] w fun e w'=>∃ v b,e = .returned (.tuple #[v,.bool b])∧AllP ts p data chs w' v b∧Below w.heap.size w w':=by
 obtain ⟨i0,hi,hj0,hj1,hj2⟩:=info_parts infoD
 have TX:TbX w ta ts:=hT
 have PX:PlX w p q:=hp
 have DX:=hD
 have CX:=hC
 have HK:Hid (PlOk p):=hk
 have hA:Below w.heap.size w w:=Below.refl _ _
 clear hT hp hD hC hk
 have hb:Below w.heap.size w (w.alloc (.cells #[.int .i64 p.k,.int .i64 p.n,.int .i64 p.x.k,.int .i64 p.x.v.1,.int .i64 p.x.v.2.1,.string p.x.v.2.2,.int .i64 p.x.c,.slice q.xa p.x.ks.length q.xc,.slice q.sa p.xs.length q.sc,.slice q.ga p.gs.length q.gc,.slice q.ka p.ks.length q.kc] 31)):=(Below.refl _ _).alloc (Nat.le_refl _) _
 have EL:ElX (w.alloc (.cells #[.int .i64 p.k,.int .i64 p.n,.int .i64 p.x.k,.int .i64 p.x.v.1,.int .i64 p.x.v.2.1,.string p.x.v.2.2,.int .i64 p.x.c,.slice q.xa p.x.ks.length q.xc,.slice q.sa p.xs.length q.sc,.slice q.ga p.gs.length q.gc,.slice q.ka p.ks.length q.kc] 31)) w.heap.size p q:=⟨Elv.new w p q 31,by simp⟩
 replace TX:=TX.next hb
 replace PX:=PX.next hb
 replace DX:=DX.next hb
 replace CX:=CX.next hb
 replace hA:=chain hA hb
 unfold plV
 go_enter Tryz.func42,Tryz.ntmps42
 go_upto_region 1 with fail
 generalize w.alloc (.cells #[.int .i64 p.k,.int .i64 p.n,.int .i64 p.x.k,.int .i64 p.x.v.1,.int .i64 p.x.v.2.1,.string p.x.v.2.2,.int .i64 p.x.c,.slice q.xa p.x.ks.length q.xc,.slice q.sa p.xs.length q.sc,.slice q.ga p.gs.length q.gc,.slice q.ka p.ks.length q.kc] 31)=w2 at *
 clear hb
 have hal:Below w2.heap.size w2 (w2.alloc (.cells #[.slice da data.length dc] 32)):=(Below.refl _ _).alloc (Nat.le_refl _) _
 have T0:=KT.one (c:=dc) DX
 have D0:Stays w2.heap.size (w2.alloc (.cells #[.slice da data.length dc] 32)) fun W=>DtAt W da data:=Stays.old DX hal (Nat.le_refl _)
 go_upto_region 2 with fail
 generalize w2.alloc (.cells #[.slice da data.length dc] 32)=w3 at *
 have con:=evalT_at ts data p q ta tc da dc w3 (TX.next hal) (DX.next hal) (PX.next hal) HK.out
 generalize hq:evE ts data p=e0 at con
 have HE0:Hid (evE ts data p=e0):=hq
 clear hq
 generalize hq:evZ ts data p=z0 at con
 have HZ0:Hid (evZ ts data p=z0):=hq
 clear hq
 have EK:=EL.next hal
 unfold plV at con
 obtain ⟨y0,y1,⟨y2,y3,y4,y5,y6,y7⟩,y8,y9,y10⟩:=EK.el
 simp only [Nat.zero_add] at y1 y2 y3 y4 y5 y6 y7 y8 y9 y10
 go_wp2_with fail
 refine con.mono ?_
 rintro e w4 ⟨v4,rfl,O4,hb⟩
 clear con y0 y1 y2 y3 y4 y5 y6 y7 y8 y9 y10 EK
 obtain ⟨a4,c4,rfl,_,n4⟩:=O4.zs2
 have hA4:=chain hA (chain hal hb)
 dsimp only
 by_cases h0:e0=0
 rotate_left
 ·have hb0:(e0 != 0)=true:=by simpa using h0
  clear HE0 HZ0 O4 T0 D0
  go_wp2_with fail
  exact bodyPost_ret (v:=.tuple #[.slice none 0 0,.bool false]) (by simp [results,Tryz.results42,go_sem]) rfl ⟨_,false,rfl,fun h=>(by cases h),hA4⟩
 subst h0
 by_cases l30:(30:Int)<(chs.length:Int)
 ·clear HE0 HZ0 O4 T0 D0
  go_wp2_with fail
  exact bodyPost_ret (v:=.tuple #[.slice none 0 0,.bool false]) (by simp [results,Tryz.results42,go_sem]) rfl ⟨_,false,rfl,fun h=>(by cases h),hA4⟩
 have hgl0:=T0.lt
 obtain ⟨cq0,hq0⟩:=T0.heap
 have T4:=T0.next hb
 have D4:=D0.next hgl0 hb
 have hq4:=(hb.block _ hgl0).trans hq0
 have Z4:Stays w2.heap.size w4 fun W=>ZsAt W a4 z0:=fun W' hb'=>by
  obtain ⟨a',c',e',hz',_⟩:=(O4.stays hq4 (by decide) (by decide) W' hb').zs2
  injection e' with e1 _ _
  rw [e1]
  exact hz'
 have hb4:=chain hal hb
 have HKD:Hid ([data]=keepDs data chs (0+1)):=rfl
 rw [HKD.out] at T4
 have HZs:Hid (z0=evZ ts (keepD data chs 0) p):=HZ0.out.symm
 clear O4 T0 D0 hq0 hgl0 hb hal HKD HZ0
 go_wp2_with fail
 go_loopw [2,10,11,38] (fun d v z i wr=>∃ (j:Nat) (aj:Option Addr) (cj gk cap:Nat) (cs:List Value) (az:Option Addr) (cz:Nat) (zj:List Zp),j≤chs.length∧i = .int .i64 j∧d = .slice aj (keepD data chs j).length cj∧v = .slice (some ⟨gk,0,none⟩) (j+1) cap∧z = .slice az zj.length cz∧Hid (zj=evZ ts (keepD data chs j) p)∧(az=none→cz=0)∧Stays gk wr (fun W=>ZsAt W az zj)∧Stays gk wr (fun W=>DtAt W aj (keepD data chs j))∧KT gk w2.heap.size wr cap (keepDs data chs (j+1)) cs∧Hid (∀ i (h:i<chs.length),i<j→AfOk ts p (keepD data chs i) chs[i])∧Below w2.heap.size w2 wr) (fun _ _ _ i _=>chs.length - (intOf i).toNat)
 case atStart=>exact ⟨0,da,dc,w2.heap.size,1,_,a4,c4,z0,Nat.zero_le _,rfl,rfl,rfl,rfl,HZs,n4,Z4,D4,T4,fun i _ h=>absurd h (Nat.not_lt_zero _),hb4⟩
 case round =>
  obtain ⟨j,aj,cj,gk,cap,cs,az,cz,zj,hj,rfl,rfl,rfl,rfl,HZj,nz,ZJ,DJ,TJ,HAll,hb⟩:=hrel
  clear T4 D4 Z4 hq4 HZs n4 hA4
  have hA5:=chain hA hb
  by_cases hlt:j<chs.length
  ·obtain ⟨b,off,ai,ci,rfl,hbl,x0,dX⟩:=(CX.next hb).elem hlt
   have hjz:(j:Int)<(chs.length:Int):=by omega
   have hl:ts.length≤8∧(keepD data chs j).length≤8:=by
    cases j with
    | zero=>exact ev_len HE0.out
    | succ n=>rw [keepD_succ (by omega)]; exact ev_len (HAll.out n (by omega) (by omega)).ev
   by_cases ha:applyE (keepD data chs j) chs[j]=0
   rotate_left
   ·have con:=applyT_at (keepD data chs j) chs[j] aj cj ai ci wr DJ.now dX (by omega)
    generalize applyE (keepD data chs j) chs[j]=er at *
    generalize applyZ (keepD data chs j) chs[j]=zr at *
    have hb0:(er != 0)=true:=by simpa using ha
    clear ha
    go_wp2_with fail
    refine con.mono ?_
    rintro e w5 ⟨a5,c5,rfl,_,hbb⟩
    clear con x0
    have hA6:=chain hA5 hbb
    go_wp2_with fail
    exact bodyPost_ret (v:=.tuple #[.slice none 0 0,.bool false]) (by simp [results,Tryz.results42,go_sem]) rfl ⟨_,false,rfl,fun h=>(by cases h),hA6⟩
   have con:=applyS_at (keepD data chs j) chs[j] aj cj ai ci wr DJ.now dX (by omega) ha
   have e1:Hid (applyZ (keepD data chs j) chs[j]=keepD data chs (j+1)):=(keepD_succ hlt).symm
   have hcl:chs[j].length≤8:=by rw [(apply_ok ha).len]; exact hl.2
   have Ha:Hid (applyE (keepD data chs j) chs[j]=0):=ha
   rw [e1.out] at con
   have hgl:=TJ.lt
   have HDs:Hid (keepDs data chs (j+1+1)=keepDs data chs (j+1) ++ [keepD data chs (j+1)]):=keepDs_succ data chs (j+1)
   have HLz:Hid ((keepDs data chs (j+1)).length=j+1):=keepDs_len data chs (j+1)
   generalize hdn:keepD data chs (j+1)=dn at *
   have HDn:Hid (keepD data chs (j+1)=dn):=hdn
   clear hdn ha
   go_wp2_with fail
   refine con.mono ?_
   rintro e w5 ⟨rfl,S5,hbb⟩
   clear con x0
   have hgb:gk<wr.heap.size:=hgl
   obtain ⟨cq,hq⟩:=(TJ.next hbb).heap
   have D5:=S5.stays hq (by decide) (by decide) (show wr.heap.size≠gk by omega)
   have T5:=TJ.next hbb
   have Z5:=ZJ.next hgl hbb
   have X5:=dX.next hbb
   have hb5:=chain hb hbb
   have hA6:=chain hA5 hbb
   clear DJ TJ ZJ S5 hq cq hbb dX
   generalize wr.heap.size=gb at *
   have con:=refData_at ts chs[j] ta tc ai ci w5 (TX.next hb5) X5 (by omega)
   generalize hq:dataE ts chs[j]=dm at con
   have HDm:Hid (dataE ts chs[j]=dm):=hq
   clear hq
   go_wp2_with fail
   refine con.mono ?_
   rintro e w6 ⟨rfl,hbb⟩
   clear con
   have hgl5:=T5.lt
   have D6:=D5.next hgl5 hbb
   have T6:=T5.next hbb
   have Z6:=Z5.next hgl5 hbb
   have hb6:=chain hb5 hbb
   have hA7:=chain hA6 hbb
   clear D5 T5 Z5 X5 hbb hb5 hA6 hgl5
   dsimp only
   by_cases hd:dm=0
   rotate_left
   ·have hb0:(dm != 0)=true:=by simpa using hd
    clear D6 T6 Z6 HDm
    go_wp2_with fail
    exact bodyPost_ret (v:=.tuple #[.slice none 0 0,.bool false]) (by simp [results,Tryz.results42,go_sem]) rfl ⟨_,false,rfl,fun h=>(by cases h),hA7⟩
   subst hd
   have con:=evalT_at ts dn p q ta tc (some ⟨gb,0,none⟩) dn.length w6 (TX.next hb6) D6.now (PX.next hb6) HK.out
   generalize hq:evE ts dn p=e1 at con
   have HE1:Hid (evE ts dn p=e1):=hq
   clear hq
   generalize hq:evZ ts dn p=z1 at con
   have HZ1:Hid (evZ ts dn p=z1):=hq
   clear hq
   have EK:=EL.next hb6
   unfold plV at con
   obtain ⟨y0,y1,⟨y2,y3,y4,y5,y6,y7⟩,y8,y9,y10⟩:=EK.el
   simp only [Nat.zero_add] at y1 y2 y3 y4 y5 y6 y7 y8 y9 y10
   go_wp2_with fail
   refine con.mono ?_
   rintro e w7 ⟨v7,rfl,O7,hbb⟩
   clear con y0 y1 y2 y3 y4 y5 y6 y7 y8 y9 y10 EK
   obtain ⟨a7,c7,rfl,z7,n7⟩:=O7.zs2
   have hgl6:=T6.lt
   have D7:=D6.next hgl6 hbb
   have T7:=T6.next hbb
   have Z7:=Z6.next hgl6 hbb
   have hb7:=chain hb6 hbb
   have hA8:=chain hA7 hbb
   clear D6 T6 Z6 hbb hb6 hA7 hgl6
   dsimp only
   by_cases hd:e1=0
   rotate_left
   ·have hb0:(e1 != 0)=true:=by simpa using hd
    clear D7 T7 Z7 HDm HE1 HZ1 O7 z7
    go_wp2_with fail
    exact bodyPost_ret (v:=.tuple #[.slice none 0 0,.bool false]) (by simp [results,Tryz.results42,go_sem]) rfl ⟨_,false,rfl,fun h=>(by cases h),hA8⟩
   subst hd
   have con:=sub_at a7 az c7 cz z1 zj w7 z7 Z7.now n7
   generalize bothE (-1) z1 zj=e2 at con
   go_wp2_with fail
   refine con.mono ?_
   rintro e w8 ⟨v8,rfl,O8,hbb⟩
   clear con
   obtain ⟨a8,c8,rfl,_,_⟩:=O8.zs2
   have hgl7:=T7.lt
   have D8:=D7.next hgl7 hbb
   have T8:=T7.next hbb
   have hb8:=chain hb7 hbb
   have hA9:=chain hA8 hbb
   have P8:=O7.next hbb
   clear D7 T7 Z7 hbb hb7 hA8 hgl7 O8 O7 z7
   dsimp only
   by_cases hd:e2=0
   rotate_left
   ·have hb0:(e2 != 0)=true:=by simpa using hd
    clear D8 T8 HDm HE1 HZ1 P8
    go_wp2_with fail
    exact bodyPost_ret (v:=.tuple #[.slice none 0 0,.bool false]) (by simp [results,Tryz.results42,go_sem]) rfl ⟨_,false,rfl,fun h=>(by cases h),hA9⟩
   subst hd
   have hal:Below w8.heap.size w8 (w8.alloc (.cells #[.slice (some ⟨gb,0,none⟩) dn.length dn.length] 32)):=(Below.refl _ _).alloc (Nat.le_refl _) _
   have q9:=cell_of (i:=0) (heap_new w8 #[.slice (some ⟨gb,0,none⟩) dn.length dn.length] 32) rfl
   have hnews:∀ jj u,[Value.slice (some ⟨gb,0,none⟩) dn.length dn.length][jj]? = some u→(w8.alloc (.cells #[.slice (some ⟨gb,0,none⟩) dn.length dn.length] 32)).cell? ((⟨w8.heap.size,0,none⟩:Addr).add jj)=some u:=fun jj u hu=>by
    rw [addr_addX]
    cases jj with
    | zero=>exact q9.trans hu
    | succ n=>simp at hu
   have hgl8:=T8.lt
   have T9:=T8.next hal
   have D9:=D8.next hgl8 hal
   have P9:=P8.next hal
   have hb9:=chain hb8 hal
   have o9:=T9.own
   rw [HLz.out] at o9
   have hgl9:=T9.lt
   obtain ⟨cq,hq⟩:=T9.heap
   have Z9:Stays gk (w8.alloc (.cells #[.slice (some ⟨gb,0,none⟩) dn.length dn.length] 32)) fun W=>ZsAt W a7 z1:=fun W' hb'=>by
    obtain ⟨a',c',e',hz',_⟩:=(P9.stays hq (by decide) (by decide) W' hb').zs2
    injection e' with e1 _ _
    rw [e1]
    exact hz'
   have HAn:Hid (∀ i (h:i<chs.length),i<j+1→AfOk ts p (keepD data chs i) chs[i]):=fun i h hi=>by
    by_cases e:i<j
    ·exact HAll.out i h e
    ·have e:i=j:=by omega
     subst e
     exact ⟨HDm.out,Ha.out,by rw [← keepD_succ h,HDn.out]; exact HE1.out⟩
   clear T8 D8 P8 P9 hb8 hal HDm Ha HE1 HAll hq hgl8
   go_upto_region 18 with (at_builtin; refine wpList_append_apart rfl _ _ 63 rfl w2.heap.size 32 i0 _ 1 24 Tryz.underlying63 hi hj0 hj1 hj2 rfl (by decide) gk (j+1) cap cs rfl o9 ⟨w8.heap.size,0,none⟩ 1 1 [.slice (some ⟨gb,0,none⟩) dn.length dn.length] rfl rfl hnews (fun u hu=>by simp only [List.mem_singleton] at hu; subst hu; rfl) (by unfold maxLen; omega) (by omega) hb9.size ?_; intro g' cap' w10 ho10 hg10 hd10)
   replace hd10:g'=gk∨(w8.alloc (.cells #[.slice (some ⟨gb,0,none⟩) dn.length dn.length] 32)).heap.size≤g':=by simpa using hd10
   have T10:=T9.push D9 (by rw [HLz.out]; exact ho10) hg10 hd10
   rw [← HDs.out] at T10
   have D10:=D9.mv hgl9 hg10 hd10
   have Z10:=Z9.mv hgl9 hg10 hd10
   have hb10:=hb9.grown hg10 hb9.size (fun k hk=>by cases hk; exact (o9.lt gk rfl).1)
   have HZn:Hid (z1=evZ ts (keepD data chs (j+1)) p):=by show _=_; rw [HDn.out]; exact HZ1.out.symm
   clear T9 D9 Z9 ho10 hg10 hd10 hb9 o9 hnews q9 HZ1 HZj
   go_wp2_with fail
   go_roundw
   case rel=>exact ⟨j+1,some ⟨gb,0,none⟩,dn.length,g',cap',_,a7,c7,z1,by omega,by go_num,by rw [HDn.out],rfl,rfl,HZn,n7,Z10,by rw [HDn.out]; exact D10,T10,HAn,hb10⟩
   case measure=>simp [intOf]; omega
  ·have e:j=chs.length:=by omega
   have hjn:¬ (j:Int)<(chs.length:Int):=by omega
   subst e
   have OKK:KOk ts p data chs:=⟨HE0.out,by omega,fun i h=>HAll.out i h h⟩
   clear HAll HZj ZJ DJ
   go_wp2_with fail
   exact bodyPost_ret (v:=.tuple #[.slice (some ⟨gk,0,none⟩) (chs.length+1) cap,.bool true]) (by simp [results,Tryz.results42,go_sem]) rfl ⟨_,.inr ⟨rfl,fun _=>⟨OKK,gk,cap,w2.heap.size,cs,rfl,TJ⟩,hA5⟩⟩
end Go.Proofs.YtoefpglknaiaeaaGreat
/- The walk of tidelaw7.alive. -/
namespace Go.Proofs.YtoefpglknaiaeaaGreat
open Go.RowKit Go.Lib Go.Shelf

theorem ch_one {w:World} {a:Option Addr} {d:List (List Zp)} {cap:Nat} (h:DtAt w a d):ChAt (w.alloc (.cells #[.slice a d.length cap] 32)) (some ⟨w.heap.size,0,none⟩) [d]:=by
 have hb:Below w.heap.size w (w.alloc (.cells #[.slice a d.length cap] 32)):=(Below.refl _ _).alloc (Nat.le_refl _) _
 refine .inr ⟨w.heap.size,0,fun _=>a,fun _=>cap,rfl,by simp,fun i hi=>?_⟩
 match i,hi with
 | 0,_=>exact ⟨by simp,h.next hb⟩
theorem ch_two {w:World} {a b:Option Addr} {d e:List (List Zp)} {ca cb:Nat} (h:DtAt w a d) (k:DtAt w b e):ChAt (w.alloc (.cells #[.slice a d.length ca,.slice b e.length cb] 32)) (some ⟨w.heap.size,0,none⟩) [d,e]:=by
 have hb:Below w.heap.size w (w.alloc (.cells #[.slice a d.length ca,.slice b e.length cb] 32)):=(Below.refl _ _).alloc (Nat.le_refl _) _
 refine .inr ⟨w.heap.size,0,fun i=>if i=0 then a else b,fun i=>if i=0 then ca else cb,rfl,by simp,fun i hi=>?_⟩
 match i,hi with
 | 0,_=>exact ⟨by simp,h.next hb⟩
 | 1,_=>exact ⟨by simp,k.next hb⟩
theorem look_tab:lookE [[3]] (tabP 0)=0:=by
 unfold lookE
 rw [tabs_one,if_neg (by simp)]
 simp [tabP,lookX,looksX,nodeQ,kidsQ,nodeE,colsPs]
theorem ev_tab {z:List Zp} (hd:dataE [[3]] [z]=0) (h:wrongZ z=0) (hs:IsSet z):evE [[3]] [z] (tabP 0)=0∧evZ [[3]] [z] (tabP 0)=z:=by
 obtain ⟨e1,e2⟩:=evE_own (p:=tabP 0) look_tab hd
 have g:=gather_right h hs
 have e:evalQ [[3]] [z] (tabP 0)=(0,z):=by
  simp [tabP,evalQ,evalsQ,nodeZ,colsPs,g.1,g.2]
 rw [e1,e2,e]
 exact ⟨rfl,rfl⟩
theorem keep_tab:KOk [[3]] (tabP 0) [[]] [[zB 2]]∧keepZ [[3]] (tabP 0) [[]] [[zB 2]] 2 = [[],zB 2]:=by
 have t0:=ev_tab data_nil1 wrong_nil set_nil
 have t1:=ev_tab (data_one (n:=2) (by decide) (by decide)) (wrong_zB (n:=2) (by decide) (by decide)) (set_zB (by decide))
 refine ⟨⟨t0.1,by decide,fun i hi=>?_⟩,?_⟩
 ·match i,hi with
  | 0,_=>exact ⟨data_one (by decide) (by decide),apply_one.1,by show evE [[3]] (applyZ [[]] [zB 2]) _=0; rw [apply_one.2]; exact t1.1⟩
 ·show [evZ [[3]] (keepD [[]] [[zB 2]] 0) (tabP 0),evZ [[3]] (keepD [[]] [[zB 2]] 1) (tabP 0)]=_
  have e:keepD [[]] [[zB 2]] 1 = [zB 2]:=apply_one.2
  rw [e,t1.2]
  show [evZ [[3]] [[]] (tabP 0),_]=_
  rw [t0.2]

set_option maxRecDepth 100000 in
set_option maxHeartbeats 8000000 in
theorem alive7_at (w:World) :
  Calls Tryz.prog 41 #[] w fun e w'=>e = .returned (.bool true)∧Below w.heap.size w w':=by
 have hA:Below w.heap.size w w:=Below.refl _ _
 go_enter Tryz.func41,Tryz.ntmps41
 go_upto_region 2 with fail
 have hb:Below w.heap.size w (w.alloc (.cells #[.int .i64 3,.int .i64 7,.string ⟨#[]⟩] 24)):=(Below.refl _ _).alloc (Nat.le_refl _) _
 have s1:SlAt (w.alloc (.cells #[.int .i64 3,.int .i64 7,.string ⟨#[]⟩] 24)) (some ⟨w.heap.size,0,none⟩) [(3,7,⟨#[]⟩)]:=sl_one w (3,7,⟨#[]⟩)
 replace hA:=chain hA hb
 have zz:(w.alloc (.cells #[.int .i64 3,.int .i64 7,.string ⟨#[]⟩] 24)).heap.size=w.heap.size+1:=by simp
 generalize w.alloc (.cells #[.int .i64 3,.int .i64 7,.string ⟨#[]⟩] 24)=w1 at *
 have zprev:w1.heap.size=w.heap.size+1:=zz
 clear zz hb
 have hb:Below w1.heap.size w1 (w1.alloc (.cells #[.slice (some ⟨w.heap.size,0,none⟩) 1 1,.int .i64 2] 47)):=(Below.refl _ _).alloc (Nat.le_refl _) _
 have zs:ZsAt (w1.alloc (.cells #[.slice (some ⟨w.heap.size,0,none⟩) 1 1,.int .i64 2] 47)) (some ⟨w1.heap.size,0,none⟩) (zB 2):=zs_one (cap:=1) s1 2
 replace s1:=s1.next hb
 replace hA:=chain hA hb
 have zz:(w1.alloc (.cells #[.slice (some ⟨w.heap.size,0,none⟩) 1 1,.int .i64 2] 47)).heap.size=w1.heap.size+1:=by simp
 generalize w1.alloc (.cells #[.slice (some ⟨w.heap.size,0,none⟩) 1 1,.int .i64 2] 47)=w2 at *
 rw [zprev] at zs
 replace zprev:w2.heap.size=w.heap.size+1+1:=by omega
 clear zz hb
 clear zprev
 clear s1
 go_wp2_with fail
 have hb:Below w2.heap.size w2 (w2.alloc (.cells #[.int .i64 3] 3)):=(Below.refl _ _).alloc (Nat.le_refl _) _
 have I1:IX (w2.alloc (.cells #[.int .i64 3] 3)) (some ⟨w2.heap.size,0,none⟩) [3]:=IX.one w2 3
 replace zs:=zs.next hb
 replace hA:=chain hA hb
 have zz:(w2.alloc (.cells #[.int .i64 3] 3)).heap.size=w2.heap.size+1:=by simp
 generalize w2.alloc (.cells #[.int .i64 3] 3)=w3 at *
 have zprev:w3.heap.size=w2.heap.size+1:=zz
 clear zz hb
 have hb:Below w3.heap.size w3 (w3.alloc (.cells #[.slice (some ⟨w2.heap.size,0,none⟩) 1 1] 33)):=(Below.refl _ _).alloc (Nat.le_refl _) _
 have TX:TbX (w3.alloc (.cells #[.slice (some ⟨w2.heap.size,0,none⟩) 1 1] 33)) (some ⟨w3.heap.size,0,none⟩) [[3]]:=TbX.one 1 I1
 replace zs:=zs.next hb
 replace I1:=I1.next hb
 replace hA:=chain hA hb
 have zz:(w3.alloc (.cells #[.slice (some ⟨w2.heap.size,0,none⟩) 1 1] 33)).heap.size=w3.heap.size+1:=by simp
 generalize w3.alloc (.cells #[.slice (some ⟨w2.heap.size,0,none⟩) 1 1] 33)=w4 at *
 rw [zprev] at TX
 replace zprev:w4.heap.size=w2.heap.size+1+1:=by omega
 clear zz hb
 have hb:Below w4.heap.size w4 (w4.alloc (.cells #[.slice none 0 0] 38)):=(Below.refl _ _).alloc (Nat.le_refl _) _
 have DX:DtAt (w4.alloc (.cells #[.slice none 0 0] 38)) (some ⟨w4.heap.size,0,none⟩) [[]]:=dt_one (z:=[]) (cap:=0) ⟨by simp,.inl rfl⟩ (fun _=>rfl)
 replace zs:=zs.next hb
 replace I1:=I1.next hb
 replace TX:=TX.next hb
 replace hA:=chain hA hb
 have zz:(w4.alloc (.cells #[.slice none 0 0] 38)).heap.size=w4.heap.size+1:=by simp
 generalize w4.alloc (.cells #[.slice none 0 0] 38)=w5 at *
 rw [zprev] at DX
 replace zprev:w5.heap.size=w2.heap.size+1+1+1:=by omega
 clear zz hb
 have hb:Below w5.heap.size w5 (w5.alloc (.cells #[.slice (some ⟨w.heap.size+1,0,none⟩) 1 1] 38)):=(Below.refl _ _).alloc (Nat.le_refl _) _
 have MX:DtAt (w5.alloc (.cells #[.slice (some ⟨w.heap.size+1,0,none⟩) 1 1] 38)) (some ⟨w5.heap.size,0,none⟩) [zB 2]:=dt_one (z:=zB 2) (cap:=1) zs (fun h=>by cases h)
 replace zs:=zs.next hb
 replace I1:=I1.next hb
 replace TX:=TX.next hb
 replace DX:=DX.next hb
 replace hA:=chain hA hb
 have zz:(w5.alloc (.cells #[.slice (some ⟨w.heap.size+1,0,none⟩) 1 1] 38)).heap.size=w5.heap.size+1:=by simp
 generalize w5.alloc (.cells #[.slice (some ⟨w.heap.size+1,0,none⟩) 1 1] 38)=w6 at *
 rw [zprev] at MX
 replace zprev:w6.heap.size=w2.heap.size+1+1+1+1:=by omega
 clear zz hb
 have hb:Below w6.heap.size w6 (w6.alloc (.cells #[.slice (some ⟨w2.heap.size+1+1+1,0,none⟩) 1 1] 32)):=(Below.refl _ _).alloc (Nat.le_refl _) _
 have CX:ChAt (w6.alloc (.cells #[.slice (some ⟨w2.heap.size+1+1+1,0,none⟩) 1 1] 32)) (some ⟨w6.heap.size,0,none⟩) [[zB 2]]:=ch_one (cap:=1) MX
 replace zs:=zs.next hb
 replace I1:=I1.next hb
 replace TX:=TX.next hb
 replace DX:=DX.next hb
 replace MX:=MX.next hb
 replace hA:=chain hA hb
 have zz:(w6.alloc (.cells #[.slice (some ⟨w2.heap.size+1+1+1,0,none⟩) 1 1] 32)).heap.size=w6.heap.size+1:=by simp
 generalize w6.alloc (.cells #[.slice (some ⟨w2.heap.size+1+1+1,0,none⟩) 1 1] 32)=w7 at *
 rw [zprev] at CX
 replace zprev:w7.heap.size=w2.heap.size+1+1+1+1+1:=by omega
 clear zz hb
 clear zprev
 have con:=keep_at [[3]] (tabP 0) pw0 [[]] [[zB 2]] (some ⟨w2.heap.size+1,0,none⟩) 1 (some ⟨w2.heap.size+1+1,0,none⟩) 1 (some ⟨w2.heap.size+1+1+1+1,0,none⟩) 1 w7 TX (tabB _ _ 0) (tabOk (by omega)) DX CX keep_tab.1
 have e2:[[zB 2]].length+1=2:=rfl
 rw [e2,keep_tab.2,tabV] at con
 refine con.mono ?_
 rintro e w8 ⟨gk,cap,base,cs,rfl,KK,hb⟩
 clear con TX DX MX CX I1 zs e2
 replace hA:=chain hA hb
 have hal:Below w8.heap.size w8 (w8.alloc (.cells #[.int .i64 0,.int .i64 0] 67)):=(Below.refl _ _).alloc (Nat.le_refl _) _
 have QF:=heap_new w8 #[.int .i64 0,.int .i64 0] 67
 have KF:=KK.next hal
 replace hA:=chain hA hal
 go_upto_region 3 with fail
 generalize w8.alloc (.cells #[.int .i64 0,.int .i64 0] 67)=wf at *
 have f0:=cell_of (i:=0) QF rfl
 obtain ⟨a0,c0,r0,_,_⟩:=KF.read (i:=0) (by simp)
 obtain ⟨a1,c1,r1,Z1,_⟩:=KF.read (i:=1) (by simp)
 simp only [List.getElem_cons_zero,List.getElem_cons_succ] at r0 r1 Z1
 obtain ⟨b,off,rfl,hlt,x1,_⟩:=Z1.elem (k:=0) (by simp [zB])
 simp only [Nat.zero_mul,Nat.add_zero,zB,List.getElem_cons_zero,List.length_cons,List.length_nil] at x1 r0 r1
 clear Z1 KK KF QF
 go_wp2_with fail
 go_ret
 exact ⟨rfl,hA⟩
end Go.Proofs.YtoefpglknaiaeaaGreat
