/- Together: CB, CJ, CL, DI, DJ, DK, DL, DM, DN. -/
import Derived.Lib.LaidTab
import Derived.OpenShut
import Derived.Deep.Strs
import Derived.Stop.LaidErr
import Derived.LaidHandle
import Derived.Deep.LoopGhost
import Derived.Test.YtoknmnngaackkaaGreatDoorST7
import Derived.Test.YtoknmnngaackkaaGreatDoorST8
namespace Go.Proofs.YtoknmnngaackkaaGreatDoor
open Go.RowKit Go.Lib Go.Shelf
set_option maxRecDepth 100000
set_option maxHeartbeats 16000000
set_option maxRecDepth 100000
set_option maxHeartbeats 1000000
def cE (l:List UInt8):List UInt8:=l.drop (eE eW l)
def Hx (q ts us:List Tk):Prop:=(rF ts∧us=q)∨Al q ts us
theorem Hx.cons {q ts us:List Tk} {t u:Tk} (h1:Dx t u) (h2:t.1≠5) (h:Hx q ts us):Hx q (t :: ts) (u :: us):=by
 rcases h with ⟨⟨e,he,rfl⟩,rfl⟩ | h
 ·exact .inr (.one h1 h2 he)
 ·exact .inr (.cons h1 h2 h)
theorem oy {s:ByteArray} {a:List cM} (h:da s = .ok a):s.size≤4000∧∃ ts r,jn s = .ok ts∧bM 61 [] ts = .ok (a,r)∧(cL a).1=0:=by
 unfold da at h
 split at h
 ·cases h
 ·rename_i hz
  split at h
  ·cases h
  ·rename_i ts ht
   split at h
   ·cases h
   ·rename_i l r hl
    split at h
    ·rename_i hw; cases h; exact ⟨by omega,ts,r,ht,hl,hw⟩
    ·cases h
theorem nU {p:Int}:∀ (l:List UInt8) (k:Nat) (out:List UInt8) {c:Er},dI p l k out = .error c→c.1≠0
 | [],k,out,c,h=>by rw [dI] at h; cases h; simp
 | [x],k,out,c,h=>by
  rw [dI] at h
  split at h
  ·unfold ki at h
   split at h
   ·cases h; simp
   ·cases h
  ·cases h; simp
 | x :: d :: r,k,out,c,h=>by
  rw [dI] at h
  split at h
  ·split at h
   ·exact nU r _ _ h
   ·unfold ki at h
    split at h
    ·cases h; simp
    ·cases h
  ·exact nU (d :: r) _ _ h
theorem uL {l:List UInt8} {p:Int}:∀ (gs:List (List UInt8)) {c:Er},iy l p gs = .error c→c.1≠0
 | [],c,h=>by rw [iy] at h; cases h; simp
 | g :: gs,c,h=>by
  rw [iy] at h
  split at h
  ·cases h
  ·exact uL gs h
theorem DC {l:List UInt8} {p:Int} {c:Er} (h:eT l p = .error c):c.1≠0:=by
 unfold eT iF at h
 split at h
 ·cases h
 ·split at h
  ·split at h
   ·cases h; simp
   ·cases h
  ·split at h
   ·exact nU _ _ _ h
   ·exact uL _ h
theorem sB:∀ (n:Nat) (l:List UInt8) (p:Int) {c:Er},ja n l p = .error c→c.1≠0
 | 0,l,p,c,h=>by rw [ja] at h; cases h; simp
 | n+1,l,p,c,h=>by
  by_cases hl:l = []
  ·subst hl
   rw [pD] at h
   cases h
  ·rw [mT n l p hl] at h
   rcases ht:eT l p with e | ⟨t,j⟩
   ·rw [ht] at h; cases h; exact DC ht
   ·rw [ht] at h
    simp only at h
    rcases hg:ja n ((l.drop j).drop (eE eW (l.drop j))) (p+j+eE eW (l.drop j)) with e | rs
    ·rw [hg] at h; cases h; exact sB n _ _ hg
    ·rw [hg] at h; cases h
theorem At {s:ByteArray} {c:Er} (h:da s = .error c):c.1≠0:=by
 unfold da at h
 split at h
 ·cases h; simp
 ·split at h
  ·rename_i ht; cases h; exact sB _ _ _ ht
  ·split at h
   ·rename_i hl; cases h; exact xd _ _ _ hl
   ·split at h
    ·cases h
    ·rename_i hw; cases h; exact hw
set_option maxHeartbeats 8000000
abbrev zD:ByteArray:=⟨#[115,104,111,119,32,115,101,108,101,99,116,32,97,32,43,32,49,32,97,115,32,98,32,102,114,111,109,32,116,32,119,104,101,114,101,32,110,111,116,32,97,32,105,115,32,110,117,108,108,32,59]⟩
def okB (r:Except Er (List cM)):Bool:=match r with
 | .ok [s]=>s.kind == 5 && (match s.query.parts with | [p]=>(match p.items with | [i]=>i.2.data.toList == [98] | _=>false) && p.au.k == 3 | _=>false)
 | _=>false
theorem Dw {r:Except Er (List cM)} (h:okB r=true):∃ s p i,r = .ok [s]∧s.kind=5∧s.query.parts = [p]∧p.items = [i]∧i.2=⟨#[98]⟩∧p.au.k=3:=by
 unfold okB at h
 split at h
 ·rename_i s
  simp only [Jv,beq_iff_eq] at h;obtain ⟨h1,h2⟩:=h
  split at h2
  ·rename_i p hp
   simp only [Jv,beq_iff_eq] at h2;obtain ⟨h2,h3⟩:=h2
   split at h2
   ·rename_i i hi
    refine ⟨s,p,i,rfl,h1,hp,hi,?_,h3⟩;apply ByteArray.ext;apply Array.ext'
    simpa using h2
   ·cases h2
  ·cases h2
 ·cases h
theorem BP:okB (da zD)=true:=by decide +kernel
theorem bf.one {α:Type} {En:jP α} {size:Nat} {S:Nat→Prop} {W:World} {a:Option Addr} {x:α} (h:bf En size S W a [x]):∃ b off cs,a=some ⟨b,off,none⟩∧ix W b off cs∧En S W x cs:=by
 obtain ⟨b,off,cs,h1,h2,h3⟩:=h.get (i:=0) (by simp);refine ⟨b,off,cs,h1,?_,h3⟩
 simpa using h2
theorem AQ {w:World} (hg:Gl w):Calls Tryz.prog 15 #[] w (Cm w):=by
 obtain ⟨s,p,i,hr,h1,h2,h3,h4,h5⟩:=Dw BP;have con:=lU zD hg;rw [hr] at con;simp only [fN,jL] at con;clear hr hg;go_enter Tryz.func15,Tryz.ntmps15;go_upto_region 1 with fail
 go_wp2_with fail
 refine con.mono ?_;rintro e w2 ⟨hb2,a,cap,rfl,hls⟩;clear con;obtain ⟨b1,o1,_,rfl,t1,a1,c1,p1,d1,p2,d2,p3,d3,a2,c2,a3,c3,rfl,_,l2,_⟩:=hls.one;rw [h2] at l2;obtain ⟨b2,o2,_,rfl,t2,e1,f1,e2,f2,e3,f3,e4,f4,e5,f5,rfl,l1,_⟩:=l2.one;rw [h3] at l1;obtain ⟨b3,o3,_,rfl,t3,g1,k1,rfl,_⟩:=l1.one;clear hls;obtain ⟨hal,QF⟩:=dZ w2 #[aB,aB] 27;go_upto_region 2 with fail
 generalize w2.alloc _=w3 at *;obtain ⟨x0,_⟩:=dp QF;have T1:=t1.nx hal;have T2:=t2.nx hal;have T3:=t3.nx hal;have y0:w3.cell? (af b1 o1)=some (.int .i64 5):=by have:=T1.2 0 _ rfl; rwa [h1] at this
 have y3:w3.cell? ⟨b1,o1+3,none⟩=some (.slice (some (af b2 o2)) 1 d1):=by have:=T1.2 3 _ rfl; rwa [h2] at this
 have z2:w3.cell? ⟨b2,o2+2,none⟩=some (.slice (some (af b3 o3)) 1 f1):=by have:=T2.2 2 _ rfl; rwa [h3] at this
 have z6:w3.cell? ⟨b2,o2+6,none⟩=some (.int .i64 3):=by have:=T2.2 6 _ rfl; rwa [h5] at this
 have u7:w3.cell? ⟨b3,o3+7,none⟩=some (.string ⟨#[98]⟩):=by have:=T3.2 7 _ rfl; rwa [h4] at this
 have A:=chain hb2 hal;clear T1 T2 T3 t1 t2 t3 hb2 hal QF;go_wp2_with fail
 exact fa rfl rfl ⟨fQ,A⟩
set_option maxHeartbeats 4000000
theorem chunk {α:Type} (l:List α) {c:Nat} (hc:0<c) (j:Nat):l[j]? = ((l.drop (j / c*c)).take c)[j % c]?:=by
 have hm:=Nat.mod_lt j hc;rw [List.getElem?_take_of_lt hm,List.getElem?_drop]
 congr 1
 rw [Nat.mul_comm];exact (Nat.div_add_mod j c).symm
theorem lu {α β:Type} {g:α→List β} {c:Nat} (hg:∀ x,(g x).length=c):∀ (l:List α) (i:Nat),((l.flatMap g).drop (i*c)).take c=match l[i]? with | some x=>g x | none=>[]
 | [],i=>by simp
 | x :: l,0=>by
  simp only [Nat.zero_mul,JJ,JN,List.getElem?_cons_zero]
  rw [List.take_append_of_le_length (by rw [hg]; exact I6 _),Jx (by rw [hg]; exact I6 _)]
 | x :: l,i+1=>by
  rw [JN,List.drop_append,List.getElem?_cons_succ,← lu hg l i]
  congr 1
  rw [hg,Nat.add_mul,Nat.one_mul,Nat.add_sub_cancel,JK (by rw [hg]; omega),Jq]
abbrev CT (b:List UInt8):DataW Unit:=.lit (.string b)
abbrev Cs (b:List UInt8):Value:=.string ⟨b.toArray⟩
theorem zL {s:ByteArray} {b:List UInt8} (h:s.data.toList=b):s=⟨b.toArray⟩:=by
 apply ByteArray.ext;apply Array.ext'
 simpa using h
theorem pT {P:Program} {w:World} {base:Nat} {sp:Nat→Bool} {held:Bool} {fuel:Nat} {t e:TypeId} {n:Nat} {cs:List Value} {bs:List (List UInt8)} {p:List MemPlace} {enc:TypeId × Value→Unit}
  (ht:P.underlying t=some (.array n e)) (he:P.underlying e=some .string) (hce:P.cellsOf e=1) (hct:P.cellsOf t=n) (h:DataW.trod enc P w base sp held fuel t cs=some (.agg (bs.map CT),p)):∀ i,i<n→cs[i]? = (bs.map Cs)[i]?:=by
 obtain ⟨xs,m,_,hx,hl,hn,hf⟩:=DataW.trod_array ht h;intro i hi;have h1:=hf i hi;rw [hce,Je ak] at h1;obtain ⟨s,hc,h2,_⟩:=DataW.trod_string he h1;have h3:cs[i]? = some (.string s):=by
  have:=congrArg (·[0]?) hc
  simpa [List.getElem?_take,List.getElem?_drop] using this
 have h4:(bs.map CT)[i]? = some (.lit (.string s.data.toList)):=by
  have e:=congrArg Prod.fst hx;have e:=e;injection e with e
  rw [e,List.getElem?_map,Je ak,h2];rfl
 rw [List.getElem?_map] at h4 ⊢;obtain ⟨b,hb,h5⟩:=Option.map_eq_some_iff.1 h4;rw [hb,h3];injection h5 with h5
 injection h5 with h5
 show some (Value.string s)=some (Cs b);rw [zL h5.symm]
abbrev zz (r:Int × List UInt8 × Int):DataW Unit:=.agg [.lit (.int .i64 r.1),.lit (.string r.2.1),.lit (.int .i64 r.2.2)]
abbrev ze (r:Int × List UInt8 × Int):List Value:=[.int .i64 r.1,Cs r.2.1,r.2.2]
theorem p9 {P:Program} {w:World} {base:Nat} {sp:Nat→Bool} {held:Bool} {fuel:Nat} {t e ti ts:TypeId} {f0 f1 f2:Field} {n:Nat} {cs:List Value} {rs:List (Int × List UInt8 × Int)} {p:List MemPlace} {enc:TypeId × Value→Unit}
  (ht:P.underlying t=some (.array n e)) (he:P.underlying e=some (.struct #[f0,f1,f2])) (hf0:f0.type=ti∧f0.offset=0) (hf1:f1.type=ts∧f1.offset=1) (hf2:f2.type=ti∧f2.offset=2) (hti:P.underlying ti=some (.int .i64)) (hts:P.underlying ts=some .string) (hce:P.cellsOf e=3) (hci:P.cellsOf ti=1) (hcs:P.cellsOf ts=1) (h:DataW.trod enc P w base sp held fuel t cs=some (.agg (rs.map zz),p)):∀ j,j<n*3→cs[j]? = (rs.flatMap ze)[j]?:=by
 obtain ⟨xs,m,_,hx,hl,hn,hf⟩:=DataW.trod_array ht h;have key:∀ i,i<n→(cs.drop (i*3)).take 3=((rs.flatMap ze).drop (i*3)).take 3:=by
  intro i hi;have h1:=hf i hi;rw [hce,Je (by omega)] at h1;obtain ⟨y0,y1,y2,m2,h2,h3,k0,k1,k2⟩:=Deep.trod_struct3 he h1;rw [hf0.1,hf0.2,hci] at k0;rw [hf1.1,hf1.2,hcs] at k1;rw [hf2.1,hf2.2,hci] at k2;obtain ⟨z0,c0,rfl,_⟩:=DataW.trod_int hti k0;obtain ⟨s,c1,rfl,_⟩:=DataW.trod_string hts k1;obtain ⟨z2,c2,rfl,_⟩:=DataW.trod_int hti k2;rw [hce] at h3;have h4:(cs.drop (i*3)).take 3 = [.int .i64 z0,.string s,.int .i64 z2]:=by
   generalize (cs.drop (i*3)).take 3=l at *
   match l,h3 with
   | [a,b,c],_ =>
    simp only [JJ,List.take_succ_cons,List.take_zero,List.drop_succ_cons,List.cons.injEq,and_true] at c0 c1 c2;rw [c0,c1,c2]
  have h5:(rs.map zz)[i]? = some (.agg [.lit (.int .i64 z0),.lit (.string s.data.toList),.lit (.int .i64 z2)]):=by
   have e:=congrArg Prod.fst hx;have e:=e;injection e with e
   rw [e,List.getElem?_map,Je ak,h2];rfl
  rw [List.getElem?_map] at h5;obtain ⟨r,hr,h6⟩:=Option.map_eq_some_iff.1 h5;rw [h4,lu (g:=ze) (c:=3) (fun _=>rfl),hr];simp only [zz,DataW.agg.injEq,List.cons.injEq,DataW.lit.injEq,Lit.int.injEq,Lit.string.injEq,true_and,and_true] at h6;obtain ⟨h7,h8,h9⟩:=h6;show _=ze r;rw [zL h8.symm,← h7,← h9]
 intro j hj;rw [chunk cs (by decide:0<3),chunk (rs.flatMap ze) (by decide:0<3),key (j / 3) ak]
def Aq:List (List UInt8):=[[60,62],[60,61],[62,61],[124,124],[60],[62],[61],[43],[45],[42],[40],[41],[44],[46],[59]]
def Bs:List (Int × List UInt8 × Int):=[(5,[111,114],1),(4,[97,110,100],2),(6,[61],4),(7,[60,62],4),(8,[60],4),(9,[60,61],4),(10,[62],4),(11,[62,61],4),(12,[43],5),(13,[45],5),(14,[42],6),(15,[124,124],7)]
def GQ:jP (Int × ByteArray):=fun _ _ x cs=>cs = [.int .i64 x.1,.string x.2]
theorem IN:fW GQ:=⟨fun _ h=>h,fun _ h=>h⟩
theorem jZ (t:Int) (l:List (Int × ByteArray)) (hl:l.length≤1000) (a:Option Addr) (c:Nat) (S:Nat→Prop) {w:World} (h:bf GQ 2 S w a l):Calls Tryz.prog 87 #[.slice a l.length c,t] w fun e w'=>e = .returned (.string (cW t l))∧Below w w w':=by
 generalize hM:cW t l=M;have HM:Hid (cW t (l.drop 0)=M):=hM;have HK:Hid (bf GQ 2 S w a l):=h;clear hM h;go_enter Tryz.func87,Tryz.ntmps87;go_wp2_with fail
 go_loopw [9] (fun jv wr=>∃ k:Nat,k≤l.length∧jv = .int .i64 k∧Hid (cW t (l.drop k)=M)∧Below w w wr) (fun jv _=>l.length - (RowKit.intOf jv).toNat)
 case atStart=>exact ⟨0,by omega,rfl,HM,I8 _ _⟩
 case round =>
  clear HM;obtain ⟨k,hk,rfl,HL,hx⟩:=hrel;by_cases hlt:k<l.length
  ·have hkz:(k:Int)<(l.length:Int):=by omega
   obtain ⟨b,off,_,rfl,t1,rfl⟩:=(HK.out.nx IN hx).get hlt;have c0:wr.cell? ⟨b,off+k*2,none⟩=some (.int .i64 l[k].1):=t1.2 0 _ rfl;have c1:wr.cell? ⟨b,off+k*2+1,none⟩=some (.string l[k].2):=t1.2 1 _ rfl;have hL:=HL.out;rw [I9 hlt,cW] at hL;generalize l[k]=y at *;have HL2:Hid _:=hL;have hal:=ab wr (.cells #[.int .i64 y.1,.string y.2] 168);have QY:=aD wr #[.int .i64 y.1,.string y.2] 168;clear HL hL t1;go_upto_region 4 with fail
   generalize wr.alloc (.cells #[y.1,y.2] 168)=wa at *;have y0:wa.cell? (af wr 0)=some (.int .i64 y.1):=cell_of (i:=0) QY rfl;have y1:wa.cell? (af wr 1)=some (.string y.2):=cell_of (i:=1) QY rfl;clear c0 c1;by_cases he:y.1=t
   ·have b1:(y.1 == t)=true:=by simpa using he
    have e:M=y.2:=by rw [← HL2.out,if_pos he]
    have E:Hid (M=y.2):=e;clear HL2 he e;go_wp2_with fail
    exact fa rfl rfl ⟨by rw [E.out]; rfl,chain hx hal⟩
   ·have b1:(y.1 == t)=false:=by simpa using he
    have HL3:Hid (cW t (l.drop (k+1))=M):=by show _=_; rw [← HL2.out,if_neg he]
    clear HL2 he;go_wp2_with fail
    go_roundw
    case rel=>exact ⟨k+1,by omega,by go_num,HL3,chain hx hal⟩
    case measure=>simp [RowKit.intOf]; omega
  ·have hkz:¬ (k:Int)<(l.length:Int):=by omega
   have e:M=⟨#[]⟩:=by rw [← HL.out,Jh ak]; rfl
   have E:=ah e;clear HL e;go_wp2_with fail
   exact fa rfl rfl ⟨by rw [E.out]; rfl,hx⟩
def FO (l:List (Int × ByteArray)):List Value:=l.flatMap fun x=>[.int .i64 x.1,x.2]
theorem nL {w:World} {g:Nat} {l:List (Int × ByteArray)} (h:w.heap[g]? = some (.cells (FO l).toArray 168 (0,0))):bf GQ 2 (fun b=>b=g) w (some (af g 0)) l:=by
 refine .inr ⟨g,0,rfl,rfl,lt_of_heap h,fun i hi=>⟨_,rfl,fun j u hu=>?_,rfl⟩⟩;have hj:j<2:=by
  rcases Jw j 2 with h | h
  ·exact h
  ·rw [Jy (by simpa using h)] at hu; cases hu
 refine cell_of (i:=0+i*2+j) h ?_;have:=lu (g:=fun x:Int × ByteArray=>[Value.int .i64 x.1,Value.string x.2]) (c:=2) (fun _=>rfl) l i;rw [Je hi] at this;simp only at this;rw [Jm,List.getElem?_toArray,← hu,← this,List.getElem?_take_of_lt hj,List.getElem?_drop];rfl
def jA:List (Int × ByteArray):=[(20,⟨#[99,111,117,110,116]⟩),(21,⟨#[115,117,109]⟩),(22,⟨#[109,105,110]⟩),(23,⟨#[109,97,120]⟩)]
def BO:List (Int × ByteArray):=[(2,⟨#[98,111,111,108]⟩),(3,⟨#[105,110,116]⟩),(4,⟨#[116,101,120,116]⟩)]
def zl:List (Int × ByteArray):=[(3,⟨#[115,101,109,105]⟩),(4,⟨#[97,110,116,105]⟩),(5,⟨#[108,101,102,116]⟩)]
def Cj (l:List (Int × ByteArray)) (w:World) (e:Ending) (w':World):Prop:=∃ g,e = .returned (.slice (some (af g 0)) l.length l.length)∧w'.heap[g]? = some (.cells (FO l).toArray 168 (0,0))∧w.heap.size≤g∧Below w w w'
theorem BD (w:World):Calls Tryz.prog 175 #[] w (Cj jA w):=by
 go_enter Tryz.func175,Tryz.ntmps175;go_wp2_with fail
 exact fa rfl rfl ⟨w.heap.size,fQ,aD w _ _,I6 _,bR ..⟩
theorem zd (w:World):Calls Tryz.prog 88 #[] w (Cj BO w):=by
 go_enter Tryz.func88,Tryz.ntmps88;go_wp2_with fail
 exact fa rfl rfl ⟨w.heap.size,fQ,aD w _ _,I6 _,bR ..⟩
theorem ql (w:World):Calls Tryz.prog 144 #[] w (Cj zl w):=by
 go_enter Tryz.func144,Tryz.ntmps144;go_wp2_with fail
 exact fa rfl rfl ⟨w.heap.size,fQ,aD w _ _,I6 _,bR ..⟩
theorem DP {W:World} {PB:Nat} {v:Value} {g:Nat} {ws:List ByteArray} (h:W.heap[g]? = some (.cells (ws.map Value.string).toArray 9 (0,0))) (hn:g≠PB) (ho:v.ownBlock≠some g):bf GV 1 (fun b=>b≠PB∧v.ownBlock≠some b) W (some (af g 0)) ws:=by
 refine .inr ⟨g,0,rfl,⟨hn,ho⟩,lt_of_heap h,fun i hi=>⟨[.string ws[i]],rfl,fun j u hu=>?_,rfl⟩⟩
 match j,hu with
 | 0,hu =>
  cases hu;have:(0+i*1+0)=i:=by omega
  rw [this];exact cell_of (i:=i) h (by simp [hi])
 | j+1,hu=>simp at hu
def dH (x:tG):List ByteArray:=[x.1,cW x.2 BO]
theorem oB (x:tG) {PB:Nat} {v:Value} {bs:List UInt8} {w:World} (hG:GP w PB) (hP:aF w PB v bs) (hb:(aE bs (dH x)).length≤gZ):Calls Tryz.prog 59 #[af PB 0,.agg #[x.1,x.2]] w (bU w PB v (aE bs (dH x))):=by
 rw [dH] at hb ⊢;have Hb:=ah hb;clear hb;have hal:=bR w (.cells #[x.1,x.2] 69);have B0:=ah (Bx.new hP #[x.1,x.2] 69);have P0:=ah (hP.next hal);have S0:Hid (St PB v w v (w.alloc (.cells #[x.1,x.2] 69))):=St.of hal hP.lt
 have G0:=ah (hG.nx hal hP.lt);clear hP hG hal;go_enter Tryz.func59,Tryz.ntmps59;go_upto_region 1 with fail
 generalize w.alloc _=w0 at *;obtain ⟨C,hCC,hCP,hC0⟩:∃ C:World→Prop,(∀ W W':World,C W→Below W W W'→C W')∧(∀ W,C W↔gB W (w.heap.size) #[x.1,x.2] 69)∧C w0:=⟨fun W=>gB W (w.heap.size) #[x.1,x.2] 69,fun W W' h hb=>h.nx hb,fun _=>Iff.rfl,B0.out.q⟩
 have hdr:Below w0 w0 w0.drew:=(I8 _ _).drew;have CW:=hCC _ _ hC0 hdr;clear hC0;refine bX C bm ?_;refine cT hCC 4 0 (af PB 0) (fun n hn=>?_) CW ?_
 ·go_simp
 simp only [Act.put,pA,pB,pC];refine cT hCC 5 1 (af w 0) (fun n hn=>?_) CW ?_
 ·go_simp
 simp only [Act.put,pA,pB,pC];refine cT hCC 6 2 x.1 (fun n hn=>?_) CW ?_
 ·have z0:=((hCP n).1 hn).c 0 rfl;go_simp
 simp only [Act.put,pA,pB,pC];refine cT hCC 8 4 (af w 1) (fun n hn=>?_) CW ?_
 ·go_simp
 simp only [Act.put,pA,pB,pC];refine cT hCC 9 5 x.2 (fun n hn=>?_) CW ?_
 ·have z0:=((hCP n).1 hn).c 1 rfl;go_simp
 simp only [Act.put,pA,pB,pC];refine pN 3 bm fun w5 hb5=>?_
 have D5:=chain hdr hb5;have con:=zd w5;refine wpOp_step rfl (fun K hK=>?_);go_simp;refine con.mono ?_;rintro e w6 ⟨g6,rfl,q6,_,hb6⟩;have CW6:=hCC _ _ (hCC _ _ CW hb5) hb6;refine hK _ _ ⟨CW6,?_⟩;clear hK K con CW;have D6:=chain D5 hb6;clear hb6 D5 hb5;try simp only [Act.put,pA,pB,pC]
 refine pN 6 bm fun w7 hb7=>?_
 have q7:=bH hb7 q6;have con:=jZ (x.2) BO (by decide) (some (af g6 0)) BO.length _ (nL q7);refine wpOp_step rfl (fun K hK=>?_);go_simp;refine cR con fun w8 hb8=>?_;have CW8:=hCC _ _ (hCC _ _ CW6 hb7) hb8;refine hK _ _ ⟨CW8,?_⟩;have D8:=chain D6 (chain hb7 hb8);clear hK K con CW6 hb7 hb8 D6 q6 q7;generalize (cW x.2 BO)=wd at *;try simp only [Act.put,pA,pB,pC]
 refine pN 7 bm fun w9 hb9=>?_
 refine wpOp_step rfl (fun K hK=>?_);go_simp;obtain ⟨hal,q9⟩:=dZ w9 #[x.1,wd] 9;have CW9:=hCC _ _ (hCC _ _ CW8 hb9) hal;have D9a:=chain D8 hb9;have D9:=chain D9a hal;refine hK _ _ ⟨CW9,?_⟩;have n9:w9.heap.size≠PB:=by have:=(P0.out.next D9a).lt; omega
 have o9:=(P0.out.next D9a).yl (I6 _);generalize w9.alloc (.cells #[x.1,wd] 9)=wA at *;clear hK K CW8 hb9 D8 D9a hal;try simp only [Act.put,pA,pB,pC]
 refine pN 8 bm fun wB hbB=>?_
 have DB:=chain D9 hbB;have qB:=bH hbB q9;have con:Calls Tryz.prog 57 #[af PB 0,.slice (some (af w9 0)) 2 2] wB (bU wB PB v (aE bs [x.1,wd])):=vD [x.1,wd] (P0.out.next DB) (DP (ws:=[x.1,wd]) qB n9 o9) (Hb.out) (by simp);refine wpOp_step rfl (fun K hK=>?_);go_simp;refine con.mono ?_;rintro e wC ⟨rfl,vC,PC,SC⟩;have SB:St PB v w0 v wB:=St.of DB P0.out.lt;refine hK _ _ ⟨(hCP _).2 ((B0.out.st SB).st SC).q,?_⟩;refine eK bm ?_;intro wD hbD
 have S_:=SB.trans (SC.trans (St.of hbD PC.lt));have P2:Hid (aF wD PB vC (aE bs ([x.1,wd]))):=by show aF _ _ _ _; exact PC.next hbD
 have S3:=ah (S0.out.trans S_);have G4:=ah (G0.out.st S_);have B5:=ah (B0.out.st S_);clear con hK K CW9 hCC hCP q9 qB n9 o9 SB SC PC S_ DB D9 hdr hbB hbD P0 S0 G0 B0;go_wp2_with fail
 go_end0
 exact ⟨rfl,vC,P2.out,S3.out⟩
theorem lx (l:List SX) (ps:List (Int × List ByteArray)) (hB:rf ps l) (hl3:l.length≤1000) (a:Option Addr) (c:Nat) (ss:List ByteArray) (hss:l.length<ss.length) {PB:Nat} {v:Value} {bs:List UInt8} {w:World} (hG:GP w PB) (hP:aF w PB v bs) (hk:aJ (fun b=>b<PB) w a l) (hb:(aE bs (gm ps ss)).length≤gZ):Calls Tryz.prog 174 #[af PB 0,.slice a l.length c,.slice (some (af w 0)) ss.length ss.length] (w.alloc (.cells (ss.map Value.string).toArray 9)) (bU w PB v (aE bs (gm ps ss))):=by
 have hal:=bR w (.cells (ss.map Value.string).toArray 9);refine (yL l ps hB hl3 a c w ss hss (hG.nx hal hP.lt) (hP.next hal) (aJ.next hal hk) (Bx.new hP _ _) hb).mono ?_;rintro e w' ⟨rfl,v',P',S'⟩;exact ⟨rfl,v',P',(St.of hal hP.lt).trans S'⟩
theorem El (v0:Vl) (t n:ByteArray) (ks:List SX) (a:Option Addr) (c:Nat) {PB:Nat} {v:Value} {bs:List UInt8} {w:World} (hG:GP w PB) (hP:aF w PB v bs) (hk1:1≤v0.1) (hk4:v0.1≤4) (h3:v0.1=3 → -1000000000000000≤v0.2.1∧v0.2.1≤1000000000000000) (h4:v0.1=4→v0.2.2.size≤60) (hb:(aE bs (dK v0)).length≤gZ):Calls Tryz.prog 146 #[af PB 0,.agg #[(1:Int),v0.1,v0.2.1,v0.2.2,t,n,.slice a ks.length c]] w (bU w PB v (aE bs (dK v0))):=by
 have Hb:=ah hb;clear hb;have hal:=bR w (.cells #[(1:Int),v0.1,v0.2.1,v0.2.2,t,n,.slice a ks.length c] 55)
 have B0:=ah (Bx.new hP #[(1:Int),v0.1,v0.2.1,v0.2.2,t,n,.slice a ks.length c] 55);have P0:=ah (hP.next hal)
 have S0:Hid (St PB v w v (w.alloc (.cells #[(1:Int),v0.1,v0.2.1,v0.2.2,t,n,.slice a ks.length c] 55))):=St.of hal hP.lt;have G0:=ah (hG.nx hal hP.lt);clear hP hG hal;go_enter Tryz.func146,Tryz.ntmps146;go_upto_region 1 with fail
 generalize w.alloc _=w0 at *;have f1:=B0.out.c 0 rfl;have f2:=B0.out.c 1 rfl;have f3:=B0.out.c 2 rfl;have f4:=B0.out.c 3 rfl
 have con5:=mH v0 (G0.out) (P0.out) hk1 hk4 h3 h4 (Hb.out);go_wp2_with fail
 refine con5.mono ?_;rintro e w6 ⟨rfl,v7,P_,S_⟩;have P8:=ah P_;have S9:=ah (S0.out.trans S_);have G10:=ah (G0.out.st S_);have B11:=ah (B0.out.st S_);clear con5 P_ S_ f1 f2 f3 f4 P0 S0 G0 B0;go_wp2_with fail
 go_end0
 exact ⟨rfl,v7,P8.out,S9.out⟩
theorem Ft (v0:Vl) (t n:ByteArray) (ks:List SX) (a:Option Addr) (c:Nat) {PB:Nat} {v:Value} {bs:List UInt8} {w:World} (hG:GP w PB) (hP:aF w PB v bs) (hb:(aE bs (mP t n)).length≤gZ):Calls Tryz.prog 146 #[af PB 0,.agg #[(2:Int),v0.1,v0.2.1,v0.2.2,t,n,.slice a ks.length c]] w (bU w PB v (aE bs (mP t n))):=by
 have Hb:=ah hb;clear hb;have hal:=bR w (.cells #[(2:Int),v0.1,v0.2.1,v0.2.2,t,n,.slice a ks.length c] 55)
 have B0:=ah (Bx.new hP #[(2:Int),v0.1,v0.2.1,v0.2.2,t,n,.slice a ks.length c] 55);have P0:=ah (hP.next hal)
 have S0:Hid (St PB v w v (w.alloc (.cells #[(2:Int),v0.1,v0.2.1,v0.2.2,t,n,.slice a ks.length c] 55))):=St.of hal hP.lt;have G0:=ah (hG.nx hal hP.lt);clear hP hG hal;go_enter Tryz.func146,Tryz.ntmps146;go_upto_region 1 with fail
 generalize w.alloc _=w0 at *;have f1:=B0.out.c 0 rfl;have f2:=B0.out.c 1 rfl;have f3:=B0.out.c 2 rfl;have f4:=B0.out.c 3 rfl;have f5:=B0.out.c 4 rfl;have f6:=B0.out.c 5 rfl
 have f7:=B0.out.c 6 rfl;have con8:=n8 (.mk 2 v0 t n ks) a c (G0.out) (P0.out) (Hb.out);go_wp2_with fail
 refine con8.mono ?_;rintro e w9 ⟨rfl,v10,P_,S_⟩;have P11:=ah P_;have S12:=ah (S0.out.trans S_);have G13:=ah (G0.out.st S_);have B14:=ah (B0.out.st S_);clear con8 P_ S_ f1 f2 f3 f4 f5 f6 f7 P0 S0 G0 B0;go_wp2_with fail
 go_end0
 exact ⟨rfl,v10,P11.out,S12.out⟩
theorem Et (v0:Vl) (t n:ByteArray) (ks:List SX) (u0:List ByteArray) (hp0:0<ks.length) (hB0:gi u0 (ks[0]'hp0)) (b1 o1 c:Nat) {PB:Nat} {v:Value} {bs:List UInt8} {w:World} (hG:GP w PB) (hP:aF w PB v bs) (hk:aJ (fun b=>b<PB) w (some (af b1 o1)) ks) (hb:(aE bs ([⟨#[110,111,116]⟩] ++ fJ 3 (bN (ks[0]'hp0).k,u0))).length≤gZ):Calls Tryz.prog 146 #[af PB 0,.agg #[(3:Int),v0.1,v0.2.1,v0.2.2,t,n,.slice (some (af b1 o1)) ks.length c]] w (bU w PB v (aE bs ([⟨#[110,111,116]⟩] ++ fJ 3 (bN (ks[0]'hp0).k,u0)))):=by
 have hz0:(0:Int)<(ks.length:Int):=by omega
 have HB0:=ah hB0;clear hB0;have Hb:=ah hb;clear hb;have hal:=bR w (.cells #[(3:Int),v0.1,v0.2.1,v0.2.2,t,n,.slice (some (af b1 o1)) ks.length c] 55)
 have B0:=ah (Bx.new hP #[(3:Int),v0.1,v0.2.1,v0.2.2,t,n,.slice (some (af b1 o1)) ks.length c] 55)
 have P0:=ah (hP.next hal);have S0:Hid (St PB v w v (w.alloc (.cells #[(3:Int),v0.1,v0.2.1,v0.2.2,t,n,.slice (some (af b1 o1)) ks.length c] 55))):=St.of hal hP.lt;have G0:=ah (hG.nx hal hP.lt)
 have L00:=ah (aJ.next hal hk);clear hP hG hal hk;go_enter Tryz.func146,Tryz.ntmps146;go_upto_region 1 with fail
 generalize w.alloc _=w0 at *;have f1:=B0.out.c 0 rfl;have con2:=bq [⟨#[110,111,116]⟩] P0.out (dx (Hb.out)) (by simp);go_wp2_with fail
 refine con2.mono ?_;rintro e w3 ⟨rfl,v4,P_,S_⟩;have P5:=ah P_;have S6:=ah (S0.out.trans S_);have G7:=ah (G0.out.st S_);have B8:=ah (B0.out.st S_);have L9:=ah (aJ.cE L00.out S_);clear con2 P_ S_ f1 P0 S0 G0 B0 L00;obtain ⟨hl0,a0,c0,sv0,kk0⟩:=L9.out.Fy (k:=0) (show 0<ks.length by omega)
 have y00:w3.cell? (af b1 o1)=some (.int .i64 ks[0].k):=by simpa using sv0.c0
 have y01:w3.cell? ⟨b1,o1+1,none⟩=some (.int .i64 ks[0].v.1):=by simpa using sv0.c1
 have y02:w3.cell? ⟨b1,o1+2,none⟩=some (.int .i64 ks[0].v.2.1):=by simpa using sv0.c2
 have y03:w3.cell? ⟨b1,o1+3,none⟩=some (.string ks[0].v.2.2):=by simpa using sv0.c3
 have y04:w3.cell? ⟨b1,o1+4,none⟩=some (.string ks[0].bp):=by simpa using sv0.c4
 have y05:w3.cell? ⟨b1,o1+5,none⟩=some (.string ks[0].name):=by simpa using sv0.c5
 have y06:w3.cell? ⟨b1,o1+6,none⟩=some (.slice a0 ks[0].ks.length c0):=by simpa using sv0.c6
 clear sv0 hl0;have f10:=B8.out.c 6 rfl;have con11:=gX 3 ks[0] u0 HB0.out a0 c0 (G7.out) (P5.out) kk0 (by rw [← an]; exact Hb.out);go_wp2_with fail
 refine con11.mono ?_;rintro e w12 ⟨rfl,v13,P_,S_⟩;have P14:Hid (aF w12 PB v13 (aE bs ([⟨#[110,111,116]⟩] ++ fJ 3 (bN (ks[0]).k,u0)))):=by show aF _ _ _ _; rw [an]; exact P_
 have S15:=ah (S6.out.trans S_);have G16:=ah (G7.out.st S_);have B17:=ah (B8.out.st S_);have L18:=ah (aJ.cE L9.out S_);clear con11 P_ S_ f10 y00 y01 y02 y03 y04 y05 y06 P5 S6 G7 B8 L9;go_wp2_with fail
 go_end0
 exact ⟨rfl,v13,P14.out,S15.out⟩
theorem CX (v0:Vl) (t n:ByteArray) (ks:List SX) (u0:List ByteArray) (hp0:0<ks.length) (hB0:gi u0 (ks[0]'hp0)) (b1 o1 c:Nat) {PB:Nat} {v:Value} {bs:List UInt8} {w:World} (hG:GP w PB) (hP:aF w PB v bs) (hk:aJ (fun b=>b<PB) w (some (af b1 o1)) ks) (hb:(aE bs (fJ 5 (bN (ks[0]'hp0).k,u0) ++ [⟨#[105,115]⟩,⟨#[110,117,108,108]⟩])).length≤gZ):Calls Tryz.prog 146 #[af PB 0,.agg #[(16:Int),v0.1,v0.2.1,v0.2.2,t,n,.slice (some (af b1 o1)) ks.length c]] w (bU w PB v (aE bs (fJ 5 (bN (ks[0]'hp0).k,u0) ++ [⟨#[105,115]⟩,⟨#[110,117,108,108]⟩]))):=by
 have hz0:(0:Int)<(ks.length:Int):=by omega
 have HB0:=ah hB0;clear hB0;have Hb:=ah hb;clear hb;have hal:=bR w (.cells #[(16:Int),v0.1,v0.2.1,v0.2.2,t,n,.slice (some (af b1 o1)) ks.length c] 55)
 have B0:=ah (Bx.new hP #[(16:Int),v0.1,v0.2.1,v0.2.2,t,n,.slice (some (af b1 o1)) ks.length c] 55)
 have P0:=ah (hP.next hal);have S0:Hid (St PB v w v (w.alloc (.cells #[(16:Int),v0.1,v0.2.1,v0.2.2,t,n,.slice (some (af b1 o1)) ks.length c] 55))):=St.of hal hP.lt;have G0:=ah (hG.nx hal hP.lt)
 have L00:=ah (aJ.next hal hk);clear hP hG hal hk;go_enter Tryz.func146,Tryz.ntmps146;go_upto_region 1 with fail
 generalize w.alloc _=w0 at *;obtain ⟨hl0,a0,c0,sv0,kk0⟩:=L00.out.Fy (k:=0) (show 0<ks.length by omega);have y00:w0.cell? (af b1 o1)=some (.int .i64 ks[0].k):=by simpa using sv0.c0
 have y01:w0.cell? ⟨b1,o1+1,none⟩=some (.int .i64 ks[0].v.1):=by simpa using sv0.c1
 have y02:w0.cell? ⟨b1,o1+2,none⟩=some (.int .i64 ks[0].v.2.1):=by simpa using sv0.c2
 have y03:w0.cell? ⟨b1,o1+3,none⟩=some (.string ks[0].v.2.2):=by simpa using sv0.c3
 have y04:w0.cell? ⟨b1,o1+4,none⟩=some (.string ks[0].bp):=by simpa using sv0.c4
 have y05:w0.cell? ⟨b1,o1+5,none⟩=some (.string ks[0].name):=by simpa using sv0.c5
 have y06:w0.cell? ⟨b1,o1+6,none⟩=some (.slice a0 ks[0].ks.length c0):=by simpa using sv0.c6
 clear sv0 hl0;have f1:=B0.out.c 0 rfl;have f2:=B0.out.c 6 rfl;have con3:=gX 5 ks[0] u0 HB0.out a0 c0 (G0.out) (P0.out) kk0 (dx (Hb.out));go_wp2_with fail
 refine con3.mono ?_;rintro e w4 ⟨rfl,v5,P_,S_⟩;have P6:=ah P_;have S7:=ah (S0.out.trans S_);have G8:=ah (G0.out.st S_);have B9:=ah (B0.out.st S_);have L10:=ah (aJ.cE L00.out S_);clear con3 P_ S_ f1 f2 y00 y01 y02 y03 y04 y05 y06 P0 S0 G0 B0 L00
 have con11:=bq [⟨#[105,115]⟩,⟨#[110,117,108,108]⟩] P6.out (by rw [← an]; exact Hb.out) (by simp);go_wp2_with fail
 refine con11.mono ?_;rintro e w12 ⟨rfl,v13,P_,S_⟩;have P14:Hid (aF w12 PB v13 (aE bs (fJ 5 (bN (ks[0]).k,u0) ++ [⟨#[105,115]⟩,⟨#[110,117,108,108]⟩]))):=by show aF _ _ _ _; rw [an]; exact P_
 have S15:=ah (S7.out.trans S_);have G16:=ah (G8.out.st S_);have B17:=ah (B9.out.st S_);have L18:=ah (aJ.cE L10.out S_);clear con11 P_ S_  P6 S7 G8 B9 L10;go_wp2_with fail
 go_end0
 exact ⟨rfl,v13,P14.out,S15.out⟩
theorem Cv (v0:Vl) (t n:ByteArray) (ks:List SX) (ps:List (Int × List ByteArray)) (hBL:rf ps ks) (h1:ks.length=3) (a:Option Addr) (c:Nat) {PB:Nat} {v:Value} {bs:List UInt8} {w:World} (hG:GP w PB) (hP:aF w PB v bs) (hk:aJ (fun b=>b<PB) w a ks) (hb:(aE bs ([⟨#[99,97,115,101]⟩] ++ gm ps [⟨#[119,104,101,110]⟩,⟨#[116,104,101,110]⟩,⟨#[101,108,115,101]⟩,⟨#[101,110,100]⟩])).length≤gZ):Calls Tryz.prog 146 #[af PB 0,.agg #[(17:Int),v0.1,v0.2.1,v0.2.2,t,n,.slice a ks.length c]] w (bU w PB v (aE bs ([⟨#[99,97,115,101]⟩] ++ gm ps [⟨#[119,104,101,110]⟩,⟨#[116,104,101,110]⟩,⟨#[101,108,115,101]⟩,⟨#[101,110,100]⟩]))):=by
 have HBL:=ah hBL;have H1:=ah h1;clear hBL h1;have Hb:=ah hb;clear hb;have hal:=bR w (.cells #[(17:Int),v0.1,v0.2.1,v0.2.2,t,n,.slice a ks.length c] 55)
 have B0:=ah (Bx.new hP #[(17:Int),v0.1,v0.2.1,v0.2.2,t,n,.slice a ks.length c] 55);have P0:=ah (hP.next hal)
 have S0:Hid (St PB v w v (w.alloc (.cells #[(17:Int),v0.1,v0.2.1,v0.2.2,t,n,.slice a ks.length c] 55))):=St.of hal hP.lt;have G0:=ah (hG.nx hal hP.lt);have L00:=ah (aJ.next hal hk);clear hP hG hal hk;go_enter Tryz.func146,Tryz.ntmps146;go_upto_region 1 with fail
 generalize w.alloc _=w0 at *;have f1:=B0.out.c 0 rfl;have con2:=bq [⟨#[99,97,115,101]⟩] P0.out (dx (Hb.out)) (by simp);go_wp2_with fail
 refine con2.mono ?_;rintro e w3 ⟨rfl,v4,P_,S_⟩;have P5:=ah P_;have S6:=ah (S0.out.trans S_);have G7:=ah (G0.out.st S_);have B8:=ah (B0.out.st S_);have L9:=ah (aJ.cE L00.out S_);clear con2 P_ S_ f1 P0 S0 G0 B0 L00;have f10:=B8.out.c 6 rfl
 have con11:=lx ks ps HBL.out (by have:=H1.out; omega) a c [⟨#[119,104,101,110]⟩,⟨#[116,104,101,110]⟩,⟨#[101,108,115,101]⟩,⟨#[101,110,100]⟩] (by rw [H1.out]; simp) G7.out P5.out L9.out (by rw [← an]; exact Hb.out)
 go_wp2_with fail
 refine con11.mono ?_;rintro e w12 ⟨rfl,v13,P_,S_⟩;have P14:Hid (aF w12 PB v13 (aE bs ([⟨#[99,97,115,101]⟩] ++ gm ps [⟨#[119,104,101,110]⟩,⟨#[116,104,101,110]⟩,⟨#[101,108,115,101]⟩,⟨#[101,110,100]⟩]))):=by show aF _ _ _ _; rw [an]; exact P_
 have S15:=ah (S6.out.trans S_);have G16:=ah (G7.out.st S_);have B17:=ah (B8.out.st S_);have L18:=ah (aJ.cE L9.out S_);clear con11 P_ S_ f10 P5 S6 G7 B8 L9;go_wp2_with fail
 go_end0
 exact ⟨rfl,v13,P14.out,S15.out⟩
theorem DK (v0:Vl) (t n:ByteArray) (ks:List SX) (ps:List (Int × List ByteArray)) (hBL:rf ps ks) (h1:ks.length=2) (a:Option Addr) (c:Nat) {PB:Nat} {v:Value} {bs:List UInt8} {w:World} (hG:GP w PB) (hP:aF w PB v bs) (hk:aJ (fun b=>b<PB) w a ks) (hb:(aE bs ([⟨#[99,111,97,108,101,115,99,101]⟩] ++ gm ps [⟨#[40]⟩,⟨#[44]⟩,⟨#[41]⟩])).length≤gZ):Calls Tryz.prog 146 #[af PB 0,.agg #[(18:Int),v0.1,v0.2.1,v0.2.2,t,n,.slice a ks.length c]] w (bU w PB v (aE bs ([⟨#[99,111,97,108,101,115,99,101]⟩] ++ gm ps [⟨#[40]⟩,⟨#[44]⟩,⟨#[41]⟩]))):=by
 have HBL:=ah hBL;have H1:=ah h1;clear hBL h1;have Hb:=ah hb;clear hb;have hal:=bR w (.cells #[(18:Int),v0.1,v0.2.1,v0.2.2,t,n,.slice a ks.length c] 55)
 have B0:=ah (Bx.new hP #[(18:Int),v0.1,v0.2.1,v0.2.2,t,n,.slice a ks.length c] 55);have P0:=ah (hP.next hal)
 have S0:Hid (St PB v w v (w.alloc (.cells #[(18:Int),v0.1,v0.2.1,v0.2.2,t,n,.slice a ks.length c] 55))):=St.of hal hP.lt;have G0:=ah (hG.nx hal hP.lt);have L00:=ah (aJ.next hal hk);clear hP hG hal hk;go_enter Tryz.func146,Tryz.ntmps146;go_upto_region 1 with fail
 generalize w.alloc _=w0 at *;have f1:=B0.out.c 0 rfl;have con2:=bq [⟨#[99,111,97,108,101,115,99,101]⟩] P0.out (dx (Hb.out)) (by simp);go_wp2_with fail
 refine con2.mono ?_;rintro e w3 ⟨rfl,v4,P_,S_⟩;have P5:=ah P_;have S6:=ah (S0.out.trans S_);have G7:=ah (G0.out.st S_);have B8:=ah (B0.out.st S_);have L9:=ah (aJ.cE L00.out S_);clear con2 P_ S_ f1 P0 S0 G0 B0 L00;have f10:=B8.out.c 6 rfl
 have con11:=lx ks ps HBL.out (by have:=H1.out; omega) a c [⟨#[40]⟩,⟨#[44]⟩,⟨#[41]⟩] (by rw [H1.out]; simp) G7.out P5.out L9.out (by rw [← an]; exact Hb.out);go_wp2_with fail
 refine con11.mono ?_;rintro e w12 ⟨rfl,v13,P_,S_⟩;have P14:Hid (aF w12 PB v13 (aE bs ([⟨#[99,111,97,108,101,115,99,101]⟩] ++ gm ps [⟨#[40]⟩,⟨#[44]⟩,⟨#[41]⟩]))):=by show aF _ _ _ _; rw [an]; exact P_
 have S15:=ah (S6.out.trans S_);have G16:=ah (G7.out.st S_);have B17:=ah (B8.out.st S_);have L18:=ah (aJ.cE L9.out S_);clear con11 P_ S_ f10 P5 S6 G7 B8 L9;go_wp2_with fail
 go_end0
 exact ⟨rfl,v13,P14.out,S15.out⟩
theorem CP (v0:Vl) (t n:ByteArray) (ks:List SX) (a:Option Addr) (c:Nat) {PB:Nat} {v:Value} {bs:List UInt8} {w:World} (hG:GP w PB) (hP:aF w PB v bs) (hb:(aE bs ([⟨#[99,111,117,110,116]⟩,⟨#[40]⟩,⟨#[42]⟩,⟨#[41]⟩])).length≤gZ):Calls Tryz.prog 146 #[af PB 0,.agg #[(19:Int),v0.1,v0.2.1,v0.2.2,t,n,.slice a ks.length c]] w (bU w PB v (aE bs ([⟨#[99,111,117,110,116]⟩,⟨#[40]⟩,⟨#[42]⟩,⟨#[41]⟩]))):=by
 have Hb:=ah hb;clear hb;have hal:=bR w (.cells #[(19:Int),v0.1,v0.2.1,v0.2.2,t,n,.slice a ks.length c] 55)
 have B0:=ah (Bx.new hP #[(19:Int),v0.1,v0.2.1,v0.2.2,t,n,.slice a ks.length c] 55);have P0:=ah (hP.next hal)
 have S0:Hid (St PB v w v (w.alloc (.cells #[(19:Int),v0.1,v0.2.1,v0.2.2,t,n,.slice a ks.length c] 55))):=St.of hal hP.lt;have G0:=ah (hG.nx hal hP.lt);clear hP hG hal;go_enter Tryz.func146,Tryz.ntmps146;go_upto_region 1 with fail
 generalize w.alloc _=w0 at *;have f1:=B0.out.c 0 rfl;have con2:=bq [⟨#[99,111,117,110,116]⟩,⟨#[40]⟩,⟨#[42]⟩,⟨#[41]⟩] P0.out (Hb.out) (by simp)
 go_wp2_with fail
 refine con2.mono ?_;rintro e w3 ⟨rfl,v4,P_,S_⟩;have P5:=ah P_;have S6:=ah (S0.out.trans S_);have G7:=ah (G0.out.st S_);have B8:=ah (B0.out.st S_);clear con2 P_ S_ f1 P0 S0 G0 B0;go_wp2_with fail
 go_end0
 exact ⟨rfl,v4,P5.out,S6.out⟩
theorem rA (q:Int) (hq:20≤q∧q≤23) (v0:Vl) (t n:ByteArray) (ks:List SX) (ps:List (Int × List ByteArray)) (hBL:rf ps ks) (h1:ks.length=1) (a:Option Addr) (c:Nat) {PB:Nat} {v:Value} {bs:List UInt8} {w:World} (hG:GP w PB) (hP:aF w PB v bs) (hk:aJ (fun b=>b<PB) w a ks) (hb:(aE bs ([cW q jA] ++ gm ps [⟨#[40]⟩,⟨#[41]⟩])).length≤gZ):Calls Tryz.prog 146 #[af PB 0,.agg #[q,v0.1,v0.2.1,v0.2.2,t,n,.slice a ks.length c]] w (bU w PB v (aE bs ([cW q jA] ++ gm ps [⟨#[40]⟩,⟨#[41]⟩]))):=by
 have b1:(q == 1)=false:=by rw [beq_eq_false_iff_ne]; omega
 have b2:(q == 2)=false:=by rw [beq_eq_false_iff_ne]; omega
 have b3:(q == 3)=false:=by rw [beq_eq_false_iff_ne]; omega
 have b16:(q == 16)=false:=by rw [beq_eq_false_iff_ne]; omega
 have b17:(q == 17)=false:=by rw [beq_eq_false_iff_ne]; omega
 have b18:(q == 18)=false:=by rw [beq_eq_false_iff_ne]; omega
 have b19:(q == 19)=false:=by rw [beq_eq_false_iff_ne]; omega
 rcases h20:(q == ((20:Int))) with _ | _
 rcases h21:(q == ((21:Int))) with _ | _
 rcases h22:(q == ((22:Int))) with _ | _
 rcases h23:(q == ((23:Int))) with _ | _
 ·simp only [beq_eq_false_iff_ne] at h20 h21 h22 h23; omega
 all_goals
  have HBL:=ah hBL;have H1:=ah h1;clear hBL h1;have Hb:=ah hb;clear hb;have hal:=bR w (.cells #[q,v0.1,v0.2.1,v0.2.2,t,n,.slice a ks.length c] 55)
  have B0:=ah (Bx.new hP #[q,v0.1,v0.2.1,v0.2.2,t,n,.slice a ks.length c] 55);have P0:=ah (hP.next hal)
  have S0:Hid (St PB v w v (w.alloc (.cells #[q,v0.1,v0.2.1,v0.2.2,t,n,.slice a ks.length c] 55))):=St.of hal hP.lt;have G0:=ah (hG.nx hal hP.lt);have L00:=ah (aJ.next hal hk);clear hP hG hal hk;go_enter Tryz.func146,Tryz.ntmps146;go_upto_region 1 with fail
  generalize w.alloc _=w0 at *;have f1:=B0.out.c 0 rfl;go_upto_region 25 with fail
  clear f1;obtain ⟨C,hCC,hCP,hC0⟩:∃ C:World→Prop,(∀ W W':World,C W→Below W W W'→C W')∧(∀ W,C W↔gB W (w.heap.size) #[q,v0.1,v0.2.1,v0.2.2,t,n,.slice a ks.length c] 55)∧C w0:=⟨fun W=>gB W (w.heap.size) #[q,v0.1,v0.2.1,v0.2.2,t,n,.slice a ks.length c] 55,fun W W' h hb=>h.nx hb,fun _=>Iff.rfl,B0.out.q⟩
  have hdr:Below w0 w0 w0.drew:=(I8 _ _).drew;have CW:=hCC _ _ hC0 hdr;clear hC0;refine bX C bm ?_;refine cT hCC 72 0 (af PB 0) (fun n hn=>?_) CW ?_
  ·go_simp
  simp only [Act.put,pA,pB,pC];refine cT hCC 74 2 (af w 0) (fun n hn=>?_) CW ?_
  ·go_simp
  simp only [Act.put,pA,pB,pC];refine cT hCC 75 3 q (fun n hn=>?_) CW ?_
  ·have z0:=((hCP n).1 hn).c 0 rfl;go_simp
  simp only [Act.put,pA,pB,pC];refine pN 1 bm fun w5 hb5=>?_
  have D5:=chain hdr hb5;have con:=BD w5;refine wpOp_step rfl (fun K hK=>?_);go_simp;refine con.mono ?_;rintro e w6 ⟨g6,rfl,q6,_,hb6⟩;have CW6:=hCC _ _ (hCC _ _ CW hb5) hb6;refine hK _ _ ⟨CW6,?_⟩;clear hK K con CW;have D6:=chain D5 hb6;clear hb6 D5 hb5;try simp only [Act.put,pA,pB,pC]
  refine pN 4 bm fun w7 hb7=>?_
  have q7:=bH hb7 q6;have con:=jZ (q) jA (by decide) (some (af g6 0)) jA.length _ (nL q7);refine wpOp_step rfl (fun K hK=>?_);go_simp;refine cR con fun w8 hb8=>?_;have CW8:=hCC _ _ (hCC _ _ CW6 hb7) hb8;refine hK _ _ ⟨CW8,?_⟩;have D8:=chain D6 (chain hb7 hb8);clear hK K con CW6 hb7 hb8 D6 q6 q7;generalize (cW q jA)=wd at *;try simp only [Act.put,pA,pB,pC]
  refine pN 5 bm fun w9 hb9=>?_
  refine wpOp_step rfl (fun K hK=>?_);go_simp;obtain ⟨hal,q9⟩:=dZ w9 #[wd] 9;have CW9:=hCC _ _ (hCC _ _ CW8 hb9) hal;have D9a:=chain D8 hb9;have D9:=chain D9a hal;refine hK _ _ ⟨CW9,?_⟩;have n9:w9.heap.size≠PB:=by have:=(P0.out.next D9a).lt; omega
  have o9:=(P0.out.next D9a).yl (I6 _);generalize w9.alloc (.cells #[wd] 9)=wA at *;clear hK K CW8 hb9 D8 D9a hal;try simp only [Act.put,pA,pB,pC]
  refine pN 6 bm fun wB hbB=>?_
  have DB:=chain D9 hbB;have qB:=bH hbB q9;have con:Calls Tryz.prog 57 #[af PB 0,.slice (some (af w9 0)) 1 1] wB (bU wB PB v (aE bs [wd])):=vD [wd] (P0.out.next DB) (DP (ws:=[wd]) qB n9 o9) (dx (Hb.out)) (by simp);refine wpOp_step rfl (fun K hK=>?_);go_simp;refine con.mono ?_;rintro e wC ⟨rfl,vC,PC,SC⟩;have SB:St PB v w0 v wB:=St.of DB P0.out.lt;refine hK _ _ ⟨(hCP _).2 ((B0.out.st SB).st SC).q,?_⟩;refine eK bm ?_;intro wD hbD;have S_:=SB.trans (SC.trans (St.of hbD PC.lt))
  have P3:Hid (aF wD PB vC (aE bs ([wd]))):=by show aF _ _ _ _; exact PC.next hbD
  have S4:=ah (S0.out.trans S_);have G5:=ah (G0.out.st S_);have B6:=ah (B0.out.st S_);have L7:=ah (aJ.cE L00.out S_);clear con hK K CW9 hCC hCP q9 qB n9 o9 SB SC PC S_ DB D9 hdr hbB hbD P0 S0 G0 B0 L00;have f8:=B6.out.c 6 rfl
  have con9:=lx ks ps HBL.out (by have:=H1.out; omega) a c [⟨#[40]⟩,⟨#[41]⟩] (by rw [H1.out]; simp) G5.out P3.out L7.out (by rw [← an]; exact Hb.out);go_wp2_with fail
  refine con9.mono ?_;rintro e w10 ⟨rfl,v11,P_,S_⟩;have P12:Hid (aF w10 PB v11 (aE bs ([wd] ++ gm ps [⟨#[40]⟩,⟨#[41]⟩]))):=by show aF _ _ _ _; rw [an]; exact P_
  have S13:=ah (S4.out.trans S_);have G14:=ah (G5.out.st S_);have B15:=ah (B6.out.st S_);have L16:=ah (aJ.cE L7.out S_);clear con9 P_ S_ f8 P3 S4 G5 B6 L7;go_wp2_with fail
  go_end0
  exact ⟨rfl,v11,P12.out,S13.out⟩
theorem DF (k:Int) (v0:Vl) (t n:ByteArray) (ks:List SX) (u0 u1:List ByteArray) (hk4:4≤k) (hk15:k≤15) (H1:Hid (ks.length=2)) (hp0:0<ks.length) (hp1:1<ks.length) (hB0:gi u0 (ks[0]'hp0)) (hB1:gi u1 (ks[1]'hp1)) (a:Option Addr) (c:Nat) {PB:Nat} {v:Value} {bs:List UInt8} {w:World} (hG:GP w PB) (hP:aF w PB v bs) (hk:aJ (fun b=>b<PB) w a ks) (hb:(aE bs (mR k (bN (ks[0]'hp0).k,u0) (bN (ks[1]'hp1).k,u1))).length≤gZ):Calls Tryz.prog 146 #[af PB 0,.agg #[k,v0.1,v0.2.1,v0.2.2,t,n,.slice a ks.length c]] w (bU w PB v (aE bs (mR k (bN (ks[0]'hp0).k,u0) (bN (ks[1]'hp1).k,u1)))):=by
 have HB0:=ah hB0;have HB1:=ah hB1;clear hB0 hB1;have b1:(k == 1)=false:=by rw [beq_eq_false_iff_ne]; omega
 have b2:(k == 2)=false:=by rw [beq_eq_false_iff_ne]; omega
 have b3:(k == 3)=false:=by rw [beq_eq_false_iff_ne]; omega
 have b16:(k == 16)=false:=by rw [beq_eq_false_iff_ne]; omega
 have b17:(k == 17)=false:=by rw [beq_eq_false_iff_ne]; omega
 have b18:(k == 18)=false:=by rw [beq_eq_false_iff_ne]; omega
 have b19:(k == 19)=false:=by rw [beq_eq_false_iff_ne]; omega
 have b20:(k == 20)=false:=by rw [beq_eq_false_iff_ne]; omega
 have b21:(k == 21)=false:=by rw [beq_eq_false_iff_ne]; omega
 have b22:(k == 22)=false:=by rw [beq_eq_false_iff_ne]; omega
 have b23:(k == 23)=false:=by rw [beq_eq_false_iff_ne]; omega
 have Hb:=ah hb;clear hb;have hal:=bR w (.cells #[k,v0.1,v0.2.1,v0.2.2,t,n,.slice a ks.length c] 55)
 have B0:=ah (Bx.new hP #[k,v0.1,v0.2.1,v0.2.2,t,n,.slice a ks.length c] 55);have P0:=ah (hP.next hal)
 have S0:Hid (St PB v w v (w.alloc (.cells #[k,v0.1,v0.2.1,v0.2.2,t,n,.slice a ks.length c] 55))):=St.of hal hP.lt;have G0:=ah (hG.nx hal hP.lt);have L00:=ah (aJ.next hal hk);clear hP hG hal hk;go_enter Tryz.func146,Tryz.ntmps146;go_upto_region 1 with fail
 generalize w.alloc _=w0 at *;have f1:=B0.out.c 0 rfl;have f2:=B0.out.c 1 rfl;have f3:=B0.out.c 2 rfl;have f4:=B0.out.c 3 rfl;have f5:=B0.out.c 4 rfl;have f6:=B0.out.c 5 rfl
 have f7:=B0.out.c 6 rfl;have con8:=BU (.mk k v0 t n ks) u0 u1 H1.out HB0.out HB1.out a c (G0.out) (P0.out) L00.out (Hb.out);go_wp2_with fail
 refine con8.mono ?_;rintro e w9 ⟨rfl,v10,P_,S_⟩;have P11:=ah P_;have S12:=ah (S0.out.trans S_);have G13:=ah (G0.out.st S_);have B14:=ah (B0.out.st S_);have L15:=ah (aJ.cE L00.out S_);clear con8 P_ S_ f1 f2 f3 f4 f5 f6 f7 P0 S0 G0 B0 L00;go_wp2_with fail
 go_end0
 exact ⟨rfl,v10,P11.out,S12.out⟩
def ic (k:Int) (v:Vl) (t n:ByteArray) (ps:List (Int × List ByteArray)):List ByteArray :=
 if k=1 then dK v else if k=2 then mP t n else if k=3 then [⟨#[110,111,116]⟩] ++ fJ 3 (ps.getD 0 pd) else if k=16 then fJ 5 (ps.getD 0 pd) ++ [⟨#[105,115]⟩,⟨#[110,117,108,108]⟩]
 else if k=17 then [⟨#[99,97,115,101]⟩] ++ gm ps [⟨#[119,104,101,110]⟩,⟨#[116,104,101,110]⟩,⟨#[101,108,115,101]⟩,⟨#[101,110,100]⟩] else if k=18 then [⟨#[99,111,97,108,101,115,99,101]⟩] ++ gm ps [⟨#[40]⟩,⟨#[44]⟩,⟨#[41]⟩]
 else if k=19 then [⟨#[99,111,117,110,116]⟩,⟨#[40]⟩,⟨#[42]⟩,⟨#[41]⟩] else if 20≤k∧k≤23 then [cW k jA] ++ gm ps [⟨#[40]⟩,⟨#[41]⟩] else mR k (ps.getD 0 pd) (ps.getD 1 pd)
mutual
def bg:SX→List ByteArray
 | .mk k v t n ks=>ic k v t n (eM ks)
def eM:List SX→List (Int × List ByteArray)
 | []=>[]
 | x :: r=>(bN x.k,bg x) :: eM r
end
def bY (x:SX):List ByteArray:=fJ 1 (bN x.k,bg x)
theorem lB:∀ l,(eM l).length=l.length
 | []=>by rw [eM]; rfl
 | x :: r=>by rw [eM,Jo,Jo,lB r]
theorem j4:∀ (l:List SX) (i:Nat) (h:i<l.length),(eM l).getD i pd=(bN l[i].k,bg l[i])
 | [],i,h=>by simp at h
 | x :: r,0,h=>by rw [eM]; rfl
 | x :: r,i+1,h=>by
  rw [eM]
  have:=j4 r i (by simpa using h)
  simpa [List.getD] using this
def nf (v:Vl):Prop:=1≤v.1∧v.1≤4∧(v.1=3 → -1000000000000000≤v.2.1∧v.2.1≤1000000000000000)∧(v.1=4→v.2.2.size≤60)
inductive qm:SX→Prop
 | mk {k:Int} {v:Vl} {t n:ByteArray} {ks:List SX}:1≤k→k≤23→ks.length=eX k→(k=1→nf v)→(∀ y ∈ ks,qm y)→qm (.mk k v t n ks)
theorem yh {k:Int} {v:Vl} {t n:ByteArray} {ks:List SX} (h1:1≤k) (h23:k≤23) (hl:ks.length=eX k) (hv:k=1→nf v) (hB:∀ y ∈ ks,gi (bg y) y):gi (bg (.mk k v t n ks)) (.mk k v t n ks):=by
 have hL:rf (eM ks) ks:=⟨lB ks,fun i h=>⟨_,j4 ks i h,hB _ (Jk h)⟩⟩
 intro a c PB vv bs w hG hP hk hb;have e0:bg (.mk k v t n ks)=ic k v t n (eM ks):=by rw [bg]
 rw [e0] at hb ⊢;have hk:=hk;have some_of:0<ks.length→∃ b1 o1,a=some ⟨b1,o1,none⟩:=fun h=>by
  obtain ⟨b1,o1,_,_,e,_⟩:=hk.elem (k:=0) h;exact ⟨b1,o1,e⟩
 have g0:∀ h:0<ks.length,(eM ks).getD 0 pd=(bN (ks[0]'h).k,bg (ks[0]'h)):=fun h=>j4 ks 0 h
 have g1:∀ h:1<ks.length,(eM ks).getD 1 pd=(bN (ks[1]'h).k,bg (ks[1]'h)):=fun h=>j4 ks 1 h
 have m0:∀ h:0<ks.length,gi (bg (ks[0]'h)) (ks[0]'h):=fun h=>hB _ (Jk h)
 have m1:∀ h:1<ks.length,gi (bg (ks[1]'h)) (ks[1]'h):=fun h=>hB _ (Jk h)
 have cs:k=1∨k=2∨k=3∨k=16∨k=17∨k=18∨k=19∨k=20∨k=21∨k=22∨k=23∨(4≤k∧k≤15):=by omega
 rcases cs with rfl | rfl | rfl | rfl | rfl | rfl | rfl | rfl | rfl | rfl | rfl | ⟨h4,h15⟩
 ·obtain ⟨v1,v2,v3,v4⟩:=hv rfl;exact El v t n ks a c hG hP v1 v2 v3 v4 hb
 ·exact Ft v t n ks a c hG hP hb
 ·have hp:0<ks.length:=by rw [hl]; decide
  obtain ⟨b1,o1,rfl⟩:=some_of hp;have e:ic 3 v t n (eM ks) = [⟨#[110,111,116]⟩] ++ fJ 3 (bN (ks[0]'hp).k,bg (ks[0]'hp)):=by rw [← g0 hp]; rfl
  rw [e] at hb ⊢;exact Et v t n ks _ hp (m0 hp) b1 o1 c hG hP hk hb
 ·have hp:0<ks.length:=by rw [hl]; decide
  obtain ⟨b1,o1,rfl⟩:=some_of hp;have e:ic 16 v t n (eM ks)=fJ 5 (bN (ks[0]'hp).k,bg (ks[0]'hp)) ++ [⟨#[105,115]⟩,⟨#[110,117,108,108]⟩]:=by rw [← g0 hp]; rfl
  rw [e] at hb ⊢;exact CX v t n ks _ hp (m0 hp) b1 o1 c hG hP hk hb
 ·exact Cv v t n ks _ hL hl a c hG hP hk hb
 ·exact DK v t n ks _ hL hl a c hG hP hk hb
 ·exact CP v t n ks a c hG hP hb
 ·exact rA 20 (by decide) v t n ks _ hL hl a c hG hP hk hb
 ·exact rA 21 (by decide) v t n ks _ hL hl a c hG hP hk hb
 ·exact rA 22 (by decide) v t n ks _ hL hl a c hG hP hk hb
 ·exact rA 23 (by decide) v t n ks _ hL hl a c hG hP hk hb
 ·have h2:ks.length=2:=by rw [hl,eX,if_neg ak,if_neg ak,if_neg ak]
  have hp0:0<ks.length:=by omega
  have hp1:1<ks.length:=by omega
  have e:ic k v t n (eM ks)=mR k (bN (ks[0]'hp0).k,bg (ks[0]'hp0)) (bN (ks[1]'hp1).k,bg (ks[1]'hp1)):=by
   rw [← g0 hp0,← g1 hp1,ic,if_neg ak,if_neg ak,if_neg ak,if_neg ak,if_neg ak,if_neg ak,if_neg ak,if_neg ak]
  rw [e] at hb ⊢;exact DF k v t n ks _ _ h4 h15 h2 hp0 hp1 (m0 hp0) (m1 hp1) a c hG hP hk hb
theorem Bh:∀ (m:Nat) (x:SX),SizeOf.sizeOf x≤m→qm x→gi (bg x) x
 | 0,.mk k v t n ks,h,_=>by simp at h
 | m+1,.mk k v t n ks,h,ok=>by
  cases ok with
  | mk h1 h2 h3 h4 h5=>exact yh h1 h2 h3 h4 fun y hy=>Bh m y (by have:=List.sizeOf_lt_of_mem hy; simp at h; omega) (h5 y hy)
theorem Dc {x:SX} (h:qm x):gi (bg x) x:=Bh _ x (I6 _) h
theorem lT {x:SX} (h:qm x) (a:Option Addr) (c:Nat) {PB:Nat} {v:Value} {bs:List UInt8} {w:World} (hG:GP w PB) (hP:aF w PB v bs) (hk:aJ (fun b=>b<PB) w a x.ks) (hb:(aE bs (bY x)).length≤gZ):Calls Tryz.prog 92 #[af PB 0,.agg (bE x a c)] w (bU w PB v (aE bs (bY x))):=xE x (bg x) (Dc h) a c hG hP hk hb
def fH (wd:ByteArray) (has:Bool) (x:SX):List ByteArray:=if has then [wd] ++ bY x else []
def fw (x:kx):List ByteArray:=bY x.1 ++ kR x.2
theorem ey (wd:ByteArray) (has:Bool) (x:SX) (hx:has=true→qm x) (a:Option Addr) (c:Nat) {PB:Nat} {v:Value} {bs:List UInt8} {w:World} (hG:GP w PB) (hP:aF w PB v bs) (hk:aJ (fun b=>b<PB) w a x.ks) (hb:(aE bs (fH wd has x)).length≤gZ):Calls Tryz.prog 63 #[af PB 0,wd,has,.agg (bE x a c)] w (bU w PB v (aE bs (fH wd has x))):=by
 cases has
 ·have ev:fH wd false x = []:=rfl;rw [ev] at hb ⊢;clear ev hx;have Hb:=ah hb;clear hb;have hal:=bR w (.cells (bE x a c) 55);have B0:=ah (Bx.new hP (bE x a c) 55);have P0:=ah (hP.next hal);have S0:Hid (St PB v w v (w.alloc (.cells (bE x a c) 55))):=St.of hal hP.lt;have G0:=ah (hG.nx hal hP.lt)
  have L00:=ah (aJ.next hal hk);clear hP hG hal hk;go_enter Tryz.func63,Tryz.ntmps63;go_upto_region 1 with fail
  generalize w.alloc _=w0 at *;go_wp2_with fail
  go_end0
  exact ⟨rfl,v,P0.out,S0.out⟩
 ·have ev:fH wd true x = [wd] ++ bY x:=rfl;rw [ev] at hb ⊢;have HO:=ah (hx rfl);clear ev hx;have Hb:=ah hb;clear hb;have hal:=bR w (.cells (bE x a c) 55);have B0:=ah (Bx.new hP (bE x a c) 55);have P0:=ah (hP.next hal);have S0:Hid (St PB v w v (w.alloc (.cells (bE x a c) 55))):=St.of hal hP.lt;have G0:=ah (hG.nx hal hP.lt)
  have L00:=ah (aJ.next hal hk);clear hP hG hal hk;go_enter Tryz.func63,Tryz.ntmps63;go_upto_region 1 with fail
  generalize w.alloc _=w0 at *;have con1:=bq [wd] P0.out (dx (Hb.out)) (by simp);go_wp2_with fail
  refine con1.mono ?_;rintro e w2 ⟨rfl,v3,P_,S_⟩;have P4:=ah P_;have S5:=ah (S0.out.trans S_);have G6:=ah (G0.out.st S_);have B7:=ah (B0.out.st S_);have L8:=ah (aJ.cE L00.out S_);clear con1 P_ S_  P0 S0 G0 B0 L00;have f9:=B7.out.c 0 rfl;have f10:=B7.out.c 1 rfl;have f11:=B7.out.c 2 rfl
  have f12:=B7.out.c 3 rfl;have f13:=B7.out.c 4 rfl;have f14:=B7.out.c 5 rfl;have f15:=B7.out.c 6 rfl;have con16:=lT HO.out a c (G6.out) (P4.out) L8.out (by rw [← an]; exact Hb.out);go_wp2_with fail
  refine con16.mono ?_;rintro e w17 ⟨rfl,v18,P_,S_⟩;have P19:Hid (aF w17 PB v18 (aE bs ([wd] ++ bY x))):=by show aF _ _ _ _; rw [an]; exact P_
  have S20:=ah (S5.out.trans S_);have G21:=ah (G6.out.st S_);have B22:=ah (B7.out.st S_);have L23:=ah (aJ.cE L8.out S_);clear con16 P_ S_ f9 f10 f11 f12 f13 f14 f15 P4 S5 G6 B7 L8;go_wp2_with fail
  go_end0
  exact ⟨rfl,v18,P19.out,S20.out⟩
theorem tq (x:kx) (hx:qm x.1) (a:Option Addr) (c:Nat) {PB:Nat} {v:Value} {bs:List UInt8} {w:World} (hG:GP w PB) (hP:aF w PB v bs) (hk:aJ (fun b=>b<PB) w a x.1.ks) (hb:(aE bs (fw x)).length≤gZ):Calls Tryz.prog 118 #[af PB 0,.agg #[x.1.k,x.1.v.1,x.1.v.2.1,x.1.v.2.2,x.1.bp,x.1.name,.slice a x.1.ks.length c,x.2]] w (bU w PB v (aE bs (fw x))):=by
 rw [fw] at hb ⊢;have HO:=ah hx;clear hx;have Hb:=ah hb;clear hb;have hal:=bR w (.cells #[x.1.k,x.1.v.1,x.1.v.2.1,x.1.v.2.2,x.1.bp,x.1.name,.slice a x.1.ks.length c,x.2] 75)
 have B0:=ah (Bx.new hP #[x.1.k,x.1.v.1,x.1.v.2.1,x.1.v.2.2,x.1.bp,x.1.name,.slice a x.1.ks.length c,x.2] 75)
 have P0:=ah (hP.next hal);have S0:Hid (St PB v w v (w.alloc (.cells #[x.1.k,x.1.v.1,x.1.v.2.1,x.1.v.2.2,x.1.bp,x.1.name,.slice a x.1.ks.length c,x.2] 75))):=St.of hal hP.lt
 have G0:=ah (hG.nx hal hP.lt);have L00:=ah (aJ.next hal hk);clear hP hG hal hk;go_enter Tryz.func118,Tryz.ntmps118;go_upto_region 1 with fail
 generalize w.alloc _=w0 at *;have f1:=B0.out.c 0 rfl;have f2:=B0.out.c 1 rfl;have f3:=B0.out.c 2 rfl;have f4:=B0.out.c 3 rfl;have f5:=B0.out.c 4 rfl
 have f6:=B0.out.c 5 rfl;have f7:=B0.out.c 6 rfl;have con8:=lT HO.out a c (G0.out) (P0.out) L00.out (dx (Hb.out));go_wp2_with fail
 refine con8.mono ?_;rintro e w9 ⟨rfl,v10,P_,S_⟩;have P11:=ah P_;have S12:=ah (S0.out.trans S_);have G13:=ah (G0.out.st S_);have B14:=ah (B0.out.st S_);have L15:=ah (aJ.cE L00.out S_);clear con8 P_ S_ f1 f2 f3 f4 f5 f6 f7 P0 S0 G0 B0 L00;have f16:=B14.out.c 7 rfl
 have con17:=jU x.2 (P11.out) (by rw [← an]; exact Hb.out);go_wp2_with fail
 refine con17.mono ?_;rintro e w18 ⟨rfl,v19,P_,S_⟩;have P20:Hid (aF w18 PB v19 (aE bs (bY x.1 ++ kR x.2))):=by show aF _ _ _ _; rw [an]; exact P_
 have S21:=ah (S12.out.trans S_);have G22:=ah (G13.out.st S_);have B23:=ah (B14.out.st S_);have L24:=ah (aJ.cE L15.out S_);clear con17 P_ S_ f16 P11 S12 G13 B14 L15;go_wp2_with fail
 go_end0
 exact ⟨rfl,v19,P20.out,S21.out⟩
def cQ {α:Type} (ew:α→List ByteArray) (l:List α):Nat→List ByteArray
 | 0=>[]
 | i+1=>cQ ew l i ++ (if i=0 then [] else [⟨#[44]⟩]) ++ (match l[i]? with | some x=>ew x | none=>[])
def dS {α:Type} (ew:α→List ByteArray) (l:List α):List ByteArray:=cQ ew l l.length
theorem kY {α:Type} (bs:List UInt8) (ew:α→List ByteArray) (l:List α) (i:Nat):∀ n,i≤n→(aE bs (cQ ew l i)).length≤(aE bs (cQ ew l n)).length
 | 0,h=>by rw [Nat.le_zero.1 h]; exact I6 _
 | n+1,h=>by
  by_cases e:i=n+1
  ·rw [e]; exact I6 _
  ·refine Jj (kY bs ew l i n ak) ?_
   rw [cQ,an,an]
   exact Jj (fX _ _) (fX _ _)
theorem mm {α:Type} (ew:α→List ByteArray) (l:List α) (j:Nat) (h:j<l.length):cQ ew l (j+1)=cQ ew l j ++ (if j=0 then [] else [⟨#[44]⟩]) ++ ew l[j]:=by rw [cQ,Je h]
theorem wo (l:List tG) (hl:l.length≤1000) (hok:∀ x ∈ l,True) (a:Option Addr) (c:Nat) {PB:Nat} {v:Value} {bs:List UInt8} {w:World} (hG:GP w PB) (hP:aF w PB v bs) (hk:bf pO 2 (fun b=>b<PB) w a l) (hb:(aE bs (dS dH l)).length≤gZ):Calls Tryz.prog 58 #[af PB 0,.slice a l.length c,.func (.func 59) #[af PB 0] #[]] w (bU w PB v (aE bs (dS dH l))):=by
 have HOK:Hid _:=hok;have HG:Hid (GP w PB):=hG;have HP:Hid (aF w PB v bs):=hP;have HK:Hid (bf pO 2 (fun b=>b<PB) w a l):=hk;have HB:Hid (∀ j,j<l.length→(aE bs (cQ dH l (j+1))).length≤gZ):=fun j hj=>Jj (kY bs dH l (j+1) l.length hj) hb
 clear hG hP hk hb hok;go_enter Tryz.func58,Tryz.ntmps58;go_wp2_with fail
 go_loopw [10] (fun i wr=>∃ (j:Nat) (v':Value),j≤l.length∧i = .int .i64 j∧Hid (aF wr PB v' (aE bs (cQ dH l j)))∧Hid (St PB v w v' wr)) (fun i _=>l.length - (RowKit.intOf i).toNat)
 case atStart=>exact ⟨0,v,Jc _,rfl,HP,St.refl _ _ _⟩
 case round =>
  obtain ⟨j,v1,hj,rfl,hP1,hS1⟩:=hrel;have hG1:Hid (GP wr PB):=HG.out.st hS1.out;by_cases hlt:j<l.length
  ·have hBj:=HB.out j hlt;obtain ⟨b1,o1,_,rfl,t1,rfl⟩:=(HK.out.cE iY hS1.out).get hlt;have hsj:=mm dH l j hlt;rw [hsj] at hBj;have HSJ:Hid (cQ dH l (j+1)=_):=hsj;have hOk:=HOK.out _ (Jk hlt);have hjz:(j:Int)<(l.length:Int):=by omega
   generalize l[j]=y at *;have Hb:Hid _:=hBj;have HOY:Hid _:=hOk;clear hBj hsj hOk;have z0:wr.cell? ⟨b1,o1+j*2,none⟩=some (.string y.1):=t1.2 0 _ rfl;have z1:wr.cell? ⟨b1,o1+j*2+1,none⟩=some (.int .i64 y.2):=t1.2 1 _ rfl;clear t1;have hal:=bR wr (.cells #[y.1,y.2] 69);go_upto_region 3 with fail
   have B0:Hid (Bx (wr.alloc (.cells #[y.1,y.2] 69)) PB v1 wr #[y.1,y.2] 69):=Bx.new hP1.out #[y.1,y.2] 69;have P0:Hid (aF (wr.alloc (.cells #[y.1,y.2] 69)) PB v1 (aE bs (cQ dH l j))):=hP1.out.next hal;have S0:Hid (St PB v w v1 (wr.alloc (.cells #[y.1,y.2] 69))):=hS1.out.trans (St.of hal hP1.out.lt);have G0:Hid (GP (wr.alloc (.cells #[y.1,y.2] 69)) PB):=hG1.out.nx hal hP1.out.lt;clear hP1 hS1 hG1 hal z0 z1
   generalize (wr.alloc (.cells #[y.1,y.2] 69))=w0 at *;by_cases hj0:j=0
   ·rw [if_pos hj0] at Hb HSJ;subst hj0;have con1:Calls Tryz.prog 86 #[af PB 0,false,.string ⟨#[44]⟩] w0 (bU w0 PB v1 (aE (aE bs (cQ dH l 0)) ([]))):=dU false ⟨#[44]⟩ P0.out (by rw [← an]; exact dx (Hb.out));go_wp2_with fail
    refine con1.mono ?_;rintro e w2 ⟨rfl,v3,P_,S_⟩;have P4:Hid (aF w2 PB v3 (aE bs (cQ dH l 0 ++ []))):=by show aF _ _ _ _; rw [an]; exact P_
    have S5:Hid (St PB v w v3 w2):=S0.out.trans S_;have G6:Hid (GP w2 PB):=G0.out.st S_;have B7:Hid (Bx w2 PB v3 (wr.heap.size) #[y.1,y.2] 69):=B0.out.st S_;clear con1 P_ S_  P0 S0 G0 B0;have f8:w2.cell? (af wr 0)=some (.string y.1):=B7.out.c 0 rfl;have f9:w2.cell? (af wr 1)=some (.int .i64 y.2):=B7.out.c 1 rfl;have con10:Calls Tryz.prog 59 #[af PB 0,.agg #[y.1,y.2]] w2 (bU w2 PB v3 (aE (aE bs (cQ dH l 0 ++ [])) (dH y))):=oB y (G6.out) (P4.out) (by rw [← an]; exact Hb.out)
    go_wp2_with fail
    refine con10.mono ?_;rintro e w11 ⟨rfl,v12,P_,S_⟩;have P13:Hid (aF w11 PB v12 (aE bs (cQ dH l 0 ++ [] ++ dH y))):=by show aF _ _ _ _; rw [an]; exact P_
    have S14:Hid (St PB v w v12 w11):=S5.out.trans S_;have G15:Hid (GP w11 PB):=G6.out.st S_;have B16:Hid (Bx w11 PB v12 (wr.heap.size) #[y.1,y.2] 69):=B7.out.st S_;clear con10 P_ S_ f8 f9 P4 S5 G6 B7;have PZ:Hid (aF w11 PB v12 (aE bs (cQ dH l (0+1)))):=by show aF _ _ _ _; rw [HSJ.out]; exact P13.out
    clear P13;go_wp2_with fail
    go_roundw
    case rel=>exact ⟨0+1,v12,by omega,by go_num,PZ,S14⟩
    case measure=>simp [RowKit.intOf]; omega
   ·rw [if_neg hj0] at Hb HSJ;have hz:decide (0<j)=true:=by simp; omega
    have con17:Calls Tryz.prog 86 #[af PB 0,true,.string ⟨#[44]⟩] w0 (bU w0 PB v1 (aE (aE bs (cQ dH l j)) ([⟨#[44]⟩]))):=dU true ⟨#[44]⟩ P0.out (by rw [← an]; exact dx (Hb.out));go_wp2_with fail
    refine con17.mono ?_;rintro e w18 ⟨rfl,v19,P_,S_⟩;have P20:Hid (aF w18 PB v19 (aE bs (cQ dH l j ++ [⟨#[44]⟩]))):=by show aF _ _ _ _; rw [an]; exact P_
    have S21:=ah (S0.out.trans S_);have G22:=ah (G0.out.st S_);have B23:=ah (B0.out.st S_);clear con17 P_ S_  P0 S0 G0 B0;have f24:=B23.out.c 0 rfl;have f25:=B23.out.c 1 rfl
    have con26:=oB y (G22.out) (P20.out) (by rw [← an]; exact Hb.out);go_wp2_with fail
    refine con26.mono ?_;rintro e w27 ⟨rfl,v28,P_,S_⟩;have P29:Hid (aF w27 PB v28 (aE bs (cQ dH l j ++ [⟨#[44]⟩] ++ dH y))):=by show aF _ _ _ _; rw [an]; exact P_
    have S30:=ah (S21.out.trans S_);have G31:=ah (G22.out.st S_);have B32:=ah (B23.out.st S_);clear con26 P_ S_ f24 f25 P20 S21 G22 B23;have PZ:Hid (aF w27 PB v28 (aE bs (cQ dH l (j+1)))):=by show aF _ _ _ _; rw [HSJ.out]; exact P29.out
    clear P29;go_wp2_with fail
    go_roundw
    case rel=>exact ⟨j+1,v28,by omega,by go_num,PZ,S30⟩
    case measure=>simp [RowKit.intOf]; omega
  ·have ej:j=l.length:=by omega
   subst ej;go_wp2_with fail
   go_end0
   exact ⟨rfl,v1,hP1.out,hS1.out⟩
theorem wL (l:List Vl) (hl:l.length≤1000) (hok:∀ x ∈ l,nf x) (a:Option Addr) (c:Nat) {PB:Nat} {v:Value} {bs:List UInt8} {w:World} (hG:GP w PB) (hP:aF w PB v bs) (hk:bf jQ 3 (fun b=>b<PB) w a l) (hb:(aE bs (dS dK l)).length≤gZ):Calls Tryz.prog 94 #[af PB 0,.slice a l.length c,.func (.func 95) #[af PB 0] #[]] w (bU w PB v (aE bs (dS dK l))):=by
 have HOK:Hid _:=hok;have HG:Hid (GP w PB):=hG;have HP:Hid (aF w PB v bs):=hP;have HK:Hid (bf jQ 3 (fun b=>b<PB) w a l):=hk;have HB:Hid (∀ j,j<l.length→(aE bs (cQ dK l (j+1))).length≤gZ):=fun j hj=>Jj (kY bs dK l (j+1) l.length hj) hb
 clear hG hP hk hb hok;go_enter Tryz.func94,Tryz.ntmps94;go_wp2_with fail
 go_loopw [10] (fun i wr=>∃ (j:Nat) (v':Value),j≤l.length∧i = .int .i64 j∧Hid (aF wr PB v' (aE bs (cQ dK l j)))∧Hid (St PB v w v' wr)) (fun i _=>l.length - (RowKit.intOf i).toNat)
 case atStart=>exact ⟨0,v,Jc _,rfl,HP,St.refl _ _ _⟩
 case round =>
  obtain ⟨j,v1,hj,rfl,hP1,hS1⟩:=hrel;have hG1:Hid (GP wr PB):=HG.out.st hS1.out;by_cases hlt:j<l.length
  ·have hBj:=HB.out j hlt;obtain ⟨b1,o1,_,rfl,t1,rfl⟩:=(HK.out.cE eU hS1.out).get hlt;have hsj:=mm dK l j hlt;rw [hsj] at hBj;have HSJ:Hid (cQ dK l (j+1)=_):=hsj;have hOk:=HOK.out _ (Jk hlt);have hjz:(j:Int)<(l.length:Int):=by omega
   generalize l[j]=y at *;have Hb:Hid _:=hBj;have HOY:Hid _:=hOk;clear hBj hsj hOk;have z0:wr.cell? ⟨b1,o1+j*3,none⟩=some (.int .i64 y.1):=t1.2 0 _ rfl;have z1:wr.cell? ⟨b1,o1+j*3+1,none⟩=some (.int .i64 y.2.1):=t1.2 1 _ rfl;have z2:wr.cell? ⟨b1,o1+j*3+2,none⟩=some (.string y.2.2):=t1.2 2 _ rfl;clear t1;have hal:=bR wr (.cells #[y.1,y.2.1,y.2.2] 53);go_upto_region 3 with fail
   have B0:Hid (Bx (wr.alloc (.cells #[y.1,y.2.1,y.2.2] 53)) PB v1 wr #[y.1,y.2.1,y.2.2] 53):=Bx.new hP1.out #[y.1,y.2.1,y.2.2] 53;have P0:Hid (aF (wr.alloc (.cells #[y.1,y.2.1,y.2.2] 53)) PB v1 (aE bs (cQ dK l j))):=hP1.out.next hal;have S0:Hid (St PB v w v1 (wr.alloc (.cells #[y.1,y.2.1,y.2.2] 53))):=hS1.out.trans (St.of hal hP1.out.lt)
   have G0:Hid (GP (wr.alloc (.cells #[y.1,y.2.1,y.2.2] 53)) PB):=hG1.out.nx hal hP1.out.lt;clear hP1 hS1 hG1 hal z0 z1 z2;generalize (wr.alloc (.cells #[y.1,y.2.1,y.2.2] 53))=w0 at *;by_cases hj0:j=0
   ·rw [if_pos hj0] at Hb HSJ;subst hj0;have con1:Calls Tryz.prog 86 #[af PB 0,false,.string ⟨#[44]⟩] w0 (bU w0 PB v1 (aE (aE bs (cQ dK l 0)) ([]))):=dU false ⟨#[44]⟩ P0.out (by rw [← an]; exact dx (Hb.out));go_wp2_with fail
    refine con1.mono ?_;rintro e w2 ⟨rfl,v3,P_,S_⟩;have P4:Hid (aF w2 PB v3 (aE bs (cQ dK l 0 ++ []))):=by show aF _ _ _ _; rw [an]; exact P_
    have S5:Hid (St PB v w v3 w2):=S0.out.trans S_;have G6:Hid (GP w2 PB):=G0.out.st S_;have B7:Hid (Bx w2 PB v3 (wr.heap.size) #[y.1,y.2.1,y.2.2] 53):=B0.out.st S_;clear con1 P_ S_  P0 S0 G0 B0;have f8:w2.cell? (af wr 0)=some (.int .i64 y.1):=B7.out.c 0 rfl;have f9:w2.cell? (af wr 1)=some (.int .i64 y.2.1):=B7.out.c 1 rfl;have f10:w2.cell? (af wr 2)=some (.string y.2.2):=B7.out.c 2 rfl
    have con11:Calls Tryz.prog 95 #[af PB 0,.agg #[y.1,y.2.1,y.2.2]] w2 (bU w2 PB v3 (aE (aE bs (cQ dK l 0 ++ [])) (dK y))):=mH y (G6.out) (P4.out) HOY.out.1 HOY.out.2.1 HOY.out.2.2.1 HOY.out.2.2.2 (by rw [← an]; exact Hb.out);go_wp2_with fail
    refine con11.mono ?_;rintro e w12 ⟨rfl,v13,P_,S_⟩;have P14:Hid (aF w12 PB v13 (aE bs (cQ dK l 0 ++ [] ++ dK y))):=by show aF _ _ _ _; rw [an]; exact P_
    have S15:Hid (St PB v w v13 w12):=S5.out.trans S_;have G16:Hid (GP w12 PB):=G6.out.st S_;have B17:Hid (Bx w12 PB v13 (wr.heap.size) #[y.1,y.2.1,y.2.2] 53):=B7.out.st S_;clear con11 P_ S_ f8 f9 f10 P4 S5 G6 B7;have PZ:Hid (aF w12 PB v13 (aE bs (cQ dK l (0+1)))):=by show aF _ _ _ _; rw [HSJ.out]; exact P14.out
    clear P14;go_wp2_with fail
    go_roundw
    case rel=>exact ⟨0+1,v13,by omega,by go_num,PZ,S15⟩
    case measure=>simp [RowKit.intOf]; omega
   ·rw [if_neg hj0] at Hb HSJ;have hz:decide (0<j)=true:=by simp; omega
    have con18:Calls Tryz.prog 86 #[af PB 0,true,.string ⟨#[44]⟩] w0 (bU w0 PB v1 (aE (aE bs (cQ dK l j)) ([⟨#[44]⟩]))):=dU true ⟨#[44]⟩ P0.out (by rw [← an]; exact dx (Hb.out));go_wp2_with fail
    refine con18.mono ?_;rintro e w19 ⟨rfl,v20,P_,S_⟩;have P21:Hid (aF w19 PB v20 (aE bs (cQ dK l j ++ [⟨#[44]⟩]))):=by show aF _ _ _ _; rw [an]; exact P_
    have S22:=ah (S0.out.trans S_);have G23:=ah (G0.out.st S_);have B24:=ah (B0.out.st S_);clear con18 P_ S_  P0 S0 G0 B0;have f25:=B24.out.c 0 rfl;have f26:=B24.out.c 1 rfl;have f27:=B24.out.c 2 rfl
    have con28:=mH y (G23.out) (P21.out) HOY.out.1 HOY.out.2.1 HOY.out.2.2.1 HOY.out.2.2.2 (by rw [← an]; exact Hb.out);go_wp2_with fail
    refine con28.mono ?_;rintro e w29 ⟨rfl,v30,P_,S_⟩;have P31:Hid (aF w29 PB v30 (aE bs (cQ dK l j ++ [⟨#[44]⟩] ++ dK y))):=by show aF _ _ _ _; rw [an]; exact P_
    have S32:=ah (S22.out.trans S_);have G33:=ah (G23.out.st S_);have B34:=ah (B24.out.st S_);clear con28 P_ S_ f25 f26 f27 P21 S22 G23 B24;have PZ:Hid (aF w29 PB v30 (aE bs (cQ dK l (j+1)))):=by show aF _ _ _ _; rw [HSJ.out]; exact P31.out
    clear P31;go_wp2_with fail
    go_roundw
    case rel=>exact ⟨j+1,v30,by omega,by go_num,PZ,S32⟩
    case measure=>simp [RowKit.intOf]; omega
  ·have ej:j=l.length:=by omega
   subst ej;go_wp2_with fail
   go_end0
   exact ⟨rfl,v1,hP1.out,hS1.out⟩
theorem pt (l:List SX) (hl:l.length≤1000) (hok:∀ x ∈ l,qm x) (a:Option Addr) (c:Nat) {PB:Nat} {v:Value} {bs:List UInt8} {w:World} (hG:GP w PB) (hP:aF w PB v bs) (hk:bf fu 7 (fun b=>b<PB) w a l) (hb:(aE bs (dS bY l)).length≤gZ):Calls Tryz.prog 91 #[af PB 0,.slice a l.length c,.func (.func 92) #[af PB 0] #[]] w (bU w PB v (aE bs (dS bY l))):=by
 have HOK:=ah hok;have HG:=ah hG;have HP:=ah hP;have HK:=ah hk;have HB:Hid (∀ j,j<l.length→(aE bs (cQ bY l (j+1))).length≤gZ):=fun j hj=>Jj (kY bs bY l (j+1) l.length hj) hb
 clear hG hP hk hb hok;go_enter Tryz.func91,Tryz.ntmps91;go_wp2_with fail
 go_loopw [10] (fun i wr=>∃ (j:Nat) (v':Value),j≤l.length∧i = .int .i64 j∧Hid (aF wr PB v' (aE bs (cQ bY l j)))∧Hid (St PB v w v' wr)) (fun i _=>l.length - (RowKit.intOf i).toNat)
 case atStart=>exact ⟨0,v,Jc _,rfl,HP,St.refl _ _ _⟩
 case round =>
  obtain ⟨j,v1,hj,rfl,hP1,hS1⟩:=hrel;have hG1:=ah (HG.out.st hS1.out);by_cases hlt:j<l.length
  ·have hBj:=HB.out j hlt;obtain ⟨b1,o1,_,rfl,t1,ai,ci,rfl,kk⟩:=(HK.out.cE b9 hS1.out).get hlt;have hsj:=mm bY l j hlt;rw [hsj] at hBj;have HSJ:=ah hsj;have hOk:=HOK.out _ (Jk hlt);have hjz:(j:Int)<(l.length:Int):=by omega
   generalize l[j]=y at *;have Hb:=ah hBj;have HOY:=ah hOk;clear hBj hsj hOk;have z0:wr.cell? ⟨b1,o1+j*7,none⟩=some (.int .i64 y.k):=t1.2 0 _ rfl;have z1:wr.cell? ⟨b1,o1+j*7+1,none⟩=some (.int .i64 y.v.1):=t1.2 1 _ rfl;have z2:wr.cell? ⟨b1,o1+j*7+2,none⟩=some (.int .i64 y.v.2.1):=t1.2 2 _ rfl;have z3:wr.cell? ⟨b1,o1+j*7+3,none⟩=some (.string y.v.2.2):=t1.2 3 _ rfl;have z4:wr.cell? ⟨b1,o1+j*7+4,none⟩=some (.string y.bp):=t1.2 4 _ rfl;have z5:wr.cell? ⟨b1,o1+j*7+5,none⟩=some (.string y.name):=t1.2 5 _ rfl;have z6:wr.cell? ⟨b1,o1+j*7+6,none⟩=some (.slice ai y.ks.length ci):=t1.2 6 _ rfl
   have KK:Hid (aJ (fun b=>b<PB) wr ai y.ks):=kk;clear kk;clear t1;have hal:=bR wr (.cells (bE y ai ci) 55);go_upto_region 3 with fail
   have B0:Hid (Bx (wr.alloc (.cells (bE y ai ci) 55)) PB v1 wr (bE y ai ci) 55):=Bx.new hP1.out (bE y ai ci) 55;have P0:Hid (aF (wr.alloc (.cells (bE y ai ci) 55)) PB v1 (aE bs (cQ bY l j))):=hP1.out.next hal;have S0:Hid (St PB v w v1 (wr.alloc (.cells (bE y ai ci) 55))):=hS1.out.trans (St.of hal hP1.out.lt);have G0:Hid (GP (wr.alloc (.cells (bE y ai ci) 55)) PB):=hG1.out.nx hal hP1.out.lt;have L00:Hid (aJ (fun b=>b<PB) (wr.alloc (.cells (bE y ai ci) 55)) ai y.ks):=aJ.next hal KK.out;clear KK;clear hP1 hS1 hG1 hal z0 z1 z2 z3 z4 z5 z6
   generalize (wr.alloc (.cells (bE y ai ci) 55))=w0 at *;by_cases hj0:j=0
   ·rw [if_pos hj0] at Hb HSJ;subst hj0;have con1:Calls Tryz.prog 86 #[af PB 0,false,.string ⟨#[44]⟩] w0 (bU w0 PB v1 (aE (aE bs (cQ bY l 0)) ([]))):=dU false ⟨#[44]⟩ P0.out (by rw [← an]; exact dx (Hb.out));go_wp2_with fail
    refine con1.mono ?_;rintro e w2 ⟨rfl,v3,P_,S_⟩;have P4:Hid (aF w2 PB v3 (aE bs (cQ bY l 0 ++ []))):=by show aF _ _ _ _; rw [an]; exact P_
    have S5:=ah (S0.out.trans S_);have G6:=ah (G0.out.st S_);have B7:Hid (Bx w2 PB v3 (wr.heap.size) (bE y ai ci) 55):=B0.out.st S_;have L8:Hid (aJ (fun b=>b<PB) w2 ai y.ks):=aJ.cE L00.out S_;clear con1 P_ S_  P0 S0 G0 B0 L00;have f9:w2.cell? (af wr 0)=some (.int .i64 y.k):=B7.out.c 0 rfl;have f10:w2.cell? (af wr 1)=some (.int .i64 y.v.1):=B7.out.c 1 rfl;have f11:w2.cell? (af wr 2)=some (.int .i64 y.v.2.1):=B7.out.c 2 rfl;have f12:w2.cell? (af wr 3)=some (.string y.v.2.2):=B7.out.c 3 rfl
    have f13:w2.cell? (af wr 4)=some (.string y.bp):=B7.out.c 4 rfl;have f14:w2.cell? (af wr 5)=some (.string y.name):=B7.out.c 5 rfl;have f15:w2.cell? (af wr 6)=some (.slice ai y.ks.length ci):=B7.out.c 6 rfl;have con16:Calls Tryz.prog 92 #[af PB 0,.agg (bE y ai ci)] w2 (bU w2 PB v3 (aE (aE bs (cQ bY l 0 ++ [])) (bY y))):=lT HOY.out ai ci (G6.out) (P4.out) L8.out (by rw [← an]; exact Hb.out);go_wp2_with fail
    refine con16.mono ?_;rintro e w17 ⟨rfl,v18,P_,S_⟩;have P19:Hid (aF w17 PB v18 (aE bs (cQ bY l 0 ++ [] ++ bY y))):=by show aF _ _ _ _; rw [an]; exact P_
    have S20:Hid (St PB v w v18 w17):=S5.out.trans S_;have G21:Hid (GP w17 PB):=G6.out.st S_;have B22:Hid (Bx w17 PB v18 (wr.heap.size) (bE y ai ci) 55):=B7.out.st S_;have L23:Hid (aJ (fun b=>b<PB) w17 ai y.ks):=aJ.cE L8.out S_;clear con16 P_ S_ f9 f10 f11 f12 f13 f14 f15 P4 S5 G6 B7 L8;have PZ:Hid (aF w17 PB v18 (aE bs (cQ bY l (0+1)))):=by show aF _ _ _ _; rw [HSJ.out]; exact P19.out
    clear P19;go_wp2_with fail
    go_roundw
    case rel=>exact ⟨0+1,v18,by omega,by go_num,PZ,S20⟩
    case measure=>simp [RowKit.intOf]; omega
   ·rw [if_neg hj0] at Hb HSJ;have hz:decide (0<j)=true:=by simp; omega
    have con24:Calls Tryz.prog 86 #[af PB 0,true,.string ⟨#[44]⟩] w0 (bU w0 PB v1 (aE (aE bs (cQ bY l j)) ([⟨#[44]⟩]))):=dU true ⟨#[44]⟩ P0.out (by rw [← an]; exact dx (Hb.out));go_wp2_with fail
    refine con24.mono ?_;rintro e w25 ⟨rfl,v26,P_,S_⟩;have P27:Hid (aF w25 PB v26 (aE bs (cQ bY l j ++ [⟨#[44]⟩]))):=by show aF _ _ _ _; rw [an]; exact P_
    have S28:=ah (S0.out.trans S_);have G29:=ah (G0.out.st S_);have B30:=ah (B0.out.st S_);have L31:=ah (aJ.cE L00.out S_);clear con24 P_ S_  P0 S0 G0 B0 L00;have f32:=B30.out.c 0 rfl;have f33:=B30.out.c 1 rfl;have f34:=B30.out.c 2 rfl;have f35:=B30.out.c 3 rfl
    have f36:=B30.out.c 4 rfl;have f37:=B30.out.c 5 rfl;have f38:=B30.out.c 6 rfl;have con39:=lT HOY.out ai ci (G29.out) (P27.out) L31.out (by rw [← an]; exact Hb.out);go_wp2_with fail
    refine con39.mono ?_;rintro e w40 ⟨rfl,v41,P_,S_⟩;have P42:Hid (aF w40 PB v41 (aE bs (cQ bY l j ++ [⟨#[44]⟩] ++ bY y))):=by show aF _ _ _ _; rw [an]; exact P_
    have S43:=ah (S28.out.trans S_);have G44:=ah (G29.out.st S_);have B45:=ah (B30.out.st S_);have L46:=ah (aJ.cE L31.out S_);clear con39 P_ S_ f32 f33 f34 f35 f36 f37 f38 P27 S28 G29 B30 L31;have PZ:Hid (aF w40 PB v41 (aE bs (cQ bY l (j+1)))):=by show aF _ _ _ _; rw [HSJ.out]; exact P42.out
    clear P42;go_wp2_with fail
    go_roundw
    case rel=>exact ⟨j+1,v41,by omega,by go_num,PZ,S43⟩
    case measure=>simp [RowKit.intOf]; omega
  ·have ej:j=l.length:=by omega
   subst ej;go_wp2_with fail
   go_end0
   exact ⟨rfl,v1,hP1.out,hS1.out⟩
theorem wy (l:List kx) (hl:l.length≤1000) (hok:∀ x ∈ l,qm x.1) (a:Option Addr) (c:Nat) {PB:Nat} {v:Value} {bs:List UInt8} {w:World} (hG:GP w PB) (hP:aF w PB v bs) (hk:bf kl 8 (fun b=>b<PB) w a l) (hb:(aE bs (dS fw l)).length≤gZ):Calls Tryz.prog 117 #[af PB 0,.slice a l.length c,.func (.func 118) #[af PB 0] #[]] w (bU w PB v (aE bs (dS fw l))):=by
 have HOK:Hid _:=hok;have HG:Hid (GP w PB):=hG;have HP:Hid (aF w PB v bs):=hP;have HK:Hid (bf kl 8 (fun b=>b<PB) w a l):=hk;have HB:Hid (∀ j,j<l.length→(aE bs (cQ fw l (j+1))).length≤gZ):=fun j hj=>Jj (kY bs fw l (j+1) l.length hj) hb
 clear hG hP hk hb hok;go_enter Tryz.func117,Tryz.ntmps117;go_wp2_with fail
 go_loopw [10] (fun i wr=>∃ (j:Nat) (v':Value),j≤l.length∧i = .int .i64 j∧Hid (aF wr PB v' (aE bs (cQ fw l j)))∧Hid (St PB v w v' wr)) (fun i _=>l.length - (RowKit.intOf i).toNat)
 case atStart=>exact ⟨0,v,Jc _,rfl,HP,St.refl _ _ _⟩
 case round =>
  obtain ⟨j,v1,hj,rfl,hP1,hS1⟩:=hrel;have hG1:Hid (GP wr PB):=HG.out.st hS1.out;by_cases hlt:j<l.length
  ·have hBj:=HB.out j hlt;obtain ⟨b1,o1,_,rfl,t1,ai,ci,rfl,kk⟩:=(HK.out.cE fp hS1.out).get hlt;have hsj:=mm fw l j hlt;rw [hsj] at hBj;have HSJ:Hid (cQ fw l (j+1)=_):=hsj;have hOk:=HOK.out _ (Jk hlt);have hjz:(j:Int)<(l.length:Int):=by omega
   generalize l[j]=y at *;have Hb:Hid _:=hBj;have HOY:Hid _:=hOk;clear hBj hsj hOk;have z0:wr.cell? ⟨b1,o1+j*8,none⟩=some (.int .i64 y.1.k):=t1.2 0 _ rfl;have z1:wr.cell? ⟨b1,o1+j*8+1,none⟩=some (.int .i64 y.1.v.1):=t1.2 1 _ rfl;have z2:wr.cell? ⟨b1,o1+j*8+2,none⟩=some (.int .i64 y.1.v.2.1):=t1.2 2 _ rfl;have z3:wr.cell? ⟨b1,o1+j*8+3,none⟩=some (.string y.1.v.2.2):=t1.2 3 _ rfl;have z4:wr.cell? ⟨b1,o1+j*8+4,none⟩=some (.string y.1.bp):=t1.2 4 _ rfl;have z5:wr.cell? ⟨b1,o1+j*8+5,none⟩=some (.string y.1.name):=t1.2 5 _ rfl
   have z6:wr.cell? ⟨b1,o1+j*8+6,none⟩=some (.slice ai y.1.ks.length ci):=t1.2 6 _ rfl;have z7:wr.cell? ⟨b1,o1+j*8+7,none⟩=some (.string y.2):=t1.2 7 _ rfl;have KK:Hid (aJ (fun b=>b<PB) wr ai y.1.ks):=kk;clear kk;clear t1;have hal:=bR wr (.cells #[y.1.k,y.1.v.1,y.1.v.2.1,y.1.v.2.2,y.1.bp,y.1.name,.slice ai y.1.ks.length ci,y.2] 75);go_upto_region 3 with fail
   have B0:Hid (Bx (wr.alloc (.cells #[y.1.k,y.1.v.1,y.1.v.2.1,y.1.v.2.2,y.1.bp,y.1.name,.slice ai y.1.ks.length ci,y.2] 75)) PB v1 wr #[y.1.k,y.1.v.1,y.1.v.2.1,y.1.v.2.2,y.1.bp,y.1.name,.slice ai y.1.ks.length ci,y.2] 75):=Bx.new hP1.out #[y.1.k,y.1.v.1,y.1.v.2.1,y.1.v.2.2,y.1.bp,y.1.name,.slice ai y.1.ks.length ci,y.2] 75
   have P0:Hid (aF (wr.alloc (.cells #[y.1.k,y.1.v.1,y.1.v.2.1,y.1.v.2.2,y.1.bp,y.1.name,.slice ai y.1.ks.length ci,y.2] 75)) PB v1 (aE bs (cQ fw l j))):=hP1.out.next hal;have S0:Hid (St PB v w v1 (wr.alloc (.cells #[y.1.k,y.1.v.1,y.1.v.2.1,y.1.v.2.2,y.1.bp,y.1.name,.slice ai y.1.ks.length ci,y.2] 75))):=hS1.out.trans (St.of hal hP1.out.lt)
   have G0:Hid (GP (wr.alloc (.cells #[y.1.k,y.1.v.1,y.1.v.2.1,y.1.v.2.2,y.1.bp,y.1.name,.slice ai y.1.ks.length ci,y.2] 75)) PB):=hG1.out.nx hal hP1.out.lt;have L00:Hid (aJ (fun b=>b<PB) (wr.alloc (.cells #[y.1.k,y.1.v.1,y.1.v.2.1,y.1.v.2.2,y.1.bp,y.1.name,.slice ai y.1.ks.length ci,y.2] 75)) ai y.1.ks):=aJ.next hal KK.out;clear KK;clear hP1 hS1 hG1 hal z0 z1 z2 z3 z4 z5 z6 z7
   generalize (wr.alloc (.cells #[y.1.k,y.1.v.1,y.1.v.2.1,y.1.v.2.2,y.1.bp,y.1.name,.slice ai y.1.ks.length ci,y.2] 75))=w0 at *;by_cases hj0:j=0
   ·rw [if_pos hj0] at Hb HSJ;subst hj0;have con1:Calls Tryz.prog 86 #[af PB 0,false,.string ⟨#[44]⟩] w0 (bU w0 PB v1 (aE (aE bs (cQ fw l 0)) ([]))):=dU false ⟨#[44]⟩ P0.out (by rw [← an]; exact dx (Hb.out));go_wp2_with fail
    refine con1.mono ?_;rintro e w2 ⟨rfl,v3,P_,S_⟩;have P4:Hid (aF w2 PB v3 (aE bs (cQ fw l 0 ++ []))):=by show aF _ _ _ _; rw [an]; exact P_
    have S5:Hid (St PB v w v3 w2):=S0.out.trans S_;have G6:Hid (GP w2 PB):=G0.out.st S_;have B7:Hid (Bx w2 PB v3 (wr.heap.size) #[y.1.k,y.1.v.1,y.1.v.2.1,y.1.v.2.2,y.1.bp,y.1.name,.slice ai y.1.ks.length ci,y.2] 75):=B0.out.st S_;have L8:Hid (aJ (fun b=>b<PB) w2 ai y.1.ks):=aJ.cE L00.out S_;clear con1 P_ S_  P0 S0 G0 B0 L00;have f9:w2.cell? (af wr 0)=some (.int .i64 y.1.k):=B7.out.c 0 rfl;have f10:w2.cell? (af wr 1)=some (.int .i64 y.1.v.1):=B7.out.c 1 rfl
    have f11:w2.cell? (af wr 2)=some (.int .i64 y.1.v.2.1):=B7.out.c 2 rfl;have f12:w2.cell? (af wr 3)=some (.string y.1.v.2.2):=B7.out.c 3 rfl;have f13:w2.cell? (af wr 4)=some (.string y.1.bp):=B7.out.c 4 rfl;have f14:w2.cell? (af wr 5)=some (.string y.1.name):=B7.out.c 5 rfl;have f15:w2.cell? (af wr 6)=some (.slice ai y.1.ks.length ci):=B7.out.c 6 rfl;have f16:w2.cell? (af wr 7)=some (.string y.2):=B7.out.c 7 rfl
    have con17:Calls Tryz.prog 118 #[af PB 0,.agg #[y.1.k,y.1.v.1,y.1.v.2.1,y.1.v.2.2,y.1.bp,y.1.name,.slice ai y.1.ks.length ci,y.2]] w2 (bU w2 PB v3 (aE (aE bs (cQ fw l 0 ++ [])) (fw y))):=tq y HOY.out ai ci (G6.out) (P4.out) L8.out (by rw [← an]; exact Hb.out);go_wp2_with fail
    refine con17.mono ?_;rintro e w18 ⟨rfl,v19,P_,S_⟩;have P20:Hid (aF w18 PB v19 (aE bs (cQ fw l 0 ++ [] ++ fw y))):=by show aF _ _ _ _; rw [an]; exact P_
    have S21:Hid (St PB v w v19 w18):=S5.out.trans S_;have G22:Hid (GP w18 PB):=G6.out.st S_;have B23:Hid (Bx w18 PB v19 (wr.heap.size) #[y.1.k,y.1.v.1,y.1.v.2.1,y.1.v.2.2,y.1.bp,y.1.name,.slice ai y.1.ks.length ci,y.2] 75):=B7.out.st S_;have L24:Hid (aJ (fun b=>b<PB) w18 ai y.1.ks):=aJ.cE L8.out S_;clear con17 P_ S_ f9 f10 f11 f12 f13 f14 f15 f16 P4 S5 G6 B7 L8;have PZ:Hid (aF w18 PB v19 (aE bs (cQ fw l (0+1)))):=by show aF _ _ _ _; rw [HSJ.out]; exact P20.out
    clear P20;go_wp2_with fail
    go_roundw
    case rel=>exact ⟨0+1,v19,by omega,by go_num,PZ,S21⟩
    case measure=>simp [RowKit.intOf]; omega
   ·rw [if_neg hj0] at Hb HSJ;have hz:decide (0<j)=true:=by simp; omega
    have con25:Calls Tryz.prog 86 #[af PB 0,true,.string ⟨#[44]⟩] w0 (bU w0 PB v1 (aE (aE bs (cQ fw l j)) ([⟨#[44]⟩]))):=dU true ⟨#[44]⟩ P0.out (by rw [← an]; exact dx (Hb.out));go_wp2_with fail
    refine con25.mono ?_;rintro e w26 ⟨rfl,v27,P_,S_⟩;have P28:Hid (aF w26 PB v27 (aE bs (cQ fw l j ++ [⟨#[44]⟩]))):=by show aF _ _ _ _; rw [an]; exact P_
    have S29:=ah (S0.out.trans S_);have G30:=ah (G0.out.st S_);have B31:=ah (B0.out.st S_);have L32:=ah (aJ.cE L00.out S_);clear con25 P_ S_  P0 S0 G0 B0 L00;have f33:=B31.out.c 0 rfl;have f34:=B31.out.c 1 rfl
    have f35:=B31.out.c 2 rfl;have f36:=B31.out.c 3 rfl;have f37:=B31.out.c 4 rfl;have f38:=B31.out.c 5 rfl;have f39:=B31.out.c 6 rfl;have f40:=B31.out.c 7 rfl
    have con41:=tq y HOY.out ai ci (G30.out) (P28.out) L32.out (by rw [← an]; exact Hb.out);go_wp2_with fail
    refine con41.mono ?_;rintro e w42 ⟨rfl,v43,P_,S_⟩;have P44:Hid (aF w42 PB v43 (aE bs (cQ fw l j ++ [⟨#[44]⟩] ++ fw y))):=by show aF _ _ _ _; rw [an]; exact P_
    have S45:=ah (S29.out.trans S_);have G46:=ah (G30.out.st S_);have B47:=ah (B31.out.st S_);have L48:=ah (aJ.cE L32.out S_);clear con41 P_ S_ f33 f34 f35 f36 f37 f38 f39 f40 P28 S29 G30 B31 L32;have PZ:Hid (aF w42 PB v43 (aE bs (cQ fw l (j+1)))):=by show aF _ _ _ _; rw [HSJ.out]; exact P44.out
    clear P44;go_wp2_with fail
    go_roundw
    case rel=>exact ⟨j+1,v43,by omega,by go_num,PZ,S45⟩
    case measure=>simp [RowKit.intOf]; omega
  ·have ej:j=l.length:=by omega
   subst ej;go_wp2_with fail
   go_end0
   exact ⟨rfl,v1,hP1.out,hS1.out⟩
def gd (l:List Vl):List ByteArray:=[⟨#[40]⟩] ++ dS dK l ++ [⟨#[41]⟩]
theorem xH (l:List Vl) (hl:l.length≤1000) (hok:∀ x ∈ l,nf x) (a:Option Addr) (c:Nat) {PB:Nat} {v:Value} {bs:List UInt8} {w:World} (hG:GP w PB) (hP:aF w PB v bs) (hk:bf jQ 3 (fun b=>b<PB) w a l) (hb:(aE bs (gd l)).length≤gZ):Calls Tryz.prog 62 #[af PB 0,.slice a l.length c] w (bU w PB v (aE bs (gd l))):=by
 rw [gd] at hb ⊢;have hmf:∀ (fn:Fn) (first cap:Array Value) (w:World),(Instr.makeFunc fn first cap).run Tryz.prog w = .ok (.func fn first cap) w:=fun _ _ _ _=>rfl
 have HOK:=ah hok;clear hok;have Hb:=ah hb;clear hb;have P0:=ah hP;have S0:Hid (St PB v w v w):=St.refl _ _ _;have G0:=ah hG;have L00:=ah hk;clear hP hG hk;go_enter Tryz.func62,Tryz.ntmps62;have con1:=bq [⟨#[40]⟩] P0.out (dx (dx (Hb.out))) (by simp);go_wp2_with fail
 refine con1.mono ?_;rintro e w2 ⟨rfl,v3,P_,S_⟩;have P4:=ah P_;have S5:=ah (S0.out.trans S_);have G6:=ah (G0.out.st S_);have L7:=ah ((L00.out).cE eU S_);clear con1 P_ S_  P0 S0 G0 L00;have con8:=wL l hl HOK.out a c (G6.out) (P4.out) L7.out (by rw [← an]; exact dx (Hb.out));go_wp2_with fail
 refine con8.mono ?_;rintro e w9 ⟨rfl,v10,P_,S_⟩;have P11:Hid (aF w9 PB v10 (aE bs ([⟨#[40]⟩] ++ dS dK l))):=by show aF _ _ _ _; rw [an]; exact P_
 have S12:=ah (S5.out.trans S_);have G13:=ah (G6.out.st S_);have L14:=ah ((L7.out).cE eU S_);clear con8 P_ S_  P4 S5 G6 L7;have con15:=bq [⟨#[41]⟩] P11.out (by rw [← an]; exact Hb.out) (by simp);go_wp2_with fail
 refine con15.mono ?_;rintro e w16 ⟨rfl,v17,P_,S_⟩;have P18:Hid (aF w16 PB v17 (aE bs ([⟨#[40]⟩] ++ dS dK l ++ [⟨#[41]⟩]))):=by show aF _ _ _ _; rw [an]; exact P_
 have S19:=ah (S12.out.trans S_);have G20:=ah (G13.out.st S_);have L21:=ah ((L14.out).cE eU S_);clear con15 P_ S_  P11 S12 G13 L14;go_wp2_with fail
 go_end0
 exact ⟨rfl,v17,P18.out,S19.out⟩
theorem vb (l:List (List Vl)) (hl:l.length≤1000) (hok:∀ x ∈ l,x.length≤1000∧∀ y ∈ x,nf y) (a:Option Addr) (c:Nat) {PB:Nat} {v:Value} {bs:List UInt8} {w:World} (hG:GP w PB) (hP:aF w PB v bs) (hk:bf (iB jQ 3) 1 (fun b=>b<PB) w a l) (hb:(aE bs (dS gd l)).length≤gZ):Calls Tryz.prog 61 #[af PB 0,.slice a l.length c,.func (.func 62) #[af PB 0] #[]] w (bU w PB v (aE bs (dS gd l))):=by
 have HOK:=ah hok;have HG:=ah hG;have HP:=ah hP;have HK:=ah hk;have HB:Hid (∀ j,j<l.length→(aE bs (cQ gd l (j+1))).length≤gZ):=fun j hj=>Jj (kY bs gd l (j+1) l.length hj) hb
 clear hG hP hk hb hok;go_enter Tryz.func61,Tryz.ntmps61;go_wp2_with fail
 go_loopw [10] (fun i wr=>∃ (j:Nat) (v':Value),j≤l.length∧i = .int .i64 j∧Hid (aF wr PB v' (aE bs (cQ gd l j)))∧Hid (St PB v w v' wr)) (fun i _=>l.length - (RowKit.intOf i).toNat)
 case atStart=>exact ⟨0,v,Jc _,rfl,HP,St.refl _ _ _⟩
 case round =>
  obtain ⟨j,v1,hj,rfl,hP1,hS1⟩:=hrel;have hG1:=ah (HG.out.st hS1.out);by_cases hlt:j<l.length
  ·have hBj:=HB.out j hlt;obtain ⟨b1,o1,_,rfl,t1,ai,ci,rfl,kk⟩:=(HK.out.cE (br eU 3) hS1.out).get hlt;have hsj:=mm gd l j hlt;rw [hsj] at hBj;have HSJ:=ah hsj;have hOk:=HOK.out _ (Jk hlt);have hjz:(j:Int)<(l.length:Int):=by omega
   generalize l[j]=y at *;have Hb:=ah hBj;have HOY:=ah hOk;clear hBj hsj hOk;have z0:wr.cell? ⟨b1,o1+j,none⟩=some (.slice ai y.length ci):=by have:=t1.2 0 _ rfl; simpa using this
   have KK:=ah kk;clear kk;clear t1;by_cases hj0:j=0
   ·rw [if_pos hj0] at Hb HSJ;subst hj0;simp only [JL] at z0;have con1:=dU false ⟨#[44]⟩ hP1.out (by rw [← an]; exact dx (Hb.out));go_wp2_with fail
    refine con1.mono ?_;rintro e w2 ⟨rfl,v3,P_,S_⟩;have P4:Hid (aF w2 PB v3 (aE bs (cQ gd l 0 ++ []))):=by show aF _ _ _ _; rw [an]; exact P_
    have S5:=ah (hS1.out.trans S_);have G6:=ah (hG1.out.st S_);have L7:=ah ((KK.out).cE eU S_);clear con1 P_ S_ z0 hP1 hS1 hG1 KK;have con8:=xH y HOY.out.1 HOY.out.2 ai ci (G6.out) (P4.out) L7.out (by rw [← an]; exact Hb.out);go_wp2_with fail
    refine con8.mono ?_;rintro e w9 ⟨rfl,v10,P_,S_⟩;have P11:Hid (aF w9 PB v10 (aE bs (cQ gd l 0 ++ [] ++ gd y))):=by show aF _ _ _ _; rw [an]; exact P_
    have S12:=ah (S5.out.trans S_);have G13:=ah (G6.out.st S_);have L14:=ah ((L7.out).cE eU S_);clear con8 P_ S_  P4 S5 G6 L7;have PZ:Hid (aF w9 PB v10 (aE bs (cQ gd l (0+1)))):=by show aF _ _ _ _; rw [HSJ.out]; exact P11.out
    clear P11;go_wp2_with fail
    go_roundw
    case rel=>exact ⟨0+1,v10,by omega,by go_num,PZ,S12⟩
    case measure=>simp [RowKit.intOf]; omega
   ·rw [if_neg hj0] at Hb HSJ;have hz:decide (0<j)=true:=by simp; omega
    have con15:=dU true ⟨#[44]⟩ hP1.out (by rw [← an]; exact dx (Hb.out));go_wp2_with fail
    refine con15.mono ?_;rintro e w16 ⟨rfl,v17,P_,S_⟩;have P18:Hid (aF w16 PB v17 (aE bs (cQ gd l j ++ [⟨#[44]⟩]))):=by show aF _ _ _ _; rw [an]; exact P_
    have S19:=ah (hS1.out.trans S_);have G20:=ah (hG1.out.st S_);have L21:=ah ((KK.out).cE eU S_);clear con15 P_ S_ z0 hP1 hS1 hG1 KK;have con22:=xH y HOY.out.1 HOY.out.2 ai ci (G20.out) (P18.out) L21.out (by rw [← an]; exact Hb.out);go_wp2_with fail
    refine con22.mono ?_;rintro e w23 ⟨rfl,v24,P_,S_⟩;have P25:Hid (aF w23 PB v24 (aE bs (cQ gd l j ++ [⟨#[44]⟩] ++ gd y))):=by show aF _ _ _ _; rw [an]; exact P_
    have S26:=ah (S19.out.trans S_);have G27:=ah (G20.out.st S_);have L28:=ah ((L21.out).cE eU S_);clear con22 P_ S_  P18 S19 G20 L21;have PZ:Hid (aF w23 PB v24 (aE bs (cQ gd l (j+1)))):=by show aF _ _ _ _; rw [HSJ.out]; exact P25.out
    clear P25;go_wp2_with fail
    go_roundw
    case rel=>exact ⟨j+1,v24,by omega,by go_num,PZ,S26⟩
    case measure=>simp [RowKit.intOf]; omega
  ·have ej:j=l.length:=by omega
   subst ej;go_wp2_with fail
   go_end0
   exact ⟨rfl,v1,hP1.out,hS1.out⟩
def j9 (op:Int):List ByteArray:=(if op=1∨op=2 then [⟨#[117,110,105,111,110]⟩] else [⟨#[101,120,99,101,112,116]⟩]) ++ (if op=1∨op=3 then [⟨#[97,108,108]⟩] else [])
theorem sK (op:Int) (h1:1≤op) (h4:op≤4) {PB:Nat} {v:Value} {bs:List UInt8} {w:World} (hG:GP w PB) (hP:aF w PB v bs) (hb:(aE bs (j9 op)).length≤gZ):Calls Tryz.prog 89 #[af PB 0,op] w (bU w PB v (aE bs (j9 op))):=by
 rcases (show op=1∨op=2∨op=3∨op=4 by omega) with rfl | rfl | rfl | rfl
 ·have ev:j9 1 = [⟨#[117,110,105,111,110]⟩] ++ [⟨#[97,108,108]⟩]:=rfl;rw [ev] at hb ⊢;clear ev h1 h4;have Hb:=ah hb;clear hb;have P0:=ah hP;have S0:Hid (St PB v w v w):=St.refl _ _ _;have G0:=ah hG;clear hP hG;go_enter Tryz.func89,Tryz.ntmps89;have con1:=bq [⟨#[117,110,105,111,110]⟩] P0.out (dx (Hb.out)) (by simp);go_wp2_with fail
  refine con1.mono ?_;rintro e w2 ⟨rfl,v3,P_,S_⟩;have P4:=ah P_;have S5:=ah (S0.out.trans S_);have G6:=ah (G0.out.st S_);clear con1 P_ S_  P0 S0 G0;have con7:=dU true ⟨#[97,108,108]⟩ P4.out (by rw [← an]; exact Hb.out);go_wp2_with fail
  refine con7.mono ?_;rintro e w8 ⟨rfl,v9,P_,S_⟩;have P10:Hid (aF w8 PB v9 (aE bs ([⟨#[117,110,105,111,110]⟩] ++ [⟨#[97,108,108]⟩]))):=by show aF _ _ _ _; rw [an]; exact P_
  have S11:=ah (S5.out.trans S_);have G12:=ah (G6.out.st S_);clear con7 P_ S_  P4 S5 G6;go_wp2_with fail
  go_end0
  exact ⟨rfl,v9,P10.out,S11.out⟩
 ·have ev:j9 2 = [⟨#[117,110,105,111,110]⟩] ++ []:=rfl;rw [ev] at hb ⊢;clear ev h1 h4;have Hb:=ah hb;clear hb;have P0:=ah hP;have S0:Hid (St PB v w v w):=St.refl _ _ _;have G0:=ah hG;clear hP hG;go_enter Tryz.func89,Tryz.ntmps89;have con13:=bq [⟨#[117,110,105,111,110]⟩] P0.out (dx (Hb.out)) (by simp);go_wp2_with fail
  refine con13.mono ?_;rintro e w14 ⟨rfl,v15,P_,S_⟩;have P16:=ah P_;have S17:=ah (S0.out.trans S_);have G18:=ah (G0.out.st S_);clear con13 P_ S_  P0 S0 G0;have con19:=dU false ⟨#[97,108,108]⟩ P16.out (by rw [← an]; exact Hb.out);go_wp2_with fail
  refine con19.mono ?_;rintro e w20 ⟨rfl,v21,P_,S_⟩;have P22:Hid (aF w20 PB v21 (aE bs ([⟨#[117,110,105,111,110]⟩] ++ []))):=by show aF _ _ _ _; rw [an]; exact P_
  have S23:=ah (S17.out.trans S_);have G24:=ah (G18.out.st S_);clear con19 P_ S_  P16 S17 G18;go_wp2_with fail
  go_end0
  exact ⟨rfl,v21,P22.out,S23.out⟩
 ·have ev:j9 3 = [⟨#[101,120,99,101,112,116]⟩] ++ [⟨#[97,108,108]⟩]:=rfl;rw [ev] at hb ⊢;clear ev h1 h4;have Hb:=ah hb;clear hb;have P0:=ah hP;have S0:Hid (St PB v w v w):=St.refl _ _ _;have G0:=ah hG;clear hP hG;go_enter Tryz.func89,Tryz.ntmps89;have con25:=bq [⟨#[101,120,99,101,112,116]⟩] P0.out (dx (Hb.out)) (by simp);go_wp2_with fail
  refine con25.mono ?_;rintro e w26 ⟨rfl,v27,P_,S_⟩;have P28:=ah P_;have S29:=ah (S0.out.trans S_);have G30:=ah (G0.out.st S_);clear con25 P_ S_  P0 S0 G0;have con31:=dU true ⟨#[97,108,108]⟩ P28.out (by rw [← an]; exact Hb.out);go_wp2_with fail
  refine con31.mono ?_;rintro e w32 ⟨rfl,v33,P_,S_⟩;have P34:Hid (aF w32 PB v33 (aE bs ([⟨#[101,120,99,101,112,116]⟩] ++ [⟨#[97,108,108]⟩]))):=by show aF _ _ _ _; rw [an]; exact P_
  have S35:=ah (S29.out.trans S_);have G36:=ah (G30.out.st S_);clear con31 P_ S_  P28 S29 G30;go_wp2_with fail
  go_end0
  exact ⟨rfl,v33,P34.out,S35.out⟩
 ·have ev:j9 4 = [⟨#[101,120,99,101,112,116]⟩] ++ []:=rfl;rw [ev] at hb ⊢;clear ev h1 h4;have Hb:=ah hb;clear hb;have P0:=ah hP;have S0:Hid (St PB v w v w):=St.refl _ _ _;have G0:=ah hG;clear hP hG;go_enter Tryz.func89,Tryz.ntmps89;have con37:=bq [⟨#[101,120,99,101,112,116]⟩] P0.out (dx (Hb.out)) (by simp);go_wp2_with fail
  refine con37.mono ?_;rintro e w38 ⟨rfl,v39,P_,S_⟩;have P40:=ah P_;have S41:=ah (S0.out.trans S_);have G42:=ah (G0.out.st S_);clear con37 P_ S_  P0 S0 G0;have con43:=dU false ⟨#[97,108,108]⟩ P40.out (by rw [← an]; exact Hb.out);go_wp2_with fail
  refine con43.mono ?_;rintro e w44 ⟨rfl,v45,P_,S_⟩;have P46:Hid (aF w44 PB v45 (aE bs ([⟨#[101,120,99,101,112,116]⟩] ++ []))):=by show aF _ _ _ _; rw [an]; exact P_
  have S47:=ah (S41.out.trans S_);have G48:=ah (G42.out.st S_);clear con43 P_ S_  P40 S41 G42;go_wp2_with fail
  go_end0
  exact ⟨rfl,v45,P46.out,S47.out⟩
def iD (first:Bool) (x:Src):List ByteArray:=if first then [x.name] ++ kR x.alias ++ [] else (if x.kind=2 then [] else [cW x.kind zl]) ++ [⟨#[106,111,105,110]⟩] ++ [x.name] ++ kR x.alias ++ ([⟨#[111,110]⟩] ++ bY x.on)
theorem vz (x:Src) (a:Option Addr) (c:Nat) {PB:Nat} {v:Value} {bs:List UInt8} {w:World} (hG:GP w PB) (hP:aF w PB v bs) (hk:aJ (fun b=>b<PB) w a x.on.ks) (hb:(aE bs (iD true x)).length≤gZ):Calls Tryz.prog 119 #[af PB 0,.agg (kj x a c),true] w (bU w PB v (aE bs (iD true x))):=by
 have ev:iD true x = [x.name] ++ kR x.alias ++ []:=rfl;rw [ev] at hb ⊢;clear ev;have Hb:=ah hb;clear hb;have hal:=bR w (.cells (kj x a c) 105);have B0:=ah (Bx.new hP (kj x a c) 105);have P0:=ah (hP.next hal);have S0:Hid (St PB v w v (w.alloc (.cells (kj x a c) 105))):=St.of hal hP.lt;have G0:=ah (hG.nx hal hP.lt)
 have L00:=ah (aJ.next hal hk);clear hP hG hal hk;go_enter Tryz.func119,Tryz.ntmps119;go_upto_region 1 with fail
 generalize w.alloc _=w0 at *;have f1:=B0.out.c 1 rfl;have con2:=bq [x.name] P0.out (dx (dx (Hb.out))) (by simp);go_wp2_with fail
 refine con2.mono ?_;rintro e w3 ⟨rfl,v4,P_,S_⟩;have P5:=ah P_;have S6:=ah (S0.out.trans S_);have G7:=ah (G0.out.st S_);have B8:=ah (B0.out.st S_);have L9:=ah (aJ.cE L00.out S_);clear con2 P_ S_ f1 P0 S0 G0 B0 L00;have f10:=B8.out.c 2 rfl
 have con11:=jU x.alias (P5.out) (by rw [← an]; exact dx (Hb.out));go_wp2_with fail
 refine con11.mono ?_;rintro e w12 ⟨rfl,v13,P_,S_⟩;have P14:Hid (aF w12 PB v13 (aE bs ([x.name] ++ kR x.alias))):=by show aF _ _ _ _; rw [an]; exact P_
 have S15:=ah (S6.out.trans S_);have G16:=ah (G7.out.st S_);have B17:=ah (B8.out.st S_);have L18:=ah (aJ.cE L9.out S_);clear con11 P_ S_ f10 P5 S6 G7 B8 L9;have f19:=B17.out.c 3 rfl;have f20:=B17.out.c 4 rfl;have f21:=B17.out.c 5 rfl;have f22:=B17.out.c 6 rfl
 have f23:=B17.out.c 7 rfl;have f24:=B17.out.c 8 rfl;have f25:=B17.out.c 9 rfl;have con26:=ey ⟨#[111,110]⟩ false x.on (fun h=>by cases h) a c (G16.out) (P14.out) L18.out (by rw [← an]; exact Hb.out);go_wp2_with fail
 refine con26.mono ?_;rintro e w27 ⟨rfl,v28,P_,S_⟩;have P29:Hid (aF w27 PB v28 (aE bs ([x.name] ++ kR x.alias ++ []))):=by show aF _ _ _ _; rw [an]; exact P_
 have S30:=ah (S15.out.trans S_);have G31:=ah (G16.out.st S_);have B32:=ah (B17.out.st S_);have L33:=ah (aJ.cE L18.out S_);clear con26 P_ S_ f19 f20 f21 f22 f23 f24 f25 P14 S15 G16 B17 L18;go_wp2_with fail
 go_end0
 exact ⟨rfl,v28,P29.out,S30.out⟩
end Go.Proofs.YtoknmnngaackkaaGreatDoor
