/- Together: CA, CB, CJ, CL, DI, DJ, DK, DL, DM. -/
import Derived.Lib.LaidTab
import Derived.OpenShut
import Derived.Deep.Strs
import Derived.Stop.LaidErr
import Derived.LaidHandle
import Derived.Deep.LoopGhost
import Derived.Test.YtoknmnngaackkaaGreatDoorJQ0
import Derived.Test.YtoknmnngaackkaaGreatDoorJQ7
import Derived.Test.YtoknmnngaackkaaGreatDoorJQ8
import Derived.Test.YtoknmnngaackkaaGreatDoorJQ9
namespace Go.Proofs.YtoknmnngaackkaaGreatDoor
set_option maxRecDepth 100000
set_option maxHeartbeats 16000000
set_option maxRecDepth 100000
set_option maxHeartbeats 1000000
def zb (t u:Tk):Prop:=t.1=u.1∧t.2.1=u.2.1
def oR (ts:List Tk):Prop:=∃ e:Tk,e.1=5∧ts = [e]
inductive Al (q:List Tk):List Tk→List Tk→Prop
 | one {t u e:Tk}:zb t u→t.1≠5→e.1=5→Al q [t,e] (u :: q)
 | cons {t u:Tk} {ts us:List Tk}:zb t u→t.1≠5→Al q ts us→Al q (t :: ts) (u :: us)
theorem Al.now {q ts us:List Tk} (h:Al q ts us):zb (cy ts) (cy us)∧(cy ts).1≠5:=by
 cases h with
 | one h1 h2 h3=>exact ⟨h1,h2⟩
 | cons h1 h2 h3=>exact ⟨h1,h2⟩
theorem Al.is {q ts us:List Tk} (h:Al q ts us) (s:ByteArray):bu s ts=bu s us:=by
 obtain ⟨⟨h1,h2⟩,_⟩:=h.now;unfold bu;rw [h1,h2]
theorem Al.pass {q ts us:List Tk} (h:Al q ts us):(oR (az ts)∧az us=q)∨Al q (az ts) (az us):=by
 cases h with
 | @one t u e h1 h2 h3 =>
  have h4:u.1≠5:=h1.1 ▸ h2;rw [az,if_neg h2,az,if_neg h4];exact .inl ⟨⟨e,h3,rfl⟩,rfl⟩
 | @cons t u ts us h1 h2 h3 =>
  have h4:u.1≠5:=h1.1 ▸ h2;rw [az,if_neg h2,az,if_neg h4];exact .inr h3
theorem oR.pass {ts:List Tk} (h:oR ts):oR (az ts):=by
 obtain ⟨e,h1,rfl⟩:=h;rw [az,if_pos h1];exact ⟨e,h1,rfl⟩
structure Loc (q:List Tk) {α:Type} (f:List Tk→PR α):Prop where
 e:∀ {ts x r},oR ts→f ts = .ok (x,r)→oR r
 a:∀ {ts us x r},Al q ts us→f ts = .ok (x,r)→oR r∨∃ us',Al q r us'∧f us = .ok (x,us')
 n:∀ {ts c},f ts = .error c→c.1≠0
section
variable {q:List Tk} {α β:Type}
theorem Loc.val {g:List Tk→α} (hg:∀ {ts us},Al q ts us→g ts=g us):Loc q (fun ts=>.ok (g ts,ts)) where
 e h H:=by cases H; exact h
 a h H:=by cases H; exact .inr ⟨_,h,by rw [hg h]⟩
 n H:=by cases H
theorem Loc.ok (x:α):Loc q (fun ts=>.ok (x,ts)):=.val fun _=>rfl
theorem Loc.err {g:List Tk→Er} (hg:∀ ts,(g ts).1≠0:=by intro _; simp):Loc q (α:=α) (fun ts=>.error (g ts)) where
 e _ H:=by cases H
 a _ H:=by cases H
 n H:=by cases H; exact hg _
theorem Loc.pass {f:List Tk→PR α} (h:Loc q f):Loc q (fun ts=>f (az ts)) where
 e h1 H:=h.e h1.pass H
 a h1 H:=by
  rcases h1.pass with hp | hp
  ·exact .inl (h.e hp.1 H)
  ·exact h.a hp H
 n H:=h.n H
theorem Loc.bf {f:List Tk→PR α} {k:α→List Tk→PR β} (h:Loc q f) (hk:∀ x,Loc q (k x)):Loc q (fun ts=>Go.Proofs.YtoknmnngaackkaaGreatDoor.bf (f ts) k) where
 e {ts x r} h1 H:=by
  rcases hf:f ts with e | ⟨y,r1⟩
  ·rw [hf] at H; cases H
  ·rw [hf] at H; exact (hk y).e (h.e h1 hf) H
 a {ts us x r} h1 H:=by
  rcases hf:f ts with e | ⟨y,r1⟩
  ·rw [hf] at H; cases H
  ·rw [hf] at H;rcases h.a h1 hf with hp | ⟨us1,hp,hu⟩
   ·exact .inl ((hk y).e hp H)
   ·rcases (hk y).a hp H with hp2 | ⟨us2,hp2,hu2⟩
    ·exact .inl hp2
    ·exact .inr ⟨us2,hp2,by simp only [hu]; exact hu2⟩
 n {ts c} H:=by
  rcases hf:f ts with e | ⟨y,r1⟩
  ·rw [hf] at H; cases H; exact h.n hf
  ·rw [hf] at H; exact (hk y).n H
theorem Loc.BY {c:List Tk→Prop} [DecidablePred c] {f g:List Tk→PR α} (hc:∀ {ts us},Al q ts us→(c ts↔c us)) (hf:Loc q f) (hg:Loc q g):Loc q (fun ts=>if c ts then f ts else g ts) where
 e {ts x r} h1 H:=by
  split at H
  ·exact hf.e h1 H
  ·exact hg.e h1 H
 a {ts us x r} h1 H:=by
  split at H
  ·rename_i hh; rw [if_pos ((hc h1).1 hh)]; exact hf.a h1 H
  ·rename_i hh; rw [if_neg (fun h=>hh ((hc h1).2 h))]; exact hg.a h1 H
 n {ts c} H:=by
  split at H
  ·exact hf.n H
  ·exact hg.n H
theorem Loc.is {s:ByteArray} {f g:List Tk→PR α} (hf:Loc q f) (hg:Loc q g):Loc q (fun ts=>if bu s ts then f ts else g ts):=.BY (fun h=>by rw [h.is s]) hf hg
theorem Loc.ite {c:Prop} [Decidable c] {f g:List Tk→PR α} (hf:Loc q f) (hg:Loc q g):Loc q (fun ts=>if c then f ts else g ts):=.BY (c:=fun _=>c) (fun _=>Iff.rfl) hf hg
theorem Loc.congr {f g:List Tk→PR α} (h:∀ ts x r,f ts = .ok (x,r)↔g ts = .ok (x,r)) (hn:∀ ts c,f ts = .error c→c.1≠0) (hg:Loc q g):Loc q f where
 e h1 H:=hg.e h1 ((h ..).1 H)
 a h1 H:=by
  rcases hg.a h1 ((h ..).1 H) with hp | ⟨us,hp,hu⟩
  ·exact .inl hp
  ·exact .inr ⟨us,hp,(h ..).2 hu⟩
 n H:=hn _ _ H
theorem Loc.of {f g:List Tk→PR α} (h:∀ ts,f ts=g ts) (hg:Loc q g):Loc q f:=(funext h:f=g) ▸ hg
theorem Al.k {ts us:List Tk} (h:Al q ts us):(cy ts).1=(cy us).1:=h.now.1.1
theorem Al.t {ts us:List Tk} (h:Al q ts us):(cy ts).2.1=(cy us).2.1:=h.now.1.2
theorem pP {lvl:Int} {ts:List Tk} (h:oR ts):∀ l,cU lvl ts l=(0,ts)
 | []=>rfl
 | i :: l=>by
  obtain ⟨e,h1,rfl⟩:=h
  rw [cU,if_neg,pP ⟨e,h1,rfl⟩ l]
  rintro ⟨_,h2⟩
  simp [bu,cy,h1] at h2
theorem sl {lvl:Int} {ts us:List Tk} (h:Al q ts us):∀ l,(cU lvl ts l).1=(cU lvl us l).1∧(((cU lvl ts l).2=ts∧(cU lvl us l).2=us)∨((cU lvl ts l).2=az ts∧(cU lvl us l).2=az us))
 | []=>⟨rfl,.inl ⟨rfl,rfl⟩⟩
 | i :: l=>by
  rw [cU,cU,h.is i.2.1]
  split
  ·exact ⟨rfl,.inr ⟨rfl,rfl⟩⟩
  ·exact sl h l
theorem wx (lvl:Int):Loc q (fun ts=>.ok (bT lvl ts)) where
 e {ts x r} h H:=by
  have:bT lvl ts=(x,r):=by injection H
  rw [bT,pP h] at this;cases this;exact h
 a {ts us x r} h H:=by
  have h0:bT lvl ts=(x,r):=by injection H
  rw [bT] at h0;obtain ⟨h1,h2⟩:=sl (lvl:=lvl) h cJ;rw [h0] at h1 h2;have e1:bT lvl us=(x,(cU lvl us cJ).2):=by rw [bT]; exact Prod.ext h1.symm rfl
  rcases h2 with ⟨h2,h3⟩ | ⟨h2,h3⟩
  ·simp only at h2;subst h2;exact .inr ⟨us,h,by rw [e1,h3]⟩
  ·simp only at h2;subst h2;rcases h.pass with hp | hp
   ·exact .inl hp.1
   ·exact .inr ⟨_,hp,by rw [e1,h3]⟩
 n H:=by cases H
theorem sign_zero {lvl:Int} {ts:List Tk}:∀ {l:List (Int × ByteArray × Int)},(∀ i ∈ l,i.1≠0)→(cU lvl ts l).1=0→(cU lvl ts l).2=ts
 | [],_,_=>rfl
 | i :: l,h,h0=>by
  rw [cU] at h0 ⊢
  split at h0
  ·exact absurd h0 (h i (by simp))
  ·rename_i hc
   rw [if_neg hc]
   exact sign_zero (fun i hi=>h i (by simp [hi])) h0
theorem uF {lvl:Int} {ts:List Tk} (h:(bT lvl ts).1=0):(bT lvl ts).2=ts:=sign_zero (by intro i hi; simp only [cJ,Dv,List.not_mem_nil,or_false] at hi; rcases hi with rfl | rfl | rfl | rfl | rfl | rfl | rfl | rfl | rfl | rfl | rfl | rfl <;> decide) h
theorem Loc.signed {lvl:Int} {x:α} {k:Int→List Tk→PR α} (hk:∀ y,Loc q (k y)):Loc q (fun ts=>if (bT lvl ts).1=0 then .ok (x,ts) else k (bT lvl ts).1 (bT lvl ts).2):=by
 refine .of (fun ts=>?_) (Loc.bf (wx lvl) (k:=fun y r=>if y=0 then .ok (x,r) else k y r) fun y=>Loc.ite (Loc.ok x) (hk y));show _=if (bT lvl ts).1=0 then Except.ok (x,(bT lvl ts).2) else k (bT lvl ts).1 (bT lvl ts).2
 split
 ·rename_i h; rw [uF h]
 ·rfl
structure CS (q:List Tk) (n:Nat):Prop where
 expr:∀ o,Loc q (cY n o)
 level:∀ l o,Loc q (dG n l o)
 chain:∀ l o,Loc q (b9 n l o)
 loop:∀ l o x,Loc q (gE n l o x)
 zO:∀ o,Loc q (dz n o)
 xr:∀ o,Loc q (cO n o)
 piece:∀ o,Loc q (cE n o)
 behind:∀ o l,Loc q (dc n o l)
 exprs:∀ o l acc,Loc q (dA n o l acc)
 agg:∀ k o,Loc q (iC n k o)
theorem Loc.fuel:Loc q (α:=α) (fun _=>dm):=.err
end
end Go.Proofs.YtoknmnngaackkaaGreatDoor
namespace Go.Proofs.YtoknmnngaackkaaGreatDoor
open Go.RowKit Go.Lib Go.Shelf
set_option maxRecDepth 100000
set_option maxHeartbeats 16000000
set_option maxRecDepth 100000
set_option maxHeartbeats 1000000
def bJ (l:List UInt8):List UInt8:=l.drop (dQ ez l)
def Cn (q ts us:List Tk):Prop:=(oR ts∧us=q)∨Al q ts us
theorem Cn.cons {q ts us:List Tk} {t u:Tk} (h1:zb t u) (h2:t.1≠5) (h:Cn q ts us):Cn q (t :: ts) (u :: us):=by
 rcases h with ⟨⟨e,he,rfl⟩,rfl⟩ | h
 ·exact .inr (.one h1 h2 he)
 ·exact .inr (.cons h1 h2 h)
theorem aI.one {α:Type} {En:ir α} {size:Nat} {S:Nat→Prop} {W:World} {a:Option Addr} {x:α} (h:aI En size S W a [x]):∃ b off cs,a=some ⟨b,off,none⟩∧sC W b off cs∧En S W x cs:=by
 obtain ⟨b,off,cs,h1,h2,h3⟩:=h.get (i:=0) (by simp);refine ⟨b,off,cs,h1,?_,h3⟩
 simpa using h2
set_option maxHeartbeats 4000000
theorem chunk {α:Type} (l:List α) {c:Nat} (hc:0<c) (j:Nat):l[j]? = ((l.drop (j / c*c)).take c)[j % c]?:=by
 have hm:=Nat.mod_lt j hc;rw [List.getElem?_take_of_lt hm,List.getElem?_drop]
 congr 1
 rw [Nat.mul_comm];exact (Nat.div_add_mod j c).symm
theorem jR {α β:Type} {g:α→List β} {c:Nat} (hg:∀ x,(g x).length=c):∀ (l:List α) (i:Nat),((l.flatMap g).drop (i*c)).take c=match l[i]? with | some x=>g x | none=>[]
 | [],i=>by simp
 | x :: l,0=>by
  simp only [Nat.zero_mul,DL,DV,List.getElem?_cons_zero]
  rw [List.take_append_of_le_length (by rw [hg]; exact CX _),List.take_of_length_le (by rw [hg]; exact CX _)]
 | x :: l,i+1=>by
  rw [DV,List.drop_append,List.getElem?_cons_succ,← jR hg l i]
  congr 1
  rw [hg,Nat.add_mul,DT,Nat.add_sub_cancel,List.drop_of_length_le (by rw [hg]; omega),Ds]
abbrev xJ (b:List UInt8):DataW Unit:=.lit (.string b)
abbrev yV (b:List UInt8):Value:=.string ⟨b.toArray⟩
theorem xv {s:ByteArray} {b:List UInt8} (h:s.data.toList=b):s=⟨b.toArray⟩:=by
 apply ByteArray.ext;apply Array.ext'
 simpa using h
theorem nz {P:Program} {w:World} {base:Nat} {sp:Nat→Bool} {held:Bool} {fuel:Nat} {t e:TypeId} {n:Nat} {cs:List Value} {bs:List (List UInt8)} {p:List MemPlace} {enc:TypeId × Value→Unit}
  (ht:P.underlying t=some (.array n e)) (he:P.underlying e=some .string) (hce:P.cellsOf e=1) (hct:P.cellsOf t=n) (h:DataW.trod enc P w base sp held fuel t cs=some (.agg (bs.map xJ),p)):∀ i,i<n→cs[i]? = (bs.map yV)[i]?:=by
 obtain ⟨xs,m,_,hx,hl,hn,hf⟩:=DataW.trod_array ht h;intro i hi;have h1:=hf i hi;rw [hce,Dj (by omega)] at h1;obtain ⟨s,hc,h2,_⟩:=DataW.trod_string he h1;have h3:cs[i]? = some (.string s):=by
  have:=congrArg (·[0]?) hc
  simpa [List.getElem?_take,List.getElem?_drop] using this
 have h4:(bs.map xJ)[i]? = some (.lit (.string s.data.toList)):=by
  have e:=congrArg Prod.fst hx;have e:(DataW.agg (bs.map xJ):DataW Unit) = .agg (xs.map (·.1)):=e;injection e with e
  rw [e,List.getElem?_map,Dj (by omega),h2];rfl
 rw [List.getElem?_map] at h4 ⊢;obtain ⟨b,hb,h5⟩:=Option.map_eq_some_iff.1 h4;rw [hb,h3];injection h5 with h5
 injection h5 with h5
 show some (Value.string s)=some (yV b);rw [xv h5.symm]
abbrev tv (r:Int × List UInt8 × Int):DataW Unit:=.agg [.lit (.int .i64 r.1),.lit (.string r.2.1),.lit (.int .i64 r.2.2)]
abbrev tH (r:Int × List UInt8 × Int):List Value:=[.int .i64 r.1,yV r.2.1,.int .i64 r.2.2]
theorem nB {P:Program} {w:World} {base:Nat} {sp:Nat→Bool} {held:Bool} {fuel:Nat} {t e ti ts:TypeId} {f0 f1 f2:Field} {n:Nat} {cs:List Value} {rs:List (Int × List UInt8 × Int)} {p:List MemPlace} {enc:TypeId × Value→Unit}
  (ht:P.underlying t=some (.array n e)) (he:P.underlying e=some (.struct #[f0,f1,f2])) (hf0:f0.type=ti∧f0.offset=0) (hf1:f1.type=ts∧f1.offset=1) (hf2:f2.type=ti∧f2.offset=2) (hti:P.underlying ti=some (.int .i64)) (hts:P.underlying ts=some .string) (hce:P.cellsOf e=3) (hci:P.cellsOf ti=1) (hcs:P.cellsOf ts=1) (h:DataW.trod enc P w base sp held fuel t cs=some (.agg (rs.map tv),p)):∀ j,j<n*3→cs[j]? = (rs.flatMap tH)[j]?:=by
 obtain ⟨xs,m,_,hx,hl,hn,hf⟩:=DataW.trod_array ht h;have key:∀ i,i<n→(cs.drop (i*3)).take 3=((rs.flatMap tH).drop (i*3)).take 3:=by
  intro i hi;have h1:=hf i hi;rw [hce,Dj (by omega)] at h1;obtain ⟨y0,y1,y2,m2,h2,h3,k0,k1,k2⟩:=Deep.trod_struct3 he h1;rw [hf0.1,hf0.2,hci] at k0;rw [hf1.1,hf1.2,hcs] at k1;rw [hf2.1,hf2.2,hci] at k2;obtain ⟨z0,c0,rfl,_⟩:=DataW.trod_int hti k0;obtain ⟨s,c1,rfl,_⟩:=DataW.trod_string hts k1;obtain ⟨z2,c2,rfl,_⟩:=DataW.trod_int hti k2;rw [hce] at h3;have h4:(cs.drop (i*3)).take 3 = [.int .i64 z0,.string s,.int .i64 z2]:=by
   generalize (cs.drop (i*3)).take 3=l at *
   match l,h3 with
   | [a,b,c],_ =>
    simp only [DL,List.take_succ_cons,List.take_zero,List.drop_succ_cons,List.cons.injEq,and_true] at c0 c1 c2;rw [c0,c1,c2]
  have h5:(rs.map tv)[i]? = some (.agg [.lit (.int .i64 z0),.lit (.string s.data.toList),.lit (.int .i64 z2)]):=by
   have e:=congrArg Prod.fst hx;have e:(DataW.agg (rs.map tv):DataW Unit) = .agg (xs.map (·.1)):=e;injection e with e
   rw [e,List.getElem?_map,Dj (by omega),h2];rfl
  rw [List.getElem?_map] at h5;obtain ⟨r,hr,h6⟩:=Option.map_eq_some_iff.1 h5;rw [h4,jR (g:=tH) (c:=3) (fun _=>rfl),hr];simp only [tv,DataW.agg.injEq,List.cons.injEq,DataW.lit.injEq,Lit.int.injEq,Lit.string.injEq,true_and,and_true] at h6;obtain ⟨h7,h8,h9⟩:=h6;show _=tH r;rw [xv h8.symm,← h7,← h9]
 intro j hj;rw [chunk cs (by decide:0<3),chunk (rs.flatMap tH) (by decide:0<3),key (j / 3) (by omega)]
def vx:List (List UInt8):=[[60,62],[60,61],[62,61],[124,124],[60],[62],[61],[43],[45],[42],[40],[41],[44],[46],[59]]
def xf:List (Int × List UInt8 × Int):=[(5,[111,114],1),(4,[97,110,100],2),(6,[61],4),(7,[60,62],4),(8,[60],4),(9,[60,61],4),(10,[62],4),(11,[62,61],4),(12,[43],5),(13,[45],5),(14,[42],6),(15,[124,124],7)]
set_option maxHeartbeats 8000000
def BP:ir (Int × ByteArray):=fun _ _ x cs=>cs = [.int .i64 x.1,.string x.2]
theorem CQ:fi BP:=⟨fun _ h=>h,fun _ h=>h⟩
theorem fC (t:Int) (l:List (Int × ByteArray)) (hl:l.length≤1000) (a:Option Addr) (c:Nat) (S:Nat→Prop) {w:World} (h:aI BP 2 S w a l):Calls Tryz.prog 87 #[.slice a l.length c,.int .i64 t] w fun e w'=>e = .returned (.string (bK t l))∧Below w.heap.size w w':=by
 generalize hM:bK t l=M;have HM:Hid (bK t (l.drop 0)=M):=hM;have HK:Hid (aI BP 2 S w a l):=h;clear hM h;go_enter Tryz.func87,Tryz.ntmps87;go_wp2_with fail
 go_loopw [9] (fun jv wr=>∃ k:Nat,k≤l.length∧jv = .int .i64 k∧Hid (bK t (l.drop k)=M)∧Below w.heap.size w wr) (fun jv _=>l.length - (RowKit.intOf jv).toNat)
 case atStart=>exact ⟨0,by omega,rfl,HM,CY _ _⟩
 case round =>
  clear HM;obtain ⟨k,hk,rfl,HL,hx⟩:=hrel;by_cases hlt:k<l.length
  ·have hkz:(k:Int)<(l.length:Int):=by omega
   obtain ⟨b,off,_,rfl,t1,rfl⟩:=(HK.out.nx CQ hx).get hlt;have c0:wr.cell? ⟨b,off+k*2,none⟩=some (.int .i64 l[k].1):=t1.2 0 _ rfl;have c1:wr.cell? ⟨b,off+k*2+1,none⟩=some (.string l[k].2):=t1.2 1 _ rfl;have hL:=HL.out;rw [Da hlt,bK] at hL;generalize l[k]=y at *;have HL2:Hid _:=hL;have hal:=ab wr (.cells #[.int .i64 y.1,.string y.2] 168);have QY:=ar wr #[.int .i64 y.1,.string y.2] 168;clear HL hL t1;go_upto_region 4 with fail
   generalize wr.alloc (.cells #[.int .i64 y.1,.string y.2] 168)=wa at *;have y0:wa.cell? ⟨wr.heap.size,0,none⟩=some (.int .i64 y.1):=cell_of (i:=0) QY rfl;have y1:wa.cell? ⟨wr.heap.size,1,none⟩=some (.string y.2):=cell_of (i:=1) QY rfl;clear c0 c1;by_cases he:y.1=t
   ·have b1:(y.1 == t)=true:=by simpa using he
    have e:M=y.2:=by rw [← HL2.out,if_pos he]
    have E:Hid (M=y.2):=e;clear HL2 he e;go_wp2_with fail
    exact C0 (results_tmp rfl _ _ _) rfl ⟨by rw [E.out]; rfl,chain hx hal⟩
   ·have b1:(y.1 == t)=false:=by simpa using he
    have HL3:Hid (bK t (l.drop (k+1))=M):=by show _=_; rw [← HL2.out,if_neg he]
    clear HL2 he;go_wp2_with fail
    go_roundw
    case rel=>exact ⟨k+1,by omega,by go_num,HL3,chain hx hal⟩
    case measure=>simp [RowKit.intOf]; omega
  ·have hkz:¬ (k:Int)<(l.length:Int):=by omega
   have e:M=⟨#[]⟩:=by rw [← HL.out,Dh (by omega)]; rfl
   have E:Hid (M=⟨#[]⟩):=e;clear HL e;go_wp2_with fail
   exact C0 (results_tmp rfl _ _ _) rfl ⟨by rw [E.out]; rfl,hx⟩
def Bj (l:List (Int × ByteArray)):List Value:=l.flatMap fun x=>[.int .i64 x.1,.string x.2]
theorem iX {w:World} {g:Nat} {l:List (Int × ByteArray)} (h:w.heap[g]? = some (.cells (Bj l).toArray 168 (0,0))):aI BP 2 (fun b=>b=g) w (some ⟨g,0,none⟩) l:=by
 refine .inr ⟨g,0,rfl,rfl,lt_of_heap h,fun i hi=>⟨_,rfl,fun j u hu=>?_,rfl⟩⟩;have hj:j<2:=by
  rcases DF j 2 with h | h
  ·exact h
  ·rw [DS (by simpa using h)] at hu; cases hu
 refine cell_of (i:=0+i*2+j) h ?_;have:=jR (g:=fun x:Int × ByteArray=>[Value.int .i64 x.1,Value.string x.2]) (c:=2) (fun _=>rfl) l i;rw [Dj hi] at this;simp only at this;rw [Dr,List.getElem?_toArray,← hu,← this,List.getElem?_take_of_lt hj,List.getElem?_drop];rfl
def fc:List (Int × ByteArray):=[(20,⟨#[99,111,117,110,116]⟩),(21,⟨#[115,117,109]⟩),(22,⟨#[109,105,110]⟩),(23,⟨#[109,97,120]⟩)]
def wF:List (Int × ByteArray):=[(2,⟨#[98,111,111,108]⟩),(3,⟨#[105,110,116]⟩),(4,⟨#[116,101,120,116]⟩)]
def uP:List (Int × ByteArray):=[(3,⟨#[115,101,109,105]⟩),(4,⟨#[97,110,116,105]⟩),(5,⟨#[108,101,102,116]⟩)]
def uW (l:List (Int × ByteArray)) (w:World) (e:Ending) (w':World):Prop:=∃ g,e = .returned (.slice (some ⟨g,0,none⟩) l.length l.length)∧w'.heap[g]? = some (.cells (Bj l).toArray 168 (0,0))∧w.heap.size≤g∧Below w.heap.size w w'
theorem kf (w:World):Calls Tryz.prog 175 #[] w (uW fc w):=by
 go_enter Tryz.func175,Tryz.ntmps175;go_wp2_with fail
 exact C0 (results_tmp rfl _ _ _) rfl ⟨w.heap.size,by first | rfl | trivial,ar w _ _,CX _,(CY _ _).alloc (CX _) _⟩
theorem tO (w:World):Calls Tryz.prog 88 #[] w (uW wF w):=by
 go_enter Tryz.func88,Tryz.ntmps88;go_wp2_with fail
 exact C0 (results_tmp rfl _ _ _) rfl ⟨w.heap.size,by first | rfl | trivial,ar w _ _,CX _,(CY _ _).alloc (CX _) _⟩
theorem nL (w:World):Calls Tryz.prog 144 #[] w (uW uP w):=by
 go_enter Tryz.func144,Tryz.ntmps144;go_wp2_with fail
 exact C0 (results_tmp rfl _ _ _) rfl ⟨w.heap.size,by first | rfl | trivial,ar w _ _,CX _,(CY _ _).alloc (CX _) _⟩
theorem qe {W:World} {PB:Nat} {v:Value} {g:Nat} {ws:List ByteArray} (h:W.heap[g]? = some (.cells (ws.map Value.string).toArray 9 (0,0))) (hn:g≠PB) (ho:v.ownBlock≠some g):aI AI 1 (fun b=>b≠PB∧v.ownBlock≠some b) W (some ⟨g,0,none⟩) ws:=by
 refine .inr ⟨g,0,rfl,⟨hn,ho⟩,lt_of_heap h,fun i hi=>⟨[.string ws[i]],rfl,fun j u hu=>?_,rfl⟩⟩
 match j,hu with
 | 0,hu =>
  cases hu;have:(0+i*1+0)=i:=by omega
  rw [this];exact cell_of (i:=i) h (by simp [hi])
 | j+1,hu=>simp at hu
def cB (x:qs):List ByteArray:=[x.1,bK x.2 wF]
theorem lT (x:qs) {PB:Nat} {v:Value} {bs:List UInt8} {w:World} (hG:GP w PB) (hP:ax w PB v bs) (hb:(an bs (cB x)).length≤fW):Calls Tryz.prog 59 #[.pointer (some ⟨PB,0,none⟩),.agg #[.string x.1,.int .i64 x.2]] w (aC w PB v (an bs (cB x))):=by
 rw [cB] at hb ⊢;have Hb:Hid _:=hb;clear hb;have hal:=ab w (.cells #[.string x.1,.int .i64 x.2] 69);have B0:Hid (Bx (w.alloc (.cells #[.string x.1,.int .i64 x.2] 69)) PB v w.heap.size #[.string x.1,.int .i64 x.2] 69):=Bx.new hP #[.string x.1,.int .i64 x.2] 69;have P0:Hid (ax (w.alloc (.cells #[.string x.1,.int .i64 x.2] 69)) PB v bs):=hP.next hal;have S0:Hid (St PB v w v (w.alloc (.cells #[.string x.1,.int .i64 x.2] 69))):=St.of hal hP.lt
 have G0:Hid (GP (w.alloc (.cells #[.string x.1,.int .i64 x.2] 69)) PB):=hG.nx hal hP.lt;clear hP hG hal;go_enter Tryz.func59,Tryz.ntmps59;go_upto_region 1 with fail
 generalize (w.alloc (.cells #[.string x.1,.int .i64 x.2] 69))=w0 at *;obtain ⟨C,hCC,hCP,hC0⟩:∃ C:World→Prop,(∀ W W':World,C W→Below W.heap.size W W'→C W')∧(∀ W,C W↔j4 W (w.heap.size) #[.string x.1,.int .i64 x.2] 69)∧C w0:=⟨fun W=>j4 W (w.heap.size) #[.string x.1,.int .i64 x.2] 69,fun W W' h hb=>h.nx hb,fun _=>Iff.rfl,B0.out.q⟩
 have hdr:Below w0.heap.size w0 w0.drew:=(CY _ _).drew;have CW:=hCC _ _ hC0 hdr;clear hC0;refine cK C (by kernel_rfl) ?_;refine ae hCC 4 (i:=0) (v:=.pointer (some ⟨PB,0,none⟩)) (fun n hn=>?_) CW ?_
 ·go_simp
 simp only [Act.put,pA,pB,pC];refine ae hCC 5 (i:=1) (v:=.pointer (some ⟨w.heap.size,0,none⟩)) (fun n hn=>?_) CW ?_
 ·go_simp
 simp only [Act.put,pA,pB,pC];refine ae hCC 6 (i:=2) (v:=.string x.1) (fun n hn=>?_) CW ?_
 ·have z0:n.cell? ⟨w.heap.size,0,none⟩=some (.string x.1):=((hCP n).1 hn).c 0 rfl;go_simp
 simp only [Act.put,pA,pB,pC];refine ae hCC 8 (i:=4) (v:=.pointer (some ⟨w.heap.size,1,none⟩)) (fun n hn=>?_) CW ?_
 ·go_simp
 simp only [Act.put,pA,pB,pC];refine ae hCC 9 (i:=5) (v:=.int .i64 x.2) (fun n hn=>?_) CW ?_
 ·have z0:n.cell? ⟨w.heap.size,1,none⟩=some (.int .i64 x.2):=((hCP n).1 hn).c 1 rfl;go_simp
 simp only [Act.put,pA,pB,pC];refine bA (rs:=[3]) (by kernel_rfl) (by simp) ?_;intro w5 hb5 jj hj;obtain rfl:jj=3:=by simpa using hj
 clear hj;have D5:=chain hdr hb5;have con:=tO w5;refine wpOp_step rfl (fun K hK=>?_);go_simp;refine con.mono ?_;rintro e w6 ⟨g6,rfl,q6,_,hb6⟩;have CW6:=hCC _ _ (hCC _ _ CW hb5) hb6;refine hK _ _ ⟨CW6,?_⟩;clear hK K con CW;have D6:=chain D5 hb6;clear hb6 D5 hb5;try simp only [Act.put,pA,pB,pC]
 refine bA (rs:=[6]) (by kernel_rfl) (by simp) ?_;intro w7 hb7 jj hj;obtain rfl:jj=6:=by simpa using hj
 clear hj;have q7:=(hb7.block _ (lt_of_heap q6)).trans q6;have con:=fC (x.2) wF (by decide) (some ⟨g6,0,none⟩) wF.length _ (iX q7);refine wpOp_step rfl (fun K hK=>?_);go_simp;refine con.mono ?_;rintro e w8 ⟨rfl,hb8⟩;have CW8:=hCC _ _ (hCC _ _ CW6 hb7) hb8;refine hK _ _ ⟨CW8,?_⟩;have D8:=chain D6 (chain hb7 hb8);clear hK K con CW6 hb7 hb8 D6 q6 q7;generalize (bK x.2 wF)=wd at *;try simp only [Act.put,pA,pB,pC]
 refine bA (rs:=[7]) (by kernel_rfl) (by simp) ?_;intro w9 hb9 jj hj;obtain rfl:jj=7:=by simpa using hj
 clear hj;refine wpOp_step rfl (fun K hK=>?_);go_simp;have hal:=ab w9 (.cells #[.string x.1,.string wd] 9);have q9:=ar w9 #[.string x.1,.string wd] 9;have CW9:=hCC _ _ (hCC _ _ CW8 hb9) hal;have D9a:=chain D8 hb9;have D9:=chain D9a hal;refine hK _ _ ⟨CW9,?_⟩;have n9:w9.heap.size≠PB:=by have:=(P0.out.next D9a).lt; omega
 have o9:v.ownBlock≠some w9.heap.size:=(P0.out.next D9a).oU (CX _);generalize w9.alloc (.cells #[.string x.1,.string wd] 9)=wA at *;clear hK K CW8 hb9 D8 D9a hal;try simp only [Act.put,pA,pB,pC]
 refine bA (rs:=[8]) (by kernel_rfl) (by simp) ?_;intro wB hbB jj hj;obtain rfl:jj=8:=by simpa using hj
 clear hj;have DB:=chain D9 hbB;have qB:=(hbB.block _ (lt_of_heap q9)).trans q9;have con:Calls Tryz.prog 57 #[.pointer (some ⟨PB,0,none⟩),.slice (some ⟨w9.heap.size,0,none⟩) 2 2] wB (aC wB PB v (an bs [x.1,wd])):=lf [x.1,wd] (P0.out.next DB) (qe (ws:=[x.1,wd]) qB n9 o9) (Hb.out) (by simp);refine wpOp_step rfl (fun K hK=>?_);go_simp;refine con.mono ?_;rintro e wC ⟨rfl,vC,PC,SC⟩;have SB:St PB v w0 v wB:=St.of DB P0.out.lt;refine hK _ _ ⟨(hCP _).2 ((B0.out.st SB).st SC).q,?_⟩;refine fq (by kernel_rfl) ?_;intro wD hbD
 have S_:St PB v w0 vC wD:=SB.trans (SC.trans (St.of hbD PC.lt));have P2:Hid (ax wD PB vC (an bs ([x.1,wd]))):=by show ax _ _ _ _; exact PC.next hbD
 have S3:Hid (St PB v w vC wD):=S0.out.trans S_;have G4:Hid (GP wD PB):=G0.out.st S_;have B5:Hid (Bx wD PB vC (w.heap.size) #[.string x.1,.int .i64 x.2] 69):=B0.out.st S_;clear con hK K CW9 hCC hCP q9 qB n9 o9 SB SC PC S_ DB D9 hdr hbB hbD P0 S0 G0 B0;go_wp2_with fail
 go_end0
 exact ⟨rfl,vC,P2.out,S3.out⟩
theorem gf (l:List SX) (ps:List (Int × List ByteArray)) (hB:gD ps l) (hl3:l.length≤1000) (a:Option Addr) (c:Nat) (ss:List ByteArray) (hss:l.length<ss.length) {PB:Nat} {v:Value} {bs:List UInt8} {w:World} (hG:GP w PB) (hP:ax w PB v bs) (hk:aD (fun b=>b<PB) w a l) (hb:(an bs (dK ps ss)).length≤fW):Calls Tryz.prog 174 #[.pointer (some ⟨PB,0,none⟩),.slice a l.length c,.slice (some ⟨w.heap.size,0,none⟩) ss.length ss.length] (w.alloc (.cells (ss.map Value.string).toArray 9)) (aC w PB v (an bs (dK ps ss))):=by
 have hal:=ab w (.cells (ss.map Value.string).toArray 9);refine (uy l ps hB hl3 a c w.heap.size ss hss (hG.nx hal hP.lt) (hP.next hal) (aD.next hal hk) (Bx.new hP _ _) hb).mono ?_;rintro e w' ⟨rfl,v',P',S'⟩;exact ⟨rfl,v',P',(St.of hal hP.lt).trans S'⟩
theorem zy (v0:Vl) (t n:ByteArray) (ks:List SX) (a:Option Addr) (c:Nat) {PB:Nat} {v:Value} {bs:List UInt8} {w:World} (hG:GP w PB) (hP:ax w PB v bs) (hk1:1≤v0.1) (hk4:v0.1≤4) (h3:v0.1=3 → -1000000000000000≤v0.2.1∧v0.2.1≤1000000000000000) (h4:v0.1=4→v0.2.2.size≤60) (hb:(an bs (cF v0)).length≤fW):Calls Tryz.prog 146 #[.pointer (some ⟨PB,0,none⟩),.agg #[.int .i64 1,.int .i64 v0.1,.int .i64 v0.2.1,.string v0.2.2,.string t,.string n,.slice a ks.length c]] w (aC w PB v (an bs (cF v0))):=by
 have Hb:Hid _:=hb;clear hb;have hal:=ab w (.cells #[.int .i64 1,.int .i64 v0.1,.int .i64 v0.2.1,.string v0.2.2,.string t,.string n,.slice a ks.length c] 55)
 have B0:Hid (Bx (w.alloc (.cells #[.int .i64 1,.int .i64 v0.1,.int .i64 v0.2.1,.string v0.2.2,.string t,.string n,.slice a ks.length c] 55)) PB v w.heap.size #[.int .i64 1,.int .i64 v0.1,.int .i64 v0.2.1,.string v0.2.2,.string t,.string n,.slice a ks.length c] 55):=Bx.new hP #[.int .i64 1,.int .i64 v0.1,.int .i64 v0.2.1,.string v0.2.2,.string t,.string n,.slice a ks.length c] 55;have P0:Hid (ax (w.alloc (.cells #[.int .i64 1,.int .i64 v0.1,.int .i64 v0.2.1,.string v0.2.2,.string t,.string n,.slice a ks.length c] 55)) PB v bs):=hP.next hal
 have S0:Hid (St PB v w v (w.alloc (.cells #[.int .i64 1,.int .i64 v0.1,.int .i64 v0.2.1,.string v0.2.2,.string t,.string n,.slice a ks.length c] 55))):=St.of hal hP.lt;have G0:Hid (GP (w.alloc (.cells #[.int .i64 1,.int .i64 v0.1,.int .i64 v0.2.1,.string v0.2.2,.string t,.string n,.slice a ks.length c] 55)) PB):=hG.nx hal hP.lt;clear hP hG hal;go_enter Tryz.func146,Tryz.ntmps146;go_upto_region 1 with fail
 generalize (w.alloc (.cells #[.int .i64 1,.int .i64 v0.1,.int .i64 v0.2.1,.string v0.2.2,.string t,.string n,.slice a ks.length c] 55))=w0 at *;have f1:w0.cell? ⟨w.heap.size,0,none⟩=some (.int .i64 1):=B0.out.c 0 rfl;have f2:w0.cell? ⟨w.heap.size,1,none⟩=some (.int .i64 v0.1):=B0.out.c 1 rfl;have f3:w0.cell? ⟨w.heap.size,2,none⟩=some (.int .i64 v0.2.1):=B0.out.c 2 rfl;have f4:w0.cell? ⟨w.heap.size,3,none⟩=some (.string v0.2.2):=B0.out.c 3 rfl
 have con5:Calls Tryz.prog 95 #[.pointer (some ⟨PB,0,none⟩),.agg #[.int .i64 v0.1,.int .i64 v0.2.1,.string v0.2.2]] w0 (aC w0 PB v (an bs (cF v0))):=kT v0 (G0.out) (P0.out) hk1 hk4 h3 h4 (Hb.out);go_wp2_with fail
 refine con5.mono ?_;rintro e w6 ⟨rfl,v7,P_,S_⟩;have P8:Hid (ax w6 PB v7 (an bs (cF v0))):=P_;have S9:Hid (St PB v w v7 w6):=S0.out.trans S_;have G10:Hid (GP w6 PB):=G0.out.st S_;have B11:Hid (Bx w6 PB v7 (w.heap.size) #[.int .i64 1,.int .i64 v0.1,.int .i64 v0.2.1,.string v0.2.2,.string t,.string n,.slice a ks.length c] 55):=B0.out.st S_;clear con5 P_ S_ f1 f2 f3 f4 P0 S0 G0 B0;go_wp2_with fail
 go_end0
 exact ⟨rfl,v7,P8.out,S9.out⟩
theorem zM (v0:Vl) (t n:ByteArray) (ks:List SX) (a:Option Addr) (c:Nat) {PB:Nat} {v:Value} {bs:List UInt8} {w:World} (hG:GP w PB) (hP:ax w PB v bs) (hb:(an bs (j1 t n)).length≤fW):Calls Tryz.prog 146 #[.pointer (some ⟨PB,0,none⟩),.agg #[.int .i64 2,.int .i64 v0.1,.int .i64 v0.2.1,.string v0.2.2,.string t,.string n,.slice a ks.length c]] w (aC w PB v (an bs (j1 t n))):=by
 have Hb:Hid _:=hb;clear hb;have hal:=ab w (.cells #[.int .i64 2,.int .i64 v0.1,.int .i64 v0.2.1,.string v0.2.2,.string t,.string n,.slice a ks.length c] 55)
 have B0:Hid (Bx (w.alloc (.cells #[.int .i64 2,.int .i64 v0.1,.int .i64 v0.2.1,.string v0.2.2,.string t,.string n,.slice a ks.length c] 55)) PB v w.heap.size #[.int .i64 2,.int .i64 v0.1,.int .i64 v0.2.1,.string v0.2.2,.string t,.string n,.slice a ks.length c] 55):=Bx.new hP #[.int .i64 2,.int .i64 v0.1,.int .i64 v0.2.1,.string v0.2.2,.string t,.string n,.slice a ks.length c] 55;have P0:Hid (ax (w.alloc (.cells #[.int .i64 2,.int .i64 v0.1,.int .i64 v0.2.1,.string v0.2.2,.string t,.string n,.slice a ks.length c] 55)) PB v bs):=hP.next hal
 have S0:Hid (St PB v w v (w.alloc (.cells #[.int .i64 2,.int .i64 v0.1,.int .i64 v0.2.1,.string v0.2.2,.string t,.string n,.slice a ks.length c] 55))):=St.of hal hP.lt;have G0:Hid (GP (w.alloc (.cells #[.int .i64 2,.int .i64 v0.1,.int .i64 v0.2.1,.string v0.2.2,.string t,.string n,.slice a ks.length c] 55)) PB):=hG.nx hal hP.lt;clear hP hG hal;go_enter Tryz.func146,Tryz.ntmps146;go_upto_region 1 with fail
 generalize (w.alloc (.cells #[.int .i64 2,.int .i64 v0.1,.int .i64 v0.2.1,.string v0.2.2,.string t,.string n,.slice a ks.length c] 55))=w0 at *;have f1:w0.cell? ⟨w.heap.size,0,none⟩=some (.int .i64 2):=B0.out.c 0 rfl;have f2:w0.cell? ⟨w.heap.size,1,none⟩=some (.int .i64 v0.1):=B0.out.c 1 rfl;have f3:w0.cell? ⟨w.heap.size,2,none⟩=some (.int .i64 v0.2.1):=B0.out.c 2 rfl;have f4:w0.cell? ⟨w.heap.size,3,none⟩=some (.string v0.2.2):=B0.out.c 3 rfl;have f5:w0.cell? ⟨w.heap.size,4,none⟩=some (.string t):=B0.out.c 4 rfl;have f6:w0.cell? ⟨w.heap.size,5,none⟩=some (.string n):=B0.out.c 5 rfl
 have f7:w0.cell? ⟨w.heap.size,6,none⟩=some (.slice a ks.length c):=B0.out.c 6 rfl;have con8:Calls Tryz.prog 173 #[.pointer (some ⟨PB,0,none⟩),.agg #[.int .i64 2,.int .i64 v0.1,.int .i64 v0.2.1,.string v0.2.2,.string t,.string n,.slice a ks.length c]] w0 (aC w0 PB v (an bs (j1 t n))):=mI (.mk 2 v0 t n ks) a c (G0.out) (P0.out) (Hb.out);go_wp2_with fail
 refine con8.mono ?_;rintro e w9 ⟨rfl,v10,P_,S_⟩;have P11:Hid (ax w9 PB v10 (an bs (j1 t n))):=P_;have S12:Hid (St PB v w v10 w9):=S0.out.trans S_;have G13:Hid (GP w9 PB):=G0.out.st S_;have B14:Hid (Bx w9 PB v10 (w.heap.size) #[.int .i64 2,.int .i64 v0.1,.int .i64 v0.2.1,.string v0.2.2,.string t,.string n,.slice a ks.length c] 55):=B0.out.st S_;clear con8 P_ S_ f1 f2 f3 f4 f5 f6 f7 P0 S0 G0 B0;go_wp2_with fail
 go_end0
 exact ⟨rfl,v10,P11.out,S12.out⟩
theorem zG (v0:Vl) (t n:ByteArray) (ks:List SX) (u0:List ByteArray) (hp0:0<ks.length) (hB0:dw u0 (ks[0]'hp0)) (b1 o1 c:Nat) {PB:Nat} {v:Value} {bs:List UInt8} {w:World} (hG:GP w PB) (hP:ax w PB v bs) (hk:aD (fun b=>b<PB) w (some ⟨b1,o1,none⟩) ks) (hb:(an bs ([⟨#[110,111,116]⟩] ++ en 3 (aZ (ks[0]'hp0).k,u0))).length≤fW):Calls Tryz.prog 146 #[.pointer (some ⟨PB,0,none⟩),.agg #[.int .i64 3,.int .i64 v0.1,.int .i64 v0.2.1,.string v0.2.2,.string t,.string n,.slice (some ⟨b1,o1,none⟩) ks.length c]] w (aC w PB v (an bs ([⟨#[110,111,116]⟩] ++ en 3 (aZ (ks[0]'hp0).k,u0)))):=by
 have hz0:(0:Int)<(ks.length:Int):=by omega
 have HB0:Hid (dw u0 (ks[0])):=hB0;clear hB0;have Hb:Hid _:=hb;clear hb;have hal:=ab w (.cells #[.int .i64 3,.int .i64 v0.1,.int .i64 v0.2.1,.string v0.2.2,.string t,.string n,.slice (some ⟨b1,o1,none⟩) ks.length c] 55)
 have B0:Hid (Bx (w.alloc (.cells #[.int .i64 3,.int .i64 v0.1,.int .i64 v0.2.1,.string v0.2.2,.string t,.string n,.slice (some ⟨b1,o1,none⟩) ks.length c] 55)) PB v w.heap.size #[.int .i64 3,.int .i64 v0.1,.int .i64 v0.2.1,.string v0.2.2,.string t,.string n,.slice (some ⟨b1,o1,none⟩) ks.length c] 55):=Bx.new hP #[.int .i64 3,.int .i64 v0.1,.int .i64 v0.2.1,.string v0.2.2,.string t,.string n,.slice (some ⟨b1,o1,none⟩) ks.length c] 55
 have P0:Hid (ax (w.alloc (.cells #[.int .i64 3,.int .i64 v0.1,.int .i64 v0.2.1,.string v0.2.2,.string t,.string n,.slice (some ⟨b1,o1,none⟩) ks.length c] 55)) PB v bs):=hP.next hal;have S0:Hid (St PB v w v (w.alloc (.cells #[.int .i64 3,.int .i64 v0.1,.int .i64 v0.2.1,.string v0.2.2,.string t,.string n,.slice (some ⟨b1,o1,none⟩) ks.length c] 55))):=St.of hal hP.lt;have G0:Hid (GP (w.alloc (.cells #[.int .i64 3,.int .i64 v0.1,.int .i64 v0.2.1,.string v0.2.2,.string t,.string n,.slice (some ⟨b1,o1,none⟩) ks.length c] 55)) PB):=hG.nx hal hP.lt
 have L00:Hid (aD (fun b=>b<PB) (w.alloc (.cells #[.int .i64 3,.int .i64 v0.1,.int .i64 v0.2.1,.string v0.2.2,.string t,.string n,.slice (some ⟨b1,o1,none⟩) ks.length c] 55)) (some ⟨b1,o1,none⟩) ks):=aD.next hal hk;clear hP hG hal hk;go_enter Tryz.func146,Tryz.ntmps146;go_upto_region 1 with fail
 generalize (w.alloc (.cells #[.int .i64 3,.int .i64 v0.1,.int .i64 v0.2.1,.string v0.2.2,.string t,.string n,.slice (some ⟨b1,o1,none⟩) ks.length c] 55))=w0 at *;have f1:w0.cell? ⟨w.heap.size,0,none⟩=some (.int .i64 3):=B0.out.c 0 rfl;have con2:Calls Tryz.prog 57 #[.pointer (some ⟨PB,0,none⟩),.slice (some ⟨w0.heap.size,0,none⟩) 1 1] (w0.alloc (.cells #[.string ⟨#[110,111,116]⟩] 9)) (aC w0 PB v (an bs ([⟨#[110,111,116]⟩]))):=aW [⟨#[110,111,116]⟩] P0.out (cH (Hb.out)) (by simp);go_wp2_with fail
 refine con2.mono ?_;rintro e w3 ⟨rfl,v4,P_,S_⟩;have P5:Hid (ax w3 PB v4 (an bs ([⟨#[110,111,116]⟩]))):=P_;have S6:Hid (St PB v w v4 w3):=S0.out.trans S_;have G7:Hid (GP w3 PB):=G0.out.st S_;have B8:Hid (Bx w3 PB v4 (w.heap.size) #[.int .i64 3,.int .i64 v0.1,.int .i64 v0.2.1,.string v0.2.2,.string t,.string n,.slice (some ⟨b1,o1,none⟩) ks.length c] 55):=B0.out.st S_;have L9:Hid (aD (fun b=>b<PB) w3 (some ⟨b1,o1,none⟩) ks):=aD.bJ L00.out S_;clear con2 P_ S_ f1 P0 S0 G0 B0 L00;obtain ⟨hl0,a0,c0,sv0,kk0⟩:=L9.out.AH (k:=0) (show 0<ks.length by omega)
 have y00:w3.cell? ⟨b1,o1,none⟩=some (.int .i64 ks[0].k):=by simpa using sv0.c0
 have y01:w3.cell? ⟨b1,o1+1,none⟩=some (.int .i64 ks[0].v.1):=by simpa using sv0.c1
 have y02:w3.cell? ⟨b1,o1+2,none⟩=some (.int .i64 ks[0].v.2.1):=by simpa using sv0.c2
 have y03:w3.cell? ⟨b1,o1+3,none⟩=some (.string ks[0].v.2.2):=by simpa using sv0.c3
 have y04:w3.cell? ⟨b1,o1+4,none⟩=some (.string ks[0].aH):=by simpa using sv0.c4
 have y05:w3.cell? ⟨b1,o1+5,none⟩=some (.string ks[0].name):=by simpa using sv0.c5
 have y06:w3.cell? ⟨b1,o1+6,none⟩=some (.slice a0 ks[0].ks.length c0):=by simpa using sv0.c6
 clear sv0 hl0;have f10:w3.cell? ⟨w.heap.size,6,none⟩=some (.slice (some ⟨b1,o1,none⟩) ks.length c):=B8.out.c 6 rfl;have con11:Calls Tryz.prog 120 #[.pointer (some ⟨PB,0,none⟩),.int .i64 3,.agg (aT ks[0] a0 c0)] w3 (aC w3 PB v4 (an (an bs ([⟨#[110,111,116]⟩])) (en 3 (aZ (ks[0]).k,u0)))):=gb 3 ks[0] u0 HB0.out a0 c0 (G7.out) (P5.out) kk0 (by rw [← ak]; exact Hb.out);go_wp2_with fail
 refine con11.mono ?_;rintro e w12 ⟨rfl,v13,P_,S_⟩;have P14:Hid (ax w12 PB v13 (an bs ([⟨#[110,111,116]⟩] ++ en 3 (aZ (ks[0]).k,u0)))):=by show ax _ _ _ _; rw [ak]; exact P_
 have S15:Hid (St PB v w v13 w12):=S6.out.trans S_;have G16:Hid (GP w12 PB):=G7.out.st S_;have B17:Hid (Bx w12 PB v13 (w.heap.size) #[.int .i64 3,.int .i64 v0.1,.int .i64 v0.2.1,.string v0.2.2,.string t,.string n,.slice (some ⟨b1,o1,none⟩) ks.length c] 55):=B8.out.st S_;have L18:Hid (aD (fun b=>b<PB) w12 (some ⟨b1,o1,none⟩) ks):=aD.bJ L9.out S_;clear con11 P_ S_ f10 y00 y01 y02 y03 y04 y05 y06 P5 S6 G7 B8 L9;go_wp2_with fail
 go_end0
 exact ⟨rfl,v13,P14.out,S15.out⟩
theorem yt (v0:Vl) (t n:ByteArray) (ks:List SX) (u0:List ByteArray) (hp0:0<ks.length) (hB0:dw u0 (ks[0]'hp0)) (b1 o1 c:Nat) {PB:Nat} {v:Value} {bs:List UInt8} {w:World} (hG:GP w PB) (hP:ax w PB v bs) (hk:aD (fun b=>b<PB) w (some ⟨b1,o1,none⟩) ks) (hb:(an bs (en 5 (aZ (ks[0]'hp0).k,u0) ++ [⟨#[105,115]⟩,⟨#[110,117,108,108]⟩])).length≤fW):Calls Tryz.prog 146 #[.pointer (some ⟨PB,0,none⟩),.agg #[.int .i64 16,.int .i64 v0.1,.int .i64 v0.2.1,.string v0.2.2,.string t,.string n,.slice (some ⟨b1,o1,none⟩) ks.length c]] w (aC w PB v (an bs (en 5 (aZ (ks[0]'hp0).k,u0) ++ [⟨#[105,115]⟩,⟨#[110,117,108,108]⟩]))):=by
 have hz0:(0:Int)<(ks.length:Int):=by omega
 have HB0:Hid (dw u0 (ks[0])):=hB0;clear hB0;have Hb:Hid _:=hb;clear hb;have hal:=ab w (.cells #[.int .i64 16,.int .i64 v0.1,.int .i64 v0.2.1,.string v0.2.2,.string t,.string n,.slice (some ⟨b1,o1,none⟩) ks.length c] 55)
 have B0:Hid (Bx (w.alloc (.cells #[.int .i64 16,.int .i64 v0.1,.int .i64 v0.2.1,.string v0.2.2,.string t,.string n,.slice (some ⟨b1,o1,none⟩) ks.length c] 55)) PB v w.heap.size #[.int .i64 16,.int .i64 v0.1,.int .i64 v0.2.1,.string v0.2.2,.string t,.string n,.slice (some ⟨b1,o1,none⟩) ks.length c] 55):=Bx.new hP #[.int .i64 16,.int .i64 v0.1,.int .i64 v0.2.1,.string v0.2.2,.string t,.string n,.slice (some ⟨b1,o1,none⟩) ks.length c] 55
 have P0:Hid (ax (w.alloc (.cells #[.int .i64 16,.int .i64 v0.1,.int .i64 v0.2.1,.string v0.2.2,.string t,.string n,.slice (some ⟨b1,o1,none⟩) ks.length c] 55)) PB v bs):=hP.next hal;have S0:Hid (St PB v w v (w.alloc (.cells #[.int .i64 16,.int .i64 v0.1,.int .i64 v0.2.1,.string v0.2.2,.string t,.string n,.slice (some ⟨b1,o1,none⟩) ks.length c] 55))):=St.of hal hP.lt;have G0:Hid (GP (w.alloc (.cells #[.int .i64 16,.int .i64 v0.1,.int .i64 v0.2.1,.string v0.2.2,.string t,.string n,.slice (some ⟨b1,o1,none⟩) ks.length c] 55)) PB):=hG.nx hal hP.lt
 have L00:Hid (aD (fun b=>b<PB) (w.alloc (.cells #[.int .i64 16,.int .i64 v0.1,.int .i64 v0.2.1,.string v0.2.2,.string t,.string n,.slice (some ⟨b1,o1,none⟩) ks.length c] 55)) (some ⟨b1,o1,none⟩) ks):=aD.next hal hk;clear hP hG hal hk;go_enter Tryz.func146,Tryz.ntmps146;go_upto_region 1 with fail
 generalize (w.alloc (.cells #[.int .i64 16,.int .i64 v0.1,.int .i64 v0.2.1,.string v0.2.2,.string t,.string n,.slice (some ⟨b1,o1,none⟩) ks.length c] 55))=w0 at *;obtain ⟨hl0,a0,c0,sv0,kk0⟩:=L00.out.AH (k:=0) (show 0<ks.length by omega);have y00:w0.cell? ⟨b1,o1,none⟩=some (.int .i64 ks[0].k):=by simpa using sv0.c0
 have y01:w0.cell? ⟨b1,o1+1,none⟩=some (.int .i64 ks[0].v.1):=by simpa using sv0.c1
 have y02:w0.cell? ⟨b1,o1+2,none⟩=some (.int .i64 ks[0].v.2.1):=by simpa using sv0.c2
 have y03:w0.cell? ⟨b1,o1+3,none⟩=some (.string ks[0].v.2.2):=by simpa using sv0.c3
 have y04:w0.cell? ⟨b1,o1+4,none⟩=some (.string ks[0].aH):=by simpa using sv0.c4
 have y05:w0.cell? ⟨b1,o1+5,none⟩=some (.string ks[0].name):=by simpa using sv0.c5
 have y06:w0.cell? ⟨b1,o1+6,none⟩=some (.slice a0 ks[0].ks.length c0):=by simpa using sv0.c6
 clear sv0 hl0;have f1:w0.cell? ⟨w.heap.size,0,none⟩=some (.int .i64 16):=B0.out.c 0 rfl;have f2:w0.cell? ⟨w.heap.size,6,none⟩=some (.slice (some ⟨b1,o1,none⟩) ks.length c):=B0.out.c 6 rfl;have con3:Calls Tryz.prog 120 #[.pointer (some ⟨PB,0,none⟩),.int .i64 5,.agg (aT ks[0] a0 c0)] w0 (aC w0 PB v (an bs (en 5 (aZ (ks[0]).k,u0)))):=gb 5 ks[0] u0 HB0.out a0 c0 (G0.out) (P0.out) kk0 (cH (Hb.out));go_wp2_with fail
 refine con3.mono ?_;rintro e w4 ⟨rfl,v5,P_,S_⟩;have P6:Hid (ax w4 PB v5 (an bs (en 5 (aZ (ks[0]).k,u0)))):=P_;have S7:Hid (St PB v w v5 w4):=S0.out.trans S_;have G8:Hid (GP w4 PB):=G0.out.st S_;have B9:Hid (Bx w4 PB v5 (w.heap.size) #[.int .i64 16,.int .i64 v0.1,.int .i64 v0.2.1,.string v0.2.2,.string t,.string n,.slice (some ⟨b1,o1,none⟩) ks.length c] 55):=B0.out.st S_;have L10:Hid (aD (fun b=>b<PB) w4 (some ⟨b1,o1,none⟩) ks):=aD.bJ L00.out S_;clear con3 P_ S_ f1 f2 y00 y01 y02 y03 y04 y05 y06 P0 S0 G0 B0 L00
 have con11:Calls Tryz.prog 57 #[.pointer (some ⟨PB,0,none⟩),.slice (some ⟨w4.heap.size,0,none⟩) 2 2] (w4.alloc (.cells #[.string ⟨#[105,115]⟩,.string ⟨#[110,117,108,108]⟩] 9)) (aC w4 PB v5 (an (an bs (en 5 (aZ (ks[0]).k,u0))) ([⟨#[105,115]⟩,⟨#[110,117,108,108]⟩]))):=aW [⟨#[105,115]⟩,⟨#[110,117,108,108]⟩] P6.out (by rw [← ak]; exact Hb.out) (by simp);go_wp2_with fail
 refine con11.mono ?_;rintro e w12 ⟨rfl,v13,P_,S_⟩;have P14:Hid (ax w12 PB v13 (an bs (en 5 (aZ (ks[0]).k,u0) ++ [⟨#[105,115]⟩,⟨#[110,117,108,108]⟩]))):=by show ax _ _ _ _; rw [ak]; exact P_
 have S15:Hid (St PB v w v13 w12):=S7.out.trans S_;have G16:Hid (GP w12 PB):=G8.out.st S_;have B17:Hid (Bx w12 PB v13 (w.heap.size) #[.int .i64 16,.int .i64 v0.1,.int .i64 v0.2.1,.string v0.2.2,.string t,.string n,.slice (some ⟨b1,o1,none⟩) ks.length c] 55):=B9.out.st S_;have L18:Hid (aD (fun b=>b<PB) w12 (some ⟨b1,o1,none⟩) ks):=aD.bJ L10.out S_;clear con11 P_ S_  P6 S7 G8 B9 L10;go_wp2_with fail
 go_end0
 exact ⟨rfl,v13,P14.out,S15.out⟩
theorem yf (v0:Vl) (t n:ByteArray) (ks:List SX) (ps:List (Int × List ByteArray)) (hBL:gD ps ks) (h1:ks.length=3) (a:Option Addr) (c:Nat) {PB:Nat} {v:Value} {bs:List UInt8} {w:World} (hG:GP w PB) (hP:ax w PB v bs) (hk:aD (fun b=>b<PB) w a ks) (hb:(an bs ([⟨#[99,97,115,101]⟩] ++ dK ps [⟨#[119,104,101,110]⟩,⟨#[116,104,101,110]⟩,⟨#[101,108,115,101]⟩,⟨#[101,110,100]⟩])).length≤fW):Calls Tryz.prog 146 #[.pointer (some ⟨PB,0,none⟩),.agg #[.int .i64 17,.int .i64 v0.1,.int .i64 v0.2.1,.string v0.2.2,.string t,.string n,.slice a ks.length c]] w (aC w PB v (an bs ([⟨#[99,97,115,101]⟩] ++ dK ps [⟨#[119,104,101,110]⟩,⟨#[116,104,101,110]⟩,⟨#[101,108,115,101]⟩,⟨#[101,110,100]⟩]))):=by
 have HBL:Hid (gD ps ks):=hBL;have H1:Hid _:=h1;clear hBL h1;have Hb:Hid _:=hb;clear hb;have hal:=ab w (.cells #[.int .i64 17,.int .i64 v0.1,.int .i64 v0.2.1,.string v0.2.2,.string t,.string n,.slice a ks.length c] 55)
 have B0:Hid (Bx (w.alloc (.cells #[.int .i64 17,.int .i64 v0.1,.int .i64 v0.2.1,.string v0.2.2,.string t,.string n,.slice a ks.length c] 55)) PB v w.heap.size #[.int .i64 17,.int .i64 v0.1,.int .i64 v0.2.1,.string v0.2.2,.string t,.string n,.slice a ks.length c] 55):=Bx.new hP #[.int .i64 17,.int .i64 v0.1,.int .i64 v0.2.1,.string v0.2.2,.string t,.string n,.slice a ks.length c] 55;have P0:Hid (ax (w.alloc (.cells #[.int .i64 17,.int .i64 v0.1,.int .i64 v0.2.1,.string v0.2.2,.string t,.string n,.slice a ks.length c] 55)) PB v bs):=hP.next hal
 have S0:Hid (St PB v w v (w.alloc (.cells #[.int .i64 17,.int .i64 v0.1,.int .i64 v0.2.1,.string v0.2.2,.string t,.string n,.slice a ks.length c] 55))):=St.of hal hP.lt;have G0:Hid (GP (w.alloc (.cells #[.int .i64 17,.int .i64 v0.1,.int .i64 v0.2.1,.string v0.2.2,.string t,.string n,.slice a ks.length c] 55)) PB):=hG.nx hal hP.lt;have L00:Hid (aD (fun b=>b<PB) (w.alloc (.cells #[.int .i64 17,.int .i64 v0.1,.int .i64 v0.2.1,.string v0.2.2,.string t,.string n,.slice a ks.length c] 55)) a ks):=aD.next hal hk;clear hP hG hal hk;go_enter Tryz.func146,Tryz.ntmps146;go_upto_region 1 with fail
 generalize (w.alloc (.cells #[.int .i64 17,.int .i64 v0.1,.int .i64 v0.2.1,.string v0.2.2,.string t,.string n,.slice a ks.length c] 55))=w0 at *;have f1:w0.cell? ⟨w.heap.size,0,none⟩=some (.int .i64 17):=B0.out.c 0 rfl;have con2:Calls Tryz.prog 57 #[.pointer (some ⟨PB,0,none⟩),.slice (some ⟨w0.heap.size,0,none⟩) 1 1] (w0.alloc (.cells #[.string ⟨#[99,97,115,101]⟩] 9)) (aC w0 PB v (an bs ([⟨#[99,97,115,101]⟩]))):=aW [⟨#[99,97,115,101]⟩] P0.out (cH (Hb.out)) (by simp);go_wp2_with fail
 refine con2.mono ?_;rintro e w3 ⟨rfl,v4,P_,S_⟩;have P5:Hid (ax w3 PB v4 (an bs ([⟨#[99,97,115,101]⟩]))):=P_;have S6:Hid (St PB v w v4 w3):=S0.out.trans S_;have G7:Hid (GP w3 PB):=G0.out.st S_;have B8:Hid (Bx w3 PB v4 (w.heap.size) #[.int .i64 17,.int .i64 v0.1,.int .i64 v0.2.1,.string v0.2.2,.string t,.string n,.slice a ks.length c] 55):=B0.out.st S_;have L9:Hid (aD (fun b=>b<PB) w3 a ks):=aD.bJ L00.out S_;clear con2 P_ S_ f1 P0 S0 G0 B0 L00;have f10:w3.cell? ⟨w.heap.size,6,none⟩=some (.slice a ks.length c):=B8.out.c 6 rfl
 have con11:Calls Tryz.prog 174 #[.pointer (some ⟨PB,0,none⟩),.slice a ks.length c,.slice (some ⟨w3.heap.size,0,none⟩) 4 4] (w3.alloc (.cells #[.string ⟨#[119,104,101,110]⟩,.string ⟨#[116,104,101,110]⟩,.string ⟨#[101,108,115,101]⟩,.string ⟨#[101,110,100]⟩] 9)) (aC w3 PB v4 (an (an bs ([⟨#[99,97,115,101]⟩])) (dK ps [⟨#[119,104,101,110]⟩,⟨#[116,104,101,110]⟩,⟨#[101,108,115,101]⟩,⟨#[101,110,100]⟩]))):=gf ks ps HBL.out (by have:=H1.out; omega) a c [⟨#[119,104,101,110]⟩,⟨#[116,104,101,110]⟩,⟨#[101,108,115,101]⟩,⟨#[101,110,100]⟩] (by rw [H1.out]; simp) G7.out P5.out L9.out (by rw [← ak]; exact Hb.out)
 go_wp2_with fail
 refine con11.mono ?_;rintro e w12 ⟨rfl,v13,P_,S_⟩;have P14:Hid (ax w12 PB v13 (an bs ([⟨#[99,97,115,101]⟩] ++ dK ps [⟨#[119,104,101,110]⟩,⟨#[116,104,101,110]⟩,⟨#[101,108,115,101]⟩,⟨#[101,110,100]⟩]))):=by show ax _ _ _ _; rw [ak]; exact P_
 have S15:Hid (St PB v w v13 w12):=S6.out.trans S_;have G16:Hid (GP w12 PB):=G7.out.st S_;have B17:Hid (Bx w12 PB v13 (w.heap.size) #[.int .i64 17,.int .i64 v0.1,.int .i64 v0.2.1,.string v0.2.2,.string t,.string n,.slice a ks.length c] 55):=B8.out.st S_;have L18:Hid (aD (fun b=>b<PB) w12 a ks):=aD.bJ L9.out S_;clear con11 P_ S_ f10 P5 S6 G7 B8 L9;go_wp2_with fail
 go_end0
 exact ⟨rfl,v13,P14.out,S15.out⟩
theorem yC (v0:Vl) (t n:ByteArray) (ks:List SX) (ps:List (Int × List ByteArray)) (hBL:gD ps ks) (h1:ks.length=2) (a:Option Addr) (c:Nat) {PB:Nat} {v:Value} {bs:List UInt8} {w:World} (hG:GP w PB) (hP:ax w PB v bs) (hk:aD (fun b=>b<PB) w a ks) (hb:(an bs ([⟨#[99,111,97,108,101,115,99,101]⟩] ++ dK ps [⟨#[40]⟩,⟨#[44]⟩,⟨#[41]⟩])).length≤fW):Calls Tryz.prog 146 #[.pointer (some ⟨PB,0,none⟩),.agg #[.int .i64 18,.int .i64 v0.1,.int .i64 v0.2.1,.string v0.2.2,.string t,.string n,.slice a ks.length c]] w (aC w PB v (an bs ([⟨#[99,111,97,108,101,115,99,101]⟩] ++ dK ps [⟨#[40]⟩,⟨#[44]⟩,⟨#[41]⟩]))):=by
 have HBL:Hid (gD ps ks):=hBL;have H1:Hid _:=h1;clear hBL h1;have Hb:Hid _:=hb;clear hb;have hal:=ab w (.cells #[.int .i64 18,.int .i64 v0.1,.int .i64 v0.2.1,.string v0.2.2,.string t,.string n,.slice a ks.length c] 55)
 have B0:Hid (Bx (w.alloc (.cells #[.int .i64 18,.int .i64 v0.1,.int .i64 v0.2.1,.string v0.2.2,.string t,.string n,.slice a ks.length c] 55)) PB v w.heap.size #[.int .i64 18,.int .i64 v0.1,.int .i64 v0.2.1,.string v0.2.2,.string t,.string n,.slice a ks.length c] 55):=Bx.new hP #[.int .i64 18,.int .i64 v0.1,.int .i64 v0.2.1,.string v0.2.2,.string t,.string n,.slice a ks.length c] 55;have P0:Hid (ax (w.alloc (.cells #[.int .i64 18,.int .i64 v0.1,.int .i64 v0.2.1,.string v0.2.2,.string t,.string n,.slice a ks.length c] 55)) PB v bs):=hP.next hal
 have S0:Hid (St PB v w v (w.alloc (.cells #[.int .i64 18,.int .i64 v0.1,.int .i64 v0.2.1,.string v0.2.2,.string t,.string n,.slice a ks.length c] 55))):=St.of hal hP.lt;have G0:Hid (GP (w.alloc (.cells #[.int .i64 18,.int .i64 v0.1,.int .i64 v0.2.1,.string v0.2.2,.string t,.string n,.slice a ks.length c] 55)) PB):=hG.nx hal hP.lt;have L00:Hid (aD (fun b=>b<PB) (w.alloc (.cells #[.int .i64 18,.int .i64 v0.1,.int .i64 v0.2.1,.string v0.2.2,.string t,.string n,.slice a ks.length c] 55)) a ks):=aD.next hal hk;clear hP hG hal hk;go_enter Tryz.func146,Tryz.ntmps146;go_upto_region 1 with fail
 generalize (w.alloc (.cells #[.int .i64 18,.int .i64 v0.1,.int .i64 v0.2.1,.string v0.2.2,.string t,.string n,.slice a ks.length c] 55))=w0 at *;have f1:w0.cell? ⟨w.heap.size,0,none⟩=some (.int .i64 18):=B0.out.c 0 rfl;have con2:Calls Tryz.prog 57 #[.pointer (some ⟨PB,0,none⟩),.slice (some ⟨w0.heap.size,0,none⟩) 1 1] (w0.alloc (.cells #[.string ⟨#[99,111,97,108,101,115,99,101]⟩] 9)) (aC w0 PB v (an bs ([⟨#[99,111,97,108,101,115,99,101]⟩]))):=aW [⟨#[99,111,97,108,101,115,99,101]⟩] P0.out (cH (Hb.out)) (by simp);go_wp2_with fail
 refine con2.mono ?_;rintro e w3 ⟨rfl,v4,P_,S_⟩;have P5:Hid (ax w3 PB v4 (an bs ([⟨#[99,111,97,108,101,115,99,101]⟩]))):=P_;have S6:Hid (St PB v w v4 w3):=S0.out.trans S_;have G7:Hid (GP w3 PB):=G0.out.st S_;have B8:Hid (Bx w3 PB v4 (w.heap.size) #[.int .i64 18,.int .i64 v0.1,.int .i64 v0.2.1,.string v0.2.2,.string t,.string n,.slice a ks.length c] 55):=B0.out.st S_;have L9:Hid (aD (fun b=>b<PB) w3 a ks):=aD.bJ L00.out S_;clear con2 P_ S_ f1 P0 S0 G0 B0 L00;have f10:w3.cell? ⟨w.heap.size,6,none⟩=some (.slice a ks.length c):=B8.out.c 6 rfl
 have con11:Calls Tryz.prog 174 #[.pointer (some ⟨PB,0,none⟩),.slice a ks.length c,.slice (some ⟨w3.heap.size,0,none⟩) 3 3] (w3.alloc (.cells #[.string ⟨#[40]⟩,.string ⟨#[44]⟩,.string ⟨#[41]⟩] 9)) (aC w3 PB v4 (an (an bs ([⟨#[99,111,97,108,101,115,99,101]⟩])) (dK ps [⟨#[40]⟩,⟨#[44]⟩,⟨#[41]⟩]))):=gf ks ps HBL.out (by have:=H1.out; omega) a c [⟨#[40]⟩,⟨#[44]⟩,⟨#[41]⟩] (by rw [H1.out]; simp) G7.out P5.out L9.out (by rw [← ak]; exact Hb.out);go_wp2_with fail
 refine con11.mono ?_;rintro e w12 ⟨rfl,v13,P_,S_⟩;have P14:Hid (ax w12 PB v13 (an bs ([⟨#[99,111,97,108,101,115,99,101]⟩] ++ dK ps [⟨#[40]⟩,⟨#[44]⟩,⟨#[41]⟩]))):=by show ax _ _ _ _; rw [ak]; exact P_
 have S15:Hid (St PB v w v13 w12):=S6.out.trans S_;have G16:Hid (GP w12 PB):=G7.out.st S_;have B17:Hid (Bx w12 PB v13 (w.heap.size) #[.int .i64 18,.int .i64 v0.1,.int .i64 v0.2.1,.string v0.2.2,.string t,.string n,.slice a ks.length c] 55):=B8.out.st S_;have L18:Hid (aD (fun b=>b<PB) w12 a ks):=aD.bJ L9.out S_;clear con11 P_ S_ f10 P5 S6 G7 B8 L9;go_wp2_with fail
 go_end0
 exact ⟨rfl,v13,P14.out,S15.out⟩
theorem yh (v0:Vl) (t n:ByteArray) (ks:List SX) (a:Option Addr) (c:Nat) {PB:Nat} {v:Value} {bs:List UInt8} {w:World} (hG:GP w PB) (hP:ax w PB v bs) (hb:(an bs ([⟨#[99,111,117,110,116]⟩,⟨#[40]⟩,⟨#[42]⟩,⟨#[41]⟩])).length≤fW):Calls Tryz.prog 146 #[.pointer (some ⟨PB,0,none⟩),.agg #[.int .i64 19,.int .i64 v0.1,.int .i64 v0.2.1,.string v0.2.2,.string t,.string n,.slice a ks.length c]] w (aC w PB v (an bs ([⟨#[99,111,117,110,116]⟩,⟨#[40]⟩,⟨#[42]⟩,⟨#[41]⟩]))):=by
 have Hb:Hid _:=hb;clear hb;have hal:=ab w (.cells #[.int .i64 19,.int .i64 v0.1,.int .i64 v0.2.1,.string v0.2.2,.string t,.string n,.slice a ks.length c] 55)
 have B0:Hid (Bx (w.alloc (.cells #[.int .i64 19,.int .i64 v0.1,.int .i64 v0.2.1,.string v0.2.2,.string t,.string n,.slice a ks.length c] 55)) PB v w.heap.size #[.int .i64 19,.int .i64 v0.1,.int .i64 v0.2.1,.string v0.2.2,.string t,.string n,.slice a ks.length c] 55):=Bx.new hP #[.int .i64 19,.int .i64 v0.1,.int .i64 v0.2.1,.string v0.2.2,.string t,.string n,.slice a ks.length c] 55;have P0:Hid (ax (w.alloc (.cells #[.int .i64 19,.int .i64 v0.1,.int .i64 v0.2.1,.string v0.2.2,.string t,.string n,.slice a ks.length c] 55)) PB v bs):=hP.next hal
 have S0:Hid (St PB v w v (w.alloc (.cells #[.int .i64 19,.int .i64 v0.1,.int .i64 v0.2.1,.string v0.2.2,.string t,.string n,.slice a ks.length c] 55))):=St.of hal hP.lt;have G0:Hid (GP (w.alloc (.cells #[.int .i64 19,.int .i64 v0.1,.int .i64 v0.2.1,.string v0.2.2,.string t,.string n,.slice a ks.length c] 55)) PB):=hG.nx hal hP.lt;clear hP hG hal;go_enter Tryz.func146,Tryz.ntmps146;go_upto_region 1 with fail
 generalize (w.alloc (.cells #[.int .i64 19,.int .i64 v0.1,.int .i64 v0.2.1,.string v0.2.2,.string t,.string n,.slice a ks.length c] 55))=w0 at *;have f1:w0.cell? ⟨w.heap.size,0,none⟩=some (.int .i64 19):=B0.out.c 0 rfl;have con2:Calls Tryz.prog 57 #[.pointer (some ⟨PB,0,none⟩),.slice (some ⟨w0.heap.size,0,none⟩) 4 4] (w0.alloc (.cells #[.string ⟨#[99,111,117,110,116]⟩,.string ⟨#[40]⟩,.string ⟨#[42]⟩,.string ⟨#[41]⟩] 9)) (aC w0 PB v (an bs ([⟨#[99,111,117,110,116]⟩,⟨#[40]⟩,⟨#[42]⟩,⟨#[41]⟩]))):=aW [⟨#[99,111,117,110,116]⟩,⟨#[40]⟩,⟨#[42]⟩,⟨#[41]⟩] P0.out (Hb.out) (by simp)
 go_wp2_with fail
 refine con2.mono ?_;rintro e w3 ⟨rfl,v4,P_,S_⟩;have P5:Hid (ax w3 PB v4 (an bs ([⟨#[99,111,117,110,116]⟩,⟨#[40]⟩,⟨#[42]⟩,⟨#[41]⟩]))):=P_;have S6:Hid (St PB v w v4 w3):=S0.out.trans S_;have G7:Hid (GP w3 PB):=G0.out.st S_;have B8:Hid (Bx w3 PB v4 (w.heap.size) #[.int .i64 19,.int .i64 v0.1,.int .i64 v0.2.1,.string v0.2.2,.string t,.string n,.slice a ks.length c] 55):=B0.out.st S_;clear con2 P_ S_ f1 P0 S0 G0 B0;go_wp2_with fail
 go_end0
 exact ⟨rfl,v4,P5.out,S6.out⟩
theorem yg (v0:Vl) (t n:ByteArray) (ks:List SX) (ps:List (Int × List ByteArray)) (hBL:gD ps ks) (h1:ks.length=1) (a:Option Addr) (c:Nat) {PB:Nat} {v:Value} {bs:List UInt8} {w:World} (hG:GP w PB) (hP:ax w PB v bs) (hk:aD (fun b=>b<PB) w a ks) (hb:(an bs ([bK 20 fc] ++ dK ps [⟨#[40]⟩,⟨#[41]⟩])).length≤fW):Calls Tryz.prog 146 #[.pointer (some ⟨PB,0,none⟩),.agg #[.int .i64 20,.int .i64 v0.1,.int .i64 v0.2.1,.string v0.2.2,.string t,.string n,.slice a ks.length c]] w (aC w PB v (an bs ([bK 20 fc] ++ dK ps [⟨#[40]⟩,⟨#[41]⟩]))):=by
 have HBL:Hid (gD ps ks):=hBL;have H1:Hid _:=h1;clear hBL h1;have Hb:Hid _:=hb;clear hb;have hal:=ab w (.cells #[.int .i64 20,.int .i64 v0.1,.int .i64 v0.2.1,.string v0.2.2,.string t,.string n,.slice a ks.length c] 55)
 have B0:Hid (Bx (w.alloc (.cells #[.int .i64 20,.int .i64 v0.1,.int .i64 v0.2.1,.string v0.2.2,.string t,.string n,.slice a ks.length c] 55)) PB v w.heap.size #[.int .i64 20,.int .i64 v0.1,.int .i64 v0.2.1,.string v0.2.2,.string t,.string n,.slice a ks.length c] 55):=Bx.new hP #[.int .i64 20,.int .i64 v0.1,.int .i64 v0.2.1,.string v0.2.2,.string t,.string n,.slice a ks.length c] 55;have P0:Hid (ax (w.alloc (.cells #[.int .i64 20,.int .i64 v0.1,.int .i64 v0.2.1,.string v0.2.2,.string t,.string n,.slice a ks.length c] 55)) PB v bs):=hP.next hal
 have S0:Hid (St PB v w v (w.alloc (.cells #[.int .i64 20,.int .i64 v0.1,.int .i64 v0.2.1,.string v0.2.2,.string t,.string n,.slice a ks.length c] 55))):=St.of hal hP.lt;have G0:Hid (GP (w.alloc (.cells #[.int .i64 20,.int .i64 v0.1,.int .i64 v0.2.1,.string v0.2.2,.string t,.string n,.slice a ks.length c] 55)) PB):=hG.nx hal hP.lt;have L00:Hid (aD (fun b=>b<PB) (w.alloc (.cells #[.int .i64 20,.int .i64 v0.1,.int .i64 v0.2.1,.string v0.2.2,.string t,.string n,.slice a ks.length c] 55)) a ks):=aD.next hal hk;clear hP hG hal hk;go_enter Tryz.func146,Tryz.ntmps146;go_upto_region 1 with fail
 generalize (w.alloc (.cells #[.int .i64 20,.int .i64 v0.1,.int .i64 v0.2.1,.string v0.2.2,.string t,.string n,.slice a ks.length c] 55))=w0 at *;have f1:w0.cell? ⟨w.heap.size,0,none⟩=some (.int .i64 20):=B0.out.c 0 rfl;go_upto_region 25 with fail
 clear f1;obtain ⟨C,hCC,hCP,hC0⟩:∃ C:World→Prop,(∀ W W':World,C W→Below W.heap.size W W'→C W')∧(∀ W,C W↔j4 W (w.heap.size) #[.int .i64 20,.int .i64 v0.1,.int .i64 v0.2.1,.string v0.2.2,.string t,.string n,.slice a ks.length c] 55)∧C w0:=⟨fun W=>j4 W (w.heap.size) #[.int .i64 20,.int .i64 v0.1,.int .i64 v0.2.1,.string v0.2.2,.string t,.string n,.slice a ks.length c] 55,fun W W' h hb=>h.nx hb,fun _=>Iff.rfl,B0.out.q⟩
 have hdr:Below w0.heap.size w0 w0.drew:=(CY _ _).drew;have CW:=hCC _ _ hC0 hdr;clear hC0;refine cK C (by kernel_rfl) ?_;refine ae hCC 72 (i:=0) (v:=.pointer (some ⟨PB,0,none⟩)) (fun n hn=>?_) CW ?_
 ·go_simp
 simp only [Act.put,pA,pB,pC];refine ae hCC 74 (i:=2) (v:=.pointer (some ⟨w.heap.size,0,none⟩)) (fun n hn=>?_) CW ?_
 ·go_simp
 simp only [Act.put,pA,pB,pC];refine ae hCC 75 (i:=3) (v:=.int .i64 20) (fun n hn=>?_) CW ?_
 ·have z0:n.cell? ⟨w.heap.size,0,none⟩=some (.int .i64 20):=((hCP n).1 hn).c 0 rfl;go_simp
 simp only [Act.put,pA,pB,pC];refine bA (rs:=[1]) (by kernel_rfl) (by simp) ?_;intro w5 hb5 jj hj;obtain rfl:jj=1:=by simpa using hj
 clear hj;have D5:=chain hdr hb5;have con:=kf w5;refine wpOp_step rfl (fun K hK=>?_);go_simp;refine con.mono ?_;rintro e w6 ⟨g6,rfl,q6,_,hb6⟩;have CW6:=hCC _ _ (hCC _ _ CW hb5) hb6;refine hK _ _ ⟨CW6,?_⟩;clear hK K con CW;have D6:=chain D5 hb6;clear hb6 D5 hb5;try simp only [Act.put,pA,pB,pC]
 refine bA (rs:=[4]) (by kernel_rfl) (by simp) ?_;intro w7 hb7 jj hj;obtain rfl:jj=4:=by simpa using hj
 clear hj;have q7:=(hb7.block _ (lt_of_heap q6)).trans q6;have con:=fC (20) fc (by decide) (some ⟨g6,0,none⟩) fc.length _ (iX q7);refine wpOp_step rfl (fun K hK=>?_);go_simp;refine con.mono ?_;rintro e w8 ⟨rfl,hb8⟩;have CW8:=hCC _ _ (hCC _ _ CW6 hb7) hb8;refine hK _ _ ⟨CW8,?_⟩;have D8:=chain D6 (chain hb7 hb8);clear hK K con CW6 hb7 hb8 D6 q6 q7;generalize (bK 20 fc)=wd at *;try simp only [Act.put,pA,pB,pC]
 refine bA (rs:=[5]) (by kernel_rfl) (by simp) ?_;intro w9 hb9 jj hj;obtain rfl:jj=5:=by simpa using hj
 clear hj;refine wpOp_step rfl (fun K hK=>?_);go_simp;have hal:=ab w9 (.cells #[.string wd] 9);have q9:=ar w9 #[.string wd] 9;have CW9:=hCC _ _ (hCC _ _ CW8 hb9) hal;have D9a:=chain D8 hb9;have D9:=chain D9a hal;refine hK _ _ ⟨CW9,?_⟩;have n9:w9.heap.size≠PB:=by have:=(P0.out.next D9a).lt; omega
 have o9:v.ownBlock≠some w9.heap.size:=(P0.out.next D9a).oU (CX _);generalize w9.alloc (.cells #[.string wd] 9)=wA at *;clear hK K CW8 hb9 D8 D9a hal;try simp only [Act.put,pA,pB,pC]
 refine bA (rs:=[6]) (by kernel_rfl) (by simp) ?_;intro wB hbB jj hj;obtain rfl:jj=6:=by simpa using hj
 clear hj;have DB:=chain D9 hbB;have qB:=(hbB.block _ (lt_of_heap q9)).trans q9;have con:Calls Tryz.prog 57 #[.pointer (some ⟨PB,0,none⟩),.slice (some ⟨w9.heap.size,0,none⟩) 1 1] wB (aC wB PB v (an bs [wd])):=lf [wd] (P0.out.next DB) (qe (ws:=[wd]) qB n9 o9) (cH (Hb.out)) (by simp);refine wpOp_step rfl (fun K hK=>?_);go_simp;refine con.mono ?_;rintro e wC ⟨rfl,vC,PC,SC⟩;have SB:St PB v w0 v wB:=St.of DB P0.out.lt;refine hK _ _ ⟨(hCP _).2 ((B0.out.st SB).st SC).q,?_⟩;refine fq (by kernel_rfl) ?_;intro wD hbD;have S_:St PB v w0 vC wD:=SB.trans (SC.trans (St.of hbD PC.lt))
 have P3:Hid (ax wD PB vC (an bs ([wd]))):=by show ax _ _ _ _; exact PC.next hbD
 have S4:Hid (St PB v w vC wD):=S0.out.trans S_;have G5:Hid (GP wD PB):=G0.out.st S_;have B6:Hid (Bx wD PB vC (w.heap.size) #[.int .i64 20,.int .i64 v0.1,.int .i64 v0.2.1,.string v0.2.2,.string t,.string n,.slice a ks.length c] 55):=B0.out.st S_;have L7:Hid (aD (fun b=>b<PB) wD a ks):=aD.bJ L00.out S_;clear con hK K CW9 hCC hCP q9 qB n9 o9 SB SC PC S_ DB D9 hdr hbB hbD P0 S0 G0 B0 L00;have f8:wD.cell? ⟨w.heap.size,6,none⟩=some (.slice a ks.length c):=B6.out.c 6 rfl
 have con9:Calls Tryz.prog 174 #[.pointer (some ⟨PB,0,none⟩),.slice a ks.length c,.slice (some ⟨wD.heap.size,0,none⟩) 2 2] (wD.alloc (.cells #[.string ⟨#[40]⟩,.string ⟨#[41]⟩] 9)) (aC wD PB vC (an (an bs ([wd])) (dK ps [⟨#[40]⟩,⟨#[41]⟩]))):=gf ks ps HBL.out (by have:=H1.out; omega) a c [⟨#[40]⟩,⟨#[41]⟩] (by rw [H1.out]; simp) G5.out P3.out L7.out (by rw [← ak]; exact Hb.out);go_wp2_with fail
 refine con9.mono ?_;rintro e w10 ⟨rfl,v11,P_,S_⟩;have P12:Hid (ax w10 PB v11 (an bs ([wd] ++ dK ps [⟨#[40]⟩,⟨#[41]⟩]))):=by show ax _ _ _ _; rw [ak]; exact P_
 have S13:Hid (St PB v w v11 w10):=S4.out.trans S_;have G14:Hid (GP w10 PB):=G5.out.st S_;have B15:Hid (Bx w10 PB v11 (w.heap.size) #[.int .i64 20,.int .i64 v0.1,.int .i64 v0.2.1,.string v0.2.2,.string t,.string n,.slice a ks.length c] 55):=B6.out.st S_;have L16:Hid (aD (fun b=>b<PB) w10 a ks):=aD.bJ L7.out S_;clear con9 P_ S_ f8 P3 S4 G5 B6 L7;go_wp2_with fail
 go_end0
 exact ⟨rfl,v11,P12.out,S13.out⟩
theorem yI (v0:Vl) (t n:ByteArray) (ks:List SX) (ps:List (Int × List ByteArray)) (hBL:gD ps ks) (h1:ks.length=1) (a:Option Addr) (c:Nat) {PB:Nat} {v:Value} {bs:List UInt8} {w:World} (hG:GP w PB) (hP:ax w PB v bs) (hk:aD (fun b=>b<PB) w a ks) (hb:(an bs ([bK 21 fc] ++ dK ps [⟨#[40]⟩,⟨#[41]⟩])).length≤fW):Calls Tryz.prog 146 #[.pointer (some ⟨PB,0,none⟩),.agg #[.int .i64 21,.int .i64 v0.1,.int .i64 v0.2.1,.string v0.2.2,.string t,.string n,.slice a ks.length c]] w (aC w PB v (an bs ([bK 21 fc] ++ dK ps [⟨#[40]⟩,⟨#[41]⟩]))):=by
 have HBL:Hid (gD ps ks):=hBL;have H1:Hid _:=h1;clear hBL h1;have Hb:Hid _:=hb;clear hb;have hal:=ab w (.cells #[.int .i64 21,.int .i64 v0.1,.int .i64 v0.2.1,.string v0.2.2,.string t,.string n,.slice a ks.length c] 55)
 have B0:Hid (Bx (w.alloc (.cells #[.int .i64 21,.int .i64 v0.1,.int .i64 v0.2.1,.string v0.2.2,.string t,.string n,.slice a ks.length c] 55)) PB v w.heap.size #[.int .i64 21,.int .i64 v0.1,.int .i64 v0.2.1,.string v0.2.2,.string t,.string n,.slice a ks.length c] 55):=Bx.new hP #[.int .i64 21,.int .i64 v0.1,.int .i64 v0.2.1,.string v0.2.2,.string t,.string n,.slice a ks.length c] 55;have P0:Hid (ax (w.alloc (.cells #[.int .i64 21,.int .i64 v0.1,.int .i64 v0.2.1,.string v0.2.2,.string t,.string n,.slice a ks.length c] 55)) PB v bs):=hP.next hal
 have S0:Hid (St PB v w v (w.alloc (.cells #[.int .i64 21,.int .i64 v0.1,.int .i64 v0.2.1,.string v0.2.2,.string t,.string n,.slice a ks.length c] 55))):=St.of hal hP.lt;have G0:Hid (GP (w.alloc (.cells #[.int .i64 21,.int .i64 v0.1,.int .i64 v0.2.1,.string v0.2.2,.string t,.string n,.slice a ks.length c] 55)) PB):=hG.nx hal hP.lt;have L00:Hid (aD (fun b=>b<PB) (w.alloc (.cells #[.int .i64 21,.int .i64 v0.1,.int .i64 v0.2.1,.string v0.2.2,.string t,.string n,.slice a ks.length c] 55)) a ks):=aD.next hal hk;clear hP hG hal hk;go_enter Tryz.func146,Tryz.ntmps146;go_upto_region 1 with fail
 generalize (w.alloc (.cells #[.int .i64 21,.int .i64 v0.1,.int .i64 v0.2.1,.string v0.2.2,.string t,.string n,.slice a ks.length c] 55))=w0 at *;have f1:w0.cell? ⟨w.heap.size,0,none⟩=some (.int .i64 21):=B0.out.c 0 rfl;go_upto_region 25 with fail
 clear f1;obtain ⟨C,hCC,hCP,hC0⟩:∃ C:World→Prop,(∀ W W':World,C W→Below W.heap.size W W'→C W')∧(∀ W,C W↔j4 W (w.heap.size) #[.int .i64 21,.int .i64 v0.1,.int .i64 v0.2.1,.string v0.2.2,.string t,.string n,.slice a ks.length c] 55)∧C w0:=⟨fun W=>j4 W (w.heap.size) #[.int .i64 21,.int .i64 v0.1,.int .i64 v0.2.1,.string v0.2.2,.string t,.string n,.slice a ks.length c] 55,fun W W' h hb=>h.nx hb,fun _=>Iff.rfl,B0.out.q⟩
 have hdr:Below w0.heap.size w0 w0.drew:=(CY _ _).drew;have CW:=hCC _ _ hC0 hdr;clear hC0;refine cK C (by kernel_rfl) ?_;refine ae hCC 72 (i:=0) (v:=.pointer (some ⟨PB,0,none⟩)) (fun n hn=>?_) CW ?_
 ·go_simp
 simp only [Act.put,pA,pB,pC];refine ae hCC 74 (i:=2) (v:=.pointer (some ⟨w.heap.size,0,none⟩)) (fun n hn=>?_) CW ?_
 ·go_simp
 simp only [Act.put,pA,pB,pC];refine ae hCC 75 (i:=3) (v:=.int .i64 21) (fun n hn=>?_) CW ?_
 ·have z0:n.cell? ⟨w.heap.size,0,none⟩=some (.int .i64 21):=((hCP n).1 hn).c 0 rfl;go_simp
 simp only [Act.put,pA,pB,pC];refine bA (rs:=[1]) (by kernel_rfl) (by simp) ?_;intro w5 hb5 jj hj;obtain rfl:jj=1:=by simpa using hj
 clear hj;have D5:=chain hdr hb5;have con:=kf w5;refine wpOp_step rfl (fun K hK=>?_);go_simp;refine con.mono ?_;rintro e w6 ⟨g6,rfl,q6,_,hb6⟩;have CW6:=hCC _ _ (hCC _ _ CW hb5) hb6;refine hK _ _ ⟨CW6,?_⟩;clear hK K con CW;have D6:=chain D5 hb6;clear hb6 D5 hb5;try simp only [Act.put,pA,pB,pC]
 refine bA (rs:=[4]) (by kernel_rfl) (by simp) ?_;intro w7 hb7 jj hj;obtain rfl:jj=4:=by simpa using hj
 clear hj;have q7:=(hb7.block _ (lt_of_heap q6)).trans q6;have con:=fC (21) fc (by decide) (some ⟨g6,0,none⟩) fc.length _ (iX q7);refine wpOp_step rfl (fun K hK=>?_);go_simp;refine con.mono ?_;rintro e w8 ⟨rfl,hb8⟩;have CW8:=hCC _ _ (hCC _ _ CW6 hb7) hb8;refine hK _ _ ⟨CW8,?_⟩;have D8:=chain D6 (chain hb7 hb8);clear hK K con CW6 hb7 hb8 D6 q6 q7;generalize (bK 21 fc)=wd at *;try simp only [Act.put,pA,pB,pC]
 refine bA (rs:=[5]) (by kernel_rfl) (by simp) ?_;intro w9 hb9 jj hj;obtain rfl:jj=5:=by simpa using hj
 clear hj;refine wpOp_step rfl (fun K hK=>?_);go_simp;have hal:=ab w9 (.cells #[.string wd] 9);have q9:=ar w9 #[.string wd] 9;have CW9:=hCC _ _ (hCC _ _ CW8 hb9) hal;have D9a:=chain D8 hb9;have D9:=chain D9a hal;refine hK _ _ ⟨CW9,?_⟩;have n9:w9.heap.size≠PB:=by have:=(P0.out.next D9a).lt; omega
 have o9:v.ownBlock≠some w9.heap.size:=(P0.out.next D9a).oU (CX _);generalize w9.alloc (.cells #[.string wd] 9)=wA at *;clear hK K CW8 hb9 D8 D9a hal;try simp only [Act.put,pA,pB,pC]
 refine bA (rs:=[6]) (by kernel_rfl) (by simp) ?_;intro wB hbB jj hj;obtain rfl:jj=6:=by simpa using hj
 clear hj;have DB:=chain D9 hbB;have qB:=(hbB.block _ (lt_of_heap q9)).trans q9;have con:Calls Tryz.prog 57 #[.pointer (some ⟨PB,0,none⟩),.slice (some ⟨w9.heap.size,0,none⟩) 1 1] wB (aC wB PB v (an bs [wd])):=lf [wd] (P0.out.next DB) (qe (ws:=[wd]) qB n9 o9) (cH (Hb.out)) (by simp);refine wpOp_step rfl (fun K hK=>?_);go_simp;refine con.mono ?_;rintro e wC ⟨rfl,vC,PC,SC⟩;have SB:St PB v w0 v wB:=St.of DB P0.out.lt;refine hK _ _ ⟨(hCP _).2 ((B0.out.st SB).st SC).q,?_⟩;refine fq (by kernel_rfl) ?_;intro wD hbD;have S_:St PB v w0 vC wD:=SB.trans (SC.trans (St.of hbD PC.lt))
 have P3:Hid (ax wD PB vC (an bs ([wd]))):=by show ax _ _ _ _; exact PC.next hbD
 have S4:Hid (St PB v w vC wD):=S0.out.trans S_;have G5:Hid (GP wD PB):=G0.out.st S_;have B6:Hid (Bx wD PB vC (w.heap.size) #[.int .i64 21,.int .i64 v0.1,.int .i64 v0.2.1,.string v0.2.2,.string t,.string n,.slice a ks.length c] 55):=B0.out.st S_;have L7:Hid (aD (fun b=>b<PB) wD a ks):=aD.bJ L00.out S_;clear con hK K CW9 hCC hCP q9 qB n9 o9 SB SC PC S_ DB D9 hdr hbB hbD P0 S0 G0 B0 L00;have f8:wD.cell? ⟨w.heap.size,6,none⟩=some (.slice a ks.length c):=B6.out.c 6 rfl
 have con9:Calls Tryz.prog 174 #[.pointer (some ⟨PB,0,none⟩),.slice a ks.length c,.slice (some ⟨wD.heap.size,0,none⟩) 2 2] (wD.alloc (.cells #[.string ⟨#[40]⟩,.string ⟨#[41]⟩] 9)) (aC wD PB vC (an (an bs ([wd])) (dK ps [⟨#[40]⟩,⟨#[41]⟩]))):=gf ks ps HBL.out (by have:=H1.out; omega) a c [⟨#[40]⟩,⟨#[41]⟩] (by rw [H1.out]; simp) G5.out P3.out L7.out (by rw [← ak]; exact Hb.out);go_wp2_with fail
 refine con9.mono ?_;rintro e w10 ⟨rfl,v11,P_,S_⟩;have P12:Hid (ax w10 PB v11 (an bs ([wd] ++ dK ps [⟨#[40]⟩,⟨#[41]⟩]))):=by show ax _ _ _ _; rw [ak]; exact P_
 have S13:Hid (St PB v w v11 w10):=S4.out.trans S_;have G14:Hid (GP w10 PB):=G5.out.st S_;have B15:Hid (Bx w10 PB v11 (w.heap.size) #[.int .i64 21,.int .i64 v0.1,.int .i64 v0.2.1,.string v0.2.2,.string t,.string n,.slice a ks.length c] 55):=B6.out.st S_;have L16:Hid (aD (fun b=>b<PB) w10 a ks):=aD.bJ L7.out S_;clear con9 P_ S_ f8 P3 S4 G5 B6 L7;go_wp2_with fail
 go_end0
 exact ⟨rfl,v11,P12.out,S13.out⟩
theorem yj (v0:Vl) (t n:ByteArray) (ks:List SX) (ps:List (Int × List ByteArray)) (hBL:gD ps ks) (h1:ks.length=1) (a:Option Addr) (c:Nat) {PB:Nat} {v:Value} {bs:List UInt8} {w:World} (hG:GP w PB) (hP:ax w PB v bs) (hk:aD (fun b=>b<PB) w a ks) (hb:(an bs ([bK 22 fc] ++ dK ps [⟨#[40]⟩,⟨#[41]⟩])).length≤fW):Calls Tryz.prog 146 #[.pointer (some ⟨PB,0,none⟩),.agg #[.int .i64 22,.int .i64 v0.1,.int .i64 v0.2.1,.string v0.2.2,.string t,.string n,.slice a ks.length c]] w (aC w PB v (an bs ([bK 22 fc] ++ dK ps [⟨#[40]⟩,⟨#[41]⟩]))):=by
 have HBL:Hid (gD ps ks):=hBL;have H1:Hid _:=h1;clear hBL h1;have Hb:Hid _:=hb;clear hb;have hal:=ab w (.cells #[.int .i64 22,.int .i64 v0.1,.int .i64 v0.2.1,.string v0.2.2,.string t,.string n,.slice a ks.length c] 55)
 have B0:Hid (Bx (w.alloc (.cells #[.int .i64 22,.int .i64 v0.1,.int .i64 v0.2.1,.string v0.2.2,.string t,.string n,.slice a ks.length c] 55)) PB v w.heap.size #[.int .i64 22,.int .i64 v0.1,.int .i64 v0.2.1,.string v0.2.2,.string t,.string n,.slice a ks.length c] 55):=Bx.new hP #[.int .i64 22,.int .i64 v0.1,.int .i64 v0.2.1,.string v0.2.2,.string t,.string n,.slice a ks.length c] 55;have P0:Hid (ax (w.alloc (.cells #[.int .i64 22,.int .i64 v0.1,.int .i64 v0.2.1,.string v0.2.2,.string t,.string n,.slice a ks.length c] 55)) PB v bs):=hP.next hal
 have S0:Hid (St PB v w v (w.alloc (.cells #[.int .i64 22,.int .i64 v0.1,.int .i64 v0.2.1,.string v0.2.2,.string t,.string n,.slice a ks.length c] 55))):=St.of hal hP.lt;have G0:Hid (GP (w.alloc (.cells #[.int .i64 22,.int .i64 v0.1,.int .i64 v0.2.1,.string v0.2.2,.string t,.string n,.slice a ks.length c] 55)) PB):=hG.nx hal hP.lt;have L00:Hid (aD (fun b=>b<PB) (w.alloc (.cells #[.int .i64 22,.int .i64 v0.1,.int .i64 v0.2.1,.string v0.2.2,.string t,.string n,.slice a ks.length c] 55)) a ks):=aD.next hal hk;clear hP hG hal hk;go_enter Tryz.func146,Tryz.ntmps146;go_upto_region 1 with fail
 generalize (w.alloc (.cells #[.int .i64 22,.int .i64 v0.1,.int .i64 v0.2.1,.string v0.2.2,.string t,.string n,.slice a ks.length c] 55))=w0 at *;have f1:w0.cell? ⟨w.heap.size,0,none⟩=some (.int .i64 22):=B0.out.c 0 rfl;go_upto_region 25 with fail
 clear f1;obtain ⟨C,hCC,hCP,hC0⟩:∃ C:World→Prop,(∀ W W':World,C W→Below W.heap.size W W'→C W')∧(∀ W,C W↔j4 W (w.heap.size) #[.int .i64 22,.int .i64 v0.1,.int .i64 v0.2.1,.string v0.2.2,.string t,.string n,.slice a ks.length c] 55)∧C w0:=⟨fun W=>j4 W (w.heap.size) #[.int .i64 22,.int .i64 v0.1,.int .i64 v0.2.1,.string v0.2.2,.string t,.string n,.slice a ks.length c] 55,fun W W' h hb=>h.nx hb,fun _=>Iff.rfl,B0.out.q⟩
 have hdr:Below w0.heap.size w0 w0.drew:=(CY _ _).drew;have CW:=hCC _ _ hC0 hdr;clear hC0;refine cK C (by kernel_rfl) ?_;refine ae hCC 72 (i:=0) (v:=.pointer (some ⟨PB,0,none⟩)) (fun n hn=>?_) CW ?_
 ·go_simp
 simp only [Act.put,pA,pB,pC];refine ae hCC 74 (i:=2) (v:=.pointer (some ⟨w.heap.size,0,none⟩)) (fun n hn=>?_) CW ?_
 ·go_simp
 simp only [Act.put,pA,pB,pC];refine ae hCC 75 (i:=3) (v:=.int .i64 22) (fun n hn=>?_) CW ?_
 ·have z0:n.cell? ⟨w.heap.size,0,none⟩=some (.int .i64 22):=((hCP n).1 hn).c 0 rfl;go_simp
 simp only [Act.put,pA,pB,pC];refine bA (rs:=[1]) (by kernel_rfl) (by simp) ?_;intro w5 hb5 jj hj;obtain rfl:jj=1:=by simpa using hj
 clear hj;have D5:=chain hdr hb5;have con:=kf w5;refine wpOp_step rfl (fun K hK=>?_);go_simp;refine con.mono ?_;rintro e w6 ⟨g6,rfl,q6,_,hb6⟩;have CW6:=hCC _ _ (hCC _ _ CW hb5) hb6;refine hK _ _ ⟨CW6,?_⟩;clear hK K con CW;have D6:=chain D5 hb6;clear hb6 D5 hb5;try simp only [Act.put,pA,pB,pC]
 refine bA (rs:=[4]) (by kernel_rfl) (by simp) ?_;intro w7 hb7 jj hj;obtain rfl:jj=4:=by simpa using hj
 clear hj;have q7:=(hb7.block _ (lt_of_heap q6)).trans q6;have con:=fC (22) fc (by decide) (some ⟨g6,0,none⟩) fc.length _ (iX q7);refine wpOp_step rfl (fun K hK=>?_);go_simp;refine con.mono ?_;rintro e w8 ⟨rfl,hb8⟩;have CW8:=hCC _ _ (hCC _ _ CW6 hb7) hb8;refine hK _ _ ⟨CW8,?_⟩;have D8:=chain D6 (chain hb7 hb8);clear hK K con CW6 hb7 hb8 D6 q6 q7;generalize (bK 22 fc)=wd at *;try simp only [Act.put,pA,pB,pC]
 refine bA (rs:=[5]) (by kernel_rfl) (by simp) ?_;intro w9 hb9 jj hj;obtain rfl:jj=5:=by simpa using hj
 clear hj;refine wpOp_step rfl (fun K hK=>?_);go_simp;have hal:=ab w9 (.cells #[.string wd] 9);have q9:=ar w9 #[.string wd] 9;have CW9:=hCC _ _ (hCC _ _ CW8 hb9) hal;have D9a:=chain D8 hb9;have D9:=chain D9a hal;refine hK _ _ ⟨CW9,?_⟩;have n9:w9.heap.size≠PB:=by have:=(P0.out.next D9a).lt; omega
 have o9:v.ownBlock≠some w9.heap.size:=(P0.out.next D9a).oU (CX _);generalize w9.alloc (.cells #[.string wd] 9)=wA at *;clear hK K CW8 hb9 D8 D9a hal;try simp only [Act.put,pA,pB,pC]
 refine bA (rs:=[6]) (by kernel_rfl) (by simp) ?_;intro wB hbB jj hj;obtain rfl:jj=6:=by simpa using hj
 clear hj;have DB:=chain D9 hbB;have qB:=(hbB.block _ (lt_of_heap q9)).trans q9;have con:Calls Tryz.prog 57 #[.pointer (some ⟨PB,0,none⟩),.slice (some ⟨w9.heap.size,0,none⟩) 1 1] wB (aC wB PB v (an bs [wd])):=lf [wd] (P0.out.next DB) (qe (ws:=[wd]) qB n9 o9) (cH (Hb.out)) (by simp);refine wpOp_step rfl (fun K hK=>?_);go_simp;refine con.mono ?_;rintro e wC ⟨rfl,vC,PC,SC⟩;have SB:St PB v w0 v wB:=St.of DB P0.out.lt;refine hK _ _ ⟨(hCP _).2 ((B0.out.st SB).st SC).q,?_⟩;refine fq (by kernel_rfl) ?_;intro wD hbD;have S_:St PB v w0 vC wD:=SB.trans (SC.trans (St.of hbD PC.lt))
 have P3:Hid (ax wD PB vC (an bs ([wd]))):=by show ax _ _ _ _; exact PC.next hbD
 have S4:Hid (St PB v w vC wD):=S0.out.trans S_;have G5:Hid (GP wD PB):=G0.out.st S_;have B6:Hid (Bx wD PB vC (w.heap.size) #[.int .i64 22,.int .i64 v0.1,.int .i64 v0.2.1,.string v0.2.2,.string t,.string n,.slice a ks.length c] 55):=B0.out.st S_;have L7:Hid (aD (fun b=>b<PB) wD a ks):=aD.bJ L00.out S_;clear con hK K CW9 hCC hCP q9 qB n9 o9 SB SC PC S_ DB D9 hdr hbB hbD P0 S0 G0 B0 L00;have f8:wD.cell? ⟨w.heap.size,6,none⟩=some (.slice a ks.length c):=B6.out.c 6 rfl
 have con9:Calls Tryz.prog 174 #[.pointer (some ⟨PB,0,none⟩),.slice a ks.length c,.slice (some ⟨wD.heap.size,0,none⟩) 2 2] (wD.alloc (.cells #[.string ⟨#[40]⟩,.string ⟨#[41]⟩] 9)) (aC wD PB vC (an (an bs ([wd])) (dK ps [⟨#[40]⟩,⟨#[41]⟩]))):=gf ks ps HBL.out (by have:=H1.out; omega) a c [⟨#[40]⟩,⟨#[41]⟩] (by rw [H1.out]; simp) G5.out P3.out L7.out (by rw [← ak]; exact Hb.out);go_wp2_with fail
 refine con9.mono ?_;rintro e w10 ⟨rfl,v11,P_,S_⟩;have P12:Hid (ax w10 PB v11 (an bs ([wd] ++ dK ps [⟨#[40]⟩,⟨#[41]⟩]))):=by show ax _ _ _ _; rw [ak]; exact P_
 have S13:Hid (St PB v w v11 w10):=S4.out.trans S_;have G14:Hid (GP w10 PB):=G5.out.st S_;have B15:Hid (Bx w10 PB v11 (w.heap.size) #[.int .i64 22,.int .i64 v0.1,.int .i64 v0.2.1,.string v0.2.2,.string t,.string n,.slice a ks.length c] 55):=B6.out.st S_;have L16:Hid (aD (fun b=>b<PB) w10 a ks):=aD.bJ L7.out S_;clear con9 P_ S_ f8 P3 S4 G5 B6 L7;go_wp2_with fail
 go_end0
 exact ⟨rfl,v11,P12.out,S13.out⟩
theorem xW (v0:Vl) (t n:ByteArray) (ks:List SX) (ps:List (Int × List ByteArray)) (hBL:gD ps ks) (h1:ks.length=1) (a:Option Addr) (c:Nat) {PB:Nat} {v:Value} {bs:List UInt8} {w:World} (hG:GP w PB) (hP:ax w PB v bs) (hk:aD (fun b=>b<PB) w a ks) (hb:(an bs ([bK 23 fc] ++ dK ps [⟨#[40]⟩,⟨#[41]⟩])).length≤fW):Calls Tryz.prog 146 #[.pointer (some ⟨PB,0,none⟩),.agg #[.int .i64 23,.int .i64 v0.1,.int .i64 v0.2.1,.string v0.2.2,.string t,.string n,.slice a ks.length c]] w (aC w PB v (an bs ([bK 23 fc] ++ dK ps [⟨#[40]⟩,⟨#[41]⟩]))):=by
 have HBL:Hid (gD ps ks):=hBL;have H1:Hid _:=h1;clear hBL h1;have Hb:Hid _:=hb;clear hb;have hal:=ab w (.cells #[.int .i64 23,.int .i64 v0.1,.int .i64 v0.2.1,.string v0.2.2,.string t,.string n,.slice a ks.length c] 55)
 have B0:Hid (Bx (w.alloc (.cells #[.int .i64 23,.int .i64 v0.1,.int .i64 v0.2.1,.string v0.2.2,.string t,.string n,.slice a ks.length c] 55)) PB v w.heap.size #[.int .i64 23,.int .i64 v0.1,.int .i64 v0.2.1,.string v0.2.2,.string t,.string n,.slice a ks.length c] 55):=Bx.new hP #[.int .i64 23,.int .i64 v0.1,.int .i64 v0.2.1,.string v0.2.2,.string t,.string n,.slice a ks.length c] 55;have P0:Hid (ax (w.alloc (.cells #[.int .i64 23,.int .i64 v0.1,.int .i64 v0.2.1,.string v0.2.2,.string t,.string n,.slice a ks.length c] 55)) PB v bs):=hP.next hal
 have S0:Hid (St PB v w v (w.alloc (.cells #[.int .i64 23,.int .i64 v0.1,.int .i64 v0.2.1,.string v0.2.2,.string t,.string n,.slice a ks.length c] 55))):=St.of hal hP.lt;have G0:Hid (GP (w.alloc (.cells #[.int .i64 23,.int .i64 v0.1,.int .i64 v0.2.1,.string v0.2.2,.string t,.string n,.slice a ks.length c] 55)) PB):=hG.nx hal hP.lt;have L00:Hid (aD (fun b=>b<PB) (w.alloc (.cells #[.int .i64 23,.int .i64 v0.1,.int .i64 v0.2.1,.string v0.2.2,.string t,.string n,.slice a ks.length c] 55)) a ks):=aD.next hal hk;clear hP hG hal hk;go_enter Tryz.func146,Tryz.ntmps146;go_upto_region 1 with fail
 generalize (w.alloc (.cells #[.int .i64 23,.int .i64 v0.1,.int .i64 v0.2.1,.string v0.2.2,.string t,.string n,.slice a ks.length c] 55))=w0 at *;have f1:w0.cell? ⟨w.heap.size,0,none⟩=some (.int .i64 23):=B0.out.c 0 rfl;go_upto_region 25 with fail
 clear f1;obtain ⟨C,hCC,hCP,hC0⟩:∃ C:World→Prop,(∀ W W':World,C W→Below W.heap.size W W'→C W')∧(∀ W,C W↔j4 W (w.heap.size) #[.int .i64 23,.int .i64 v0.1,.int .i64 v0.2.1,.string v0.2.2,.string t,.string n,.slice a ks.length c] 55)∧C w0:=⟨fun W=>j4 W (w.heap.size) #[.int .i64 23,.int .i64 v0.1,.int .i64 v0.2.1,.string v0.2.2,.string t,.string n,.slice a ks.length c] 55,fun W W' h hb=>h.nx hb,fun _=>Iff.rfl,B0.out.q⟩
 have hdr:Below w0.heap.size w0 w0.drew:=(CY _ _).drew;have CW:=hCC _ _ hC0 hdr;clear hC0;refine cK C (by kernel_rfl) ?_;refine ae hCC 72 (i:=0) (v:=.pointer (some ⟨PB,0,none⟩)) (fun n hn=>?_) CW ?_
 ·go_simp
 simp only [Act.put,pA,pB,pC];refine ae hCC 74 (i:=2) (v:=.pointer (some ⟨w.heap.size,0,none⟩)) (fun n hn=>?_) CW ?_
 ·go_simp
 simp only [Act.put,pA,pB,pC];refine ae hCC 75 (i:=3) (v:=.int .i64 23) (fun n hn=>?_) CW ?_
 ·have z0:n.cell? ⟨w.heap.size,0,none⟩=some (.int .i64 23):=((hCP n).1 hn).c 0 rfl;go_simp
 simp only [Act.put,pA,pB,pC];refine bA (rs:=[1]) (by kernel_rfl) (by simp) ?_;intro w5 hb5 jj hj;obtain rfl:jj=1:=by simpa using hj
 clear hj;have D5:=chain hdr hb5;have con:=kf w5;refine wpOp_step rfl (fun K hK=>?_);go_simp;refine con.mono ?_;rintro e w6 ⟨g6,rfl,q6,_,hb6⟩;have CW6:=hCC _ _ (hCC _ _ CW hb5) hb6;refine hK _ _ ⟨CW6,?_⟩;clear hK K con CW;have D6:=chain D5 hb6;clear hb6 D5 hb5;try simp only [Act.put,pA,pB,pC]
 refine bA (rs:=[4]) (by kernel_rfl) (by simp) ?_;intro w7 hb7 jj hj;obtain rfl:jj=4:=by simpa using hj
 clear hj;have q7:=(hb7.block _ (lt_of_heap q6)).trans q6;have con:=fC (23) fc (by decide) (some ⟨g6,0,none⟩) fc.length _ (iX q7);refine wpOp_step rfl (fun K hK=>?_);go_simp;refine con.mono ?_;rintro e w8 ⟨rfl,hb8⟩;have CW8:=hCC _ _ (hCC _ _ CW6 hb7) hb8;refine hK _ _ ⟨CW8,?_⟩;have D8:=chain D6 (chain hb7 hb8);clear hK K con CW6 hb7 hb8 D6 q6 q7;generalize (bK 23 fc)=wd at *;try simp only [Act.put,pA,pB,pC]
 refine bA (rs:=[5]) (by kernel_rfl) (by simp) ?_;intro w9 hb9 jj hj;obtain rfl:jj=5:=by simpa using hj
 clear hj;refine wpOp_step rfl (fun K hK=>?_);go_simp;have hal:=ab w9 (.cells #[.string wd] 9);have q9:=ar w9 #[.string wd] 9;have CW9:=hCC _ _ (hCC _ _ CW8 hb9) hal;have D9a:=chain D8 hb9;have D9:=chain D9a hal;refine hK _ _ ⟨CW9,?_⟩;have n9:w9.heap.size≠PB:=by have:=(P0.out.next D9a).lt; omega
 have o9:v.ownBlock≠some w9.heap.size:=(P0.out.next D9a).oU (CX _);generalize w9.alloc (.cells #[.string wd] 9)=wA at *;clear hK K CW8 hb9 D8 D9a hal;try simp only [Act.put,pA,pB,pC]
 refine bA (rs:=[6]) (by kernel_rfl) (by simp) ?_;intro wB hbB jj hj;obtain rfl:jj=6:=by simpa using hj
 clear hj;have DB:=chain D9 hbB;have qB:=(hbB.block _ (lt_of_heap q9)).trans q9;have con:Calls Tryz.prog 57 #[.pointer (some ⟨PB,0,none⟩),.slice (some ⟨w9.heap.size,0,none⟩) 1 1] wB (aC wB PB v (an bs [wd])):=lf [wd] (P0.out.next DB) (qe (ws:=[wd]) qB n9 o9) (cH (Hb.out)) (by simp);refine wpOp_step rfl (fun K hK=>?_);go_simp;refine con.mono ?_;rintro e wC ⟨rfl,vC,PC,SC⟩;have SB:St PB v w0 v wB:=St.of DB P0.out.lt;refine hK _ _ ⟨(hCP _).2 ((B0.out.st SB).st SC).q,?_⟩;refine fq (by kernel_rfl) ?_;intro wD hbD;have S_:St PB v w0 vC wD:=SB.trans (SC.trans (St.of hbD PC.lt))
 have P3:Hid (ax wD PB vC (an bs ([wd]))):=by show ax _ _ _ _; exact PC.next hbD
 have S4:Hid (St PB v w vC wD):=S0.out.trans S_;have G5:Hid (GP wD PB):=G0.out.st S_;have B6:Hid (Bx wD PB vC (w.heap.size) #[.int .i64 23,.int .i64 v0.1,.int .i64 v0.2.1,.string v0.2.2,.string t,.string n,.slice a ks.length c] 55):=B0.out.st S_;have L7:Hid (aD (fun b=>b<PB) wD a ks):=aD.bJ L00.out S_;clear con hK K CW9 hCC hCP q9 qB n9 o9 SB SC PC S_ DB D9 hdr hbB hbD P0 S0 G0 B0 L00;have f8:wD.cell? ⟨w.heap.size,6,none⟩=some (.slice a ks.length c):=B6.out.c 6 rfl
 have con9:Calls Tryz.prog 174 #[.pointer (some ⟨PB,0,none⟩),.slice a ks.length c,.slice (some ⟨wD.heap.size,0,none⟩) 2 2] (wD.alloc (.cells #[.string ⟨#[40]⟩,.string ⟨#[41]⟩] 9)) (aC wD PB vC (an (an bs ([wd])) (dK ps [⟨#[40]⟩,⟨#[41]⟩]))):=gf ks ps HBL.out (by have:=H1.out; omega) a c [⟨#[40]⟩,⟨#[41]⟩] (by rw [H1.out]; simp) G5.out P3.out L7.out (by rw [← ak]; exact Hb.out);go_wp2_with fail
 refine con9.mono ?_;rintro e w10 ⟨rfl,v11,P_,S_⟩;have P12:Hid (ax w10 PB v11 (an bs ([wd] ++ dK ps [⟨#[40]⟩,⟨#[41]⟩]))):=by show ax _ _ _ _; rw [ak]; exact P_
 have S13:Hid (St PB v w v11 w10):=S4.out.trans S_;have G14:Hid (GP w10 PB):=G5.out.st S_;have B15:Hid (Bx w10 PB v11 (w.heap.size) #[.int .i64 23,.int .i64 v0.1,.int .i64 v0.2.1,.string v0.2.2,.string t,.string n,.slice a ks.length c] 55):=B6.out.st S_;have L16:Hid (aD (fun b=>b<PB) w10 a ks):=aD.bJ L7.out S_;clear con9 P_ S_ f8 P3 S4 G5 B6 L7;go_wp2_with fail
 go_end0
 exact ⟨rfl,v11,P12.out,S13.out⟩
theorem yq (k:Int) (v0:Vl) (t n:ByteArray) (ks:List SX) (u0 u1:List ByteArray) (hk4:4≤k) (hk15:k≤15) (H1:Hid (ks.length=2)) (hp0:0<ks.length) (hp1:1<ks.length) (hB0:dw u0 (ks[0]'hp0)) (hB1:dw u1 (ks[1]'hp1)) (a:Option Addr) (c:Nat) {PB:Nat} {v:Value} {bs:List UInt8} {w:World} (hG:GP w PB) (hP:ax w PB v bs) (hk:aD (fun b=>b<PB) w a ks) (hb:(an bs (jW k (aZ (ks[0]'hp0).k,u0) (aZ (ks[1]'hp1).k,u1))).length≤fW):Calls Tryz.prog 146 #[.pointer (some ⟨PB,0,none⟩),.agg #[.int .i64 k,.int .i64 v0.1,.int .i64 v0.2.1,.string v0.2.2,.string t,.string n,.slice a ks.length c]] w (aC w PB v (an bs (jW k (aZ (ks[0]'hp0).k,u0) (aZ (ks[1]'hp1).k,u1)))):=by
 have HB0:Hid (dw u0 (ks[0])):=hB0;have HB1:Hid (dw u1 (ks[1])):=hB1;clear hB0 hB1;have b1:(k == 1)=false:=by rw [beq_eq_false_iff_ne]; omega
 have b2:(k == 2)=false:=by rw [beq_eq_false_iff_ne]; omega
 have b3:(k == 3)=false:=by rw [beq_eq_false_iff_ne]; omega
 have b16:(k == 16)=false:=by rw [beq_eq_false_iff_ne]; omega
 have b17:(k == 17)=false:=by rw [beq_eq_false_iff_ne]; omega
 have b18:(k == 18)=false:=by rw [beq_eq_false_iff_ne]; omega
 have b19:(k == 19)=false:=by rw [beq_eq_false_iff_ne]; omega
 have b20:(k == 20)=false:=by rw [beq_eq_false_iff_ne]; omega
 have b21:(k == 21)=false:=by rw [beq_eq_false_iff_ne]; omega
 have b22:(k == 22)=false:=by rw [beq_eq_false_iff_ne]; omega
 have b23:(k == 23)=false:=by rw [beq_eq_false_iff_ne]; omega
 have Hb:Hid _:=hb;clear hb;have hal:=ab w (.cells #[.int .i64 k,.int .i64 v0.1,.int .i64 v0.2.1,.string v0.2.2,.string t,.string n,.slice a ks.length c] 55)
 have B0:Hid (Bx (w.alloc (.cells #[.int .i64 k,.int .i64 v0.1,.int .i64 v0.2.1,.string v0.2.2,.string t,.string n,.slice a ks.length c] 55)) PB v w.heap.size #[.int .i64 k,.int .i64 v0.1,.int .i64 v0.2.1,.string v0.2.2,.string t,.string n,.slice a ks.length c] 55):=Bx.new hP #[.int .i64 k,.int .i64 v0.1,.int .i64 v0.2.1,.string v0.2.2,.string t,.string n,.slice a ks.length c] 55;have P0:Hid (ax (w.alloc (.cells #[.int .i64 k,.int .i64 v0.1,.int .i64 v0.2.1,.string v0.2.2,.string t,.string n,.slice a ks.length c] 55)) PB v bs):=hP.next hal
 have S0:Hid (St PB v w v (w.alloc (.cells #[.int .i64 k,.int .i64 v0.1,.int .i64 v0.2.1,.string v0.2.2,.string t,.string n,.slice a ks.length c] 55))):=St.of hal hP.lt;have G0:Hid (GP (w.alloc (.cells #[.int .i64 k,.int .i64 v0.1,.int .i64 v0.2.1,.string v0.2.2,.string t,.string n,.slice a ks.length c] 55)) PB):=hG.nx hal hP.lt;have L00:Hid (aD (fun b=>b<PB) (w.alloc (.cells #[.int .i64 k,.int .i64 v0.1,.int .i64 v0.2.1,.string v0.2.2,.string t,.string n,.slice a ks.length c] 55)) a ks):=aD.next hal hk;clear hP hG hal hk;go_enter Tryz.func146,Tryz.ntmps146;go_upto_region 1 with fail
 generalize (w.alloc (.cells #[.int .i64 k,.int .i64 v0.1,.int .i64 v0.2.1,.string v0.2.2,.string t,.string n,.slice a ks.length c] 55))=w0 at *;have f1:w0.cell? ⟨w.heap.size,0,none⟩=some (.int .i64 k):=B0.out.c 0 rfl;have f2:w0.cell? ⟨w.heap.size,1,none⟩=some (.int .i64 v0.1):=B0.out.c 1 rfl;have f3:w0.cell? ⟨w.heap.size,2,none⟩=some (.int .i64 v0.2.1):=B0.out.c 2 rfl;have f4:w0.cell? ⟨w.heap.size,3,none⟩=some (.string v0.2.2):=B0.out.c 3 rfl;have f5:w0.cell? ⟨w.heap.size,4,none⟩=some (.string t):=B0.out.c 4 rfl;have f6:w0.cell? ⟨w.heap.size,5,none⟩=some (.string n):=B0.out.c 5 rfl
 have f7:w0.cell? ⟨w.heap.size,6,none⟩=some (.slice a ks.length c):=B0.out.c 6 rfl;have con8:Calls Tryz.prog 176 #[.pointer (some ⟨PB,0,none⟩),.agg #[.int .i64 k,.int .i64 v0.1,.int .i64 v0.2.1,.string v0.2.2,.string t,.string n,.slice a ks.length c]] w0 (aC w0 PB v (an bs (jW k (aZ (ks[0]).k,u0) (aZ (ks[1]).k,u1)))):=vD (.mk k v0 t n ks) u0 u1 H1.out HB0.out HB1.out a c (G0.out) (P0.out) L00.out (Hb.out);go_wp2_with fail
 refine con8.mono ?_;rintro e w9 ⟨rfl,v10,P_,S_⟩;have P11:Hid (ax w9 PB v10 (an bs (jW k (aZ (ks[0]).k,u0) (aZ (ks[1]).k,u1)))):=P_;have S12:Hid (St PB v w v10 w9):=S0.out.trans S_;have G13:Hid (GP w9 PB):=G0.out.st S_;have B14:Hid (Bx w9 PB v10 (w.heap.size) #[.int .i64 k,.int .i64 v0.1,.int .i64 v0.2.1,.string v0.2.2,.string t,.string n,.slice a ks.length c] 55):=B0.out.st S_;have L15:Hid (aD (fun b=>b<PB) w9 a ks):=aD.bJ L00.out S_;clear con8 P_ S_ f1 f2 f3 f4 f5 f6 f7 P0 S0 G0 B0 L00;go_wp2_with fail
 go_end0
 exact ⟨rfl,v10,P11.out,S12.out⟩
def gp (k:Int) (v:Vl) (t n:ByteArray) (ps:List (Int × List ByteArray)):List ByteArray :=
 if k=1 then cF v else if k=2 then j1 t n else if k=3 then [⟨#[110,111,116]⟩] ++ en 3 (ps.getD 0 pd) else if k=16 then en 5 (ps.getD 0 pd) ++ [⟨#[105,115]⟩,⟨#[110,117,108,108]⟩]
 else if k=17 then [⟨#[99,97,115,101]⟩] ++ dK ps [⟨#[119,104,101,110]⟩,⟨#[116,104,101,110]⟩,⟨#[101,108,115,101]⟩,⟨#[101,110,100]⟩] else if k=18 then [⟨#[99,111,97,108,101,115,99,101]⟩] ++ dK ps [⟨#[40]⟩,⟨#[44]⟩,⟨#[41]⟩]
 else if k=19 then [⟨#[99,111,117,110,116]⟩,⟨#[40]⟩,⟨#[42]⟩,⟨#[41]⟩] else if 20≤k∧k≤23 then [bK k fc] ++ dK ps [⟨#[40]⟩,⟨#[41]⟩] else jW k (ps.getD 0 pd) (ps.getD 1 pd)
mutual
def aU:SX→List ByteArray
 | .mk k v t n ks=>gp k v t n (dT ks)
def dT:List SX→List (Int × List ByteArray)
 | []=>[]
 | x :: r=>(aZ x.k,aU x) :: dT r
end
def bm (x:SX):List ByteArray:=en 1 (aZ x.k,aU x)
theorem jZ:∀ l,(dT l).length=l.length
 | []=>by rw [dT]; rfl
 | x :: r=>by rw [dT,Dn,Dn,jZ r]
theorem iV:∀ (l:List SX) (i:Nat) (h:i<l.length),(dT l).getD i pd=(aZ l[i].k,aU l[i])
 | [],i,h=>by simp at h
 | x :: r,0,h=>by rw [dT]; rfl
 | x :: r,i+1,h=>by
  rw [dT]
  have:=iV r i (by simpa using h)
  simpa [List.getD] using this
def jF (v:Vl):Prop:=1≤v.1∧v.1≤4∧(v.1=3 → -1000000000000000≤v.2.1∧v.2.1≤1000000000000000)∧(v.1=4→v.2.2.size≤60)
inductive lN:SX→Prop
 | mk {k:Int} {v:Vl} {t n:ByteArray} {ks:List SX}:1≤k→k≤23→ks.length=fv k→(k=1→jF v)→(∀ y ∈ ks,lN y)→lN (.mk k v t n ks)
theorem uz {k:Int} {v:Vl} {t n:ByteArray} {ks:List SX} (h1:1≤k) (h23:k≤23) (hl:ks.length=fv k) (hv:k=1→jF v) (hB:∀ y ∈ ks,dw (aU y) y):dw (aU (.mk k v t n ks)) (.mk k v t n ks):=by
 have hL:gD (dT ks) ks:=⟨jZ ks,fun i h=>⟨_,iV ks i h,hB _ (DC h)⟩⟩
 intro a c PB vv bs w hG hP hk hb;have e0:aU (.mk k v t n ks)=gp k v t n (dT ks):=by rw [aU]
 rw [e0] at hb ⊢;have hk:aD (fun b=>b<PB) w a ks:=hk;have some_of:0<ks.length→∃ b1 o1,a=some ⟨b1,o1,none⟩:=fun h=>by
  obtain ⟨b1,o1,_,_,e,_⟩:=hk.elem (k:=0) h;exact ⟨b1,o1,e⟩
 have g0:∀ h:0<ks.length,(dT ks).getD 0 pd=(aZ (ks[0]'h).k,aU (ks[0]'h)):=fun h=>iV ks 0 h
 have g1:∀ h:1<ks.length,(dT ks).getD 1 pd=(aZ (ks[1]'h).k,aU (ks[1]'h)):=fun h=>iV ks 1 h
 have m0:∀ h:0<ks.length,dw (aU (ks[0]'h)) (ks[0]'h):=fun h=>hB _ (DC h)
 have m1:∀ h:1<ks.length,dw (aU (ks[1]'h)) (ks[1]'h):=fun h=>hB _ (DC h)
 have cs:k=1∨k=2∨k=3∨k=16∨k=17∨k=18∨k=19∨k=20∨k=21∨k=22∨k=23∨(4≤k∧k≤15):=by omega
 rcases cs with rfl | rfl | rfl | rfl | rfl | rfl | rfl | rfl | rfl | rfl | rfl | ⟨h4,h15⟩
 ·obtain ⟨v1,v2,v3,v4⟩:=hv rfl;exact zy v t n ks a c hG hP v1 v2 v3 v4 hb
 ·exact zM v t n ks a c hG hP hb
 ·have hp:0<ks.length:=by rw [hl]; decide
  obtain ⟨b1,o1,rfl⟩:=some_of hp;have e:gp 3 v t n (dT ks) = [⟨#[110,111,116]⟩] ++ en 3 (aZ (ks[0]'hp).k,aU (ks[0]'hp)):=by rw [← g0 hp]; rfl
  rw [e] at hb ⊢;exact zG v t n ks _ hp (m0 hp) b1 o1 c hG hP hk hb
 ·have hp:0<ks.length:=by rw [hl]; decide
  obtain ⟨b1,o1,rfl⟩:=some_of hp;have e:gp 16 v t n (dT ks)=en 5 (aZ (ks[0]'hp).k,aU (ks[0]'hp)) ++ [⟨#[105,115]⟩,⟨#[110,117,108,108]⟩]:=by rw [← g0 hp]; rfl
  rw [e] at hb ⊢;exact yt v t n ks _ hp (m0 hp) b1 o1 c hG hP hk hb
 ·exact yf v t n ks _ hL hl a c hG hP hk hb
 ·exact yC v t n ks _ hL hl a c hG hP hk hb
 ·exact yh v t n ks a c hG hP hb
 ·exact yg v t n ks _ hL hl a c hG hP hk hb
 ·exact yI v t n ks _ hL hl a c hG hP hk hb
 ·exact yj v t n ks _ hL hl a c hG hP hk hb
 ·exact xW v t n ks _ hL hl a c hG hP hk hb
 ·have h2:ks.length=2:=by rw [hl,fv,if_neg (by omega),if_neg (by omega),if_neg (by omega)]
  have hp0:0<ks.length:=by omega
  have hp1:1<ks.length:=by omega
  have e:gp k v t n (dT ks)=jW k (aZ (ks[0]'hp0).k,aU (ks[0]'hp0)) (aZ (ks[1]'hp1).k,aU (ks[1]'hp1)):=by
   rw [← g0 hp0,← g1 hp1,gp,if_neg (by omega),if_neg (by omega),if_neg (by omega),if_neg (by omega),if_neg (by omega),if_neg (by omega),if_neg (by omega),if_neg (by omega)]
  rw [e] at hb ⊢;exact yq k v t n ks _ _ h4 h15 h2 hp0 hp1 (m0 hp0) (m1 hp1) a c hG hP hk hb
theorem vs:∀ (m:Nat) (x:SX),SizeOf.sizeOf x≤m→lN x→dw (aU x) x
 | 0,.mk k v t n ks,h,_=>by simp at h
 | m+1,.mk k v t n ks,h,ok=>by
  cases ok with
  | mk h1 h2 h3 h4 h5=>exact uz h1 h2 h3 h4 fun y hy=>vs m y (by have:=List.sizeOf_lt_of_mem hy; simp at h; omega) (h5 y hy)
theorem yA {x:SX} (h:lN x):dw (aU x) x:=vs _ x (CX _) h
theorem ku {x:SX} (h:lN x) (a:Option Addr) (c:Nat) {PB:Nat} {v:Value} {bs:List UInt8} {w:World} (hG:GP w PB) (hP:ax w PB v bs) (hk:aD (fun b=>b<PB) w a x.ks) (hb:(an bs (bm x)).length≤fW):Calls Tryz.prog 92 #[.pointer (some ⟨PB,0,none⟩),.agg (aT x a c)] w (aC w PB v (an bs (bm x))):=sS x (aU x) (yA h) a c hG hP hk hb
def dV (wd:ByteArray) (has:Bool) (x:SX):List ByteArray:=if has then [wd] ++ bm x else []
def eR (x:kQ):List ByteArray:=bm x.1 ++ iP x.2
theorem dF (wd:ByteArray) (has:Bool) (x:SX) (hx:has=true→lN x) (a:Option Addr) (c:Nat) {PB:Nat} {v:Value} {bs:List UInt8} {w:World} (hG:GP w PB) (hP:ax w PB v bs) (hk:aD (fun b=>b<PB) w a x.ks) (hb:(an bs (dV wd has x)).length≤fW):Calls Tryz.prog 63 #[.pointer (some ⟨PB,0,none⟩),.string wd,.bool has,.agg (aT x a c)] w (aC w PB v (an bs (dV wd has x))):=by
 cases has
 ·have ev:dV wd false x = []:=rfl;rw [ev] at hb ⊢;clear ev hx;have Hb:Hid _:=hb;clear hb;have hal:=ab w (.cells (aT x a c) 55);have B0:Hid (Bx (w.alloc (.cells (aT x a c) 55)) PB v w.heap.size (aT x a c) 55):=Bx.new hP (aT x a c) 55;have P0:Hid (ax (w.alloc (.cells (aT x a c) 55)) PB v bs):=hP.next hal;have S0:Hid (St PB v w v (w.alloc (.cells (aT x a c) 55))):=St.of hal hP.lt;have G0:Hid (GP (w.alloc (.cells (aT x a c) 55)) PB):=hG.nx hal hP.lt
  have L00:Hid (aD (fun b=>b<PB) (w.alloc (.cells (aT x a c) 55)) a x.ks):=aD.next hal hk;clear hP hG hal hk;go_enter Tryz.func63,Tryz.ntmps63;go_upto_region 1 with fail
  generalize (w.alloc (.cells (aT x a c) 55))=w0 at *;go_wp2_with fail
  go_end0
  exact ⟨rfl,v,P0.out,S0.out⟩
 ·have ev:dV wd true x = [wd] ++ bm x:=rfl;rw [ev] at hb ⊢;have HO:Hid (lN x):=hx rfl;clear ev hx;have Hb:Hid _:=hb;clear hb;have hal:=ab w (.cells (aT x a c) 55);have B0:Hid (Bx (w.alloc (.cells (aT x a c) 55)) PB v w.heap.size (aT x a c) 55):=Bx.new hP (aT x a c) 55;have P0:Hid (ax (w.alloc (.cells (aT x a c) 55)) PB v bs):=hP.next hal;have S0:Hid (St PB v w v (w.alloc (.cells (aT x a c) 55))):=St.of hal hP.lt;have G0:Hid (GP (w.alloc (.cells (aT x a c) 55)) PB):=hG.nx hal hP.lt
  have L00:Hid (aD (fun b=>b<PB) (w.alloc (.cells (aT x a c) 55)) a x.ks):=aD.next hal hk;clear hP hG hal hk;go_enter Tryz.func63,Tryz.ntmps63;go_upto_region 1 with fail
  generalize (w.alloc (.cells (aT x a c) 55))=w0 at *;have con1:Calls Tryz.prog 57 #[.pointer (some ⟨PB,0,none⟩),.slice (some ⟨w0.heap.size,0,none⟩) 1 1] (w0.alloc (.cells #[.string wd] 9)) (aC w0 PB v (an bs ([wd]))):=aW [wd] P0.out (cH (Hb.out)) (by simp);go_wp2_with fail
  refine con1.mono ?_;rintro e w2 ⟨rfl,v3,P_,S_⟩;have P4:Hid (ax w2 PB v3 (an bs ([wd]))):=P_;have S5:Hid (St PB v w v3 w2):=S0.out.trans S_;have G6:Hid (GP w2 PB):=G0.out.st S_;have B7:Hid (Bx w2 PB v3 (w.heap.size) (aT x a c) 55):=B0.out.st S_;have L8:Hid (aD (fun b=>b<PB) w2 a x.ks):=aD.bJ L00.out S_;clear con1 P_ S_  P0 S0 G0 B0 L00;have f9:w2.cell? ⟨w.heap.size,0,none⟩=some (.int .i64 x.k):=B7.out.c 0 rfl;have f10:w2.cell? ⟨w.heap.size,1,none⟩=some (.int .i64 x.v.1):=B7.out.c 1 rfl;have f11:w2.cell? ⟨w.heap.size,2,none⟩=some (.int .i64 x.v.2.1):=B7.out.c 2 rfl
  have f12:w2.cell? ⟨w.heap.size,3,none⟩=some (.string x.v.2.2):=B7.out.c 3 rfl;have f13:w2.cell? ⟨w.heap.size,4,none⟩=some (.string x.aH):=B7.out.c 4 rfl;have f14:w2.cell? ⟨w.heap.size,5,none⟩=some (.string x.name):=B7.out.c 5 rfl;have f15:w2.cell? ⟨w.heap.size,6,none⟩=some (.slice a x.ks.length c):=B7.out.c 6 rfl;have con16:Calls Tryz.prog 92 #[.pointer (some ⟨PB,0,none⟩),.agg (aT x a c)] w2 (aC w2 PB v3 (an (an bs ([wd])) (bm x))):=ku HO.out a c (G6.out) (P4.out) L8.out (by rw [← ak]; exact Hb.out);go_wp2_with fail
  refine con16.mono ?_;rintro e w17 ⟨rfl,v18,P_,S_⟩;have P19:Hid (ax w17 PB v18 (an bs ([wd] ++ bm x))):=by show ax _ _ _ _; rw [ak]; exact P_
  have S20:Hid (St PB v w v18 w17):=S5.out.trans S_;have G21:Hid (GP w17 PB):=G6.out.st S_;have B22:Hid (Bx w17 PB v18 (w.heap.size) (aT x a c) 55):=B7.out.st S_;have L23:Hid (aD (fun b=>b<PB) w17 a x.ks):=aD.bJ L8.out S_;clear con16 P_ S_ f9 f10 f11 f12 f13 f14 f15 P4 S5 G6 B7 L8;go_wp2_with fail
  go_end0
  exact ⟨rfl,v18,P19.out,S20.out⟩
theorem qd (x:kQ) (hx:lN x.1) (a:Option Addr) (c:Nat) {PB:Nat} {v:Value} {bs:List UInt8} {w:World} (hG:GP w PB) (hP:ax w PB v bs) (hk:aD (fun b=>b<PB) w a x.1.ks) (hb:(an bs (eR x)).length≤fW):Calls Tryz.prog 118 #[.pointer (some ⟨PB,0,none⟩),.agg #[.int .i64 x.1.k,.int .i64 x.1.v.1,.int .i64 x.1.v.2.1,.string x.1.v.2.2,.string x.1.aH,.string x.1.name,.slice a x.1.ks.length c,.string x.2]] w (aC w PB v (an bs (eR x))):=by
 rw [eR] at hb ⊢;have HO:Hid (lN x.1):=hx;clear hx;have Hb:Hid _:=hb;clear hb;have hal:=ab w (.cells #[.int .i64 x.1.k,.int .i64 x.1.v.1,.int .i64 x.1.v.2.1,.string x.1.v.2.2,.string x.1.aH,.string x.1.name,.slice a x.1.ks.length c,.string x.2] 75)
 have B0:Hid (Bx (w.alloc (.cells #[.int .i64 x.1.k,.int .i64 x.1.v.1,.int .i64 x.1.v.2.1,.string x.1.v.2.2,.string x.1.aH,.string x.1.name,.slice a x.1.ks.length c,.string x.2] 75)) PB v w.heap.size #[.int .i64 x.1.k,.int .i64 x.1.v.1,.int .i64 x.1.v.2.1,.string x.1.v.2.2,.string x.1.aH,.string x.1.name,.slice a x.1.ks.length c,.string x.2] 75):=Bx.new hP #[.int .i64 x.1.k,.int .i64 x.1.v.1,.int .i64 x.1.v.2.1,.string x.1.v.2.2,.string x.1.aH,.string x.1.name,.slice a x.1.ks.length c,.string x.2] 75
 have P0:Hid (ax (w.alloc (.cells #[.int .i64 x.1.k,.int .i64 x.1.v.1,.int .i64 x.1.v.2.1,.string x.1.v.2.2,.string x.1.aH,.string x.1.name,.slice a x.1.ks.length c,.string x.2] 75)) PB v bs):=hP.next hal;have S0:Hid (St PB v w v (w.alloc (.cells #[.int .i64 x.1.k,.int .i64 x.1.v.1,.int .i64 x.1.v.2.1,.string x.1.v.2.2,.string x.1.aH,.string x.1.name,.slice a x.1.ks.length c,.string x.2] 75))):=St.of hal hP.lt
 have G0:Hid (GP (w.alloc (.cells #[.int .i64 x.1.k,.int .i64 x.1.v.1,.int .i64 x.1.v.2.1,.string x.1.v.2.2,.string x.1.aH,.string x.1.name,.slice a x.1.ks.length c,.string x.2] 75)) PB):=hG.nx hal hP.lt;have L00:Hid (aD (fun b=>b<PB) (w.alloc (.cells #[.int .i64 x.1.k,.int .i64 x.1.v.1,.int .i64 x.1.v.2.1,.string x.1.v.2.2,.string x.1.aH,.string x.1.name,.slice a x.1.ks.length c,.string x.2] 75)) a x.1.ks):=aD.next hal hk;clear hP hG hal hk;go_enter Tryz.func118,Tryz.ntmps118;go_upto_region 1 with fail
 generalize (w.alloc (.cells #[.int .i64 x.1.k,.int .i64 x.1.v.1,.int .i64 x.1.v.2.1,.string x.1.v.2.2,.string x.1.aH,.string x.1.name,.slice a x.1.ks.length c,.string x.2] 75))=w0 at *;have f1:w0.cell? ⟨w.heap.size,0,none⟩=some (.int .i64 x.1.k):=B0.out.c 0 rfl;have f2:w0.cell? ⟨w.heap.size,1,none⟩=some (.int .i64 x.1.v.1):=B0.out.c 1 rfl;have f3:w0.cell? ⟨w.heap.size,2,none⟩=some (.int .i64 x.1.v.2.1):=B0.out.c 2 rfl;have f4:w0.cell? ⟨w.heap.size,3,none⟩=some (.string x.1.v.2.2):=B0.out.c 3 rfl;have f5:w0.cell? ⟨w.heap.size,4,none⟩=some (.string x.1.aH):=B0.out.c 4 rfl
 have f6:w0.cell? ⟨w.heap.size,5,none⟩=some (.string x.1.name):=B0.out.c 5 rfl;have f7:w0.cell? ⟨w.heap.size,6,none⟩=some (.slice a x.1.ks.length c):=B0.out.c 6 rfl;have con8:Calls Tryz.prog 92 #[.pointer (some ⟨PB,0,none⟩),.agg (aT x.1 a c)] w0 (aC w0 PB v (an bs (bm x.1))):=ku HO.out a c (G0.out) (P0.out) L00.out (cH (Hb.out));go_wp2_with fail
 refine con8.mono ?_;rintro e w9 ⟨rfl,v10,P_,S_⟩;have P11:Hid (ax w9 PB v10 (an bs (bm x.1))):=P_;have S12:Hid (St PB v w v10 w9):=S0.out.trans S_;have G13:Hid (GP w9 PB):=G0.out.st S_;have B14:Hid (Bx w9 PB v10 (w.heap.size) #[.int .i64 x.1.k,.int .i64 x.1.v.1,.int .i64 x.1.v.2.1,.string x.1.v.2.2,.string x.1.aH,.string x.1.name,.slice a x.1.ks.length c,.string x.2] 75):=B0.out.st S_;have L15:Hid (aD (fun b=>b<PB) w9 a x.1.ks):=aD.bJ L00.out S_;clear con8 P_ S_ f1 f2 f3 f4 f5 f6 f7 P0 S0 G0 B0 L00;have f16:w9.cell? ⟨w.heap.size,7,none⟩=some (.string x.2):=B14.out.c 7 rfl
 have con17:Calls Tryz.prog 143 #[.pointer (some ⟨PB,0,none⟩),.string x.2] w9 (aC w9 PB v10 (an (an bs (bm x.1)) (iP x.2))):=iQ x.2 (P11.out) (by rw [← ak]; exact Hb.out);go_wp2_with fail
 refine con17.mono ?_;rintro e w18 ⟨rfl,v19,P_,S_⟩;have P20:Hid (ax w18 PB v19 (an bs (bm x.1 ++ iP x.2))):=by show ax _ _ _ _; rw [ak]; exact P_
 have S21:Hid (St PB v w v19 w18):=S12.out.trans S_;have G22:Hid (GP w18 PB):=G13.out.st S_;have B23:Hid (Bx w18 PB v19 (w.heap.size) #[.int .i64 x.1.k,.int .i64 x.1.v.1,.int .i64 x.1.v.2.1,.string x.1.v.2.2,.string x.1.aH,.string x.1.name,.slice a x.1.ks.length c,.string x.2] 75):=B14.out.st S_;have L24:Hid (aD (fun b=>b<PB) w18 a x.1.ks):=aD.bJ L15.out S_;clear con17 P_ S_ f16 P11 S12 G13 B14 L15;go_wp2_with fail
 go_end0
 exact ⟨rfl,v19,P20.out,S21.out⟩
def bR {α:Type} (ew:α→List ByteArray) (l:List α):Nat→List ByteArray
 | 0=>[]
 | i+1=>bR ew l i ++ (if i=0 then [] else [⟨#[44]⟩]) ++ (match l[i]? with | some x=>ew x | none=>[])
def cr {α:Type} (ew:α→List ByteArray) (l:List α):List ByteArray:=bR ew l l.length
theorem jA {α:Type} (bs:List UInt8) (ew:α→List ByteArray) (l:List α) (i:Nat):∀ n,i≤n→(an bs (bR ew l i)).length≤(an bs (bR ew l n)).length
 | 0,h=>by rw [Nat.le_zero.1 h]; exact CX _
 | n+1,h=>by
  by_cases e:i=n+1
  ·rw [e]; exact CX _
  ·refine Dt (jA bs ew l i n (by omega)) ?_
   rw [bR,ak,ak]
   exact Dt (fp _ _) (fp _ _)
theorem kB {α:Type} (ew:α→List ByteArray) (l:List α) (j:Nat) (h:j<l.length):bR ew l (j+1)=bR ew l j ++ (if j=0 then [] else [⟨#[44]⟩]) ++ ew l[j]:=by rw [bR,Dj h]
theorem rA (l:List qs) (hl:l.length≤1000) (hok:∀ x ∈ l,True) (a:Option Addr) (c:Nat) {PB:Nat} {v:Value} {bs:List UInt8} {w:World} (hG:GP w PB) (hP:ax w PB v bs) (hk:aI iq 2 (fun b=>b<PB) w a l) (hb:(an bs (cr cB l)).length≤fW):Calls Tryz.prog 58 #[.pointer (some ⟨PB,0,none⟩),.slice a l.length c,.func (.func 59) #[.pointer (some ⟨PB,0,none⟩)] #[]] w (aC w PB v (an bs (cr cB l))):=by
 have HOK:Hid _:=hok;have HG:Hid (GP w PB):=hG;have HP:Hid (ax w PB v bs):=hP;have HK:Hid (aI iq 2 (fun b=>b<PB) w a l):=hk;have HB:Hid (∀ j,j<l.length→(an bs (bR cB l (j+1))).length≤fW):=fun j hj=>Dt (jA bs cB l (j+1) l.length hj) hb
 clear hG hP hk hb hok;go_enter Tryz.func58,Tryz.ntmps58;go_wp2_with fail
 go_loopw [10] (fun i wr=>∃ (j:Nat) (v':Value),j≤l.length∧i = .int .i64 j∧Hid (ax wr PB v' (an bs (bR cB l j)))∧Hid (St PB v w v' wr)) (fun i _=>l.length - (RowKit.intOf i).toNat)
 case atStart=>exact ⟨0,v,Dm _,rfl,HP,St.refl _ _ _⟩
 case round =>
  obtain ⟨j,v1,hj,rfl,hP1,hS1⟩:=hrel;have hG1:Hid (GP wr PB):=HG.out.st hS1.out;by_cases hlt:j<l.length
  ·have hBj:=HB.out j hlt;obtain ⟨b1,o1,_,rfl,t1,rfl⟩:=(HK.out.bJ je hS1.out).get hlt;have hsj:=kB cB l j hlt;rw [hsj] at hBj;have HSJ:Hid (bR cB l (j+1)=_):=hsj;have hOk:=HOK.out _ (DC hlt);have hjz:(j:Int)<(l.length:Int):=by omega
   generalize l[j]=y at *;have Hb:Hid _:=hBj;have HOY:Hid _:=hOk;clear hBj hsj hOk;have z0:wr.cell? ⟨b1,o1+j*2,none⟩=some (.string y.1):=t1.2 0 _ rfl;have z1:wr.cell? ⟨b1,o1+j*2+1,none⟩=some (.int .i64 y.2):=t1.2 1 _ rfl;clear t1;have hal:=ab wr (.cells #[.string y.1,.int .i64 y.2] 69);go_upto_region 3 with fail
   have B0:Hid (Bx (wr.alloc (.cells #[.string y.1,.int .i64 y.2] 69)) PB v1 wr.heap.size #[.string y.1,.int .i64 y.2] 69):=Bx.new hP1.out #[.string y.1,.int .i64 y.2] 69;have P0:Hid (ax (wr.alloc (.cells #[.string y.1,.int .i64 y.2] 69)) PB v1 (an bs (bR cB l j))):=hP1.out.next hal;have S0:Hid (St PB v w v1 (wr.alloc (.cells #[.string y.1,.int .i64 y.2] 69))):=hS1.out.trans (St.of hal hP1.out.lt);have G0:Hid (GP (wr.alloc (.cells #[.string y.1,.int .i64 y.2] 69)) PB):=hG1.out.nx hal hP1.out.lt;clear hP1 hS1 hG1 hal z0 z1
   generalize (wr.alloc (.cells #[.string y.1,.int .i64 y.2] 69))=w0 at *;by_cases hj0:j=0
   ·rw [if_pos hj0] at Hb HSJ;subst hj0;have con1:Calls Tryz.prog 86 #[.pointer (some ⟨PB,0,none⟩),.bool false,.string ⟨#[44]⟩] w0 (aC w0 PB v1 (an (an bs (bR cB l 0)) ([]))):=dd false ⟨#[44]⟩ P0.out (by rw [← ak]; exact cH (Hb.out));go_wp2_with fail
    refine con1.mono ?_;rintro e w2 ⟨rfl,v3,P_,S_⟩;have P4:Hid (ax w2 PB v3 (an bs (bR cB l 0 ++ []))):=by show ax _ _ _ _; rw [ak]; exact P_
    have S5:Hid (St PB v w v3 w2):=S0.out.trans S_;have G6:Hid (GP w2 PB):=G0.out.st S_;have B7:Hid (Bx w2 PB v3 (wr.heap.size) #[.string y.1,.int .i64 y.2] 69):=B0.out.st S_;clear con1 P_ S_  P0 S0 G0 B0;have f8:w2.cell? ⟨wr.heap.size,0,none⟩=some (.string y.1):=B7.out.c 0 rfl;have f9:w2.cell? ⟨wr.heap.size,1,none⟩=some (.int .i64 y.2):=B7.out.c 1 rfl;have con10:Calls Tryz.prog 59 #[.pointer (some ⟨PB,0,none⟩),.agg #[.string y.1,.int .i64 y.2]] w2 (aC w2 PB v3 (an (an bs (bR cB l 0 ++ [])) (cB y))):=lT y (G6.out) (P4.out) (by rw [← ak]; exact Hb.out)
    go_wp2_with fail
    refine con10.mono ?_;rintro e w11 ⟨rfl,v12,P_,S_⟩;have P13:Hid (ax w11 PB v12 (an bs (bR cB l 0 ++ [] ++ cB y))):=by show ax _ _ _ _; rw [ak]; exact P_
    have S14:Hid (St PB v w v12 w11):=S5.out.trans S_;have G15:Hid (GP w11 PB):=G6.out.st S_;have B16:Hid (Bx w11 PB v12 (wr.heap.size) #[.string y.1,.int .i64 y.2] 69):=B7.out.st S_;clear con10 P_ S_ f8 f9 P4 S5 G6 B7;have PZ:Hid (ax w11 PB v12 (an bs (bR cB l (0+1)))):=by show ax _ _ _ _; rw [HSJ.out]; exact P13.out
    clear P13;go_wp2_with fail
    go_roundw
    case rel=>exact ⟨0+1,v12,by omega,by go_num,PZ,S14⟩
    case measure=>simp [RowKit.intOf]; omega
   ·rw [if_neg hj0] at Hb HSJ;have hz:decide (0<j)=true:=by simp; omega
    have con17:Calls Tryz.prog 86 #[.pointer (some ⟨PB,0,none⟩),.bool true,.string ⟨#[44]⟩] w0 (aC w0 PB v1 (an (an bs (bR cB l j)) ([⟨#[44]⟩]))):=dd true ⟨#[44]⟩ P0.out (by rw [← ak]; exact cH (Hb.out));go_wp2_with fail
    refine con17.mono ?_;rintro e w18 ⟨rfl,v19,P_,S_⟩;have P20:Hid (ax w18 PB v19 (an bs (bR cB l j ++ [⟨#[44]⟩]))):=by show ax _ _ _ _; rw [ak]; exact P_
    have S21:Hid (St PB v w v19 w18):=S0.out.trans S_;have G22:Hid (GP w18 PB):=G0.out.st S_;have B23:Hid (Bx w18 PB v19 (wr.heap.size) #[.string y.1,.int .i64 y.2] 69):=B0.out.st S_;clear con17 P_ S_  P0 S0 G0 B0;have f24:w18.cell? ⟨wr.heap.size,0,none⟩=some (.string y.1):=B23.out.c 0 rfl;have f25:w18.cell? ⟨wr.heap.size,1,none⟩=some (.int .i64 y.2):=B23.out.c 1 rfl
    have con26:Calls Tryz.prog 59 #[.pointer (some ⟨PB,0,none⟩),.agg #[.string y.1,.int .i64 y.2]] w18 (aC w18 PB v19 (an (an bs (bR cB l j ++ [⟨#[44]⟩])) (cB y))):=lT y (G22.out) (P20.out) (by rw [← ak]; exact Hb.out);go_wp2_with fail
    refine con26.mono ?_;rintro e w27 ⟨rfl,v28,P_,S_⟩;have P29:Hid (ax w27 PB v28 (an bs (bR cB l j ++ [⟨#[44]⟩] ++ cB y))):=by show ax _ _ _ _; rw [ak]; exact P_
    have S30:Hid (St PB v w v28 w27):=S21.out.trans S_;have G31:Hid (GP w27 PB):=G22.out.st S_;have B32:Hid (Bx w27 PB v28 (wr.heap.size) #[.string y.1,.int .i64 y.2] 69):=B23.out.st S_;clear con26 P_ S_ f24 f25 P20 S21 G22 B23;have PZ:Hid (ax w27 PB v28 (an bs (bR cB l (j+1)))):=by show ax _ _ _ _; rw [HSJ.out]; exact P29.out
    clear P29;go_wp2_with fail
    go_roundw
    case rel=>exact ⟨j+1,v28,by omega,by go_num,PZ,S30⟩
    case measure=>simp [RowKit.intOf]; omega
  ·have ej:j=l.length:=by omega
   subst ej;go_wp2_with fail
   go_end0
   exact ⟨rfl,v1,hP1.out,hS1.out⟩
theorem ru (l:List Vl) (hl:l.length≤1000) (hok:∀ x ∈ l,jF x) (a:Option Addr) (c:Nat) {PB:Nat} {v:Value} {bs:List UInt8} {w:World} (hG:GP w PB) (hP:ax w PB v bs) (hk:aI eU 3 (fun b=>b<PB) w a l) (hb:(an bs (cr cF l)).length≤fW):Calls Tryz.prog 94 #[.pointer (some ⟨PB,0,none⟩),.slice a l.length c,.func (.func 95) #[.pointer (some ⟨PB,0,none⟩)] #[]] w (aC w PB v (an bs (cr cF l))):=by
 have HOK:Hid _:=hok;have HG:Hid (GP w PB):=hG;have HP:Hid (ax w PB v bs):=hP;have HK:Hid (aI eU 3 (fun b=>b<PB) w a l):=hk;have HB:Hid (∀ j,j<l.length→(an bs (bR cF l (j+1))).length≤fW):=fun j hj=>Dt (jA bs cF l (j+1) l.length hj) hb
 clear hG hP hk hb hok;go_enter Tryz.func94,Tryz.ntmps94;go_wp2_with fail
 go_loopw [10] (fun i wr=>∃ (j:Nat) (v':Value),j≤l.length∧i = .int .i64 j∧Hid (ax wr PB v' (an bs (bR cF l j)))∧Hid (St PB v w v' wr)) (fun i _=>l.length - (RowKit.intOf i).toNat)
 case atStart=>exact ⟨0,v,Dm _,rfl,HP,St.refl _ _ _⟩
 case round =>
  obtain ⟨j,v1,hj,rfl,hP1,hS1⟩:=hrel;have hG1:Hid (GP wr PB):=HG.out.st hS1.out;by_cases hlt:j<l.length
  ·have hBj:=HB.out j hlt;obtain ⟨b1,o1,_,rfl,t1,rfl⟩:=(HK.out.bJ fP hS1.out).get hlt;have hsj:=kB cF l j hlt;rw [hsj] at hBj;have HSJ:Hid (bR cF l (j+1)=_):=hsj;have hOk:=HOK.out _ (DC hlt);have hjz:(j:Int)<(l.length:Int):=by omega
   generalize l[j]=y at *;have Hb:Hid _:=hBj;have HOY:Hid _:=hOk;clear hBj hsj hOk;have z0:wr.cell? ⟨b1,o1+j*3,none⟩=some (.int .i64 y.1):=t1.2 0 _ rfl;have z1:wr.cell? ⟨b1,o1+j*3+1,none⟩=some (.int .i64 y.2.1):=t1.2 1 _ rfl;have z2:wr.cell? ⟨b1,o1+j*3+2,none⟩=some (.string y.2.2):=t1.2 2 _ rfl;clear t1;have hal:=ab wr (.cells #[.int .i64 y.1,.int .i64 y.2.1,.string y.2.2] 53);go_upto_region 3 with fail
   have B0:Hid (Bx (wr.alloc (.cells #[.int .i64 y.1,.int .i64 y.2.1,.string y.2.2] 53)) PB v1 wr.heap.size #[.int .i64 y.1,.int .i64 y.2.1,.string y.2.2] 53):=Bx.new hP1.out #[.int .i64 y.1,.int .i64 y.2.1,.string y.2.2] 53;have P0:Hid (ax (wr.alloc (.cells #[.int .i64 y.1,.int .i64 y.2.1,.string y.2.2] 53)) PB v1 (an bs (bR cF l j))):=hP1.out.next hal;have S0:Hid (St PB v w v1 (wr.alloc (.cells #[.int .i64 y.1,.int .i64 y.2.1,.string y.2.2] 53))):=hS1.out.trans (St.of hal hP1.out.lt)
   have G0:Hid (GP (wr.alloc (.cells #[.int .i64 y.1,.int .i64 y.2.1,.string y.2.2] 53)) PB):=hG1.out.nx hal hP1.out.lt;clear hP1 hS1 hG1 hal z0 z1 z2;generalize (wr.alloc (.cells #[.int .i64 y.1,.int .i64 y.2.1,.string y.2.2] 53))=w0 at *;by_cases hj0:j=0
   ·rw [if_pos hj0] at Hb HSJ;subst hj0;have con1:Calls Tryz.prog 86 #[.pointer (some ⟨PB,0,none⟩),.bool false,.string ⟨#[44]⟩] w0 (aC w0 PB v1 (an (an bs (bR cF l 0)) ([]))):=dd false ⟨#[44]⟩ P0.out (by rw [← ak]; exact cH (Hb.out));go_wp2_with fail
    refine con1.mono ?_;rintro e w2 ⟨rfl,v3,P_,S_⟩;have P4:Hid (ax w2 PB v3 (an bs (bR cF l 0 ++ []))):=by show ax _ _ _ _; rw [ak]; exact P_
    have S5:Hid (St PB v w v3 w2):=S0.out.trans S_;have G6:Hid (GP w2 PB):=G0.out.st S_;have B7:Hid (Bx w2 PB v3 (wr.heap.size) #[.int .i64 y.1,.int .i64 y.2.1,.string y.2.2] 53):=B0.out.st S_;clear con1 P_ S_  P0 S0 G0 B0;have f8:w2.cell? ⟨wr.heap.size,0,none⟩=some (.int .i64 y.1):=B7.out.c 0 rfl;have f9:w2.cell? ⟨wr.heap.size,1,none⟩=some (.int .i64 y.2.1):=B7.out.c 1 rfl;have f10:w2.cell? ⟨wr.heap.size,2,none⟩=some (.string y.2.2):=B7.out.c 2 rfl
    have con11:Calls Tryz.prog 95 #[.pointer (some ⟨PB,0,none⟩),.agg #[.int .i64 y.1,.int .i64 y.2.1,.string y.2.2]] w2 (aC w2 PB v3 (an (an bs (bR cF l 0 ++ [])) (cF y))):=kT y (G6.out) (P4.out) HOY.out.1 HOY.out.2.1 HOY.out.2.2.1 HOY.out.2.2.2 (by rw [← ak]; exact Hb.out);go_wp2_with fail
    refine con11.mono ?_;rintro e w12 ⟨rfl,v13,P_,S_⟩;have P14:Hid (ax w12 PB v13 (an bs (bR cF l 0 ++ [] ++ cF y))):=by show ax _ _ _ _; rw [ak]; exact P_
    have S15:Hid (St PB v w v13 w12):=S5.out.trans S_;have G16:Hid (GP w12 PB):=G6.out.st S_;have B17:Hid (Bx w12 PB v13 (wr.heap.size) #[.int .i64 y.1,.int .i64 y.2.1,.string y.2.2] 53):=B7.out.st S_;clear con11 P_ S_ f8 f9 f10 P4 S5 G6 B7;have PZ:Hid (ax w12 PB v13 (an bs (bR cF l (0+1)))):=by show ax _ _ _ _; rw [HSJ.out]; exact P14.out
    clear P14;go_wp2_with fail
    go_roundw
    case rel=>exact ⟨0+1,v13,by omega,by go_num,PZ,S15⟩
    case measure=>simp [RowKit.intOf]; omega
   ·rw [if_neg hj0] at Hb HSJ;have hz:decide (0<j)=true:=by simp; omega
    have con18:Calls Tryz.prog 86 #[.pointer (some ⟨PB,0,none⟩),.bool true,.string ⟨#[44]⟩] w0 (aC w0 PB v1 (an (an bs (bR cF l j)) ([⟨#[44]⟩]))):=dd true ⟨#[44]⟩ P0.out (by rw [← ak]; exact cH (Hb.out));go_wp2_with fail
    refine con18.mono ?_;rintro e w19 ⟨rfl,v20,P_,S_⟩;have P21:Hid (ax w19 PB v20 (an bs (bR cF l j ++ [⟨#[44]⟩]))):=by show ax _ _ _ _; rw [ak]; exact P_
    have S22:Hid (St PB v w v20 w19):=S0.out.trans S_;have G23:Hid (GP w19 PB):=G0.out.st S_;have B24:Hid (Bx w19 PB v20 (wr.heap.size) #[.int .i64 y.1,.int .i64 y.2.1,.string y.2.2] 53):=B0.out.st S_;clear con18 P_ S_  P0 S0 G0 B0;have f25:w19.cell? ⟨wr.heap.size,0,none⟩=some (.int .i64 y.1):=B24.out.c 0 rfl;have f26:w19.cell? ⟨wr.heap.size,1,none⟩=some (.int .i64 y.2.1):=B24.out.c 1 rfl;have f27:w19.cell? ⟨wr.heap.size,2,none⟩=some (.string y.2.2):=B24.out.c 2 rfl
    have con28:Calls Tryz.prog 95 #[.pointer (some ⟨PB,0,none⟩),.agg #[.int .i64 y.1,.int .i64 y.2.1,.string y.2.2]] w19 (aC w19 PB v20 (an (an bs (bR cF l j ++ [⟨#[44]⟩])) (cF y))):=kT y (G23.out) (P21.out) HOY.out.1 HOY.out.2.1 HOY.out.2.2.1 HOY.out.2.2.2 (by rw [← ak]; exact Hb.out);go_wp2_with fail
    refine con28.mono ?_;rintro e w29 ⟨rfl,v30,P_,S_⟩;have P31:Hid (ax w29 PB v30 (an bs (bR cF l j ++ [⟨#[44]⟩] ++ cF y))):=by show ax _ _ _ _; rw [ak]; exact P_
    have S32:Hid (St PB v w v30 w29):=S22.out.trans S_;have G33:Hid (GP w29 PB):=G23.out.st S_;have B34:Hid (Bx w29 PB v30 (wr.heap.size) #[.int .i64 y.1,.int .i64 y.2.1,.string y.2.2] 53):=B24.out.st S_;clear con28 P_ S_ f25 f26 f27 P21 S22 G23 B24;have PZ:Hid (ax w29 PB v30 (an bs (bR cF l (j+1)))):=by show ax _ _ _ _; rw [HSJ.out]; exact P31.out
    clear P31;go_wp2_with fail
    go_roundw
    case rel=>exact ⟨j+1,v30,by omega,by go_num,PZ,S32⟩
    case measure=>simp [RowKit.intOf]; omega
  ·have ej:j=l.length:=by omega
   subst ej;go_wp2_with fail
   go_end0
   exact ⟨rfl,v1,hP1.out,hS1.out⟩
theorem my (l:List SX) (hl:l.length≤1000) (hok:∀ x ∈ l,lN x) (a:Option Addr) (c:Nat) {PB:Nat} {v:Value} {bs:List UInt8} {w:World} (hG:GP w PB) (hP:ax w PB v bs) (hk:aI bO 7 (fun b=>b<PB) w a l) (hb:(an bs (cr bm l)).length≤fW):Calls Tryz.prog 91 #[.pointer (some ⟨PB,0,none⟩),.slice a l.length c,.func (.func 92) #[.pointer (some ⟨PB,0,none⟩)] #[]] w (aC w PB v (an bs (cr bm l))):=by
 have HOK:Hid _:=hok;have HG:Hid (GP w PB):=hG;have HP:Hid (ax w PB v bs):=hP;have HK:Hid (aI bO 7 (fun b=>b<PB) w a l):=hk;have HB:Hid (∀ j,j<l.length→(an bs (bR bm l (j+1))).length≤fW):=fun j hj=>Dt (jA bs bm l (j+1) l.length hj) hb
 clear hG hP hk hb hok;go_enter Tryz.func91,Tryz.ntmps91;go_wp2_with fail
 go_loopw [10] (fun i wr=>∃ (j:Nat) (v':Value),j≤l.length∧i = .int .i64 j∧Hid (ax wr PB v' (an bs (bR bm l j)))∧Hid (St PB v w v' wr)) (fun i _=>l.length - (RowKit.intOf i).toNat)
 case atStart=>exact ⟨0,v,Dm _,rfl,HP,St.refl _ _ _⟩
 case round =>
  obtain ⟨j,v1,hj,rfl,hP1,hS1⟩:=hrel;have hG1:Hid (GP wr PB):=HG.out.st hS1.out;by_cases hlt:j<l.length
  ·have hBj:=HB.out j hlt;obtain ⟨b1,o1,_,rfl,t1,ai,ci,rfl,kk⟩:=(HK.out.bJ bX hS1.out).get hlt;have hsj:=kB bm l j hlt;rw [hsj] at hBj;have HSJ:Hid (bR bm l (j+1)=_):=hsj;have hOk:=HOK.out _ (DC hlt);have hjz:(j:Int)<(l.length:Int):=by omega
   generalize l[j]=y at *;have Hb:Hid _:=hBj;have HOY:Hid _:=hOk;clear hBj hsj hOk;have z0:wr.cell? ⟨b1,o1+j*7,none⟩=some (.int .i64 y.k):=t1.2 0 _ rfl;have z1:wr.cell? ⟨b1,o1+j*7+1,none⟩=some (.int .i64 y.v.1):=t1.2 1 _ rfl;have z2:wr.cell? ⟨b1,o1+j*7+2,none⟩=some (.int .i64 y.v.2.1):=t1.2 2 _ rfl;have z3:wr.cell? ⟨b1,o1+j*7+3,none⟩=some (.string y.v.2.2):=t1.2 3 _ rfl;have z4:wr.cell? ⟨b1,o1+j*7+4,none⟩=some (.string y.aH):=t1.2 4 _ rfl;have z5:wr.cell? ⟨b1,o1+j*7+5,none⟩=some (.string y.name):=t1.2 5 _ rfl;have z6:wr.cell? ⟨b1,o1+j*7+6,none⟩=some (.slice ai y.ks.length ci):=t1.2 6 _ rfl
   have KK:Hid (aD (fun b=>b<PB) wr ai y.ks):=kk;clear kk;clear t1;have hal:=ab wr (.cells (aT y ai ci) 55);go_upto_region 3 with fail
   have B0:Hid (Bx (wr.alloc (.cells (aT y ai ci) 55)) PB v1 wr.heap.size (aT y ai ci) 55):=Bx.new hP1.out (aT y ai ci) 55;have P0:Hid (ax (wr.alloc (.cells (aT y ai ci) 55)) PB v1 (an bs (bR bm l j))):=hP1.out.next hal;have S0:Hid (St PB v w v1 (wr.alloc (.cells (aT y ai ci) 55))):=hS1.out.trans (St.of hal hP1.out.lt);have G0:Hid (GP (wr.alloc (.cells (aT y ai ci) 55)) PB):=hG1.out.nx hal hP1.out.lt;have L00:Hid (aD (fun b=>b<PB) (wr.alloc (.cells (aT y ai ci) 55)) ai y.ks):=aD.next hal KK.out;clear KK;clear hP1 hS1 hG1 hal z0 z1 z2 z3 z4 z5 z6
   generalize (wr.alloc (.cells (aT y ai ci) 55))=w0 at *;by_cases hj0:j=0
   ·rw [if_pos hj0] at Hb HSJ;subst hj0;have con1:Calls Tryz.prog 86 #[.pointer (some ⟨PB,0,none⟩),.bool false,.string ⟨#[44]⟩] w0 (aC w0 PB v1 (an (an bs (bR bm l 0)) ([]))):=dd false ⟨#[44]⟩ P0.out (by rw [← ak]; exact cH (Hb.out));go_wp2_with fail
    refine con1.mono ?_;rintro e w2 ⟨rfl,v3,P_,S_⟩;have P4:Hid (ax w2 PB v3 (an bs (bR bm l 0 ++ []))):=by show ax _ _ _ _; rw [ak]; exact P_
    have S5:Hid (St PB v w v3 w2):=S0.out.trans S_;have G6:Hid (GP w2 PB):=G0.out.st S_;have B7:Hid (Bx w2 PB v3 (wr.heap.size) (aT y ai ci) 55):=B0.out.st S_;have L8:Hid (aD (fun b=>b<PB) w2 ai y.ks):=aD.bJ L00.out S_;clear con1 P_ S_  P0 S0 G0 B0 L00;have f9:w2.cell? ⟨wr.heap.size,0,none⟩=some (.int .i64 y.k):=B7.out.c 0 rfl;have f10:w2.cell? ⟨wr.heap.size,1,none⟩=some (.int .i64 y.v.1):=B7.out.c 1 rfl;have f11:w2.cell? ⟨wr.heap.size,2,none⟩=some (.int .i64 y.v.2.1):=B7.out.c 2 rfl;have f12:w2.cell? ⟨wr.heap.size,3,none⟩=some (.string y.v.2.2):=B7.out.c 3 rfl
    have f13:w2.cell? ⟨wr.heap.size,4,none⟩=some (.string y.aH):=B7.out.c 4 rfl;have f14:w2.cell? ⟨wr.heap.size,5,none⟩=some (.string y.name):=B7.out.c 5 rfl;have f15:w2.cell? ⟨wr.heap.size,6,none⟩=some (.slice ai y.ks.length ci):=B7.out.c 6 rfl;have con16:Calls Tryz.prog 92 #[.pointer (some ⟨PB,0,none⟩),.agg (aT y ai ci)] w2 (aC w2 PB v3 (an (an bs (bR bm l 0 ++ [])) (bm y))):=ku HOY.out ai ci (G6.out) (P4.out) L8.out (by rw [← ak]; exact Hb.out);go_wp2_with fail
    refine con16.mono ?_;rintro e w17 ⟨rfl,v18,P_,S_⟩;have P19:Hid (ax w17 PB v18 (an bs (bR bm l 0 ++ [] ++ bm y))):=by show ax _ _ _ _; rw [ak]; exact P_
    have S20:Hid (St PB v w v18 w17):=S5.out.trans S_;have G21:Hid (GP w17 PB):=G6.out.st S_;have B22:Hid (Bx w17 PB v18 (wr.heap.size) (aT y ai ci) 55):=B7.out.st S_;have L23:Hid (aD (fun b=>b<PB) w17 ai y.ks):=aD.bJ L8.out S_;clear con16 P_ S_ f9 f10 f11 f12 f13 f14 f15 P4 S5 G6 B7 L8;have PZ:Hid (ax w17 PB v18 (an bs (bR bm l (0+1)))):=by show ax _ _ _ _; rw [HSJ.out]; exact P19.out
    clear P19;go_wp2_with fail
    go_roundw
    case rel=>exact ⟨0+1,v18,by omega,by go_num,PZ,S20⟩
    case measure=>simp [RowKit.intOf]; omega
   ·rw [if_neg hj0] at Hb HSJ;have hz:decide (0<j)=true:=by simp; omega
    have con24:Calls Tryz.prog 86 #[.pointer (some ⟨PB,0,none⟩),.bool true,.string ⟨#[44]⟩] w0 (aC w0 PB v1 (an (an bs (bR bm l j)) ([⟨#[44]⟩]))):=dd true ⟨#[44]⟩ P0.out (by rw [← ak]; exact cH (Hb.out));go_wp2_with fail
    refine con24.mono ?_;rintro e w25 ⟨rfl,v26,P_,S_⟩;have P27:Hid (ax w25 PB v26 (an bs (bR bm l j ++ [⟨#[44]⟩]))):=by show ax _ _ _ _; rw [ak]; exact P_
    have S28:Hid (St PB v w v26 w25):=S0.out.trans S_;have G29:Hid (GP w25 PB):=G0.out.st S_;have B30:Hid (Bx w25 PB v26 (wr.heap.size) (aT y ai ci) 55):=B0.out.st S_;have L31:Hid (aD (fun b=>b<PB) w25 ai y.ks):=aD.bJ L00.out S_;clear con24 P_ S_  P0 S0 G0 B0 L00;have f32:w25.cell? ⟨wr.heap.size,0,none⟩=some (.int .i64 y.k):=B30.out.c 0 rfl;have f33:w25.cell? ⟨wr.heap.size,1,none⟩=some (.int .i64 y.v.1):=B30.out.c 1 rfl;have f34:w25.cell? ⟨wr.heap.size,2,none⟩=some (.int .i64 y.v.2.1):=B30.out.c 2 rfl;have f35:w25.cell? ⟨wr.heap.size,3,none⟩=some (.string y.v.2.2):=B30.out.c 3 rfl
    have f36:w25.cell? ⟨wr.heap.size,4,none⟩=some (.string y.aH):=B30.out.c 4 rfl;have f37:w25.cell? ⟨wr.heap.size,5,none⟩=some (.string y.name):=B30.out.c 5 rfl;have f38:w25.cell? ⟨wr.heap.size,6,none⟩=some (.slice ai y.ks.length ci):=B30.out.c 6 rfl;have con39:Calls Tryz.prog 92 #[.pointer (some ⟨PB,0,none⟩),.agg (aT y ai ci)] w25 (aC w25 PB v26 (an (an bs (bR bm l j ++ [⟨#[44]⟩])) (bm y))):=ku HOY.out ai ci (G29.out) (P27.out) L31.out (by rw [← ak]; exact Hb.out);go_wp2_with fail
    refine con39.mono ?_;rintro e w40 ⟨rfl,v41,P_,S_⟩;have P42:Hid (ax w40 PB v41 (an bs (bR bm l j ++ [⟨#[44]⟩] ++ bm y))):=by show ax _ _ _ _; rw [ak]; exact P_
    have S43:Hid (St PB v w v41 w40):=S28.out.trans S_;have G44:Hid (GP w40 PB):=G29.out.st S_;have B45:Hid (Bx w40 PB v41 (wr.heap.size) (aT y ai ci) 55):=B30.out.st S_;have L46:Hid (aD (fun b=>b<PB) w40 ai y.ks):=aD.bJ L31.out S_;clear con39 P_ S_ f32 f33 f34 f35 f36 f37 f38 P27 S28 G29 B30 L31;have PZ:Hid (ax w40 PB v41 (an bs (bR bm l (j+1)))):=by show ax _ _ _ _; rw [HSJ.out]; exact P42.out
    clear P42;go_wp2_with fail
    go_roundw
    case rel=>exact ⟨j+1,v41,by omega,by go_num,PZ,S43⟩
    case measure=>simp [RowKit.intOf]; omega
  ·have ej:j=l.length:=by omega
   subst ej;go_wp2_with fail
   go_end0
   exact ⟨rfl,v1,hP1.out,hS1.out⟩
theorem rK (l:List kQ) (hl:l.length≤1000) (hok:∀ x ∈ l,lN x.1) (a:Option Addr) (c:Nat) {PB:Nat} {v:Value} {bs:List UInt8} {w:World} (hG:GP w PB) (hP:ax w PB v bs) (hk:aI fy 8 (fun b=>b<PB) w a l) (hb:(an bs (cr eR l)).length≤fW):Calls Tryz.prog 117 #[.pointer (some ⟨PB,0,none⟩),.slice a l.length c,.func (.func 118) #[.pointer (some ⟨PB,0,none⟩)] #[]] w (aC w PB v (an bs (cr eR l))):=by
 have HOK:Hid _:=hok;have HG:Hid (GP w PB):=hG;have HP:Hid (ax w PB v bs):=hP;have HK:Hid (aI fy 8 (fun b=>b<PB) w a l):=hk;have HB:Hid (∀ j,j<l.length→(an bs (bR eR l (j+1))).length≤fW):=fun j hj=>Dt (jA bs eR l (j+1) l.length hj) hb
 clear hG hP hk hb hok;go_enter Tryz.func117,Tryz.ntmps117;go_wp2_with fail
 go_loopw [10] (fun i wr=>∃ (j:Nat) (v':Value),j≤l.length∧i = .int .i64 j∧Hid (ax wr PB v' (an bs (bR eR l j)))∧Hid (St PB v w v' wr)) (fun i _=>l.length - (RowKit.intOf i).toNat)
 case atStart=>exact ⟨0,v,Dm _,rfl,HP,St.refl _ _ _⟩
 case round =>
  obtain ⟨j,v1,hj,rfl,hP1,hS1⟩:=hrel;have hG1:Hid (GP wr PB):=HG.out.st hS1.out;by_cases hlt:j<l.length
  ·have hBj:=HB.out j hlt;obtain ⟨b1,o1,_,rfl,t1,ai,ci,rfl,kk⟩:=(HK.out.bJ gh hS1.out).get hlt;have hsj:=kB eR l j hlt;rw [hsj] at hBj;have HSJ:Hid (bR eR l (j+1)=_):=hsj;have hOk:=HOK.out _ (DC hlt);have hjz:(j:Int)<(l.length:Int):=by omega
   generalize l[j]=y at *;have Hb:Hid _:=hBj;have HOY:Hid _:=hOk;clear hBj hsj hOk;have z0:wr.cell? ⟨b1,o1+j*8,none⟩=some (.int .i64 y.1.k):=t1.2 0 _ rfl;have z1:wr.cell? ⟨b1,o1+j*8+1,none⟩=some (.int .i64 y.1.v.1):=t1.2 1 _ rfl;have z2:wr.cell? ⟨b1,o1+j*8+2,none⟩=some (.int .i64 y.1.v.2.1):=t1.2 2 _ rfl;have z3:wr.cell? ⟨b1,o1+j*8+3,none⟩=some (.string y.1.v.2.2):=t1.2 3 _ rfl;have z4:wr.cell? ⟨b1,o1+j*8+4,none⟩=some (.string y.1.aH):=t1.2 4 _ rfl;have z5:wr.cell? ⟨b1,o1+j*8+5,none⟩=some (.string y.1.name):=t1.2 5 _ rfl
   have z6:wr.cell? ⟨b1,o1+j*8+6,none⟩=some (.slice ai y.1.ks.length ci):=t1.2 6 _ rfl;have z7:wr.cell? ⟨b1,o1+j*8+7,none⟩=some (.string y.2):=t1.2 7 _ rfl;have KK:Hid (aD (fun b=>b<PB) wr ai y.1.ks):=kk;clear kk;clear t1;have hal:=ab wr (.cells #[.int .i64 y.1.k,.int .i64 y.1.v.1,.int .i64 y.1.v.2.1,.string y.1.v.2.2,.string y.1.aH,.string y.1.name,.slice ai y.1.ks.length ci,.string y.2] 75);go_upto_region 3 with fail
   have B0:Hid (Bx (wr.alloc (.cells #[.int .i64 y.1.k,.int .i64 y.1.v.1,.int .i64 y.1.v.2.1,.string y.1.v.2.2,.string y.1.aH,.string y.1.name,.slice ai y.1.ks.length ci,.string y.2] 75)) PB v1 wr.heap.size #[.int .i64 y.1.k,.int .i64 y.1.v.1,.int .i64 y.1.v.2.1,.string y.1.v.2.2,.string y.1.aH,.string y.1.name,.slice ai y.1.ks.length ci,.string y.2] 75):=Bx.new hP1.out #[.int .i64 y.1.k,.int .i64 y.1.v.1,.int .i64 y.1.v.2.1,.string y.1.v.2.2,.string y.1.aH,.string y.1.name,.slice ai y.1.ks.length ci,.string y.2] 75
   have P0:Hid (ax (wr.alloc (.cells #[.int .i64 y.1.k,.int .i64 y.1.v.1,.int .i64 y.1.v.2.1,.string y.1.v.2.2,.string y.1.aH,.string y.1.name,.slice ai y.1.ks.length ci,.string y.2] 75)) PB v1 (an bs (bR eR l j))):=hP1.out.next hal;have S0:Hid (St PB v w v1 (wr.alloc (.cells #[.int .i64 y.1.k,.int .i64 y.1.v.1,.int .i64 y.1.v.2.1,.string y.1.v.2.2,.string y.1.aH,.string y.1.name,.slice ai y.1.ks.length ci,.string y.2] 75))):=hS1.out.trans (St.of hal hP1.out.lt)
   have G0:Hid (GP (wr.alloc (.cells #[.int .i64 y.1.k,.int .i64 y.1.v.1,.int .i64 y.1.v.2.1,.string y.1.v.2.2,.string y.1.aH,.string y.1.name,.slice ai y.1.ks.length ci,.string y.2] 75)) PB):=hG1.out.nx hal hP1.out.lt;have L00:Hid (aD (fun b=>b<PB) (wr.alloc (.cells #[.int .i64 y.1.k,.int .i64 y.1.v.1,.int .i64 y.1.v.2.1,.string y.1.v.2.2,.string y.1.aH,.string y.1.name,.slice ai y.1.ks.length ci,.string y.2] 75)) ai y.1.ks):=aD.next hal KK.out;clear KK;clear hP1 hS1 hG1 hal z0 z1 z2 z3 z4 z5 z6 z7
   generalize (wr.alloc (.cells #[.int .i64 y.1.k,.int .i64 y.1.v.1,.int .i64 y.1.v.2.1,.string y.1.v.2.2,.string y.1.aH,.string y.1.name,.slice ai y.1.ks.length ci,.string y.2] 75))=w0 at *;by_cases hj0:j=0
   ·rw [if_pos hj0] at Hb HSJ;subst hj0;have con1:Calls Tryz.prog 86 #[.pointer (some ⟨PB,0,none⟩),.bool false,.string ⟨#[44]⟩] w0 (aC w0 PB v1 (an (an bs (bR eR l 0)) ([]))):=dd false ⟨#[44]⟩ P0.out (by rw [← ak]; exact cH (Hb.out));go_wp2_with fail
    refine con1.mono ?_;rintro e w2 ⟨rfl,v3,P_,S_⟩;have P4:Hid (ax w2 PB v3 (an bs (bR eR l 0 ++ []))):=by show ax _ _ _ _; rw [ak]; exact P_
    have S5:Hid (St PB v w v3 w2):=S0.out.trans S_;have G6:Hid (GP w2 PB):=G0.out.st S_;have B7:Hid (Bx w2 PB v3 (wr.heap.size) #[.int .i64 y.1.k,.int .i64 y.1.v.1,.int .i64 y.1.v.2.1,.string y.1.v.2.2,.string y.1.aH,.string y.1.name,.slice ai y.1.ks.length ci,.string y.2] 75):=B0.out.st S_;have L8:Hid (aD (fun b=>b<PB) w2 ai y.1.ks):=aD.bJ L00.out S_;clear con1 P_ S_  P0 S0 G0 B0 L00;have f9:w2.cell? ⟨wr.heap.size,0,none⟩=some (.int .i64 y.1.k):=B7.out.c 0 rfl;have f10:w2.cell? ⟨wr.heap.size,1,none⟩=some (.int .i64 y.1.v.1):=B7.out.c 1 rfl
    have f11:w2.cell? ⟨wr.heap.size,2,none⟩=some (.int .i64 y.1.v.2.1):=B7.out.c 2 rfl;have f12:w2.cell? ⟨wr.heap.size,3,none⟩=some (.string y.1.v.2.2):=B7.out.c 3 rfl;have f13:w2.cell? ⟨wr.heap.size,4,none⟩=some (.string y.1.aH):=B7.out.c 4 rfl;have f14:w2.cell? ⟨wr.heap.size,5,none⟩=some (.string y.1.name):=B7.out.c 5 rfl;have f15:w2.cell? ⟨wr.heap.size,6,none⟩=some (.slice ai y.1.ks.length ci):=B7.out.c 6 rfl;have f16:w2.cell? ⟨wr.heap.size,7,none⟩=some (.string y.2):=B7.out.c 7 rfl
    have con17:Calls Tryz.prog 118 #[.pointer (some ⟨PB,0,none⟩),.agg #[.int .i64 y.1.k,.int .i64 y.1.v.1,.int .i64 y.1.v.2.1,.string y.1.v.2.2,.string y.1.aH,.string y.1.name,.slice ai y.1.ks.length ci,.string y.2]] w2 (aC w2 PB v3 (an (an bs (bR eR l 0 ++ [])) (eR y))):=qd y HOY.out ai ci (G6.out) (P4.out) L8.out (by rw [← ak]; exact Hb.out);go_wp2_with fail
    refine con17.mono ?_;rintro e w18 ⟨rfl,v19,P_,S_⟩;have P20:Hid (ax w18 PB v19 (an bs (bR eR l 0 ++ [] ++ eR y))):=by show ax _ _ _ _; rw [ak]; exact P_
    have S21:Hid (St PB v w v19 w18):=S5.out.trans S_;have G22:Hid (GP w18 PB):=G6.out.st S_;have B23:Hid (Bx w18 PB v19 (wr.heap.size) #[.int .i64 y.1.k,.int .i64 y.1.v.1,.int .i64 y.1.v.2.1,.string y.1.v.2.2,.string y.1.aH,.string y.1.name,.slice ai y.1.ks.length ci,.string y.2] 75):=B7.out.st S_;have L24:Hid (aD (fun b=>b<PB) w18 ai y.1.ks):=aD.bJ L8.out S_;clear con17 P_ S_ f9 f10 f11 f12 f13 f14 f15 f16 P4 S5 G6 B7 L8;have PZ:Hid (ax w18 PB v19 (an bs (bR eR l (0+1)))):=by show ax _ _ _ _; rw [HSJ.out]; exact P20.out
    clear P20;go_wp2_with fail
    go_roundw
    case rel=>exact ⟨0+1,v19,by omega,by go_num,PZ,S21⟩
    case measure=>simp [RowKit.intOf]; omega
   ·rw [if_neg hj0] at Hb HSJ;have hz:decide (0<j)=true:=by simp; omega
    have con25:Calls Tryz.prog 86 #[.pointer (some ⟨PB,0,none⟩),.bool true,.string ⟨#[44]⟩] w0 (aC w0 PB v1 (an (an bs (bR eR l j)) ([⟨#[44]⟩]))):=dd true ⟨#[44]⟩ P0.out (by rw [← ak]; exact cH (Hb.out));go_wp2_with fail
    refine con25.mono ?_;rintro e w26 ⟨rfl,v27,P_,S_⟩;have P28:Hid (ax w26 PB v27 (an bs (bR eR l j ++ [⟨#[44]⟩]))):=by show ax _ _ _ _; rw [ak]; exact P_
    have S29:Hid (St PB v w v27 w26):=S0.out.trans S_;have G30:Hid (GP w26 PB):=G0.out.st S_;have B31:Hid (Bx w26 PB v27 (wr.heap.size) #[.int .i64 y.1.k,.int .i64 y.1.v.1,.int .i64 y.1.v.2.1,.string y.1.v.2.2,.string y.1.aH,.string y.1.name,.slice ai y.1.ks.length ci,.string y.2] 75):=B0.out.st S_;have L32:Hid (aD (fun b=>b<PB) w26 ai y.1.ks):=aD.bJ L00.out S_;clear con25 P_ S_  P0 S0 G0 B0 L00;have f33:w26.cell? ⟨wr.heap.size,0,none⟩=some (.int .i64 y.1.k):=B31.out.c 0 rfl;have f34:w26.cell? ⟨wr.heap.size,1,none⟩=some (.int .i64 y.1.v.1):=B31.out.c 1 rfl
    have f35:w26.cell? ⟨wr.heap.size,2,none⟩=some (.int .i64 y.1.v.2.1):=B31.out.c 2 rfl;have f36:w26.cell? ⟨wr.heap.size,3,none⟩=some (.string y.1.v.2.2):=B31.out.c 3 rfl;have f37:w26.cell? ⟨wr.heap.size,4,none⟩=some (.string y.1.aH):=B31.out.c 4 rfl;have f38:w26.cell? ⟨wr.heap.size,5,none⟩=some (.string y.1.name):=B31.out.c 5 rfl;have f39:w26.cell? ⟨wr.heap.size,6,none⟩=some (.slice ai y.1.ks.length ci):=B31.out.c 6 rfl;have f40:w26.cell? ⟨wr.heap.size,7,none⟩=some (.string y.2):=B31.out.c 7 rfl
    have con41:Calls Tryz.prog 118 #[.pointer (some ⟨PB,0,none⟩),.agg #[.int .i64 y.1.k,.int .i64 y.1.v.1,.int .i64 y.1.v.2.1,.string y.1.v.2.2,.string y.1.aH,.string y.1.name,.slice ai y.1.ks.length ci,.string y.2]] w26 (aC w26 PB v27 (an (an bs (bR eR l j ++ [⟨#[44]⟩])) (eR y))):=qd y HOY.out ai ci (G30.out) (P28.out) L32.out (by rw [← ak]; exact Hb.out);go_wp2_with fail
    refine con41.mono ?_;rintro e w42 ⟨rfl,v43,P_,S_⟩;have P44:Hid (ax w42 PB v43 (an bs (bR eR l j ++ [⟨#[44]⟩] ++ eR y))):=by show ax _ _ _ _; rw [ak]; exact P_
    have S45:Hid (St PB v w v43 w42):=S29.out.trans S_;have G46:Hid (GP w42 PB):=G30.out.st S_;have B47:Hid (Bx w42 PB v43 (wr.heap.size) #[.int .i64 y.1.k,.int .i64 y.1.v.1,.int .i64 y.1.v.2.1,.string y.1.v.2.2,.string y.1.aH,.string y.1.name,.slice ai y.1.ks.length ci,.string y.2] 75):=B31.out.st S_;have L48:Hid (aD (fun b=>b<PB) w42 ai y.1.ks):=aD.bJ L32.out S_;clear con41 P_ S_ f33 f34 f35 f36 f37 f38 f39 f40 P28 S29 G30 B31 L32;have PZ:Hid (ax w42 PB v43 (an bs (bR eR l (j+1)))):=by show ax _ _ _ _; rw [HSJ.out]; exact P44.out
    clear P44;go_wp2_with fail
    go_roundw
    case rel=>exact ⟨j+1,v43,by omega,by go_num,PZ,S45⟩
    case measure=>simp [RowKit.intOf]; omega
  ·have ej:j=l.length:=by omega
   subst ej;go_wp2_with fail
   go_end0
   exact ⟨rfl,v1,hP1.out,hS1.out⟩
end Go.Proofs.YtoknmnngaackkaaGreatDoor
