/- Together: G8, NK, NL, L1, LQ, LP, NE, J11, J12. -/
import Derived.Laws.StructEq
import Derived.Test.YtoefpglknaiaeaaGreatE5
import Derived.Test.YtoefpglknaiaeaaGreatE6
import Derived.Test.YtoefpglknaiaeaaGreatE2
import Derived.Test.YtoefpglknaiaeaaGreatE3
/- All are counted: plain facts. -/
namespace Go.Proofs.YtoefpglknaiaeaaGreat
open Go.RowKit

/-- The number at a place, as far as its kind has one. -/
def numAt (k:Nat) (r:List Vl):Int:=((bareL r).getD k vl0).2.1
structure CntOk (xs:List Ex) (z t:List Zp):Prop where
 len:t.length≤401
 row:∀ y ∈ t,y.2=1∧y.1.length=xs.length+1∧0≤numAt xs.length y.1∧numAt xs.length y.1≤400000000
 num:∀ y ∈ t,(y.1.getD xs.length vl0).2.1=numAt xs.length y.1
 sum:tot (numAt xs.length) t=posW z
 one:xs.length=0→t.length=1
end Go.Proofs.YtoefpglknaiaeaaGreat
/- What a plan comes to is a set of its columns: plain facts. -/
namespace Go.Proofs.YtoefpglknaiaeaaGreat
open Go.RowKit

/-- A set of such columns. -/
structure ZOk (cols:List Int) (z:List Zp):Prop where
 set:IsSet z
 inp:InpOk cols z
theorem bothE_inv {t:Int} {a b:List Zp} (h:bothE t a b=0):wrongZ a=0∧wrongZ b=0∧gatherE (a ++ weighL (timesF t) b)=0∧bothZ t a b=canon (a ++ weighL (timesF t) b):=by
 have e:bothZ t a b=canon (a ++ weighL (timesF t) b):=by unfold bothZ; rw [if_pos h]
 unfold bothE at h
 by_cases h1:wrongZ a=0
 ·rw [if_pos h1] at h
  by_cases h2:wrongZ b=0
  ·rw [if_pos h2] at h
   exact ⟨h1,h2,h,e⟩
  ·rw [if_neg h2] at h; exact absurd h h2
 ·rw [if_neg h1] at h; exact absurd h h1
theorem ev_inv {ts:List (List Int)} {data:List (List Zp)} {p:Pl} (h:evE ts data p=0):lookE ts p=0∧dataE ts data=0∧(evalQ ts data p).1=0∧evZ ts data p=(evalQ ts data p).2:=by
 by_cases c:lookE ts p=0
 ·by_cases c':dataE ts data=0
  ·obtain ⟨e1,e2⟩:=evE_own (p:=p) c c'
   exact ⟨c,c',e1 ▸ h,e2⟩
  ·rw [(evE_data c c').1] at h; exact absurd h c'
 ·rw [(evE_look c).1] at h; exact absurd h c
end Go.Proofs.YtoefpglknaiaeaaGreat
/- Plain facts of what plans come to: sums, differences, tables that are the same. -/
namespace Go.Proofs.YtoefpglknaiaeaaGreat
open Go.RowKit

theorem times_wt {t:Int} {q:List Zp} (h:wrongZ q=0) (k:List Vl):wt (weighL (timesF t) q) k=t*wt q k:=by
 rw [weighL_wt (timesF t) (by simp [timesF]) k q ((wrongZ_iff q).1 h).2.2]
 rfl
theorem both_inv {t:Int} {p q:List Zp} (h:bothE t p q=0):wrongZ p=0∧wrongZ q=0∧IsSet (bothZ t p q)∧wrongZ (bothZ t p q)=0∧∀ k,wt (bothZ t p q) k=wt p k+t*wt q k:=by
 obtain ⟨h1,h2,h3,e⟩:=bothE_inv h
 rw [e]
 refine ⟨h1,h2,canon_set _,wrong_canon (fun y hy=>?_) h3,fun k=>?_⟩
 ·rcases List.mem_append.1 hy with hy | hy
  ·exact (((wrongZ_iff p).1 h1).2.1 y hy).1
  ·obtain ⟨x,hx,rfl,_⟩:=weighL_mem _ _ y hy
   exact (wrongRow_bare _).2 (((wrongZ_iff q).1 h2).2.1 x hx).1
 ·rw [canon_wt,wt_append,times_wt h2]
/-- What two right sets make, once it is known. -/
theorem both_of {t:Int} {p q r:List Zp} (hp:wrongZ p=0) (hq:wrongZ q=0) (hs:IsSet r) (hr:wrongZ r=0) (e:∀ k,wt r k=wt p k+t*wt q k):bothE t p q=0∧bothZ t p q=r:=by
 have er:r=canon (p ++ weighL (timesF t) q):=canon_of hs fun k=>by rw [e,wt_append,times_wt hq]
 obtain ⟨r1,r2,_⟩:=(wrongZ_iff r).1 hr
 have g:gatherE (p ++ weighL (timesF t) q)=0:=by
  unfold gatherE
  rw [← er,outW_ok (fun j hj=>(r2 _ (List.getElem_mem hj)).2.2),if_neg (by decide),if_neg (by omega)]
 have b:bothE t p q=0:=by unfold bothE; rw [if_pos hp,if_pos hq,g]
 exact ⟨b,by unfold bothZ; rw [if_pos b,← er]⟩
theorem ZOk.right {c:List Int} {z:List Zp} (h:ZOk c z):wrongZ z=0:=h.inp.set
theorem wrong_nil:wrongZ []=0:=by rfl
/-! ### tables that are the same -/
theorem gather_same {a b:List Zp} (h:canon a=canon b):gatherE a=gatherE b∧gatherZ a=gatherZ b:=by
 have e:gatherE a=gatherE b:=by unfold gatherE; rw [h]
 exact ⟨e,by unfold gatherZ; rw [e,h]⟩
/-- Tables of the same rows, but for what is not asked. -/
def SameT (S:Nat→Prop) (a b:List (List Zp)):Prop:=∀ i,S i→canon (a.getD i [])=canon (b.getD i [])
mutual
/-- The tables that a plan speaks of are among these. -/
def InT (S:Nat→Prop):Pl→Prop
 | .mk _ n _ _ _ ks=>(ks = []→S n.toNat)∧InTs S ks
def InTs (S:Nat→Prop):List Pl→Prop
 | []=>True
 | p :: r=>InT S p∧InTs S r
end
theorem InTs_mem {S:Nat→Prop}:∀ {l:List Pl},InTs S l↔∀ p ∈ l,InT S p
 | []=>by simp [InTs]
 | p :: r=>by rw [InTs,InTs_mem]; simp
theorem InT_all {S:Nat→Prop} (h:∀ n,S n):∀ p,InT S p:=Pl.ind fun k n x xs gs ks ih=>by
 rw [InT,InTs_mem]
 exact ⟨fun _=>h _,ih⟩
theorem nodeZ_congr {a b:List (List Zp)} {k n:Int} {x:Ex} {xs:List Ex} {gs:List Ag} {cs:List (List Int)} {zs:List (List Zp)} (hl:cs.length=zs.length) (h:cs = []→canon (a.getD n.toNat [])=canon (b.getD n.toNat [])):nodeZ a k n x xs gs cs zs=nodeZ b k n x xs gs cs zs:=by
 match cs,zs,hl with
 | [],[],_ =>
  obtain ⟨e1,e2⟩:=gather_same (h rfl)
  simp only [nodeZ]
  rw [e1,e2]
 | [_],[_],_=>rfl
 | _ :: _ :: _,_ :: _ :: _,_=>rfl
theorem evalQ_congr {ts:List (List Int)} {a b:List (List Zp)} {S:Nat→Prop} (h:SameT S a b):∀ p,InT S p→evalQ ts a p=evalQ ts b p :=
 Pl.ind fun k n x xs gs ks ih hI=>by
  rw [InT,InTs_mem] at hI
  have hs:∀ (l:List Pl),(∀ p ∈ l,evalQ ts a p=evalQ ts b p)→evalsQ ts a l=evalsQ ts b l:=by
   intro l
   induction l with
   | nil=>intro _; rw [evalsQ,evalsQ]
   | cons p r ih' =>
    intro hp
    rw [evalsQ,evalsQ,hp p (by simp),ih' fun q hq=>hp q (by simp [hq])]
  have e:=hs ks fun p hp=>ih p hp (hI.2 p hp)
  rw [evalQ,evalQ,e]
  by_cases c:(evalsQ ts b ks).1=0
  ·rw [if_neg (by simpa using c),if_neg (by simpa using c)]
   have hk:∀ (l:List Pl),(evalsQ ts b l).1=0→(evalsQ ts b l).2.length=l.length:=by
    intro l
    induction l with
    | nil=>intro _; rw [evalsQ]; rfl
    | cons p r ih' =>
     intro h0
     rw [evalsQ] at h0 ⊢
     by_cases c0:(evalQ ts b p).1=0
     ·rw [if_neg (by simpa using c0)] at h0 ⊢
      simp only [List.length_cons]
      rw [ih' h0]
     ·rw [if_pos c0] at h0; exact absurd h0 c0
   refine nodeZ_congr (by rw [colsPs_map,List.length_map,hk ks c]) fun hc=>h _ (hI.1 ?_)
   rw [colsPs_map] at hc
   exact List.map_eq_nil_iff.1 hc
  ·rw [if_pos c,if_pos c]
theorem evalQ_same {ts:List (List Int)} {a b:List (List Zp)} (h:∀ i:Nat,canon (a.getD i [])=canon (b.getD i [])) (p:Pl):evalQ ts a p=evalQ ts b p :=
 evalQ_congr (S:=fun _=>True) (fun i _=>h i) p (InT_all (fun _=>trivial) p)
/-! ### changed tables -/
theorem applE_all:∀ {l r:List (List Zp)},applE l r=0→∀ (i:Nat) (h:i<l.length) (h':i<r.length),bothE 1 l[i] r[i]=0
 | a :: l,b :: r,h,0,_,_=>by
  rw [applE] at h
  by_cases c:bothE 1 a b=0
  ·exact c
  ·rw [if_pos c] at h; exact absurd h c
 | a :: l,b :: r,h,i+1,h1,h2=>by
  rw [applE] at h
  by_cases c:bothE 1 a b=0
  ·rw [if_neg (by simp [c])] at h
   exact applE_all (l:=l) (r:=r) h i (by simpa using h1) (by simpa using h2)
  ·rw [if_pos c] at h; exact absurd h c
structure AppOk (data more now:List (List Zp)):Prop where
 len:more.length=data.length
 nlen:now.length=data.length
 err:∀ (i:Nat) (h:i<data.length) (h':i<more.length),bothE 1 data[i] more[i]=0
 get:∀ (i:Nat) (h:i<data.length) (h':i<more.length) (h'':i<now.length),now[i]=bothZ 1 data[i] more[i]
theorem apply_ok {data more:List (List Zp)} (h:applyE data more=0):AppOk data more (applyZ data more):=by
 have e:applyZ data more=applL data more:=by unfold applyZ; rw [if_pos h]
 unfold applyE at h
 by_cases c:data.length=more.length
 ·rw [if_neg (by simp [c])] at h
  rw [e]
  exact ⟨c.symm,applL_len c,applE_all h,fun i h1 h2 h3=>applL_get h1 h2 h3⟩
 ·rw [if_pos c] at h; cases h
theorem AppOk.wt {data more now:List (List Zp)} (h:AppOk data more now) (i:Nat) (k:List Vl):wt (now.getD i []) k=wt (data.getD i []) k+wt (more.getD i []) k:=by
 by_cases hi:i<data.length
 ·have h1:i<more.length:=by rw [h.len]; exact hi
  have h2:i<now.length:=by rw [h.nlen]; exact hi
  rw [List.getD_eq_getElem?_getD,List.getD_eq_getElem?_getD,List.getD_eq_getElem?_getD,List.getElem?_eq_getElem hi,List.getElem?_eq_getElem h1,List.getElem?_eq_getElem h2,Option.getD_some,Option.getD_some,Option.getD_some,h.get i hi h1 h2,(both_inv (h.err i hi h1)).2.2.2.2 k,Int.one_mul]
 ·have h1:¬ i<more.length:=by rw [h.len]; exact hi
  have h2:¬ i<now.length:=by rw [h.nlen]; exact hi
  rw [List.getD_eq_getElem?_getD,List.getD_eq_getElem?_getD,List.getD_eq_getElem?_getD,List.getElem?_eq_none (by omega),List.getElem?_eq_none (by omega),List.getElem?_eq_none (by omega)]
  rfl
theorem AppOk.set {data more now:List (List Zp)} (h:AppOk data more now) (i:Nat) (hi:i<now.length):IsSet now[i]:=by
 have h0:i<data.length:=by rw [← h.nlen]; exact hi
 have h1:i<more.length:=by rw [h.len]; exact h0
 rw [h.get i h0 h1 hi]
 exact (both_inv (h.err i h0 h1)).2.2.1
/-! ### how it changes -/
theorem data_nils {ts:List (List Int)} (hts:tabsE ts=0):dataE ts (List.replicate ts.length [])=0:=by
 have key:∀ l:List (List Int),(∀ c ∈ l,c.length≤8)→datasE l (List.replicate l.length [])=0:=by
  intro l
  induction l with
  | nil=>intro _; rfl
  | cons c r ih =>
   intro h
   have e:inpE c []=0:=(inpE_ok _ _).2 ⟨h c (by simp),wrong_nil,fun x hx=>by simp at hx⟩
   rw [List.length_cons,List.replicate_succ,datasE,if_neg (by simp [e])]
   exact ih fun d hd=>h d (by simp [hd])
 unfold dataE
 rw [if_neg (by simp)]
 exact key ts (tabs8 hts)
end Go.Proofs.YtoefpglknaiaeaaGreat
/- The statements' own small functions: num, col, alive, plus. -/
namespace Go.Proofs.YtoefpglknaiaeaaGreat
open Go.RowKit Go.Lib Go.Shelf

def zA:List Zp:=[([(3,1,⟨#[]⟩)],2),([(3,2,⟨#[]⟩)],1)]
def sA:List Zp:=[([(3,1,⟨#[]⟩)],4),([(3,2,⟨#[]⟩)],2)]
end Go.Proofs.YtoefpglknaiaeaaGreat
/- The statements' own small functions: table, on, alive. -/
namespace Go.Proofs.YtoefpglknaiaeaaGreat
open Go.RowKit Go.Lib Go.Shelf

def ex0:Ex:=.mk 0 vl0 0 []
def tabP (n:Int):Pl:=.mk 1 n ex0 [] [] []
def pw0:Pw:=⟨none,0,none,0,none,0,none,0⟩
theorem tabV (n:Int):plV (tabP n) pw0 = .agg #[.int .i64 1,.int .i64 n,.int .i64 0,.int .i64 0,.int .i64 0,.string ⟨#[]⟩,.int .i64 0,.slice none 0 0,.slice none 0 0,.slice none 0 0,.slice none 0 0]:=rfl
theorem tabB (B:Nat) (W:World) (n:Int):PlB B W (tabP n) pw0:=⟨.nil _,.nil _,.inl rfl,.nil _⟩
theorem tabOk {n:Int} (h:-9223372036854775808≤n∧n≤9223372036854775807):PlOk (tabP n):=.mk _ _ _ _ _ _ h (by simp) (by simp) (fun p hp=>by cases hp)
/-- One plan, two plans in a list. -/
theorem pl_one {B:Nat} (w:World) {p:Pl} {q:Pw} (hB:B≤w.heap.size) (h:PlB B w p q):PlAt (w.heap.size+1) (w.alloc (.cells #[.int .i64 p.k,.int .i64 p.n,.int .i64 p.x.k,.int .i64 p.x.v.1,.int .i64 p.x.v.2.1,.string p.x.v.2.2,.int .i64 p.x.c,.slice q.xa p.x.ks.length q.xc,.slice q.sa p.xs.length q.sc,.slice q.ga p.gs.length q.gc,.slice q.ka p.ks.length q.kc] 31)) (some ⟨w.heap.size,0,none⟩) [p]:=by
 have Q:=heap_new w #[.int .i64 p.k,.int .i64 p.n,.int .i64 p.x.k,.int .i64 p.x.v.1,.int .i64 p.x.v.2.1,.string p.x.v.2.2,.int .i64 p.x.c,.slice q.xa p.x.ks.length q.xc,.slice q.sa p.xs.length q.sc,.slice q.ga p.gs.length q.gc,.slice q.ka p.ks.length q.kc] 31
 have hb:Below w.heap.size w (w.alloc (.cells #[.int .i64 p.k,.int .i64 p.n,.int .i64 p.x.k,.int .i64 p.x.v.1,.int .i64 p.x.v.2.1,.string p.x.v.2.2,.int .i64 p.x.c,.slice q.xa p.x.ks.length q.xc,.slice q.sa p.xs.length q.sc,.slice q.ga p.gs.length q.gc,.slice q.ka p.ks.length q.kc] 31)):=(Below.refl _ _).alloc (Nat.le_refl _) _
 have h':=(h.next hb hB).up (show B≤w.heap.size+1 by omega)
 refine .some w.heap.size 0 [p] (fun _=>q) (by omega) ?_ ?_ ?_ ?_ ?_
 ·intro i hi
  match i,hi with
  | 0,_=>exact ⟨cell_of (i:=0) Q rfl,cell_of (i:=1) Q rfl,⟨cell_of (i:=2) Q rfl,cell_of (i:=3) Q rfl,cell_of (i:=4) Q rfl,cell_of (i:=5) Q rfl,cell_of (i:=6) Q rfl,cell_of (i:=7) Q rfl⟩,cell_of (i:=8) Q rfl,cell_of (i:=9) Q rfl,cell_of (i:=10) Q rfl⟩
 ·intro i hi
  match i,hi with
  | 0,_=>exact h'.x
 ·intro i hi
  match i,hi with
  | 0,_=>exact h'.xs
 ·intro i hi
  match i,hi with
  | 0,_=>exact h'.gs
 ·intro i hi
  match i,hi with
  | 0,_=>exact h'.ks
theorem pl_two {B:Nat} (w:World) {p p':Pl} {q q':Pw} (hB:B≤w.heap.size) (h:PlB B w p q) (k:PlB B w p' q'):PlAt (w.heap.size+1) (w.alloc (.cells #[.int .i64 p.k,.int .i64 p.n,.int .i64 p.x.k,.int .i64 p.x.v.1,.int .i64 p.x.v.2.1,.string p.x.v.2.2,.int .i64 p.x.c,.slice q.xa p.x.ks.length q.xc,.slice q.sa p.xs.length q.sc,.slice q.ga p.gs.length q.gc,.slice q.ka p.ks.length q.kc,.int .i64 p'.k,.int .i64 p'.n,.int .i64 p'.x.k,.int .i64 p'.x.v.1,.int .i64 p'.x.v.2.1,.string p'.x.v.2.2,.int .i64 p'.x.c,.slice q'.xa p'.x.ks.length q'.xc,.slice q'.sa p'.xs.length q'.sc,.slice q'.ga p'.gs.length q'.gc,.slice q'.ka p'.ks.length q'.kc] 31)) (some ⟨w.heap.size,0,none⟩) [p,p']:=by
 have Q:=heap_new w #[.int .i64 p.k,.int .i64 p.n,.int .i64 p.x.k,.int .i64 p.x.v.1,.int .i64 p.x.v.2.1,.string p.x.v.2.2,.int .i64 p.x.c,.slice q.xa p.x.ks.length q.xc,.slice q.sa p.xs.length q.sc,.slice q.ga p.gs.length q.gc,.slice q.ka p.ks.length q.kc,.int .i64 p'.k,.int .i64 p'.n,.int .i64 p'.x.k,.int .i64 p'.x.v.1,.int .i64 p'.x.v.2.1,.string p'.x.v.2.2,.int .i64 p'.x.c,.slice q'.xa p'.x.ks.length q'.xc,.slice q'.sa p'.xs.length q'.sc,.slice q'.ga p'.gs.length q'.gc,.slice q'.ka p'.ks.length q'.kc] 31
 have hb:Below w.heap.size w (w.alloc (.cells #[.int .i64 p.k,.int .i64 p.n,.int .i64 p.x.k,.int .i64 p.x.v.1,.int .i64 p.x.v.2.1,.string p.x.v.2.2,.int .i64 p.x.c,.slice q.xa p.x.ks.length q.xc,.slice q.sa p.xs.length q.sc,.slice q.ga p.gs.length q.gc,.slice q.ka p.ks.length q.kc,.int .i64 p'.k,.int .i64 p'.n,.int .i64 p'.x.k,.int .i64 p'.x.v.1,.int .i64 p'.x.v.2.1,.string p'.x.v.2.2,.int .i64 p'.x.c,.slice q'.xa p'.x.ks.length q'.xc,.slice q'.sa p'.xs.length q'.sc,.slice q'.ga p'.gs.length q'.gc,.slice q'.ka p'.ks.length q'.kc] 31)):=(Below.refl _ _).alloc (Nat.le_refl _) _
 have h':=(h.next hb hB).up (show B≤w.heap.size+1 by omega)
 have k':=(k.next hb hB).up (show B≤w.heap.size+1 by omega)
 refine .some w.heap.size 0 [p,p'] (fun i=>if i=0 then q else q') (by omega) ?_ ?_ ?_ ?_ ?_
 ·intro i hi
  match i,hi with
  | 0,_=>exact ⟨cell_of (i:=0) Q rfl,cell_of (i:=1) Q rfl,⟨cell_of (i:=2) Q rfl,cell_of (i:=3) Q rfl,cell_of (i:=4) Q rfl,cell_of (i:=5) Q rfl,cell_of (i:=6) Q rfl,cell_of (i:=7) Q rfl⟩,cell_of (i:=8) Q rfl,cell_of (i:=9) Q rfl,cell_of (i:=10) Q rfl⟩
  | 1,_=>exact ⟨cell_of (i:=11) Q rfl,cell_of (i:=12) Q rfl,⟨cell_of (i:=13) Q rfl,cell_of (i:=14) Q rfl,cell_of (i:=15) Q rfl,cell_of (i:=16) Q rfl,cell_of (i:=17) Q rfl,cell_of (i:=18) Q rfl⟩,cell_of (i:=19) Q rfl,cell_of (i:=20) Q rfl,cell_of (i:=21) Q rfl⟩
 ·intro i hi
  match i,hi with
  | 0,_=>exact h'.x
  | 1,_=>exact k'.x
 ·intro i hi
  match i,hi with
  | 0,_=>exact h'.xs
  | 1,_=>exact k'.xs
 ·intro i hi
  match i,hi with
  | 0,_=>exact h'.gs
  | 1,_=>exact k'.gs
 ·intro i hi
  match i,hi with
  | 0,_=>exact h'.ks
  | 1,_=>exact k'.ks
theorem tb_one {w:World} {a:Option Addr} {c:List Int} {cap:Nat} (h:IsAt w.heap.size w a c):TbAt (w.heap.size+1) (w.alloc (.cells #[.slice a c.length cap] 33)) (some ⟨w.heap.size,0,none⟩) [c]:=by
 have hb:Below w.heap.size w (w.alloc (.cells #[.slice a c.length cap] 33)):=(Below.refl _ _).alloc (Nat.le_refl _) _
 refine .inr ⟨w.heap.size,0,fun _=>a,fun _=>cap,rfl,by omega,fun i hi=>?_⟩
 match i,hi with
 | 0,_=>exact ⟨by simp,(h.next hb (Nat.le_refl _)).up (by omega)⟩
theorem dt_one {w:World} {a:Option Addr} {z:List Zp} {cap:Nat} (h:ZsAt w a z) (hn:a=none→cap=0):DtAt (w.alloc (.cells #[.slice a z.length cap] 38)) (some ⟨w.heap.size,0,none⟩) [z]:=by
 have hb:Below w.heap.size w (w.alloc (.cells #[.slice a z.length cap] 38)):=(Below.refl _ _).alloc (Nat.le_refl _) _
 refine .inr ⟨w.heap.size,0,fun _=>a,fun _=>cap,rfl,by simp,fun i hi=>?_⟩
 match i,hi with
 | 0,_=>exact ⟨by simp,h.next hb,hn⟩
theorem is_one (w:World) (n:Int):IsAt (w.heap.size+1) (w.alloc (.cells #[.int .i64 n] 3)) (some ⟨w.heap.size,0,none⟩) [n] :=
 ⟨by unfold maxLen; simp,.inr ⟨w.heap.size,0,rfl,by omega,fun i hi=>by
  match i,hi with
  | 0,_=>simp⟩⟩
theorem sl_one (w:World) (v:Vl):SlAt (w.alloc (.cells #[.int .i64 v.1,.int .i64 v.2.1,.string v.2.2] 24)) (some ⟨w.heap.size,0,none⟩) [v] :=
 ⟨by unfold maxLen; simp,.inr ⟨w.heap.size,0,rfl,fun i hi=>by
  match i,hi with
  | 0,_=>exact ⟨by simp,by simp,by simp⟩,by simp⟩⟩
theorem zs_one {w:World} {a:Option Addr} {r:List Vl} {cap:Nat} (h:SlAt w a r) (n:Int):ZsAt (w.alloc (.cells #[.slice a r.length cap,.int .i64 n] 47)) (some ⟨w.heap.size,0,none⟩) [(r,n)]:=by
 have hb:Below w.heap.size w (w.alloc (.cells #[.slice a r.length cap,.int .i64 n] 47)):=(Below.refl _ _).alloc (Nat.le_refl _) _
 refine ⟨by simp [maxLen],.inr ⟨w.heap.size,0,rfl,by simp,fun i hi=>?_⟩⟩
 match i,hi with
 | 0,_=>exact ⟨by simp,a,cap,by simp,h.next hb⟩
def TbX (w:World) (a:Option Addr) (ts:List (List Int)):Prop:=TbAt w.heap.size w a ts
theorem TbX.next {w w1:World} {a:Option Addr} {ts:List (List Int)} (h:TbX w a ts) (hb:Below w.heap.size w w1):TbX w1 a ts:=(TbAt.next h hb (Nat.le_refl _)).up hb.size
def PlX (w:World) (p:Pl) (q:Pw):Prop:=PlB w.heap.size w p q
theorem PlX.next {w w1:World} {p:Pl} {q:Pw} (h:PlX w p q) (hb:Below w.heap.size w w1):PlX w1 p q:=(PlB.next h hb (Nat.le_refl _)).up hb.size
def PsX (w:World) (a:Option Addr) (ks:List Pl):Prop:=PlAt w.heap.size w a ks
theorem PsX.next {w w1:World} {a:Option Addr} {ks:List Pl} (h:PsX w a ks) (hb:Below w.heap.size w w1):PsX w1 a ks:=(PlAt.next hb (Nat.le_refl _) h).up hb.size
def IX (w:World) (a:Option Addr) (l:List Int):Prop:=IsAt w.heap.size w a l
theorem IX.next {w w1:World} {a:Option Addr} {l:List Int} (h:IX w a l) (hb:Below w.heap.size w w1):IX w1 a l:=(IsAt.next h hb (Nat.le_refl _)).up hb.size
structure ElX (w:World) (b:Nat) (p:Pl) (q:Pw):Prop where
 el:Elv w b 0 p q
 lt:b<w.heap.size
theorem ElX.next {w w1:World} {b:Nat} {p:Pl} {q:Pw} (h:ElX w b p q) (hb:Below w.heap.size w w1):ElX w1 b p q:=⟨h.el.next hb h.lt,Nat.lt_of_lt_of_le h.lt hb.size⟩
theorem TbX.one {w:World} {a:Option Addr} {c:List Int} (cap:Nat) (h:IX w a c):TbX (w.alloc (.cells #[.slice a c.length cap] 33)) (some ⟨w.heap.size,0,none⟩) [c]:=by
 have:=tb_one (cap:=cap) h
 unfold TbX
 rwa [show (w.alloc (.cells #[.slice a c.length cap] 33)).heap.size=w.heap.size+1 by simp]
theorem IX.one (w:World) (n:Int):IX (w.alloc (.cells #[.int .i64 n] 3)) (some ⟨w.heap.size,0,none⟩) [n]:=by
 have:=is_one w n
 unfold IX
 rwa [show (w.alloc (.cells #[.int .i64 n] 3)).heap.size=w.heap.size+1 by simp]
theorem PsX.two (w:World) {p p':Pl} {q q':Pw} (h:PlX w p q) (k:PlX w p' q'):PsX (w.alloc (.cells #[.int .i64 p.k,.int .i64 p.n,.int .i64 p.x.k,.int .i64 p.x.v.1,.int .i64 p.x.v.2.1,.string p.x.v.2.2,.int .i64 p.x.c,.slice q.xa p.x.ks.length q.xc,.slice q.sa p.xs.length q.sc,.slice q.ga p.gs.length q.gc,.slice q.ka p.ks.length q.kc,.int .i64 p'.k,.int .i64 p'.n,.int .i64 p'.x.k,.int .i64 p'.x.v.1,.int .i64 p'.x.v.2.1,.string p'.x.v.2.2,.int .i64 p'.x.c,.slice q'.xa p'.x.ks.length q'.xc,.slice q'.sa p'.xs.length q'.sc,.slice q'.ga p'.gs.length q'.gc,.slice q'.ka p'.ks.length q'.kc] 31)) (some ⟨w.heap.size,0,none⟩) [p,p']:=by
 have:=pl_two w (Nat.le_refl _) h k
 unfold PsX
 rwa [show (w.alloc (.cells #[.int .i64 p.k,.int .i64 p.n,.int .i64 p.x.k,.int .i64 p.x.v.1,.int .i64 p.x.v.2.1,.string p.x.v.2.2,.int .i64 p.x.c,.slice q.xa p.x.ks.length q.xc,.slice q.sa p.xs.length q.sc,.slice q.ga p.gs.length q.gc,.slice q.ka p.ks.length q.kc,.int .i64 p'.k,.int .i64 p'.n,.int .i64 p'.x.k,.int .i64 p'.x.v.1,.int .i64 p'.x.v.2.1,.string p'.x.v.2.2,.int .i64 p'.x.c,.slice q'.xa p'.x.ks.length q'.xc,.slice q'.sa p'.xs.length q'.sc,.slice q'.ga p'.gs.length q'.gc,.slice q'.ka p'.ks.length q'.kc] 31)).heap.size=w.heap.size+1 by simp]
theorem PsX.one (w:World) {p:Pl} {q:Pw} (h:PlX w p q):PsX (w.alloc (.cells #[.int .i64 p.k,.int .i64 p.n,.int .i64 p.x.k,.int .i64 p.x.v.1,.int .i64 p.x.v.2.1,.string p.x.v.2.2,.int .i64 p.x.c,.slice q.xa p.x.ks.length q.xc,.slice q.sa p.xs.length q.sc,.slice q.ga p.gs.length q.gc,.slice q.ka p.ks.length q.kc] 31)) (some ⟨w.heap.size,0,none⟩) [p]:=by
 have:=pl_one w (Nat.le_refl _) h
 unfold PsX
 rwa [show (w.alloc (.cells #[.int .i64 p.k,.int .i64 p.n,.int .i64 p.x.k,.int .i64 p.x.v.1,.int .i64 p.x.v.2.1,.string p.x.v.2.2,.int .i64 p.x.c,.slice q.xa p.x.ks.length q.xc,.slice q.sa p.xs.length q.sc,.slice q.ga p.gs.length q.gc,.slice q.ka p.ks.length q.kc] 31)).heap.size=w.heap.size+1 by simp]
/-! ### plain -/
def zB (n:Int):List Zp:=[([(3,7,⟨#[]⟩)],n)]
theorem wrong_zB {n:Int} (h:n≠0) (h':inW n=true):wrongZ (zB n)=0:=by
 rw [wrongZ_iff]
 refine ⟨by simp [zB],?_,?_⟩
 ·intro x hx
  simp only [zB,List.mem_cons,List.not_mem_nil,or_false] at hx
  subst hx
  exact ⟨by rfl,h,h'⟩
 ·simp [Rise,zB]
theorem set_zB {n:Int} (h:n≠0):IsSet (zB n):=by
 refine ⟨by simp [Rise,zB],?_,?_⟩
 ·intro x hx
  simp only [zB,List.mem_cons,List.not_mem_nil,or_false] at hx
  subst hx
  exact h
 ·intro x hx
  simp only [zB,List.mem_cons,List.not_mem_nil,or_false] at hx
  subst hx
  rfl
theorem inp_zB {n:Int} (h:n≠0) (h':inW n=true):inpE [3] (zB n)=0:=by
 rw [inpE_ok]
 refine ⟨by decide,wrong_zB h h',?_⟩
 intro x hx
 simp only [zB,List.mem_cons,List.not_mem_nil,or_false] at hx
 subst hx
 exact (fitsL_ok _ _).1 (by rfl)
theorem gather_right {z:List Zp} (h:wrongZ z=0) (hs:IsSet z):gatherE z=0∧gatherZ z=z:=by
 have e:=canon_self hs
 obtain ⟨r1,r2,_⟩:=(wrongZ_iff z).1 h
 have g:gatherE z=0:=by
  unfold gatherE
  rw [e,outW_ok (fun j hj=>(r2 _ (List.getElem_mem hj)).2.2),if_neg (by decide),if_neg (by omega)]
 exact ⟨g,by unfold gatherZ; rw [if_pos g,e]⟩
theorem tabs_one:tabsE [[3]]=0:=by decide
theorem data_one {n:Int} (h:n≠0) (h':inW n=true):dataE [[3]] [zB n]=0:=by
 simp [dataE,datasE,inp_zB h h']
end Go.Proofs.YtoefpglknaiaeaaGreat
/- Small tables, plainly. -/
namespace Go.Proofs.YtoefpglknaiaeaaGreat
open Go.RowKit Go.Lib Go.Shelf

theorem nil_both {z:List Zp} (h:wrongZ z=0) (hs:IsSet z):bothE 1 [] z=0∧bothZ 1 [] z=z:=both_of wrong_nil h hs h fun k=>by simp [wt]
theorem data_nil1:dataE [[3]] [[]]=0:=data_nils (ts:=[[3]]) tabs_one
theorem apply_one:applyE [[]] [zB 2]=0∧applyZ [[]] [zB 2] = [zB 2]:=by
 have b:=nil_both (wrong_zB (n:=2) (by decide) (by decide)) (set_zB (by decide))
 have e:applyE [[]] [zB 2]=0:=by simp [applyE,applE,b.1]
 exact ⟨e,by unfold applyZ; rw [if_pos e]; simp [applL,b.2]⟩
end Go.Proofs.YtoefpglknaiaeaaGreat
/- query's ofOne. -/
namespace Go.Proofs.YtoefpglknaiaeaaGreat
open Go.RowKit Go.Lib Go.Shelf

set_option maxRecDepth 100000 in
set_option maxHeartbeats 8000000 in
theorem ofOne_at (ts:List (List Int)) (B lo:Nat) (p k0:Pl) (q:Pw) (ca:Option Addr) (n cc:Nat) (na:Option Addr) (nc:Nat) (z:List Zp) (za:Option Addr) (zc:Nat) (w:World) (hB:B≤w.heap.size) (hN:NsT ts B lo w na p.ks) (hp:PlB B w p q) (hk:PlOk p) (hks:p.ks = [k0]) (hz:ZsAt w za z) :
  Calls Tryz.prog 73 #[ndV p q ca n cc na nc,.slice za z.length zc] w fun e w'=>∃ v,e = .returned (.tuple #[v,.int .i64 (nodeZ [] p.k p.n p.x p.xs p.gs [colsP ts k0] [z]).1])∧OwnZ w.heap.size w' v (nodeZ [] p.k p.n p.x p.xs p.gs [colsP ts k0] [z]).2∧Below w.heap.size w w':=by
 have hl0:p.ks.length=1:=by rw [hks]; rfl
 rw [hks] at hN
 obtain ⟨b,off,q0,c1,cc1,n1,nc1,rfl,hbl,hbt,_,d11,_,ND⟩:=hN.elem (i:=0) (by simp)
 simp only [Nat.zero_mul,Nat.add_zero,List.getElem_cons_zero] at d11 ND
 have I1:=ND.cols
 have lz:0<p.ks.length:=by omega
 have hA:Below w.heap.size w (w.alloc (.cells #[.int .i64 p.k,.int .i64 p.n,.int .i64 p.x.k,.int .i64 p.x.v.1,.int .i64 p.x.v.2.1,.string p.x.v.2.2,.int .i64 p.x.c,.slice q.xa p.x.ks.length q.xc,.slice q.sa p.xs.length q.sc,.slice q.ga p.gs.length q.gc,.slice q.ka p.ks.length q.kc,.slice ca n cc,.slice (some ⟨b,off,none⟩) p.ks.length nc] 79)):=(Below.refl _ _).alloc (Nat.le_refl _) _
 have Q:=heap_new w #[.int .i64 p.k,.int .i64 p.n,.int .i64 p.x.k,.int .i64 p.x.v.1,.int .i64 p.x.v.2.1,.string p.x.v.2.2,.int .i64 p.x.c,.slice q.xa p.x.ks.length q.xc,.slice q.sa p.xs.length q.sc,.slice q.ga p.gs.length q.gc,.slice q.ka p.ks.length q.kc,.slice ca n cc,.slice (some ⟨b,off,none⟩) p.ks.length nc] 79
 have d11A:=(hA.cell (p:=⟨b,off+11,none⟩) hbl).trans d11
 generalize hR:nodeZ [] p.k p.n p.x p.xs p.gs [colsP ts k0] [z]=R
 have HR:Hid (nodeZ [] p.k p.n p.x p.xs p.gs [colsP ts k0] [z]=R):=hR
 have HK:Hid (PlOk p):=hk
 clear hR hk hN ND hks hl0
 obtain ⟨re,rz⟩:=R
 dsimp only
 unfold ndV
 go_enter Tryz.func73,Tryz.ntmps73
 go_wp2_with fail
 generalize w.alloc (.cells #[.int .i64 p.k,.int .i64 p.n,.int .i64 p.x.k,.int .i64 p.x.v.1,.int .i64 p.x.v.2.1,.string p.x.v.2.2,.int .i64 p.x.c,.slice q.xa p.x.ks.length q.xc,.slice q.sa p.xs.length q.sc,.slice q.ga p.gs.length q.gc,.slice q.ka p.ks.length q.kc,.slice ca n cc,.slice (some ⟨b,off,none⟩) p.ks.length nc] 79)=wA at *
 have x0:=cell_of (i:=0) Q rfl
 have x1:=cell_of (i:=1) Q rfl
 have x2:=cell_of (i:=2) Q rfl
 have x3:=cell_of (i:=3) Q rfl
 have x4:=cell_of (i:=4) Q rfl
 have x5:=cell_of (i:=5) Q rfl
 have x6:=cell_of (i:=6) Q rfl
 have x7:=cell_of (i:=7) Q rfl
 have x8:=cell_of (i:=8) Q rfl
 have x9:=cell_of (i:=9) Q rfl
 have x10:=cell_of (i:=10) Q rfl
 have x11:=cell_of (i:=11) Q rfl
 have x12:=cell_of (i:=12) Q rfl
 have lA:=lt_of_heap Q
 have lb:=Nat.lt_of_lt_of_le hbl hA.size
 go_region
 have hd:Below (wA.alloc (.cells #[.int .i64 p.k,.int .i64 p.n,.int .i64 p.x.k,.int .i64 p.x.v.1,.int .i64 p.x.v.2.1,.string p.x.v.2.2,.int .i64 p.x.c,.slice q.xa p.x.ks.length q.xc,.slice q.sa p.xs.length q.sc,.slice q.ga p.gs.length q.gc,.slice q.ka p.ks.length q.kc] 31)).heap.size (wA.alloc (.cells #[.int .i64 p.k,.int .i64 p.n,.int .i64 p.x.k,.int .i64 p.x.v.1,.int .i64 p.x.v.2.1,.string p.x.v.2.2,.int .i64 p.x.c,.slice q.xa p.x.ks.length q.xc,.slice q.sa p.xs.length q.sc,.slice q.ga p.gs.length q.gc,.slice q.ka p.ks.length q.kc] 31)) (wA.alloc (.cells #[.int .i64 p.k,.int .i64 p.n,.int .i64 p.x.k,.int .i64 p.x.v.1,.int .i64 p.x.v.2.1,.string p.x.v.2.2,.int .i64 p.x.c,.slice q.xa p.x.ks.length q.xc,.slice q.sa p.xs.length q.sc,.slice q.ga p.gs.length q.gc,.slice q.ka p.ks.length q.kc] 31)).drew:=(Below.refl _ _).drew
 have hal:Below wA.heap.size wA (wA.alloc (.cells #[.int .i64 p.k,.int .i64 p.n,.int .i64 p.x.k,.int .i64 p.x.v.1,.int .i64 p.x.v.2.1,.string p.x.v.2.2,.int .i64 p.x.c,.slice q.xa p.x.ks.length q.xc,.slice q.sa p.xs.length q.sc,.slice q.ga p.gs.length q.gc,.slice q.ka p.ks.length q.kc] 31)):=(Below.refl _ _).alloc (Nat.le_refl _) _
 have E0:=Elv.new wA p q 31
 have zA:wA.heap.size<(wA.alloc (.cells #[.int .i64 p.k,.int .i64 p.n,.int .i64 p.x.k,.int .i64 p.x.v.1,.int .i64 p.x.v.2.1,.string p.x.v.2.2,.int .i64 p.x.c,.slice q.xa p.x.ks.length q.xc,.slice q.sa p.xs.length q.sc,.slice q.ga p.gs.length q.gc,.slice q.ka p.ks.length q.kc] 31)).heap.size:=by simp
 have hAd:=chain hA (chain hal hd)
 have E1:=E0.next hd zA
 clear x0 x1 x2 x3 x4 x5 x6 x7 x8 x9 x10 x11 x12 Q d11A E0
 generalize (wA.alloc (.cells #[.int .i64 p.k,.int .i64 p.n,.int .i64 p.x.k,.int .i64 p.x.v.1,.int .i64 p.x.v.2.1,.string p.x.v.2.2,.int .i64 p.x.c,.slice q.xa p.x.ks.length q.xc,.slice q.sa p.xs.length q.sc,.slice q.ga p.gs.length q.gc,.slice q.ka p.ks.length q.kc] 31)).drew=wB at *
 have hpB:=(hp.next hAd hB).up (Nat.le_trans hB hAd.size)
 have hcB:=(I1.low hAd hB).at
 have hzB:=hz.next hAd
 obtain ⟨y0,y1,⟨y2,y3,y4,y5,y6,y7⟩,y8,y9,y10⟩:=E1
 simp only [Nat.zero_add] at y1 y2 y3 y4 y5 y6 y7 y8 y9 y10
 clear hd hal zA lA lb
 by_cases k2:p.k=2
 ·have kb:(p.k == 2)=true:=by simpa using k2
  have e1:re=filtE (colsP ts k0) p.x z:=by have h:=congrArg Prod.fst HR.out; simp [nodeZ,k2] at h; exact h.symm
  have e2:rz=filtZ (colsP ts k0) p.x z:=by have h:=congrArg Prod.snd HR.out; simp [nodeZ,k2] at h; exact h.symm
  have con:=filter_at (colsP ts k0) p.x c1 cc1 q.xa q.xc za zc z wB hcB hpB.x hzB
  rw [← e1,← e2] at con
  unfold exV at con
  clear e1 e2 HR k2
  go_wp2_with fail
  refine con.mono ?_
  rintro e w5 ⟨v5,rfl,O5,hb5⟩
  clear con y0 y1 y2 y3 y4 y5 y6 y7 y8 y9 y10
  have O5':=O5.mono hAd.size
  dsimp only
  go_wp2_with fail
  exact bodyPost_ret (v:=.tuple #[v5,.int .i64 re]) (by simp [results,Tryz.results73,go_sem]) rfl ⟨_,rfl,O5',chain hAd hb5⟩
 have b2:(p.k == 2)=false:=by rw [beq_eq_false_iff_ne]; exact k2
 by_cases k3:p.k=3
 ·have kb:(p.k == 3)=true:=by simpa using k3
  have e1:re=mapE (colsP ts k0) p.xs z:=by have h:=congrArg Prod.fst HR.out; simp [nodeZ,k3] at h; exact h.symm
  have e2:rz=mapZ (colsP ts k0) p.xs z:=by have h:=congrArg Prod.snd HR.out; simp [nodeZ,k3] at h; exact h.symm
  have con:=map_at (colsP ts k0) p.xs c1 cc1 q.sa q.sc za zc z wB hcB hpB.xs hzB
  rw [← e1,← e2] at con
  clear e1 e2 HR k2 k3
  go_wp2_with fail
  refine con.mono ?_
  rintro e w5 ⟨v5,rfl,O5,hb5⟩
  clear con y0 y1 y2 y3 y4 y5 y6 y7 y8 y9 y10
  have O5':=O5.mono hAd.size
  dsimp only
  go_wp2_with fail
  exact bodyPost_ret (v:=.tuple #[v5,.int .i64 re]) (by simp [results,Tryz.results73,go_sem]) rfl ⟨_,rfl,O5',chain hAd hb5⟩
 have b3:(p.k == 3)=false:=by rw [beq_eq_false_iff_ne]; exact k3
 by_cases k10:p.k=10
 ·have kb:(p.k == 10)=true:=by simpa using k10
  have e1:re=wrongZ z:=by have h:=congrArg Prod.fst HR.out; simp [nodeZ,k10] at h; exact h.symm
  have e2:rz=setZ posF z:=by have h:=congrArg Prod.snd HR.out; simp [nodeZ,k10] at h; exact h.symm
  have con:=positive_at za zc z wB hzB
  rw [← e1,← e2] at con
  clear e1 e2 HR k2 k3 k10
  go_wp2_with fail
  refine con.mono ?_
  rintro e w5 ⟨v5,rfl,O5,hb5⟩
  clear con y0 y1 y2 y3 y4 y5 y6 y7 y8 y9 y10
  have O5':=O5.mono hAd.size
  dsimp only
  go_wp2_with fail
  exact bodyPost_ret (v:=.tuple #[v5,.int .i64 re]) (by simp [results,Tryz.results73,go_sem]) rfl ⟨_,rfl,O5',chain hAd hb5⟩
 have b10:(p.k == 10)=false:=by rw [beq_eq_false_iff_ne]; exact k10
 by_cases k11:p.k=11
 ·have kb:(p.k == 11)=true:=by simpa using k11
  have e1:re=wrongZ z:=by have h:=congrArg Prod.fst HR.out; simp [nodeZ,k11] at h; exact h.symm
  have e2:rz=setZ oneF z:=by have h:=congrArg Prod.snd HR.out; simp [nodeZ,k11] at h; exact h.symm
  have con:=distinct_at za zc z wB hzB
  rw [← e1,← e2] at con
  clear e1 e2 HR k2 k3 k10 k11
  go_wp2_with fail
  refine con.mono ?_
  rintro e w5 ⟨v5,rfl,O5,hb5⟩
  clear con y0 y1 y2 y3 y4 y5 y6 y7 y8 y9 y10
  have O5':=O5.mono hAd.size
  dsimp only
  go_wp2_with fail
  exact bodyPost_ret (v:=.tuple #[v5,.int .i64 re]) (by simp [results,Tryz.results73,go_sem]) rfl ⟨_,rfl,O5',chain hAd hb5⟩
 have b11:(p.k == 11)=false:=by rw [beq_eq_false_iff_ne]; exact k11
 by_cases k12:p.k=12
 ·have kb:(p.k == 12)=true:=by simpa using k12
  have e1:re=groupE (colsP ts k0) p.xs p.gs z:=by have h:=congrArg Prod.fst HR.out; simp [nodeZ,k12] at h; exact h.symm
  have e2:rz=groupZ (colsP ts k0) p.xs p.gs z:=by have h:=congrArg Prod.snd HR.out; simp [nodeZ,k12] at h; exact h.symm
  have con:=group_at (colsP ts k0) p.xs p.gs (fun g _ _=>total_all g.1) HK.out.sum c1 cc1 q.sa q.sc q.ga q.gc za zc z wB hcB hpB.xs hpB.gs hzB
  rw [← e1,← e2] at con
  clear e1 e2 HR k2 k3 k10 k11 k12
  go_wp2_with fail
  refine con.mono ?_
  rintro e w5 ⟨v5,rfl,O5,hb5⟩
  clear con y0 y1 y2 y3 y4 y5 y6 y7 y8 y9 y10
  have O5':=O5.mono hAd.size
  dsimp only
  go_wp2_with fail
  exact bodyPost_ret (v:=.tuple #[v5,.int .i64 re]) (by simp [results,Tryz.results73,go_sem]) rfl ⟨_,rfl,O5',chain hAd hb5⟩
 have b12:(p.k == 12)=false:=by rw [beq_eq_false_iff_ne]; exact k12
 have e1:re=topE (colsP ts k0) p.xs p.n z:=by have h:=congrArg Prod.fst HR.out; simp [nodeZ,k2,k3,k10,k11,k12] at h; exact h.symm
 have e2:rz=topZ (colsP ts k0) p.xs p.n z:=by have h:=congrArg Prod.snd HR.out; simp [nodeZ,k2,k3,k10,k11,k12] at h; exact h.symm
 have con:=top_at (colsP ts k0) p.xs p.n HK.out.n c1 cc1 q.sa q.sc za zc z wB hcB hpB.xs hzB
 rw [← e1,← e2] at con
 clear e1 e2 HR k2 k3 k10 k11 k12
 go_wp2_with fail
 refine con.mono ?_
 rintro e w5 ⟨v5,rfl,O5,hb5⟩
 clear con y0 y1 y2 y3 y4 y5 y6 y7 y8 y9 y10
 have O5':=O5.mono hAd.size
 dsimp only
 go_wp2_with fail
 exact bodyPost_ret (v:=.tuple #[v5,.int .i64 re]) (by simp [results,Tryz.results73,go_sem]) rfl ⟨_,rfl,O5',chain hAd hb5⟩
end Go.Proofs.YtoefpglknaiaeaaGreat
/- The walks of ops.picked with a method value, ops.matched, ops.unmatched. -/
namespace Go.Proofs.YtoefpglknaiaeaaGreat
open Go.RowKit Go.Lib Go.Shelf

set_option maxRecDepth 100000 in
set_option maxHeartbeats 4000000 in
theorem picked2_at (g:Nat) (fs cb:Array Value) (p:Zp→Bool) (a:Option Addr) (cap:Nat) (l:List Zp) (w0 w:World) (Inv:World→Prop) (h:ZsAt w0 a l) (hl:l.length≤100000)
  (eg:∀ args w,(callFunc g args).run Tryz.prog w = .ok (.enter g args) w) (hI0:Inv w) (hI1:∀ W,Inv W→Below w0.heap.size w0 W) (hI2:∀ W W',Inv W→Below w.heap.size W W'→Inv W')
  (hcall:∀ x ∈ l,∀ (ra:Option Addr) (rc:Nat) (W:World),Inv W→SlAt w0 ra x.1→w.heap.size≤W.heap.size→Calls Tryz.prog g (fs ++ #[.agg #[.slice ra x.1.length rc,.int .i64 x.2]] ++ cb) W fun e w'=>e = .returned (.bool (p x))∧Inv w'∧Since w.heap.size W w') :
  Calls Tryz.prog 129 #[.slice a l.length cap,.func (.func g) fs cb] w fun e w'=>∃ v,e = .returned v∧OwnB w0 w.heap.size w' v (l.filter p)∧Inv w'∧w.heap.size≤w'.heap.size:=by
 obtain ⟨i0,hi,hj0,hj1,hj2⟩:=info_parts Tryz.info42
 have HC:Hid (∀ x ∈ l,∀ (ra:Option Addr) (rc:Nat) (W:World),Inv W→SlAt w0 ra x.1→w.heap.size≤W.heap.size→Calls Tryz.prog g (fs ++ #[.agg #[.slice ra x.1.length rc,.int .i64 x.2]] ++ cb) W fun e w'=>e = .returned (.bool (p x))∧Inv w'∧Since w.heap.size W w'):=hcall
 have H1:Hid (∀ W,Inv W→Below w0.heap.size w0 W):=hI1
 have H2:Hid (∀ W W',Inv W→Below w.heap.size W W'→Inv W'):=hI2
 clear hcall hI1 hI2
 go_enter Tryz.func129,Tryz.ntmps129
 go_wp2_with fail
 go_loopw [5,10] (fun v i wr=>∃ k:Nat,k≤l.length∧i = .int .i64 k∧OwnB w0 w.heap.size wr v ((l.take k).filter p)∧Hid (Inv wr)∧w.heap.size≤wr.heap.size) (fun _ i _=>l.length - (intOf i).toNat)
 case atStart=>exact ⟨0,Nat.zero_le _,rfl,⟨[],by simpa using World.ownsRow_nil _ _ _ _,by simp [EncB]⟩,hI0,Nat.le_refl _⟩
 case round =>
  clear hI0
  obtain ⟨k,hk,rfl,HO,HI,hz⟩:=hrel
  by_cases hlt:k<l.length
  ·obtain ⟨b,off,rfl,hbl,d1,ar,cr,d0,sr⟩:=h.elem hlt
   have hB:=H1.out _ HI.out
   have c1:=(hB.cell (p:=⟨b,_,none⟩) hbl).trans d1
   have c0:=(hB.cell (p:=⟨b,_,none⟩) hbl).trans d0
   have hbl':b<wr.heap.size:=Nat.lt_of_lt_of_le hbl hB.size
   have hlen:((l.take k).filter p).length≤k:=by have:=List.length_filter_le p (l.take k); simp only [List.length_take] at this; omega
   have hal:Below wr.heap.size wr (wr.alloc (.cells #[.slice ar l[k].1.length cr,.int .i64 l[k].2] 47)):=(Below.refl _ _).alloc (Nat.le_refl _) _
   have IA:Inv (wr.alloc (.cells #[.slice ar l[k].1.length cr,.int .i64 l[k].2] 47)):=H2.out _ _ HI.out (hal.mono hz)
   have con:=HC.out l[k] (List.getElem_mem hlt) ar cr _ IA sr (Nat.le_trans hz hal.size)
   have q0:(wr.alloc (.cells #[.slice ar l[k].1.length cr,.int .i64 l[k].2] 47)).cell? ⟨wr.heap.size,0,none⟩=some (.slice ar l[k].1.length cr):=by simp
   have q1:(wr.alloc (.cells #[.slice ar l[k].1.length cr,.int .i64 l[k].2] 47)).cell? ⟨wr.heap.size,1,none⟩=some (.int .i64 l[k].2):=by simp
   have za:(wr.alloc (.cells #[.slice ar l[k].1.length cr,.int .i64 l[k].2] 47)).heap.size=wr.heap.size+1:=by simp
   have HS:Hid (SlAt w0 ar l[k].1):=sr
   obtain ⟨xs,ho,he⟩:=HO
   have HE:Hid (EncB w0 xs ((l.take k).filter p)):=he
   have ho1:=own_next ho hal
   clear d0 d1 sr he ho IA
   by_cases hp:p l[k]=true
   ·rw [hp] at con
    have HP:Hid (p l[k]=true):=hp
    clear hp
    go_wp2_with (first | (go_at_fn g; refine con.mono ?_; rintro e w1 ⟨rfl,I1,s1⟩; have r0:=(s1.cell (p:=⟨wr.heap.size,0,none⟩) hz (by show wr.heap.size<_; omega)).trans q0; have r1:=(s1.cell (p:=⟨wr.heap.size,1,none⟩) hz (by show wr.heap.size<_; omega)).trans q1; have z1:=s1.1; have o1:=own_since ho1 (Nat.le_refl _) s1) | (at_builtin; refine wpList_append_own _ rfl _ _ 38 rfl w.heap.size 47 i0 _ 2 32 Tryz.underlying38 hi hj0 hj1 hj2 rfl (by decide) _ _ _ rfl (o1.alloc _) ⟨w1.heap.size,0,none⟩ 1 1 [.slice ar l[k].1.length cr,.int .i64 l[k].2] rfl rfl ?Ac1 ?Ac2 ?Ac3 ?Ac4 ?Ac5 ?_))
    case Ac1 =>
     intro j u hj
     match j,hj with
     | 0,hj=>simp at hj; subst hj; simp [Addr.add]
     | 1,hj=>simp at hj; subst hj; simp [Addr.add]
    case Ac2=>intro u hu; simp at hu; rcases hu with rfl | rfl <;> rfl
    case Ac3=>unfold maxLen; omega
    case Ac4=>omega
    case Ac5=>simp; omega
    intro v' w5 ho5 hg5 _
    have hb5:Below w.heap.size w1 w5:=((Below.refl w.heap.size w1).alloc (by omega) _).grown hg5 (by simp; omega) (fun q hq=>((o1.alloc (.cells #[.slice ar l[k].1.length cr,.int .i64 l[k].2] 47)).lt q hq).1)
    have HI1:Hid (Inv w5):=H2.out _ _ I1 hb5
    have z5:=hb5.size
    clear hg5 o1 I1 con q0 q1 ho1
    go_wp2_with fail
    go_roundw
    case rel=>exact ⟨k+1,by omega,by go_num,by rw [filter_take p hlt,if_pos HP.out]; exact ⟨_,by simpa using ho5,HE.out.push HS.out⟩,HI1,by omega⟩
    case measure=>simp [intOf]; omega
   ·have hp:p l[k]=false:=by simpa using hp
    rw [hp] at con
    have HP:Hid (p l[k]=false):=hp
    clear hp
    go_wp2_with (go_at_fn g; refine con.mono ?_; rintro e w1 ⟨rfl,I1,s1⟩)
    have o1:=own_since ho1 (Nat.le_refl _) s1
    have z1:=s1.1
    have HI1:Hid (Inv w1):=I1
    clear con q0 q1 ho1 I1
    go_roundw
    case rel=>exact ⟨k+1,by omega,by go_num,by rw [filter_take p hlt,HP.out,if_neg (by decide),List.append_nil]; exact ⟨_,o1,HE.out⟩,HI1,by omega⟩
    case measure=>simp [intOf]; omega
  ·have e:k=l.length:=by omega
   subst e
   rw [List.take_length] at HO
   obtain ⟨av,cv,rfl,_⟩:=HO.zs (H1.out _ HI.out)
   go_wp2_with fail
   go_ret
   exact ⟨_,rfl,HO,HI.out,hz⟩

set_option maxRecDepth 100000 in
set_option maxHeartbeats 4000000 in
theorem matched_at (cols:List Int) (x:Ex) (w0 wp w:World) (a b:Option Addr) (ca cb:Nat) (l r:List Zp) (v:Value) (R rv:Nat) (hP:PairsIn cols x w0 wp a b ca cb l r v R rv) (hI:PInv wp R rv w) (za:ZsAt w0 a l) (zb:ZsAt w0 b r) (hq:Askable cols l r) :
  Calls Tryz.prog 140 #[v] w fun e w'=>∃ u,e = .returned u∧OwnB w0 (w.heap.size+1) w' u (semiL x l r)∧PInv wp R rv w'∧w.heap.size≤w'.heap.size:=by
 have hP':=hP
 obtain ⟨lo,wc,hv,u,rfl,hn,hv0,hc,hC,hcR,hcp,h0,h0p⟩:=hP
 have hrv:=hI.sz hn
 have hll:=hq.ll
 have h1:Below w.heap.size w (w.alloc (.cells #[.slice a l.length ca,.slice b r.length cb,.func (.func 246) #[] #[.pointer (some ⟨rv,0,none⟩),.pointer (some ⟨hv,0,none⟩)]] 170)):=(Below.refl _ _).alloc (Nat.le_refl _) _
 have e1:(w.alloc (.cells #[.slice a l.length ca,.slice b r.length cb,.func (.func 246) #[] #[.pointer (some ⟨rv,0,none⟩),.pointer (some ⟨hv,0,none⟩)]] 170)).heap.size=w.heap.size+1:=by simp
 clear hC
 go_enter Tryz.func140,Tryz.ntmps140
 go_wp2_with fail
 generalize w.alloc (.cells #[.slice a l.length ca,.slice b r.length cb,.func (.func 246) #[] #[.pointer (some ⟨rv,0,none⟩),.pointer (some ⟨hv,0,none⟩)]] 170)=w1 at *
 have I1:=hI.later hn hI.size h1
 refine (picked2_at 183 #[.agg #[.slice a l.length ca,.slice b r.length cb,.func (.func 246) #[] #[.pointer (some ⟨rv,0,none⟩),.pointer (some ⟨hv,0,none⟩)]]] #[] (fun y=>hasP x r y.1) a ca l w0 w1 (fun W=>PInv wp R rv W) za (by omega) (enters_of Tryz.func183 (by kernel_rfl) rfl) I1 (fun W hW=>h0p.trans ((hW.below hn).mono h0)) (fun W W' hW hb=>hW.later hn I1.size hb) ?_).mono ?_
 ·intro y hy ra rc W hW sy hz
  refine (isMatched_at cols x w0 wp W a b ca cb l r _ R rv hP' hW zb hq.rl ra rc y sy (fun q hq'=>hq.row y hy q hq') (fun q hq'=>hq.fit y hy q hq')).mono ?_
  rintro e w' ⟨rfl,I',S'⟩
  exact ⟨rfl,I',S'.up (by omega)⟩
 rintro e w2 ⟨v2,rfl,O2,I2,z2⟩
 have HI2:Hid (PInv wp R rv w2):=I2
 have hs:l.filter (fun y=>hasP x r y.1)=semiL x l r:=rfl
 rw [hs,e1] at O2
 obtain ⟨a2,c2,rfl,_⟩:=O2.zs (h0p.trans ((I2.below hn).mono h0))
 clear I2 I1 hP'
 dsimp only
 go_wp2_with fail
 go_ret
 exact ⟨_,rfl,O2,HI2.out,by omega⟩
end Go.Proofs.YtoefpglknaiaeaaGreat
/- The walks of ops.unmatched, ops.Semi and ops.Anti. -/
namespace Go.Proofs.YtoefpglknaiaeaaGreat
open Go.RowKit Go.Lib Go.Shelf

set_option maxRecDepth 100000 in
set_option maxHeartbeats 4000000 in
theorem unmatched1_at (cols:List Int) (x:Ex) (w0 wp:World) (a b:Option Addr) (ca cb:Nat) (l r:List Zp) (R rv hv pb:Nat) (hP:PairsIn cols x w0 wp a b ca cb l r (.agg #[.slice a l.length ca,.slice b r.length cb,.func (.func 246) #[] #[.pointer (some ⟨rv,0,none⟩),.pointer (some ⟨hv,0,none⟩)]]) R rv) (W:World) (hI:PInv wp R rv W) (zb:ZsAt w0 b r) (hr:r.length≤400) (ra:Option Addr) (rc:Nat) (y:Zp) (sy:SlAt w0 ra y.1) (h8:∀ q ∈ r,y.1.length+q.1.length≤8) (hf:∀ q ∈ r,FitP cols (y.1 ++ q.1))
  (cp:W.heap[pb]? = some (.cells #[.slice a l.length ca,.slice b r.length cb,.func (.func 246) #[] #[.pointer (some ⟨rv,0,none⟩),.pointer (some ⟨hv,0,none⟩)]] 170 (0,0))) :
  Calls Tryz.prog 184 #[.agg #[.slice ra y.1.length rc,.int .i64 y.2],.pointer (some ⟨pb,0,none⟩)] W fun e w'=>e = .returned (.bool (!hasP x r y.1))∧PInv wp R rv w'∧Since (rv+1) W w':=by
 have hn:PNew wp R rv:=by obtain ⟨_,_,_,_,_,hn,_⟩:=hP; exact hn
 have h1:Below W.heap.size W (W.alloc (.cells #[.slice ra y.1.length rc,.int .i64 y.2] 47)):=(Below.refl _ _).alloc (Nat.le_refl _) _
 have p1:=(h1.block pb (lt_of_heap cp)).trans cp
 have k0:(W.alloc (.cells #[.slice ra y.1.length rc,.int .i64 y.2] 47)).cell? ⟨pb,0,none⟩=some (.slice a l.length ca):=cell_of (i:=0) p1 rfl
 have k1:(W.alloc (.cells #[.slice ra y.1.length rc,.int .i64 y.2] 47)).cell? ⟨pb,1,none⟩=some (.slice b r.length cb):=cell_of (i:=1) p1 rfl
 have k2:(W.alloc (.cells #[.slice ra y.1.length rc,.int .i64 y.2] 47)).cell? ⟨pb,2,none⟩=some (.func (.func 246) #[] #[.pointer (some ⟨rv,0,none⟩),.pointer (some ⟨hv,0,none⟩)]):=cell_of (i:=2) p1 rfl
 have I1:=hI.later hn hI.size h1
 have con:=isMatched_at cols x w0 wp _ a b ca cb l r _ R rv hP I1 zb hr ra rc y sy h8 hf
 generalize hasP x r y.1=t at *
 clear hP p1 cp I1 h8 hf
 go_enter Tryz.func184,Tryz.ntmps184
 go_wp2_with fail
 generalize W.alloc (.cells #[.slice ra y.1.length rc,.int .i64 y.2] 47)=w1 at *
 refine con.mono ?_
 rintro e w2 ⟨rfl,I2,S2⟩
 have HI2:Hid (PInv wp R rv w2):=I2
 have S3:Since (rv+1) W w2:=(Since.of h1).trans S2
 clear con I2 k0 k1 k2 hI
 dsimp only
 go_wp2_with fail
 go_ret
 exact ⟨rfl,HI2.out,S3⟩

set_option maxRecDepth 100000 in
set_option maxHeartbeats 4000000 in
theorem unmatched_at (cols:List Int) (x:Ex) (w0 wp w:World) (a b:Option Addr) (ca cb:Nat) (l r:List Zp) (v:Value) (R rv:Nat) (hP:PairsIn cols x w0 wp a b ca cb l r v R rv) (hI:PInv wp R rv w) (za:ZsAt w0 a l) (zb:ZsAt w0 b r) (hq:Askable cols l r) :
  Calls Tryz.prog 141 #[v] w fun e w'=>∃ u,e = .returned u∧OwnB w0 (w.heap.size+1) w' u (antiL x l r)∧PInv wp R rv w'∧w.heap.size≤w'.heap.size:=by
 have hP':=hP
 obtain ⟨lo,wc,hv,u,rfl,hn,hv0,hc,hC,hcR,hcp,h0,h0p⟩:=hP
 have hrv:=hI.sz hn
 have hll:=hq.ll
 have h1:Below w.heap.size w (w.alloc (.cells #[.slice a l.length ca,.slice b r.length cb,.func (.func 246) #[] #[.pointer (some ⟨rv,0,none⟩),.pointer (some ⟨hv,0,none⟩)]] 170)):=(Below.refl _ _).alloc (Nat.le_refl _) _
 have p1:=heap_new w #[.slice a l.length ca,.slice b r.length cb,.func (.func 246) #[] #[.pointer (some ⟨rv,0,none⟩),.pointer (some ⟨hv,0,none⟩)]] 170
 have e1:(w.alloc (.cells #[.slice a l.length ca,.slice b r.length cb,.func (.func 246) #[] #[.pointer (some ⟨rv,0,none⟩),.pointer (some ⟨hv,0,none⟩)]] 170)).heap.size=w.heap.size+1:=by simp
 clear hC
 go_enter Tryz.func141,Tryz.ntmps141
 go_wp2_with fail
 generalize w.alloc (.cells #[.slice a l.length ca,.slice b r.length cb,.func (.func 246) #[] #[.pointer (some ⟨rv,0,none⟩),.pointer (some ⟨hv,0,none⟩)]] 170)=w1 at *
 have I1:=hI.later hn hI.size h1
 refine (picked_at 184 #[.pointer (some ⟨w.heap.size,0,none⟩)] (fun y=>!hasP x r y.1) a ca l w0 w1 (fun W=>PInv wp R rv W∧W.heap[w.heap.size]? = some (.cells #[.slice a l.length ca,.slice b r.length cb,.func (.func 246) #[] #[.pointer (some ⟨rv,0,none⟩),.pointer (some ⟨hv,0,none⟩)]] 170 (0,0))) za (by omega) (enters_of Tryz.func184 (by kernel_rfl) rfl) ⟨I1,p1⟩ (fun W hW=>h0p.trans ((hW.1.below hn).mono h0)) (fun W W' hW hb=>⟨hW.1.later hn I1.size hb,(hb.block _ (by omega)).trans hW.2⟩) ?_).mono ?_
 ·intro y hy ra rc W hW sy hz
  refine (unmatched1_at cols x w0 wp a b ca cb l r R rv hv w.heap.size hP' W hW.1 zb hq.rl ra rc y sy (fun q hq'=>hq.row y hy q hq') (fun q hq'=>hq.fit y hy q hq') hW.2).mono ?_
  rintro e w' ⟨rfl,I',S'⟩
  exact ⟨rfl,⟨I',(S'.2 _ (by omega) (by omega)).trans hW.2⟩,S'.up (by omega)⟩
 rintro e w2 ⟨v2,rfl,O2,⟨I2,_⟩,z2⟩
 have HI2:Hid (PInv wp R rv w2):=I2
 have hs:l.filter (fun y=>!hasP x r y.1)=antiL x l r:=rfl
 rw [hs,e1] at O2
 obtain ⟨a2,c2,rfl,_⟩:=O2.zs (h0p.trans ((I2.below hn).mono h0))
 clear I2 I1 hP' p1
 dsimp only
 go_wp2_with fail
 go_ret
 exact ⟨_,rfl,O2,HI2.out,by omega⟩

set_option maxRecDepth 100000 in
set_option maxHeartbeats 4000000 in
theorem semi_at (left right:List Int) (x:Ex) (la:Option Addr) (lcap:Nat) (ra:Option Addr) (rcap:Nat) (xa:Option Addr) (xcap:Nat) (a:Option Addr) (ca:Nat) (l:List Zp) (b:Option Addr) (cb:Nat) (r:List Zp) (w:World)
  (hcl:IsAt w.heap.size w la left) (hcr:IsAt w.heap.size w ra right) (hx:KsAt w.heap.size w xa x.ks) (h:ZsAt w a l) (h':ZsAt w b r) (hll:left.length≤100000000000000) (hrl:right.length≤100000000000000) :
  Calls Tryz.prog 99 #[.slice la left.length lcap,.slice ra right.length rcap,exV x.k x.v x.c xa x.ks.length xcap,.slice a l.length ca,.slice b r.length cb] w fun e w'=>∃ v,e = .returned (.tuple #[v,.int .i64 (pairE 1 left right x l r)])∧OwnZ w.heap.size w' v (pairZ 1 left right x l r)∧Below w.heap.size w w':=by
 have h1:Below w.heap.size w (w.alloc (.cells #[.int .i64 x.k,.int .i64 x.v.1,.int .i64 x.v.2.1,.string x.v.2.2,.int .i64 x.c,.slice xa x.ks.length xcap] 27)):=(Below.refl _ _).alloc (Nat.le_refl _) _
 have zs1:=h.next h1
 have zs1':=h'.next h1
 have con:=ofPairs_at 1 140 #[] left right x la lcap ra rcap xa xcap a ca l b cb r (w.alloc (.cells #[.int .i64 x.k,.int .i64 x.v.1,.int .i64 x.v.2.1,.string x.v.2.2,.int .i64 x.c,.slice xa x.ks.length xcap] 27)) ((hcl.next h1 (Nat.le_refl _)).up h1.size) ((hcr.next h1 (Nat.le_refl _)).up h1.size) ((KsAt.next h1 (Nat.le_refl _) hx).up h1.size) zs1 zs1' hll hrl (enters_of Tryz.func140 (by kernel_rfl) rfl) (fun W v R rv hP hI hT=>by
  refine (matched_at (left ++ right) x _ W W a b ca cb l r v R rv hP hI zs1 zs1' (askable hT)).mono ?_
  rintro e w' ⟨u,rfl,OJ,I',z'⟩
  obtain ⟨_,_,_,_,_,hn,_,_,_,_,_,hR,hB⟩:=hP
  have hE:=hB.trans ((I'.below hn).mono hR)
  obtain ⟨ua,uc,rfl,zu,_⟩:=OJ.zs hE
  exact ⟨ua,uc,rfl,zu,hE⟩)
 generalize hfz:pairZ 1 left right x l r=fz at *
 generalize hfe:pairE 1 left right x l r=fe at *
 clear hfz hfe
 go_enter Tryz.func99,Tryz.ntmps99
 go_wp2_with fail
 generalize w.alloc (.cells #[.int .i64 x.k,.int .i64 x.v.1,.int .i64 x.v.2.1,.string x.v.2.2,.int .i64 x.c,.slice xa x.ks.length xcap] 27)=w1 at *
 refine con.mono ?_
 rintro e w2 ⟨v2,rfl,O2,hb2⟩
 have O2':=O2.mono h1.size
 obtain ⟨a2,c2,rfl,_⟩:=O2.zs
 clear con O2
 dsimp only
 go_wp2_with fail
 exact bodyPost_ret (v:=.tuple #[.slice a2 fz.length c2,.int .i64 fe]) (by simp [results,Tryz.results99,go_sem]) rfl ⟨_,rfl,O2',chain h1 hb2⟩

set_option maxRecDepth 100000 in
set_option maxHeartbeats 4000000 in
theorem anti_at (left right:List Int) (x:Ex) (la:Option Addr) (lcap:Nat) (ra:Option Addr) (rcap:Nat) (xa:Option Addr) (xcap:Nat) (a:Option Addr) (ca:Nat) (l:List Zp) (b:Option Addr) (cb:Nat) (r:List Zp) (w:World)
  (hcl:IsAt w.heap.size w la left) (hcr:IsAt w.heap.size w ra right) (hx:KsAt w.heap.size w xa x.ks) (h:ZsAt w a l) (h':ZsAt w b r) (hll:left.length≤100000000000000) (hrl:right.length≤100000000000000) :
  Calls Tryz.prog 100 #[.slice la left.length lcap,.slice ra right.length rcap,exV x.k x.v x.c xa x.ks.length xcap,.slice a l.length ca,.slice b r.length cb] w fun e w'=>∃ v,e = .returned (.tuple #[v,.int .i64 (pairE 2 left right x l r)])∧OwnZ w.heap.size w' v (pairZ 2 left right x l r)∧Below w.heap.size w w':=by
 have h1:Below w.heap.size w (w.alloc (.cells #[.int .i64 x.k,.int .i64 x.v.1,.int .i64 x.v.2.1,.string x.v.2.2,.int .i64 x.c,.slice xa x.ks.length xcap] 27)):=(Below.refl _ _).alloc (Nat.le_refl _) _
 have zs1:=h.next h1
 have zs1':=h'.next h1
 have con:=ofPairs_at 2 141 #[] left right x la lcap ra rcap xa xcap a ca l b cb r (w.alloc (.cells #[.int .i64 x.k,.int .i64 x.v.1,.int .i64 x.v.2.1,.string x.v.2.2,.int .i64 x.c,.slice xa x.ks.length xcap] 27)) ((hcl.next h1 (Nat.le_refl _)).up h1.size) ((hcr.next h1 (Nat.le_refl _)).up h1.size) ((KsAt.next h1 (Nat.le_refl _) hx).up h1.size) zs1 zs1' hll hrl (enters_of Tryz.func141 (by kernel_rfl) rfl) (fun W v R rv hP hI hT=>by
  refine (unmatched_at (left ++ right) x _ W W a b ca cb l r v R rv hP hI zs1 zs1' (askable hT)).mono ?_
  rintro e w' ⟨u,rfl,OJ,I',z'⟩
  obtain ⟨_,_,_,_,_,hn,_,_,_,_,_,hR,hB⟩:=hP
  have hE:=hB.trans ((I'.below hn).mono hR)
  obtain ⟨ua,uc,rfl,zu,_⟩:=OJ.zs hE
  exact ⟨ua,uc,rfl,zu,hE⟩)
 generalize hfz:pairZ 2 left right x l r=fz at *
 generalize hfe:pairE 2 left right x l r=fe at *
 clear hfz hfe
 go_enter Tryz.func100,Tryz.ntmps100
 go_wp2_with fail
 generalize w.alloc (.cells #[.int .i64 x.k,.int .i64 x.v.1,.int .i64 x.v.2.1,.string x.v.2.2,.int .i64 x.c,.slice xa x.ks.length xcap] 27)=w1 at *
 refine con.mono ?_
 rintro e w2 ⟨v2,rfl,O2,hb2⟩
 have O2':=O2.mono h1.size
 obtain ⟨a2,c2,rfl,_⟩:=O2.zs
 clear con O2
 dsimp only
 go_wp2_with fail
 exact bodyPost_ret (v:=.tuple #[.slice a2 fz.length c2,.int .i64 fe]) (by simp [results,Tryz.results100,go_sem]) rfl ⟨_,rfl,O2',chain h1 hb2⟩
end Go.Proofs.YtoefpglknaiaeaaGreat
