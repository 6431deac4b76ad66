/- Together: Y4, Y5, K3, Y6, Form, Q1, K4, K5, Y7. -/
import Derived.Deep.RegionWith
import Derived.Laws.EntriesVeiled
import Derived.Test.YtohjlfhmnmcndaaGreatD5
import Derived.Test.YtohjlfhmnmcndaaGreatD3
import Derived.Test.YtohjlfhmnmcndaaGreatD1
import Derived.Test.YtohjlfhmnmcndaaGreatD2
import Derived.Test.YtohjlfhmnmcndaaGreatD4
/- Expressions in memory; what a walk with a counter of its own leaves as it was. -/
namespace Go.Proofs.YtohjlfhmnmcndaaGreat
open Go.RowKit

/-- Expressions lie in a slice, and their kids behind them, all below B. -/
inductive KsAt (B:Nat) (W:World):Option Addr→List Ex→Prop
 | nil (a:Option Addr):KsAt B W a []
 | some (b off:Nat) (l:List Ex) (ai:Nat→Option Addr) (cap:Nat→Nat) (hb:b<B)
   (hc:∀ (i:Nat) (h:i<l.length),Six W b (off+i*6) l[i].k l[i].v l[i].c (ai i) l[i].ks.length (cap i))
   (hk:∀ (i:Nat) (h:i<l.length),KsAt B W (ai i) l[i].ks):KsAt B W (some ⟨b,off,none⟩) l
theorem KsAt.next {B B':Nat} {W w1:World} (hb:Below B' W w1) (hB:B≤B') {a:Option Addr} {l:List Ex} (h:KsAt B W a l):KsAt B w1 a l:=by
 induction h with
 | nil a=>exact .nil a
 | some b off l ai cap hlt hc _ ih=>exact .some b off l ai cap hlt (fun i hi=>(hc i hi).next hb (Nat.lt_of_lt_of_le hlt hB)) ih
theorem KsAt.up {B B':Nat} {W:World} (hB:B≤B') {a:Option Addr} {l:List Ex} (h:KsAt B W a l):KsAt B' W a l:=by
 induction h with
 | nil a=>exact .nil a
 | some b off l ai cap hlt hc _ ih=>exact .some b off l ai cap (Nat.lt_of_lt_of_le hlt hB) hc ih
theorem KsAt.elem {B:Nat} {W:World} {a:Option Addr} {l:List Ex} (h:KsAt B W a l) {k:Nat} (hk:k<l.length) :
  ∃ b off ai cap,a=Option.some ⟨b,off,none⟩∧b<B∧Six W b (off+k*6) l[k].k l[k].v l[k].c ai l[k].ks.length cap∧KsAt B W ai l[k].ks:=by
 cases h with
 | nil=>simp at hk
 | some b off l ai cap hlt hc hh=>exact ⟨b,off,ai k,cap k,rfl,hlt,hc k hk,hh k hk⟩
/-- As 'Below' of all that was there, but for block t. -/
def BelowX (t:Nat) (w w':World):Prop:=Below t w w'∧∀ k,k<w.heap.size→k≠t→w'.heap[k]? = w.heap[k]?
theorem BelowX.refl (t:Nat) (w:World):BelowX t w w:=⟨Below.refl _ _,fun _ _ _=>rfl⟩
theorem BelowX.size {t:Nat} {a b:World} (h:BelowX t a b):a.heap.size≤b.heap.size:=h.1.size
theorem BelowX.trans {t:Nat} {a b c:World} (h:BelowX t a b) (k:BelowX t b c):BelowX t a c :=
 ⟨h.1.trans k.1,fun i hi hn=>(k.2 i (Nat.lt_of_lt_of_le hi h.size) hn).trans (h.2 i hi hn)⟩
theorem BelowX.of {t:Nat} {a b:World} (h:Below a.heap.size a b) (ht:t≤a.heap.size):BelowX t a b:=⟨h.mono ht,fun k hk _=>h.block k hk⟩
theorem BelowX.set {t:Nat} {a b:World} (h:BelowX t a b) (o:Nat) (u:Value):BelowX t a (b.setCell ⟨t,o,none⟩ u) :=
 ⟨h.1.setCell (Nat.le_refl _) u,fun k hk hn=>(Below.heap_setCell b ⟨t,o,none⟩ u k hn).trans (h.2 k hk hn)⟩
/-- A store into a block that is newer. -/
theorem BelowX.setNew {t:Nat} {a b:World} (h:BelowX t a b) (g o:Nat) (u:Value) (hg:a.heap.size≤g) (ht:t≤a.heap.size):BelowX t a (b.setCell ⟨g,o,none⟩ u) :=
 ⟨h.1.setCell (Nat.le_trans ht hg) u,fun k hk hn=>(Below.heap_setCell b ⟨g,o,none⟩ u k (by show k≠g; omega)).trans (h.2 k hk hn)⟩
theorem BelowX.cell {t:Nat} {a b:World} (h:BelowX t a b) {p:Addr} (hp:p.block<a.heap.size) (hn:p.block≠t):b.cell? p=a.cell? p:=World.cell?_of_block (w:=a) (h.2 p.block hp hn)
theorem BelowX.frozen {t:Nat} {a b:World} (h:BelowX t a b) {p:Addr} (hp:p.block<a.heap.size) (hn:p.block≠t):b.frozen? p=a.frozen? p:=World.frozen?_of_block (w:=a) (h.2 p.block hp hn)
theorem BelowX.below {t B:Nat} {a b:World} (h:BelowX t a b) (hB:B≤t):Below B a b:=h.1.mono hB
theorem Six.nextX {W w1:World} {t b off:Nat} {k:Int} {v:Vl} {c:Int} {a:Option Addr} {n cap:Nat} (h:Six W b off k v c a n cap) (hb:BelowX t W w1) (hB:b<W.heap.size) (hn:b≠t):Six w1 b off k v c a n cap :=
 ⟨(hb.cell (p:=⟨b,_,none⟩) hB hn).trans h.c0,(hb.cell (p:=⟨b,_,none⟩) hB hn).trans h.c1,(hb.cell (p:=⟨b,_,none⟩) hB hn).trans h.c2,(hb.cell (p:=⟨b,_,none⟩) hB hn).trans h.c3,(hb.cell (p:=⟨b,_,none⟩) hB hn).trans h.c4,(hb.cell (p:=⟨b,_,none⟩) hB hn).trans h.c5⟩

/-- One who counts: the columns, and how many nodes so far. -/
structure TyC (W:World) (t:Nat) (ca:Option Addr) (n cap:Nat) (m:Int):Prop where
 lt:t<W.heap.size
 c0:W.cell? ⟨t,0,none⟩=some (.slice ca n cap)
 c1:W.cell? ⟨t,1,none⟩=some (.int .i64 m)
 f1:W.frozen? ⟨t,1,none⟩=false
theorem TyC.next {W w1:World} {t:Nat} {ca:Option Addr} {n cap:Nat} {m:Int} (h:TyC W t ca n cap m) (hb:Below W.heap.size W w1):TyC w1 t ca n cap m :=
 ⟨Nat.lt_of_lt_of_le h.lt hb.size,(hb.cell (p:=⟨t,0,none⟩) h.lt).trans h.c0,(hb.cell (p:=⟨t,1,none⟩) h.lt).trans h.c1,(hb.frozen (p:=⟨t,1,none⟩) h.lt).trans h.f1⟩
theorem TyC.count {W:World} {t:Nat} {ca:Option Addr} {n cap:Nat} {m:Int} (h:TyC W t ca n cap m) (m':Int):TyC (W.setCell ⟨t,1,none⟩ (.int .i64 m')) t ca n cap m':=by
 obtain ⟨lt,c0,c1,f1⟩:=h;refine ⟨by simpa using lt,?_,?_,?_⟩
 ·rw [World.cell?_setCell_other _ _ _ _ (by simp)];exact c0
 ·exact World.cell?_setCell_same _ _ _ c1
 ·simpa using f1
/-- Numbers of one's own. -/
structure Own1 (W:World) (g:Nat) (l:List Int):Prop where
 lt:g<W.heap.size
 c:∀ (i:Nat) (h:i<l.length),W.cell? ⟨g,i,none⟩=some (.int .i64 l[i])
 f:∀ i:Nat,W.frozen? ⟨g,i,none⟩=false
theorem Own1.nextX {t:Nat} {W w1:World} {g:Nat} {l:List Int} (h:Own1 W g l) (hb:BelowX t W w1) (hn:g≠t):Own1 w1 g l :=
 ⟨Nat.lt_of_lt_of_le h.lt hb.size,fun i hi=>(hb.cell (p:=⟨g,i,none⟩) h.lt hn).trans (h.c i hi),fun i=>(hb.frozen (p:=⟨g,i,none⟩) h.lt hn).trans (h.f i)⟩
theorem Own1.set {W:World} {g:Nat} {l:List Int} (h:Own1 W g l) (i:Nat) (hi:i<l.length) (u:Int):Own1 (W.setCell ⟨g,i,none⟩ (.int .i64 u)) g (l.set i u):=by
 refine ⟨by simpa using h.lt,fun j hj=>?_,fun j=>by simpa using h.f j⟩;have hj':j<l.length:=by simpa using hj
 by_cases e:i=j
 ·subst e;rw [World.cell?_setCell_same _ _ _ (h.c i hi)];simp
 ·rw [World.cell?_setCell_other _ _ _ _ (by intro h; injection h with _ h; exact e h),h.c j hj'];simp [List.getElem_set_ne e]
theorem Own1.is {W:World} {g:Nat} {l:List Int} (h:Own1 W g l) (hl:l.length≤maxLen):IsAt W.heap.size W (some ⟨g,0,none⟩) l :=
 ⟨hl,.inr ⟨g,0,rfl,h.lt,fun i hi=>by simpa using h.c i hi⟩⟩
theorem Own1.new (w : World) (n t : Nat) : Own1 (w.alloc (.cells (Array.replicate n (.int .i64 0)) t)) w.heap.size (List.replicate n 0) :=
  ⟨by simp, fun i hi => by have : i < n := by simpa using hi
                           simp [this], fun i => by simp⟩
/-- 'make' of no more than three numbers. -/
theorem make_ints {n:Nat} (h:n≤3) (w:World):(Instr.makeSlice 45 (.int .i64 n) (.int .i64 n)).run Tryz.prog w = .ok (.slice (some ⟨w.heap.size,0,none⟩) n n) (w.alloc (.cells (Array.replicate n (.int .i64 0)) 3)):=by
 obtain rfl | rfl | rfl | rfl:n=0∨n=1∨n=2∨n=3:=by omega
 all_goals kernel_rfl
theorem kidsN_le (k:Int):kidsN k≤3:=by
 unfold kidsN
 repeat' split
 all_goals omega

/-- What typeOf is asked for. -/
def TypeOfAt (cols:List Int) (x:Ex):Prop :=
 ∀ (B t:Nat) (ca:Option Addr) (ccap:Nat) (a:Option Addr) (cap:Nat) (m d:Int) (w:World),KsAt B w a x.ks→IsAt B w ca cols→B≤t→TyC w t ca cols.length ccap m→0≤m→m≤200→0≤d→d≤21 →
  Calls Tryz.prog 197 #[.pointer (some ⟨t,0,none⟩),exV x.k x.v x.c a x.ks.length cap,.int .i64 d] w fun e w' =>
   e = .returned (.tuple #[.int .i64 (typeX cols x m d).1,.int .i64 (typeX cols x m d).2.1])∧BelowX t w w'∧TyC w' t ca cols.length ccap (typeX cols x m d).2.2

theorem typeX_bad {cols:List Int} {k:Int} {v:Vl} {c:Int} {ks:List Ex} {m d:Int} (h:¬ nodeW k ks.length (m+1) d=0):typeX cols (.mk k v c ks) m d=(0,nodeW k ks.length (m+1) d,m+1):=by
 rw [typeX,if_pos h]
theorem typeX_kid {cols:List Int} {k:Int} {v:Vl} {c:Int} {ks:List Ex} {m d:Int} (h:nodeW k ks.length (m+1) d=0) {e:Int} {ts:List Int} {n:Int} (hk:typesX cols ks [] (m+1) (d+1)=(e,ts,n)) (he:¬ e=0):typeX cols (.mk k v c ks) m d=(0,e,n):=by
 rw [typeX,if_neg (by simp [h]),hk,if_pos he]
theorem typeX_own {cols:List Int} {k:Int} {v:Vl} {c:Int} {ks:List Ex} {m d:Int} (h:nodeW k ks.length (m+1) d=0) {ts:List Int} {n:Int} (hk:typesX cols ks [] (m+1) (d+1)=(0,ts,n)):typeX cols (.mk k v c ks) m d=((nodeT cols k v c ts).1,(nodeT cols k v c ts).2,n):=by
 rw [typeX,if_neg (by simp [h]),hk,if_neg (by simp)]
theorem typesX_end (cols:List Int) (ks:List Ex) (ts:List Int) (n d:Int) (j:Nat) (h:ks.length≤j):typesX cols (ks.drop j) ts n d=(0,ts,n):=by
 rw [List.drop_eq_nil_of_le h,typesX]
theorem typesX_bad (cols:List Int) (ks:List Ex) (ts:List Int) (n d:Int) (j:Nat) (h:j<ks.length) (he:¬ (typeX cols ks[j] n d).2.1=0):typesX cols (ks.drop j) ts n d=((typeX cols ks[j] n d).2.1,ts,(typeX cols ks[j] n d).2.2):=by
 rw [List.drop_eq_getElem_cons h,typesX,if_pos he]
theorem typesX_next (cols:List Int) (ks:List Ex) (ts:List Int) (n d:Int) (j:Nat) (h:j<ks.length) (he:(typeX cols ks[j] n d).2.1=0):typesX cols (ks.drop j) ts n d=typesX cols (ks.drop (j+1)) (ts ++ [(typeX cols ks[j] n d).1]) (typeX cols ks[j] n d).2.2 d:=by
 rw [List.drop_eq_getElem_cons h,typesX,if_neg (by simp [he])]
theorem cell_far {W:World} {g o b p:Nat} {u:Value} (hn:g≠b):(W.setCell ⟨g,o,none⟩ u).cell? ⟨b,p,none⟩=W.cell? ⟨b,p,none⟩ :=
 World.cell?_setCell_other _ _ _ _ (by intro h; injection h with h; exact hn h)
theorem Six.far {W:World} {b off:Nat} {k:Int} {v:Vl} {c:Int} {a:Option Addr} {n cap:Nat} (h:Six W b off k v c a n cap) (g o:Nat) (u:Value) (hn:g≠b):Six (W.setCell ⟨g,o,none⟩ u) b off k v c a n cap :=
 ⟨(cell_far hn).trans h.c0,(cell_far hn).trans h.c1,(cell_far hn).trans h.c2,(cell_far hn).trans h.c3,(cell_far hn).trans h.c4,(cell_far hn).trans h.c5⟩
theorem TyC.far {W:World} {t:Nat} {ca:Option Addr} {n cap:Nat} {m:Int} (h:TyC W t ca n cap m) (g o:Nat) (u:Value) (hn:g≠t):TyC (W.setCell ⟨g,o,none⟩ u) t ca n cap m :=
 ⟨by simpa using h.lt,(cell_far hn).trans h.c0,(cell_far hn).trans h.c1,by simpa using h.f1⟩
theorem pad_set (ts:List Int) (n j:Nat) (x:Int) (h:ts.length=j) (hj:j<n):(ts ++ List.replicate (n - j) 0).set j x=(ts ++ [x]) ++ List.replicate (n - (j+1)) 0:=by
 subst h;obtain ⟨q,hq⟩:∃ q,n - ts.length=q+1:=⟨n - ts.length - 1,by omega⟩
 have hq':n - (ts.length+1)=q:=by omega
 rw [hq,hq',List.replicate_succ,List.set_append_right _ _ (Nat.le_refl _)];simp
set_option maxHeartbeats 2000000 in
theorem typeOf_at (cols:List Int) (k:Int) (v:Vl) (c:Int) (ks:List Ex) (ih:∀ x ∈ ks,TypeOfAt cols x):TypeOfAt cols (.mk k v c ks):=by
 intro B t ca ccap a cap m d w hk hc hBt ht hm0 hm hd0 hd;simp only [Ex.k,Ex.v,Ex.c,Ex.ks] at hk ⊢;have H1:=ht.lt;have H2:=ht.c1;have H3:=ht.f1;generalize hr:typeX cols (.mk k v c ks) m d=r;have HR:Hid (typeX cols (.mk k v c ks) m d=r):=hr;clear hr;go_enter Tryz.func197,Tryz.ntmps197;go_wp2_with fail
 have T0:=ht.count (m+1);have X0:=(BelowX.refl t w).set 1 (.int .i64 (m+1));have SA:=Six.new (w.setCell ⟨t,1,none⟩ (.int .i64 (m+1))) k v c a ks.length cap 27;rw [World.size_setCell] at SA;have hal:Below (w.setCell ⟨t,1,none⟩ (.int .i64 (m+1))).heap.size (w.setCell ⟨t,1,none⟩ (.int .i64 (m+1))) ((w.setCell ⟨t,1,none⟩ (.int .i64 (m+1))).alloc (.cells #[.int .i64 k,.int .i64 v.1,.int .i64 v.2.1,.string v.2.2,.int .i64 c,.slice a ks.length cap] 27)):=(Below.refl _ _).alloc (Nat.le_refl _) _;have TA:=T0.next hal;have XA:=X0.trans (BelowX.of hal (by simp; omega))
 have zA:w.heap.size<((w.setCell ⟨t,1,none⟩ (.int .i64 (m+1))).alloc (.cells #[.int .i64 k,.int .i64 v.1,.int .i64 v.2.1,.string v.2.2,.int .i64 c,.slice a ks.length cap] 27)).heap.size:=by simp
 clear hal T0 X0 H2 H3 ht;generalize (w.setCell ⟨t,1,none⟩ (.int .i64 (m+1))).alloc (.cells #[.int .i64 k,.int .i64 v.1,.int .i64 v.2.1,.string v.2.2,.int .i64 c,.slice a ks.length cap] 27)=wA at *;have p0:=past_cell SA.c0;have p1:=past_cell SA.c1;have p2:=past_cell SA.c2;have p3:=past_cell SA.c3;have p4:=past_cell SA.c4;have p5:=past_cell SA.c5;have p6:=past_cell TA.c1;simp only [Nat.zero_add] at p1 p2 p3 p4 p5;haveI:Nonempty (Past wA):=⟨⟨_,Below.refl _ _⟩⟩
 refine wp_region_past (by kernel_rfl) (by kernel_rfl) ?_
 repeat (go_big_quiet_step (first | (go_at_call 223; exact in_past (wrongNode_at k v c a ks.length cap (m+1) d _))))
 refine wpQuiet_nil ?_;rintro w3 ⟨⟨v3,hb3⟩,h3'⟩;obtain rfl:w3=v3:=h3';have T3:=TA.next hb3;have S3:=SA.next hb3 zA;have X3:=XA.trans (BelowX.of hb3 (by omega));have z3:=hb3.size;clear p0 p1 p2 p3 p4 p5 p6 TA SA XA this;generalize hw0:nodeW k ks.length (m+1) d=e0;by_cases hw:e0=0
 ·subst hw;have HW:Hid (nodeW k ks.length (m+1) d=0):=hw0;have hq:ks.length=kidsN k∧1≤k∧k≤18∧m+1≤200∧d≤20:=by
   unfold nodeW at hw0;by_cases g1:200<m+1∨20<d
   ·simp [g1] at hw0
   by_cases g2:k<1∨18<k
   ·simp [g1,g2] at hw0
   by_cases g3:ks.length=kidsN k
   ·exact ⟨g3,by omega⟩
   ·simp [g1,g2,g3] at hw0
  obtain ⟨hln,hk1,hk18,hm1,hd1⟩:=hq;have hl3:ks.length≤3:=by rw [hln]; exact kidsN_le k
  have HL:Hid (ks.length=kidsN k):=hln;have hmk:=make_ints hl3;clear hw0 hln;obtain ⟨s0,s1,s2,s3,s4,s5⟩:=S3;simp only [Nat.zero_add] at s1 s2 s3 s4 s5;have zl:w.heap.size<w3.heap.size:=by omega
  go_wp2_with fail
  have S3:Six w3 w.heap.size 0 k v c a ks.length cap:=⟨s0,s1,s2,s3,s4,s5⟩
  have O4:=Own1.new w3 ks.length 3;have hal:Below w3.heap.size w3 (w3.alloc (.cells (Array.replicate ks.length (.int .i64 0)) 3)):=(Below.refl _ _).alloc (Nat.le_refl _) _;have T4:=T3.next hal;have S4:=S3.next hal zl;have X4:=X3.trans (BelowX.of hal (by omega));generalize w3.alloc (.cells (Array.replicate ks.length (.int .i64 0)) 3)=w4 at *;clear hal T3 S3 X3 s0 s1 s2 s3 s4 s5 hmk hb3 z3 zA;generalize w3.heap.size=g at *
  go_loopw [38] (fun i wr=>∃ (j:Nat) (ts:List Int) (q:Int),j≤ks.length∧i = .int .i64 j∧Hid (ts.length=j)∧0≤q∧q≤200∧Hid (typesX cols ks [] (m+1) (d+1)=typesX cols (ks.drop j) ts q (d+1)) ∧
   BelowX t w wr∧TyC wr t ca cols.length ccap q∧Six wr w.heap.size 0 k v c a ks.length cap∧Own1 wr g (ts ++ List.replicate (ks.length - j) 0)) (fun i _=>ks.length - (intOf i).toNat)
  case atStart=>exact ⟨0,[],m+1,Nat.zero_le _,rfl,rfl,by omega,hm1,rfl,X4,T4,S4,by simpa using O4⟩
  case round =>
   obtain ⟨j,ts,q,hj,rfl,HT,hq0,hq,HE,hX,hT,hS,hO⟩:=hrel;have hz:=hX.size;have hOl:=hO.lt;by_cases hlt:j<ks.length
   ·obtain ⟨b,off,ai,ci,rfl,hbl,sx,kx⟩:=(KsAt.next (hX.below hBt) (Nat.le_refl _) hk).elem hlt;have hcr:=hc.next (hX.below hBt) (Nat.le_refl _);obtain ⟨x0,x1,x2,x3,x4,x5⟩:=sx;have hal:Below wr.heap.size wr (wr.alloc (.cells #[.int .i64 ks[j].k,.int .i64 ks[j].v.1,.int .i64 ks[j].v.2.1,.string ks[j].v.2.2,.int .i64 ks[j].c,.slice ai ks[j].ks.length ci] 27)):=(Below.refl _ _).alloc (Nat.le_refl _) _;have con:=ih ks[j] (List.getElem_mem _) B t ca ccap ai ci q (d+1) _ (KsAt.next hal (by omega) kx) (hcr.next hal (by omega)) hBt (hT.next hal) hq0 hq (by omega) (by omega);go_wp2_with fail
    refine con.mono ?_;clear con;rintro e w5 ⟨rfl,hX5,hT5⟩;have X5:=(BelowX.of hal (t:=t) (by omega)).trans hX5;have hX5':=hX.trans X5;have O5:=hO.nextX X5 (by omega);have S5:=hS.nextX X5 (by omega) (by omega);generalize hty:typeX cols ks[j] q (d+1)=ty at *;have HY:Hid (typeX cols ks[j] q (d+1)=ty):=hty;obtain ⟨t1,e1,n1⟩:=ty;clear hty hX5 hal hT hS hO x0 x1 x2 x3 x4 x5 kx hcr;by_cases he:e1=0
    ·subst he;have hn1:=typeX_n (by rw [HY.out]:(typeX cols ks[j] q (d+1)).2.1=0);rw [HY.out] at hn1;have HN:Hid (n1≤200∧q<n1):=hn1;have hlen:j<(ts ++ List.replicate (ks.length - j) 0).length:=by have:=HT.out; simp; omega
     have cc:w5.cell? ⟨g,j,none⟩=some (.int .i64 ((ts ++ List.replicate (ks.length - j) 0).getD j 0)):=by rw [O5.c j hlen]; simp [List.getD,List.getElem?_eq_getElem hlen]
     generalize (ts ++ List.replicate (ks.length - j) 0).getD j 0=old at cc;have ff:=O5.f j;have O6:=O5.set j hlen t1;rw [pad_set ts ks.length j t1 HT.out hlt] at O6;have S6:=S5.far g j (.int .i64 t1) (by omega);have T6:=hT5.far g j (.int .i64 t1) (by omega);have X6:=hX5'.setNew g j (.int .i64 t1) (by omega) (by omega);clear hn1 O5 S5 hT5 hX5' X5 hlen;go_wp2
     go_roundw
     case rel=>exact ⟨j+1,ts ++ [t1],n1,by omega,by go_num,by have:=HT.out; show (ts ++ [t1]).length=j+1; simp [this],by have:=HN.out; omega,HN.out.1,by rw [HE.out,typesX_next cols ks ts q (d+1) j hlt (by rw [HY.out]),HY.out]; rfl,X6,T6,S6,O6⟩
     case measure=>simp [intOf]; omega
    ·have er:r=(0,e1,n1):=by
      rw [← HR.out];refine typeX_kid HW.out (ts:=ts) ?_ he;rw [HE.out,typesX_bad cols ks ts q (d+1) j hlt (by rw [HY.out]; exact he),HY.out]
     subst er;have q':(e1 != 0)=true:=by simpa using he
     clear HR O5 S5;go_wp2
     exact bodyPost_ret (v:=.tuple #[.int .i64 0,.int .i64 e1]) (by simp [results,Tryz.results197,go_sem]) rfl ⟨rfl,hX5',hT5⟩
   ·have ej:j=ks.length:=by omega
    subst ej;have hts:=HT.out;rw [Nat.sub_self,List.replicate_zero,List.append_nil] at hO;have er:r=((nodeT cols k v c ts).1,(nodeT cols k v c ts).2,q):=by
     rw [← HR.out];refine typeX_own HW.out ?_;rw [HE.out,typesX_end cols ks ts q (d+1) _ (Nat.le_refl _)]
    have HTS:Hid (ts.length=ks.length):=hts;clear HR HE hts HT;obtain ⟨s0,s1,s2,s3,s4,s5⟩:=hS;simp only [Nat.zero_add] at s1 s2 s3 s4 s5;by_cases k1:k=1
    ·subst k1;have e:nodeT cols 1 v c ts=litT v:=by simp [nodeT]
     rw [e] at er;subst er;clear e;go_wp2_with fail
     refine (litType_at v _).mono ?_;rintro e w5 ⟨rfl,hb5⟩;have T5:=hT.next hb5;have X5:=hX.trans (BelowX.of hb5 (by omega));clear s0 s1 s2 s3 s4 s5;go_wp2
     exact bodyPost_ret (v:=.tuple #[.int .i64 (litT v).1,.int .i64 (litT v).2]) (by simp [results,Tryz.results197,go_sem]) rfl ⟨rfl,X5,T5⟩
    have n1:(k == 1)=false:=by simpa using k1
    by_cases k2:k=2
    ·subst k2;have e:nodeT cols 2 v c ts=colT cols c:=by simp [nodeT]
     rw [e] at er;subst er;clear e;have hcr:=hc.next (hX.below hBt) (Nat.le_refl _);have p0:=past_cell hT.c0;have p4:=past_cell s4;haveI:Nonempty (Past wr):=⟨⟨_,Below.refl _ _⟩⟩
     go_wp2_with fail
     refine wp_region_past (by kernel_rfl) (by kernel_rfl) ?_
     repeat (go_big_quiet_step (first | (go_at_call 225; exact in_past (colType_at B ca ccap cols c _ (hcr.next (Past.ok _) (by omega))))))
     refine wpQuiet_nil ?_;rintro w5 ⟨⟨v5,hb5⟩,h5⟩;obtain rfl:w5=v5:=h5;have T5:=hT.next hb5;have X5:=hX.trans (BelowX.of hb5 (by omega));clear p0 p4 s0 s1 s2 s3 s4 s5;go_wp2
     exact bodyPost_ret (v:=.tuple #[.int .i64 (colT cols c).1,.int .i64 (colT cols c).2]) (by simp [results,Tryz.results197,go_sem]) rfl ⟨rfl,X5,T5⟩
    have n2:(k == 2)=false:=by simpa using k2
    have e:nodeT cols k v c ts=resT (kidsT k ts):=by simp [nodeT,k1,k2]
    rw [e] at er;clear e;have con:=kidsType_at k wr.heap.size (some ⟨g,0,none⟩) ks.length ts wr (Nat.le_refl _) (hO.is (by rw [HTS.out]; unfold maxLen; omega)) (by omega) hk18 (by rw [HTS.out]; exact HL.out);rw [HTS.out] at con;generalize resT (kidsT k ts)=rr at *;subst er;go_wp2_with fail
    refine con.mono ?_;rintro e w5 ⟨rfl,hb5⟩;have T5:=hT.next hb5;have X5:=hX.trans (BelowX.of hb5 (by omega));clear con s0 s1 s2 s3 s4 s5;go_wp2
    exact bodyPost_ret (v:=.tuple #[.int .i64 rr.1,.int .i64 rr.2]) (by simp [results,Tryz.results197,go_sem]) rfl ⟨rfl,X5,T5⟩
 ·have er:r=(0,e0,m+1):=by rw [← HR.out,← hw0,typeX_bad (by rw [hw0]; exact hw)]
  subst er;have q:(e0 != 0)=true:=by simpa using hw
  clear hw0 HR S3;go_wp2
  exact bodyPost_ret (v:=.tuple #[.int .i64 0,.int .i64 e0]) (by simp [results,Tryz.results197,go_sem]) rfl ⟨rfl,X3,T3⟩
theorem typeOf_any (cols:List Int):∀ x,TypeOfAt cols x:=Ex.ind fun k v c ks ih=>typeOf_at cols k v c ks ih

theorem Asks.congr {cols:List Int} {lo:Nat} {u:Value} {f f':List Vl→Vl} {w:World} (h:Asks cols lo u f w) (e:∀ row,FitP cols row→f row=f' row):Asks cols lo u f' w:=by
 obtain ⟨g,cb,eu,eg,hd⟩:=h;exact ⟨g,cb,eu,eg,fun row a cap W hf hs hW=>by rw [← e row hf]; exact hd row a cap W hf hs hW⟩
/-- 'make' of no more than eight functions. -/
theorem make_funcs {n:Nat} (h:n≤8) (w:World):(Instr.makeSlice 183 (.int .i64 n) (.int .i64 n)).run Tryz.prog w = .ok (.slice (some ⟨w.heap.size,0,none⟩) n n) (w.alloc (.cells (Array.replicate n Value.nilFunc) 179)):=by
 obtain rfl | rfl | rfl | rfl | rfl | rfl | rfl | rfl | rfl:n=0∨n=1∨n=2∨n=3∨n=4∨n=5∨n=6∨n=7∨n=8:=by omega
 all_goals kernel_rfl
/-- Functions in a slice in a variable, the first j of them made. -/
structure FTo (cols:List Int) (K kb M:Nat) (W:World) (ks:List Ex) (j:Nat):Prop where
 lt:K<M∧kb<M∧K≠kb∧M≤W.heap.size
 box:W.cell? ⟨kb,0,none⟩=some (.slice (some ⟨K,0,none⟩) ks.length ks.length)
 room:∀ i,i<ks.length→(∃ u,W.cell? ⟨K,i,none⟩=some u)∧W.frozen? ⟨K,i,none⟩=false
 done:∀ i (h:i<ks.length),i<j→∃ u,W.cell? ⟨K,i,none⟩=some u∧Asks cols M u (fun row=>valX row ks[i]) W
theorem FTo.next {cols:List Int} {K kb M:Nat} {W w1:World} {ks:List Ex} {j:Nat} (h:FTo cols K kb M W ks j) (hb:Below W.heap.size W w1):FTo cols K kb M w1 ks j:=by
 obtain ⟨h1,h2,h3,h4⟩:=h;have z:=hb.size;refine ⟨⟨h1.1,h1.2.1,h1.2.2.1,by omega⟩,(hb.cell (p:=⟨kb,0,none⟩) (by show kb<_; omega)).trans h2,fun i hi=>?_,fun i hi hj=>?_⟩
 ·obtain ⟨⟨u,hu⟩,hf⟩:=h3 i hi;exact ⟨⟨u,(hb.cell (p:=⟨K,i,none⟩) (by show K<_; omega)).trans hu⟩,(hb.frozen (p:=⟨K,i,none⟩) (by show K<_; omega)).trans hf⟩
 ·obtain ⟨u,hu,ha⟩:=h4 i hi hj;exact ⟨u,(hb.cell (p:=⟨K,i,none⟩) (by show K<_; omega)).trans hu,ha.next (Since.of hb)⟩
theorem FTo.store {cols:List Int} {K kb M:Nat} {W:World} {ks:List Ex} {j:Nat} (h:FTo cols K kb M W ks j) (hj:j<ks.length) {u:Value} (ha:Asks cols M u (fun row=>valX row ks[j]) W):FTo cols K kb M (W.setCell ⟨K,j,none⟩ u) ks (j+1):=by
 obtain ⟨h1,h2,h3,h4⟩:=h;have hS:Since M W (W.setCell ⟨K,j,none⟩ u):=(Since.refl M W).set K j u (by omega);have same:(W.setCell ⟨K,j,none⟩ u).cell? ⟨K,j,none⟩=some u:=World.cell?_setCell_same' _ _ _ (by obtain ⟨⟨u',hu⟩,_⟩:=h3 j hj; rw [hu]; rfl);refine ⟨⟨h1.1,h1.2.1,h1.2.2.1,by simpa using h1.2.2.2⟩,?_,fun i hi=>?_,fun i hi hij=>?_⟩
 ·rw [World.cell?_setCell_other _ _ _ _ (by intro e; injection e with e; omega)]; exact h2
 ·obtain ⟨⟨u',hu⟩,hf⟩:=h3 i hi;refine ⟨?_,by rw [World.frozen?_setCell]; exact hf⟩;by_cases e:i=j
  ·subst e; exact ⟨_,same⟩
  ·exact ⟨u',by rw [World.cell?_setCell_other _ _ _ _ (by intro e; injection e with _ e; omega)]; exact hu⟩
 ·by_cases e:i=j
  ·subst e; exact ⟨u,same,ha.next hS⟩
  ·obtain ⟨u',hu,ha'⟩:=h4 i hi (by omega);exact ⟨u',by rw [World.cell?_setCell_other _ _ _ _ (by intro e; injection e with _ e; omega)]; exact hu,ha'.next hS⟩
theorem FTo.kids {cols:List Int} {K kb M lo:Nat} {W:World} {ks:List Ex} (h:FTo cols K kb M W ks ks.length) (h1:lo≤K) (h2:lo≤kb):KidsF cols lo W kb ks:=by
 obtain ⟨l1,l2,_,l4⟩:=h;refine ⟨K,h2,by omega,h1,by omega,l2,fun i hi=>?_⟩;obtain ⟨u,hu,ha⟩:=l4 i hi hi;exact ⟨u,hu,ha.down (by omega)⟩
theorem FTo.new {cols:List Int} {w:World} {n:Nat} (ks:List Ex) (hn:n=ks.length) (T T':TypeId) {o:Obj} :
  FTo cols (w.heap.size+1) (w.heap.size+2) (w.heap.size+3) (((w.alloc o).alloc (.cells (Array.replicate n Value.nilFunc) T)).alloc (.cells #[.slice (some ⟨w.heap.size+1,0,none⟩) n n] T')) ks 0:=by
 subst hn;refine ⟨⟨by omega,by omega,by omega,by simp⟩,?_,fun i hi=>⟨⟨Value.nilFunc,?_⟩,?_⟩,fun i _ h=>absurd h (Nat.not_lt_zero _)⟩
 ·rw [World.cell?_alloc_at _ _ _ _ (by simp)]; rfl
 ·rw [World.cell?_alloc_past _ _ _ (by simp),World.cell?_alloc_at _ _ _ _ (by simp)];simp [hi]
 ·rw [World.frozen?_alloc_past _ _ _ (by simp)];exact World.frozen?_alloc_at _ _ _ _ (by simp)
theorem Fn2.down {lo lo':Nat} {u:Value} {f:Vl→Vl→Vl} {w:World} (h:Fn2 lo u f w) (hl:lo'≤lo):Fn2 lo' u f w:=by
 obtain ⟨g,cb,e,eg,hd⟩:=h;exact ⟨g,cb,e,eg,fun p q W hp hq hW=>hd p q W hp hq (hW.up hl)⟩
theorem vals_at (row:List Vl) (ks:List Ex) (i:Nat) (hi:i<ks.length):(valsX row ks).getD i vl0=valX row ks[i]:=by
 rw [valsX_map];simp [List.getD,hi]
/-- What ready is asked for. -/
def ReadyAt (cols:List Int) (x:Ex):Prop :=
 ∀ (B:Nat) (a:Option Addr) (cap:Nat) (w:World),KsAt B w a x.ks→B≤w.heap.size →
  Calls Tryz.prog 184 #[exV x.k x.v x.c a x.ks.length cap] w fun e w'=>∃ u,e = .returned u∧Asks cols w.heap.size u (fun row=>valX row x) w'∧Below w.heap.size w w'

set_option maxHeartbeats 4000000 in
theorem ready_at (cols:List Int) (k:Int) (v:Vl) (c:Int) (ks:List Ex) (t:Int) (ht:typP cols (.mk k v c ks)=some t) (ih:∀ x ∈ ks,ReadyAt cols x):ReadyAt cols (.mk k v c ks):=by
 obtain ⟨h1,h18,hl,ts,hts,hn⟩:=typP_node ht;intro B a cap w hk hB;simp only [Ex.k,Ex.v,Ex.c,Ex.ks] at hk ⊢;have hl3:ks.length≤8:=by have:=kidsN_le k; omega
 have HL:Hid (ks.length=kidsN k):=hl;have hmk:=make_funcs hl3;have S0:=Six.new w k v c a ks.length cap 27;have HI:Hid (∀ x ∈ ks,ReadyAt cols x):=ih;clear hl ih;obtain ⟨s0,s1,s2,s3,s4,s5⟩:=S0;simp only [Nat.zero_add] at s1 s2 s3 s4 s5;have S1:Six (w.alloc (.cells #[.int .i64 k,.int .i64 v.1,.int .i64 v.2.1,.string v.2.2,.int .i64 c,.slice a ks.length cap] 27)) w.heap.size 0 k v c a ks.length cap:=⟨s0,s1,s2,s3,s4,s5⟩
 have F0:FTo cols (w.heap.size+1) (w.heap.size+2) (w.heap.size+3) (((w.alloc (.cells #[.int .i64 k,.int .i64 v.1,.int .i64 v.2.1,.string v.2.2,.int .i64 c,.slice a ks.length cap] 27)).alloc (.cells (Array.replicate ks.length Value.nilFunc) 179)).alloc (.cells #[.slice (some ⟨w.heap.size+1,0,none⟩) ks.length ks.length] 183)) ks 0:=FTo.new ks rfl _ _
 have hA:Below w.heap.size w (((w.alloc (.cells #[.int .i64 k,.int .i64 v.1,.int .i64 v.2.1,.string v.2.2,.int .i64 c,.slice a ks.length cap] 27)).alloc (.cells (Array.replicate ks.length Value.nilFunc) 179)).alloc (.cells #[.slice (some ⟨w.heap.size+1,0,none⟩) ks.length ks.length] 183)):=(((Below.refl _ _).alloc (Nat.le_refl _) _).alloc (by simp) _).alloc (by simp; omega) _
 have S3:Six (((w.alloc (.cells #[.int .i64 k,.int .i64 v.1,.int .i64 v.2.1,.string v.2.2,.int .i64 c,.slice a ks.length cap] 27)).alloc (.cells (Array.replicate ks.length Value.nilFunc) 179)).alloc (.cells #[.slice (some ⟨w.heap.size+1,0,none⟩) ks.length ks.length] 183)) w.heap.size 0 k v c a ks.length cap:=(S1.next ((Below.refl _ _).alloc (Nat.le_refl _) _) (by simp)).next ((Below.refl _ _).alloc (Nat.le_refl _) _) (by simp; omega);clear S1;go_enter Tryz.func184,Tryz.ntmps184;go_wp2_with fail
 generalize ((w.alloc (.cells #[.int .i64 k,.int .i64 v.1,.int .i64 v.2.1,.string v.2.2,.int .i64 c,.slice a ks.length cap] 27)).alloc (.cells (Array.replicate ks.length Value.nilFunc) 179)).alloc (.cells #[.slice (some ⟨w.heap.size+1,0,none⟩) ks.length ks.length] 183)=w3 at *;clear s0 s1 s2 s3 s4 s5 hmk;go_loopw [14] (fun i wr=>∃ j:Nat,j≤ks.length∧i = .int .i64 j∧FTo cols (w.heap.size+1) (w.heap.size+2) (w.heap.size+3) wr ks j∧Six wr w.heap.size 0 k v c a ks.length cap∧Below w.heap.size w wr) (fun i _=>ks.length - (intOf i).toNat)
 case atStart=>exact ⟨0,Nat.zero_le _,rfl,F0,S3,hA⟩
 case round =>
  clear F0 S3 hA;obtain ⟨j,hj,rfl,F,S,hb⟩:=hrel;have hz:=hb.size;have hzF:=F.lt.2.2.2;by_cases hlt:j<ks.length
  ·obtain ⟨b,off,ai,ci,rfl,hbl,sx,kx⟩:=(KsAt.next hb hB hk).elem hlt;obtain ⟨x0,x1,x2,x3,x4,x5⟩:=sx;have hal:Below wr.heap.size wr (wr.alloc (.cells #[.int .i64 ks[j].k,.int .i64 ks[j].v.1,.int .i64 ks[j].v.2.1,.string ks[j].v.2.2,.int .i64 ks[j].c,.slice ai ks[j].ks.length ci] 27)):=(Below.refl _ _).alloc (Nat.le_refl _) _
   have hd:Below (wr.alloc (.cells #[.int .i64 ks[j].k,.int .i64 ks[j].v.1,.int .i64 ks[j].v.2.1,.string ks[j].v.2.2,.int .i64 ks[j].c,.slice ai ks[j].ks.length ci] 27)).heap.size (wr.alloc (.cells #[.int .i64 ks[j].k,.int .i64 ks[j].v.1,.int .i64 ks[j].v.2.1,.string ks[j].v.2.2,.int .i64 ks[j].c,.slice ai ks[j].ks.length ci] 27)) (wr.alloc (.cells #[.int .i64 ks[j].k,.int .i64 ks[j].v.1,.int .i64 ks[j].v.2.1,.string ks[j].v.2.2,.int .i64 ks[j].c,.slice ai ks[j].ks.length ci] 27)).drew:=(Below.refl _ _).drew
   have con:=HI.out ks[j] (List.getElem_mem _) B ai ci (wr.alloc (.cells #[.int .i64 ks[j].k,.int .i64 ks[j].v.1,.int .i64 ks[j].v.2.1,.string ks[j].v.2.2,.int .i64 ks[j].c,.slice ai ks[j].ks.length ci] 27)).drew (KsAt.next (hal.trans (hd.mono hal.size)) (by omega) kx) (by have:=hal.size; have:=hd.size; omega);have Fk:=F.next hal;have bx:=Fk.box;obtain ⟨⟨uo,ro⟩,fo⟩:=Fk.room j hlt;have Sk:=Six.new wr ks[j].k ks[j].v ks[j].c ai ks[j].ks.length ci 27;obtain ⟨k0,k1,k2,k3,k4,k5⟩:=Sk;simp only [Nat.zero_add] at k1 k2 k3 k4 k5;have hjz:(j:Int)<ks.length:=by omega
   go_wp2_with fail
   clear x0 x1 x2 x3 x4 x5 kx;have hal2:=hal;have zk:(wr.alloc (.cells #[.int .i64 ks[j].k,.int .i64 ks[j].v.1,.int .i64 ks[j].v.2.1,.string ks[j].v.2.2,.int .i64 ks[j].c,.slice ai ks[j].ks.length ci] 27)).heap.size=wr.heap.size+1:=by simp
   generalize wr.alloc (.cells #[.int .i64 ks[j].k,.int .i64 ks[j].v.1,.int .i64 ks[j].v.2.1,.string ks[j].v.2.2,.int .i64 ks[j].c,.slice ai ks[j].ks.length ci] 27)=wk at *;go_region_with (go_at_call 184; refine con.mono ?_; rintro e w1 ⟨u,rfl,hA1,hb1⟩; have F1:=(Fk.next hd).next hb1; have q1:=F1.box; obtain ⟨⟨un,q2⟩,q3⟩:=F1.room j hlt; obtain ⟨ug,ucb,eu⟩:∃ g cb,u = .func (.func g) #[] cb:=(by obtain ⟨g,cb,e,_⟩:=hA1; exact ⟨g,cb,e⟩); subst eu)
   all_goals (
    go_wp2
    go_roundw
    case rel =>
     refine ⟨j+1,by omega,by go_num,F1.store hlt (hA1.down (by show w.heap.size+3≤wk.drew.heap.size; have:=hd.size; omega)),((S.next hal2 (by omega)).next (hd.trans (hb1.mono hd.size)) (by omega)).far _ _ _ (by omega),?_⟩;exact (chain (chain hb hal2) (hd.trans (hb1.mono hd.size))).setCell (p:=⟨w.heap.size+1,j,none⟩) (by show w.heap.size≤w.heap.size+1; omega) _
    case measure=>simp [intOf]; omega)
  ·have e:j=ks.length:=by omega
   subst e;obtain ⟨s0,s1,s2,s3,s4,s5⟩:=S;simp only [Nat.zero_add] at s1 s2 s3 s4 s5;by_cases k1:k=1
   ·subst k1;go_wp2_with fail
    refine (always_at cols v wr).mono ?_;rintro e w1 ⟨u,rfl,hA1,hb1⟩;go_wp2
    go_ret;exact ⟨_,rfl,(hA1.down hz).congr (fun row _=>by rw [valX,nodeV,if_pos rfl]),chain hb hb1⟩
   have n1:(k == 1)=false:=by simpa using k1
   by_cases k2:k=2
   ·subst k2;unfold nodeT at hn;rw [if_neg (by decide),if_pos rfl] at hn;obtain ⟨q0,q1,_⟩:=colT_ok hn;clear hn;go_wp2_with fail
    refine (column_at cols c wr q0 q1).mono ?_;rintro e w1 ⟨u,rfl,hA1,hb1⟩;go_wp2
    go_ret;exact ⟨_,rfl,(hA1.down hz).congr (fun row _=>by rw [valX,nodeV,if_neg (by decide),if_pos rfl]),chain hb hb1⟩
   have n2:(k == 2)=false:=by simpa using k2
   have KF:KidsF cols w.heap.size wr (w.heap.size+2) ks:=F.kids (by omega) (by omega);by_cases k3:k=3
   ·subst k3;have l1:ks.length=1:=HL.out;have HK:Hid (KidsF cols w.heap.size wr (w.heap.size+2) ks):=KF;have H1:Hid (ks.length=1):=l1;clear KF l1;go_wp2
    go_ret;refine ⟨_,rfl,⟨205,_,rfl,enters_of Tryz.func205 (by kernel_rfl) rfl,?_⟩,hb⟩;intro row a cap W hf hs hW;have e:valX row (.mk 3 v c ks)=notP (valX row (ks[0]'(by rw [H1.out]; omega))):=by rw [valX,nodeV,if_neg (by decide),if_neg (by decide),if_pos rfl,vals_at row ks 0 (by rw [H1.out]; omega)]
    show Calls _ _ _ _ fun e w'=>e = .returned (agV (valX row (.mk 3 v c ks)))∧_
    rw [e];exact ready1_at cols w.heap.size (w.heap.size+2) ks a row cap W (HK.out.next hW) (by rw [H1.out]; omega) hf hs
   have n3:(k == 3)=false:=by simpa using k3
   by_cases k16:k=16
   ·subst k16;have l1:ks.length=1:=HL.out;have HK:Hid (KidsF cols w.heap.size wr (w.heap.size+2) ks):=KF;have H1:Hid (ks.length=1):=l1;clear KF l1;go_wp2
    go_ret;refine ⟨_,rfl,⟨207,_,rfl,enters_of Tryz.func207 (by kernel_rfl) rfl,?_⟩,hb⟩;intro row a cap W hf hs hW;have e:valX row (.mk 16 v c ks)=tri (some ((valX row (ks[0]'(by rw [H1.out]; omega))).1 == 1)):=by rw [valX,nodeV,if_neg (by decide),if_neg (by decide),if_neg (by decide),if_pos rfl,vals_at row ks 0 (by rw [H1.out]; omega)]
    show Calls _ _ _ _ fun e w'=>e = .returned (agV (valX row (.mk 16 v c ks)))∧_
    rw [e];exact ready2_at cols w.heap.size (w.heap.size+2) ks a row cap W (HK.out.next hW) (by rw [H1.out]; omega) hf hs
   have n16:(k == 16)=false:=by simpa using k16
   by_cases k17:k=17
   ·subst k17;have l3:ks.length=3:=HL.out;have m0:0<ks.length:=by omega
    have m1:1<ks.length:=by omega
    have m2:2<ks.length:=by omega
    have bx:=F.box;obtain ⟨u0,c0,A0⟩:=F.done 0 m0 m0;obtain ⟨u1,c1,A1⟩:=F.done 1 m1 m1;obtain ⟨u2,c2,A2⟩:=F.done 2 m2 m2;have A0:=A0.down (show w.heap.size≤w.heap.size+3 by omega);have A1:=A1.down (show w.heap.size≤w.heap.size+3 by omega);have A2:=A2.down (show w.heap.size≤w.heap.size+3 by omega);obtain ⟨g0,cb0,rfl⟩:∃ g cb,u0 = .func (.func g) #[] cb:=by obtain ⟨g,cb,e,_⟩:=A0; exact ⟨g,cb,e⟩
    obtain ⟨g1,cb1,rfl⟩:∃ g cb,u1 = .func (.func g) #[] cb:=by obtain ⟨g,cb,e,_⟩:=A1; exact ⟨g,cb,e⟩
    obtain ⟨g2,cb2,rfl⟩:∃ g cb,u2 = .func (.func g) #[] cb:=by obtain ⟨g,cb,e,_⟩:=A2; exact ⟨g,cb,e⟩
    have p0:=past_cell bx;have p1:=past_cell c0;have p2:=past_cell c1;have p3:=past_cell c2;have z0:(0:Int)<(ks.length:Int):=by omega
    have z1:(1:Int)<(ks.length:Int):=by omega
    have z2:(2:Int)<(ks.length:Int):=by omega
    have H3:Hid (ks.length=3):=l3;clear l3 KF;go_wp2_with fail
    have hB0:Below wr.heap.size wr wr.drew:=(Below.refl _ _).drew;refine wp_region_ext (by kernel_rfl) ?_;refine wpX_take (some 45) (i:=0) (v:=.slice (some ⟨w.heap.size+1,0,none⟩) ks.length ks.length) rfl rfl (by kernel_rfl) (by kernel_rfl) (by kernel_rfl) (fun _ _ _ h=>h) (Or.inl ⟨rfl,fun n=>?_⟩) hB0 ?_
    ·go_simp
    simp only [Act.put,pA,pB,pC];refine wpX_take (some 46) (i:=1) (v:=.pointer (some ⟨w.heap.size+1,0,none⟩)) rfl rfl (by kernel_rfl) (by kernel_rfl) (by kernel_rfl) (fun _ _ _ h=>h) (Or.inl ⟨rfl,fun n=>?_⟩) hB0 ?_
    ·go_simp
    simp only [Act.put,pA,pB,pC];refine wpX_take (some 47) (i:=2) (v:=.func (.func g0) #[] cb0) rfl rfl (by kernel_rfl) (by kernel_rfl) (by kernel_rfl) (fun _ _ _ h=>h) (Or.inl ⟨rfl,fun n=>?_⟩) hB0 ?_
    ·go_simp
    simp only [Act.put,pA,pB,pC];refine wpX_take (some 48) (i:=3) (v:=.slice (some ⟨w.heap.size+1,0,none⟩) ks.length ks.length) rfl rfl (by kernel_rfl) (by kernel_rfl) (by kernel_rfl) (fun _ _ _ h=>h) (Or.inl ⟨rfl,fun n=>?_⟩) hB0 ?_
    ·go_simp
    simp only [Act.put,pA,pB,pC];refine wpX_take (some 49) (i:=4) (v:=.pointer (some ⟨w.heap.size+1,1,none⟩)) rfl rfl (by kernel_rfl) (by kernel_rfl) (by kernel_rfl) (fun _ _ _ h=>h) (Or.inl ⟨rfl,fun n=>?_⟩) hB0 ?_
    ·go_simp
    simp only [Act.put,pA,pB,pC];refine wpX_take (some 50) (i:=5) (v:=.func (.func g1) #[] cb1) rfl rfl (by kernel_rfl) (by kernel_rfl) (by kernel_rfl) (fun _ _ _ h=>h) (Or.inl ⟨rfl,fun n=>?_⟩) hB0 ?_
    ·go_simp
    simp only [Act.put,pA,pB,pC];refine wpX_take (some 51) (i:=6) (v:=.slice (some ⟨w.heap.size+1,0,none⟩) ks.length ks.length) rfl rfl (by kernel_rfl) (by kernel_rfl) (by kernel_rfl) (fun _ _ _ h=>h) (Or.inl ⟨rfl,fun n=>?_⟩) hB0 ?_
    ·go_simp
    simp only [Act.put,pA,pB,pC];refine wpX_take (some 52) (i:=7) (v:=.pointer (some ⟨w.heap.size+1,2,none⟩)) rfl rfl (by kernel_rfl) (by kernel_rfl) (by kernel_rfl) (fun _ _ _ h=>h) (Or.inl ⟨rfl,fun n=>?_⟩) hB0 ?_
    ·go_simp
    simp only [Act.put,pA,pB,pC];refine wpX_take (some 53) (i:=8) (v:=.func (.func g2) #[] cb2) rfl rfl (by kernel_rfl) (by kernel_rfl) (by kernel_rfl) (fun _ _ _ h=>h) (Or.inl ⟨rfl,fun n=>?_⟩) hB0 ?_
    ·go_simp
    simp only [Act.put,pA,pB,pC];clear p0 p1 p2 p3;refine wpX_step (rs:=[9]) (by kernel_rfl) (by simp) ?_;intro w5 hb5 i hi;obtain rfl:i=9:=by simpa using hi
    clear hi;have D5:=hB0.trans (hb5.mono hB0.size);refine wpOp_step rfl (fun K hK=>?_);go_simp;refine (either_at cols w.heap.size _ _ _ _ _ _ w5 (by have:=D5.size; omega) (A0.next (Since.of D5)) (A1.next (Since.of D5)) (A2.next (Since.of D5))).mono ?_;rintro e w6 ⟨u,rfl,hA6,hb6⟩;have D6:=D5.trans (hb6.mono D5.size);refine hK _ _ ⟨D6,?_⟩;clear hK K;refine wpX_step (rs:=[10]) (by kernel_rfl) (by simp) ?_;intro w7 hb7 i hi;obtain rfl:i=10:=by simpa using hi
    clear hi;have D7:=D6.trans (hb7.mono D6.size);refine wpOp_step rfl (fun K hK=>?_);go_simp;refine hK _ _ ⟨D7,?_⟩;clear hK K;refine wpX_done (by kernel_rfl) ?_;intro w8 hb8;have D8:=D7.trans (hb8.mono D7.size);go_wp2
    go_ret;refine ⟨_,rfl,(hA6.next (Since.of (chain hb7 hb8))).congr (fun row _=>?_),chain hb D8⟩;rw [valX,nodeV,if_neg k1,if_neg k2,if_neg k3,if_neg k16,if_pos (show (17:Int)=17 from rfl),vals_at row ks 0 m0,vals_at row ks 1 m1,vals_at row ks 2 m2]
   have n17:(k == 17)=false:=by simpa using k17
   have l2:ks.length=2:=by rw [HL.out]; unfold kidsN; rw [if_neg (by omega),if_neg (by omega),if_neg k17]
   have H2:Hid (ks.length=2):=l2;have HK:Hid (KidsF cols w.heap.size wr (w.heap.size+2) ks):=KF;clear l2 KF;go_wp2_with fail
   refine (ofTwo_at k (by omega) (by omega) wr).mono ?_;rintro e w1 ⟨u,rfl,hF,hb1⟩;obtain ⟨g0,cb0,rfl⟩:∃ g cb,u = .func (.func g) #[] cb:=by obtain ⟨g,cb,e,_⟩:=hF; exact ⟨g,cb,e⟩
   have hal:Below w1.heap.size w1 (w1.alloc (.cells #[.func (.func g0) #[] cb0] 240)):=(Below.refl _ _).alloc (Nat.le_refl _) _;have hb1':=chain hb hb1;go_wp2
   go_ret;refine ⟨_,rfl,⟨211,_,rfl,enters_of Tryz.func211 (by kernel_rfl) rfl,?_⟩,chain hb1' hal⟩;intro row a cap W hf hs hW;have m0:0<ks.length:=by rw [H2.out]; omega
   have m1:1<ks.length:=by rw [H2.out]; omega
   have e:valX row (.mk k v c ks)=twoP k (valX row ks[0]) (valX row ks[1]):=by rw [valX,nodeV,if_neg k1,if_neg k2,if_neg k3,if_neg k16,if_neg k17,vals_at row ks 0 m0,vals_at row ks 1 m1]
   show Calls _ _ _ _ fun e w'=>e = .returned (agV (valX row (.mk k v c ks)))∧_
   rw [e];have zz:=hb1'.size;exact ready3_at cols w.heap.size (w.heap.size+2) w1.heap.size k ks a row cap W _ ((hW.cell (p:=⟨w1.heap.size,0,none⟩) zz (by simp)).trans (by simp)) (((hF.down (by omega)).next (Since.of hal)).next hW) (((HK.out.next (Since.of hb1)).next (Since.of hal)).next hW) m1 hf hs
    (valX_of hf _ _ (typsP_at hts 0 m0)).1 (valX_of hf _ _ (typsP_at hts 1 m1)).1
theorem ready_any (cols:List Int):∀ x t,typP cols x=some t→ReadyAt cols x:=by
 refine Ex.ind fun k v c ks ih t ht=>ready_at cols k v c ks t ht fun x hx=>?_
 obtain ⟨_,_,_,ts,hts,_⟩:=typP_node ht;obtain ⟨i,hi,rfl⟩:=List.getElem_of_mem hx;exact ih _ hx _ (typsP_at hts i hi)

theorem typeX_zero (cols:List Int):∀ (x:Ex) (n d:Int),¬ (typeX cols x n d).2.1=0→(typeX cols x n d).1=0
 | .mk k v c ks,n,d=>by
  rw [typeX]
  split
  ·intro _; rfl
  split
  ·intro _; rfl
  ·generalize (typesX cols ks [] (n+1) (d+1)).2.1=ts
   unfold nodeT
   split
   ·unfold litT; split <;> simp
   split
   ·unfold colT; split <;> simp
   ·cases kidsT k ts <;> simp [resT]
theorem typeTop_of {cols:List Int} {x:Ex} (h1:cols.length≤16) (h2:colsB cols=true):typeTop cols x=((typeX cols x 0 1).1,(typeX cols x 0 1).2.1):=by
 unfold typeTop;rw [if_neg (by omega),if_neg (by simp [h2])];by_cases h:(typeX cols x 0 1).2.1=0
 ·rw [if_pos h,h]
 ·rw [if_neg h,typeX_zero cols x 0 1 h]
theorem colsB_end (l:List Int) (k:Nat) (h:l.length≤k):colsB (l.drop k)=true:=by rw [List.drop_eq_nil_of_le h]; rfl
theorem colsB_no (l:List Int) (k:Nat) (h:k<l.length) (e:l[k]<1∨4<l[k]):colsB (l.drop k)=false:=by
 rw [List.drop_eq_getElem_cons h,colsB,List.all_cons];have:(decide (1≤l[k]) && decide (l[k]≤4))=false:=by
  rcases e with e | e
  ·have:decide (1≤l[k])=false:=decide_eq_false (by omega);rw [this]; rfl
  ·have:decide (l[k]≤4)=false:=decide_eq_false (by omega);rw [this,Bool.and_false]
 rw [this,Bool.false_and]
theorem colsB_next (l:List Int) (k:Nat) (h:k<l.length) (e:¬ l[k]<1) (e':¬ 4<l[k]):colsB (l.drop k)=colsB (l.drop (k+1)):=by
 rw [List.drop_eq_getElem_cons h,colsB,List.all_cons];have:(decide (1≤l[k]) && decide (l[k]≤4))=true:=by
  rw [decide_eq_true (by omega),decide_eq_true (by omega)]; rfl
 rw [this,Bool.true_and];rfl
set_option maxHeartbeats 2000000 in
theorem type_at (cols:List Int) (x:Ex) (ca:Option Addr) (ccap:Nat) (a:Option Addr) (cap:Nat) (w:World) (hk:KsAt w.heap.size w a x.ks) (hc:IsAt w.heap.size w ca cols) :
  Calls Tryz.prog 171 #[.slice ca cols.length ccap,exV x.k x.v x.c a x.ks.length cap] w fun e w'=>e = .returned (.tuple #[.int .i64 (typeTop cols x).1,.int .i64 (typeTop cols x).2])∧Below w.heap.size w w':=by
 have hl:=hc.1;unfold maxLen at hl;generalize hr:typeTop cols x=r;have HR:Hid (typeTop cols x=r):=hr;clear hr;by_cases h16:16<cols.length
 ·have er:r=(0,5):=by rw [← HR.out,typeTop,if_pos h16]
  subst er;clear HR;go_enter Tryz.func171,Tryz.ntmps171;go_wp2
  exact bodyPost_ret (v:=.tuple #[.int .i64 0,.int .i64 5]) (by simp [results,Tryz.results171,go_sem]) rfl ⟨rfl,(Below.refl _ _).alloc (Nat.le_refl _) _⟩
 go_enter Tryz.func171,Tryz.ntmps171;go_wp2_with fail
 have S0:=Six.new w x.k x.v x.c a x.ks.length cap 27;have hal:Below w.heap.size w (w.alloc (.cells (exA x a cap) 27)):=(Below.refl _ _).alloc (Nat.le_refl _) _;have z0:w.heap.size<(w.alloc (.cells (exA x a cap) 27)).heap.size:=by simp
 generalize w.alloc (.cells (exA x a cap) 27)=w0 at *;go_loopw [14] (fun i wr=>∃ j:Nat,j≤cols.length∧i = .int .i64 j∧Hid (colsB cols=colsB (cols.drop j))∧wr=w0) (fun i _=>cols.length - (intOf i).toNat)
 case atStart=>exact ⟨0,Nat.zero_le _,rfl,rfl,rfl⟩
 case round =>
  obtain ⟨j,hj,rfl,HE,rfl⟩:=hrel;by_cases hlt:j<cols.length
  ·obtain ⟨b,off,rfl,hbl,c⟩:=(hc.next hal (Nat.le_refl _)).elem hlt;by_cases g1:cols[j]<1
   ·have er:r=(0,1):=by
     rw [← HR.out,typeTop,if_neg h16,HE.out,colsB_no cols j hlt (.inl g1),if_pos rfl]
    subst er;clear HR HE;go_wp2
    exact bodyPost_ret (v:=.tuple #[.int .i64 0,.int .i64 1]) (by simp [results,Tryz.results171,go_sem]) rfl ⟨rfl,hal⟩
   by_cases g2:4<cols[j]
   ·have er:r=(0,1):=by
     rw [← HR.out,typeTop,if_neg h16,HE.out,colsB_no cols j hlt (.inr g2),if_pos rfl]
    subst er;clear HR HE;go_wp2
    exact bodyPost_ret (v:=.tuple #[.int .i64 0,.int .i64 1]) (by simp [results,Tryz.results171,go_sem]) rfl ⟨rfl,hal⟩
   have HC:Hid (colsB (cols.drop j)=colsB (cols.drop (j+1))):=colsB_next cols j hlt g1 g2;go_wp2
   go_roundw
   case rel=>exact ⟨j+1,by omega,by go_num,HE.out.trans HC.out,trivial⟩
   case measure=>simp [intOf]; omega
  ·have hcb:colsB cols=true:=by rw [HE.out,colsB_end cols j (by omega)]
   have er:r=((typeX cols x 0 1).1,(typeX cols x 0 1).2.1):=by rw [← HR.out,typeTop_of (by omega) hcb]
   have T0:TyC (wr.alloc (.cells #[.slice ca cols.length ccap,.int .i64 0] 228)) wr.heap.size ca cols.length ccap 0:=⟨by simp,by simp,by simp,by simp⟩
   have hal2:Below wr.heap.size wr (wr.alloc (.cells #[.slice ca cols.length ccap,.int .i64 0] 228)):=(Below.refl _ _).alloc (Nat.le_refl _) _;have con:=typeOf_any cols x w.heap.size wr.heap.size ca ccap a cap 0 1 _ (KsAt.next (chain hal hal2) (Nat.le_refl _) hk) (hc.next (chain hal hal2) (Nat.le_refl _)) hal.size T0 (by omega) (by omega) (by omega) (by omega);generalize typeX cols x 0 1=ty at *;subst er;clear HR HE hcb;obtain ⟨s0,s1,s2,s3,s4,s5⟩:=S0;simp only [Nat.zero_add] at s1 s2 s3 s4 s5;go_wp2_with fail
   refine con.mono ?_;rintro e w5 ⟨rfl,hX,_⟩;have hb5:=(chain hal hal2).trans (hX.below hal.size);clear con s0 s1 s2 s3 s4 s5 hX T0 hal2;go_wp2
   exact bodyPost_ret (v:=.tuple #[.int .i64 ty.1,.int .i64 ty.2.1]) (by simp [results,Tryz.results171,go_sem]) rfl ⟨rfl,hb5⟩
end Go.Proofs.YtohjlfhmnmcndaaGreat
namespace Go.Proofs.YtohjlfhmnmcndaaGreat
open Go.RowKit Go.Lib Go.Shelf

theorem putL_mem (r:List Vl) (w:Int):∀ z:List Zp,∀ y ∈ putL z r w,y ∈ z∨y.1=bareL r
 | []=>by
  unfold putL
  split
  ·simp
  ·intro y hy; simp at hy; subst hy; exact .inr rfl
 | x :: t=>by
  have ih:=putL_mem r w t
  unfold putL
  split
  ·intro y hy
   rcases List.mem_cons.1 hy with rfl | hy
   ·exact .inl (by simp)
   ·rcases ih y hy with h | h
    ·exact .inl (by simp [h])
    ·exact .inr h
  ·split
   ·split
    ·intro y hy; exact .inl (by simp [hy])
    ·intro y hy
     rcases List.mem_cons.1 hy with rfl | hy
     ·exact .inr rfl
     ·exact .inl (by simp [hy])
   ·split
    ·intro y hy; exact .inl hy
    ·intro y hy
     rcases List.mem_cons.1 hy with rfl | hy
     ·exact .inr rfl
     ·exact .inl hy
theorem canonF_row (l:List Zp):∀ z:List Zp,∀ y ∈ l.foldl (fun z x=>putL z x.1 x.2) z,y ∈ z∨∃ x ∈ l,y.1=bareL x.1:=by
 induction l with
 | nil=>intro z y hy; exact .inl hy
 | cons x r ih =>
  intro z y hy;rcases ih _ y hy with h | ⟨u,hu,e⟩
  ·rcases putL_mem _ _ _ y h with h | h
   ·exact .inl h
   ·exact .inr ⟨x,by simp,h⟩
  ·exact .inr ⟨u,by simp [hu],e⟩
theorem canon_row (l:List Zp):∀ y ∈ canon l,∃ x ∈ l,y.1=bareL x.1:=fun y hy=>by
 rcases canonF_row l [] y hy with h | h
 ·cases h
 ·exact h
theorem canon_congr {l t:List Zp} (h:∀ q,wt l q=wt t q):canon l=canon t :=
 set_unique _ _ (canon_set l) (canon_set t) fun q=>by rw [canon_wt,canon_wt,h]
theorem gather_ok {l:List Zp} (h:gatherE l=0):outW (canon l)=false∧(canon l).length≤400:=by
 unfold gatherE at h;by_cases h1:outW (canon l)=true
 ·rw [if_pos h1] at h; omega
 ·rw [if_neg h1] at h;by_cases h2:400<(canon l).length
  ·rw [if_pos h2] at h; omega
  ·exact ⟨by simpa using h1,by omega⟩
theorem outW_in {z:List Zp} (h:outW z=false):∀ x ∈ z,inW x.2=true:=by
 unfold outW at h;rw [List.any_eq_false] at h;intro x hx
 simpa using h x hx
theorem wrong_canon {l:List Zp} (hr:∀ x ∈ l,wrongRowF x.1=0) (h:gatherE l=0):wrongZ (canon l)=0:=by
 obtain ⟨h1,h2⟩:=gather_ok h;refine (wrongZ_iff _).2 ⟨h2,fun y hy=>?_,(canon_set l).rise⟩;obtain ⟨x,hx,e⟩:=canon_row l y hy;refine ⟨?_,(canon_set l).ne y hy,outW_in h1 y hy⟩;rw [e,wrongRow_bare];exact hr x hx
theorem news2 {W:World} {B:Nat} (hB:W.heap.size=B) (u0 u1:Value):∀ j u,[u0,u1][j]? = some u→(W.alloc (.cells #[u0,u1] 58)).cell? ((⟨B,0,none⟩:Addr).add j)=some u:=by
 subst hB;intro j u hj;have hn:=heap_alloc_new W (.cells #[u0,u1] 58)
 match j,hj with
 | 0,hj=>simp at hj; subst hj; simp [Addr.add]
 | 1,hj=>simp at hj; subst hj; simp [Addr.add]
theorem one2 (a:Option Addr) (m c:Nat) (x:Int):∀ u ∈ [Value.slice a m c,.int .i64 x],u.oneCell'=true:=by
 intro u hu; simp at hu; rcases hu with rfl | rfl <;> rfl
end Go.Proofs.YtohjlfhmnmcndaaGreat
namespace Go.Proofs.YtohjlfhmnmcndaaGreat

/-! ### What is wrong -/
def condE (cols:List Int) (x:Ex):Int:=if (typeTop cols x).2≠0 then (typeTop cols x).2 else if (typeTop cols x).1≠2∧(typeTop cols x).1≠1 then 9 else 0
def fitsZ (cols:List Int):List Zp→Int
 | []=>0
 | x :: r=>if fitsL cols x.1=0 then fitsZ cols r else fitsL cols x.1
def inpE (cols:List Int) (z:List Zp):Int:=if 8<cols.length then 5 else if wrongZ z≠0 then wrongZ z else fitsZ cols z
def typesE (cols:List Int):List Ex→Int
 | []=>0
 | x :: r=>if (typeTop cols x).2=0 then typesE cols r else (typeTop cols x).2
def listE (cols:List Int) (xs:List Ex):Int:=if 8<xs.length then 5 else typesE cols xs
theorem fitsZ_end (cols:List Int) (z:List Zp) (k:Nat) (h:z.length≤k):fitsZ cols (z.drop k)=0:=by rw [List.drop_eq_nil_of_le h]; rfl
theorem fitsZ_bad (cols:List Int) (z:List Zp) (k:Nat) (h:k<z.length) (e:¬ fitsL cols z[k].1=0):fitsZ cols (z.drop k)=fitsL cols z[k].1:=by
 rw [List.drop_eq_getElem_cons h,fitsZ,if_neg e]
theorem fitsZ_next (cols:List Int) (z:List Zp) (k:Nat) (h:k<z.length) (e:fitsL cols z[k].1=0):fitsZ cols (z.drop k)=fitsZ cols (z.drop (k+1)):=by
 rw [List.drop_eq_getElem_cons h,fitsZ,if_pos e]
theorem typesE_end (cols:List Int) (z:List Ex) (k:Nat) (h:z.length≤k):typesE cols (z.drop k)=0:=by rw [List.drop_eq_nil_of_le h]; rfl
theorem typesE_bad (cols:List Int) (z:List Ex) (k:Nat) (h:k<z.length) (e:¬ (typeTop cols z[k]).2=0):typesE cols (z.drop k)=(typeTop cols z[k]).2:=by
 rw [List.drop_eq_getElem_cons h,typesE,if_neg e]
theorem typesE_next (cols:List Int) (z:List Ex) (k:Nat) (h:k<z.length) (e:(typeTop cols z[k]).2=0):typesE cols (z.drop k)=typesE cols (z.drop (k+1)):=by
 rw [List.drop_eq_getElem_cons h,typesE,if_pos e]
theorem fitsZ_ok (cols:List Int):∀ z:List Zp,fitsZ cols z=0↔∀ x ∈ z,FitP cols x.1
 | []=>by simp [fitsZ]
 | x :: r=>by
  have ih:=fitsZ_ok cols r
  rw [fitsZ]
  by_cases h:fitsL cols x.1=0
  ·rw [if_pos h,ih]
   simp [(fitsL_ok cols x.1).1 h]
  ·rw [if_neg h]
   constructor
   ·intro e; exact absurd e h
   ·intro e; exact absurd ((fitsL_ok cols x.1).2 (e x (by simp))) h
theorem typesE_ok (cols:List Int):∀ z:List Ex,typesE cols z=0↔∀ x ∈ z,(typeTop cols x).2=0
 | []=>by simp [typesE]
 | x :: r=>by
  have ih:=typesE_ok cols r
  rw [typesE]
  by_cases h:(typeTop cols x).2=0
  ·rw [if_pos h,ih]
   simp [h]
  ·rw [if_neg h]
   simp [h]
structure InpOk (cols:List Int) (z:List Zp):Prop where
 cols8:cols.length≤8
 set:wrongZ z=0
 fit:∀ x ∈ z,FitP cols x.1
theorem inpE_ok (cols:List Int) (z:List Zp):inpE cols z=0↔InpOk cols z:=by
 unfold inpE;by_cases h8:8<cols.length
 ·rw [if_pos h8];constructor
  ·intro h; omega
  ·rintro ⟨h,_,_⟩; omega
 ·rw [if_neg h8];by_cases hw:wrongZ z=0
  ·rw [if_neg (by simpa using hw),fitsZ_ok];exact ⟨fun h=>⟨by omega,hw,h⟩,fun h=>h.fit⟩
  ·rw [if_pos (by simpa using hw)];exact ⟨fun h=>absurd h hw,fun h=>h.set⟩
theorem condE_ok {cols:List Int} {x:Ex} (h:condE cols x=0):(typeTop cols x).2=0∧((typeTop cols x).1=1∨(typeTop cols x).1=2):=by
 unfold condE at h;by_cases h1:(typeTop cols x).2=0
 ·rw [if_neg (by simpa using h1)] at h;by_cases h2:(typeTop cols x).1≠2∧(typeTop cols x).1≠1
  ·rw [if_pos h2] at h; omega
  ·exact ⟨h1,by omega⟩
 ·rw [if_pos h1] at h;exact absurd h h1
theorem typ_of {cols:List Int} {x:Ex} (h:(typeTop cols x).2=0):typP cols x=some (typeTop cols x).1:=((typeTop_ok cols x).1 h).ty

/-! ### What expressions come to hangs on bare rows alone -/
theorem getD_bare (row:List Vl) (i:Nat):bareP (row.getD i vl0)=(bareL row).getD i vl0:=by
 simp only [bareL,List.getD,List.getElem?_map];cases row[i]? <;> rfl
theorem valX_bare (row row':List Vl) (h:bareL row=bareL row'):∀ x,valX row x=valX row' x:=by
 refine Ex.ind fun k v c ks ih=>?_
 have e:valsX row ks=valsX row' ks:=by
  rw [valsX_map,valsX_map];exact List.map_congr_left ih
 rw [valX,valX,e];unfold nodeV;rw [getD_bare,getD_bare,h]
theorem valX_same {row row':List Vl} (h:cmpL row row'=0) (x:Ex):valX row x=valX row' x:=valX_bare row row' (bareL_of h) x
def holdsP (x:Ex) (row:List Vl):Bool:=clsP (valX row x) == some true
def rowX (xs:List Ex) (row:List Vl):List Vl:=xs.map (valX row)
theorem holds_same {row row':List Vl} (h:cmpL row row'=0) (x:Ex):holdsP x row=holdsP x row':=by unfold holdsP; rw [valX_same h]
theorem rowX_same {row row':List Vl} (h:cmpL row row'=0) (xs:List Ex):rowX xs row=rowX xs row':=List.map_congr_left fun x _=>valX_same h x
theorem cmpL_append {a a' b b':List Vl} (h:cmpL a a'=0) (k:cmpL b b'=0):cmpL (a ++ b) (a' ++ b')=0:=by
 have e:bareL (a ++ b)=bareL (a' ++ b'):=by
  have h1:=bareL_of h;have h2:=bareL_of k;unfold bareL at *;rw [List.map_append,List.map_append,h1,h2]
 rw [← cmpL_bare,← cmpL_bareR,e];exact cmpL_refl _
/-! ### Sums over sets -/
def tot (g:List Vl→Int):List Zp→Int
 | []=>0
 | x :: r=>g x.1*x.2+tot g r
def Resp {β:Type} (g:List Vl→β):Prop:=∀ a b,cmpL a b=0→g a=g b
theorem tot_append (g:List Vl→Int) (l t:List Zp):tot g (l ++ t)=tot g l+tot g t:=by
 induction l with
 | nil=>simp [tot]
 | cons x r ih=>rw [List.cons_append,tot,tot,ih]; omega
theorem tot_put {g:List Vl→Int} (hg:Resp g) (r:List Vl) (w:Int):∀ z:List Zp,tot g (putL z r w)=tot g z+g r*w
 | []=>by
  have e:g (bareL r)=g r:=hg _ _ (by rw [cmpL_bare]; exact cmpL_refl r)
  unfold putL
  split
  ·rename_i h; subst h; simp [tot]
  ·simp [tot,e]
 | x :: t=>by
  have ih:=tot_put hg r w t
  have e:g (bareL r)=g r:=hg _ _ (by rw [cmpL_bare]; exact cmpL_refl r)
  unfold putL
  split
  ·rw [tot,ih,tot]; omega
  ·split
   ·rename_i c
    have e2:g x.1=g r:=hg _ _ c
    split
    ·rename_i h0
     rw [tot,e2]
     have:g r*(w+x.2)=0:=by rw [h0,Int.mul_zero]
     rw [Int.mul_add] at this
     omega
    ·rw [tot,tot,e,e2,Int.mul_add]
     omega
   ·split
    ·rename_i h0; subst h0; simp
    ·simp only [tot,e]; omega
theorem tot_canonF {g:List Vl→Int} (hg:Resp g) (l:List Zp):∀ z:List Zp,tot g (l.foldl (fun z x=>putL z x.1 x.2) z)=tot g z+tot g l:=by
 induction l with
 | nil=>intro z; simp [tot]
 | cons x r ih=>intro z; rw [List.foldl_cons,ih,tot_put hg,tot]; omega
theorem tot_canon {g:List Vl→Int} (hg:Resp g) (l:List Zp):tot g (canon l)=tot g l:=by
 unfold canon;rw [tot_canonF hg];simp [tot]
theorem wt_tot (q:List Vl) (l:List Zp):wt l q=tot (fun r=>if cmpL r q=0 then 1 else 0) l:=by
 induction l with
 | nil=>rfl
 | cons x r ih =>
  rw [wt,tot,ih]
  split <;> simp
theorem tot_congr {g g':List Vl→Int} {l:List Zp} (h:∀ x ∈ l,g x.1=g' x.1):tot g l=tot g' l:=by
 induction l with
 | nil=>rfl
 | cons x r ih=>rw [tot,tot,h x (by simp),ih (fun y hy=>h y (by simp [hy]))]
theorem tot_add (g g':List Vl→Int) (l:List Zp):tot (fun r=>g r+g' r) l=tot g l+tot g' l:=by
 induction l with
 | nil=>rfl
 | cons x r ih=>rw [tot,tot,tot,ih,Int.add_mul]; omega
theorem tot_zero (l:List Zp):tot (fun _=>0) l=0:=by
 induction l with
 | nil=>rfl
 | cons x r ih=>rw [tot,ih]; simp
theorem tot_set {a b:List Zp} (h:∀ q,wt a q=wt b q) {g:List Vl→Int} (hg:Resp g):tot g a=tot g b:=by
 rw [← tot_canon hg a,← tot_canon hg b,canon_congr h]
/-! ### Filters and maps -/
def filtL (x:Ex) (z:List Zp):List Zp:=z.filter fun p=>holdsP x p.1
def mapL (xs:List Ex) (z:List Zp):List Zp:=z.map fun p=>(rowX xs p.1,p.2)
theorem wt_filter (p:List Vl→Bool) (hp:Resp p) (q:List Vl) (l:List Zp):wt (l.filter fun x=>p x.1) q=if p q then wt l q else 0:=by
 induction l with
 | nil=>simp [wt]
 | cons x r ih =>
  rw [List.filter_cons];by_cases c:cmpL x.1 q=0
  ·have e:=hp _ _ c;by_cases h:p x.1=true
   ·rw [if_pos h,wt,wt,ih];rw [e] at h;rw [if_pos h,if_pos h]
   ·rw [if_neg h,ih];rw [e] at h;rw [if_neg h,if_neg h]
  ·by_cases h:p x.1=true
   ·rw [if_pos h,wt,if_neg c,ih,wt,if_neg c]; simp
   ·rw [if_neg h,ih,wt,if_neg c]; simp
theorem resp_holds (x:Ex):Resp (holdsP x):=fun _ _ h=>holds_same h x
theorem wt_map (xs:List Ex) (q:List Vl) (l:List Zp):wt (mapL xs l) q=tot (fun r=>if cmpL (rowX xs r) q=0 then 1 else 0) l:=by
 induction l with
 | nil=>rfl
 | cons x r ih =>
  show wt ((rowX xs x.1,x.2) :: mapL xs r) q=_;rw [wt,tot,ih]
  split <;> simp
theorem resp_map (xs:List Ex) (q:List Vl):Resp (fun r=>if cmpL (rowX xs r) q=0 then (1:Int) else 0):=fun a b h=>by simp only [rowX_same h]
theorem canon_rise {l:List Zp} (h:Rise l):canon l=weighL (fun w=>w) l :=
 (canon_of (weighL_set _ _ h) fun q=>weighL_wt (fun w=>w) rfl q l h).symm
/-- Some rows of a right set make a set. -/
theorem gather_sub {z l:List Zp} (hz:wrongZ z=0) (hl:l.Sublist z):gatherE l=0:=by
 obtain ⟨h1,h2,h3⟩:=(wrongZ_iff z).1 hz;have hr:Rise l:=h3.sublist hl;have e:=canon_rise hr;have o:outW (canon l)=false:=by
  rw [e,outW_weigh];exact outW_ok fun j hj=>(h2 _ (hl.subset (List.getElem_mem hj))).2.2
 have n:(canon l).length≤400:=by
  rw [e];have:=weighL_len (fun w=>w) l;have:=hl.length_le;omega
 unfold gatherE;rw [o,if_neg (by decide),if_neg (by omega)]
theorem filt_gather {z:List Zp} (hz:wrongZ z=0) (p:Zp→Bool):gatherE (z.filter p)=0:=gather_sub hz List.filter_sublist
def filtE (cols:List Int) (x:Ex) (z:List Zp):Int:=if condE cols x≠0 then condE cols x else if inpE cols z≠0 then inpE cols z else 0
def filtZ (cols:List Int) (x:Ex) (z:List Zp):List Zp:=if filtE cols x z=0 then canon (filtL x z) else []
def mapE (cols:List Int) (xs:List Ex) (z:List Zp):Int:=if listE cols xs≠0 then listE cols xs else if inpE cols z≠0 then inpE cols z else gatherE (mapL xs z)
def mapZ (cols:List Int) (xs:List Ex) (z:List Zp):List Zp:=if mapE cols xs z=0 then canon (mapL xs z) else []
theorem filtE_ok {cols:List Int} {x:Ex} {z:List Zp} (h:filtE cols x z=0):condE cols x=0∧InpOk cols z:=by
 unfold filtE at h;by_cases h1:condE cols x=0
 ·rw [if_neg (by simpa using h1)] at h;by_cases h2:inpE cols z=0
  ·exact ⟨h1,(inpE_ok _ _).1 h2⟩
  ·rw [if_pos h2] at h; exact absurd h h2
 ·rw [if_pos h1] at h; exact absurd h h1
theorem mapE_ok {cols:List Int} {xs:List Ex} {z:List Zp} (h:mapE cols xs z=0):listE cols xs=0∧InpOk cols z∧gatherE (mapL xs z)=0:=by
 unfold mapE at h;by_cases h1:listE cols xs=0
 ·rw [if_neg (by simpa using h1)] at h;by_cases h2:inpE cols z=0
  ·rw [if_neg (by simpa using h2)] at h;exact ⟨h1,(inpE_ok _ _).1 h2,h⟩
  ·rw [if_pos h2] at h; exact absurd h h2
 ·rw [if_pos h1] at h; exact absurd h h1
theorem listE_ok {cols:List Int} {xs:List Ex} (h:listE cols xs=0):xs.length≤8∧∀ x ∈ xs,(typeTop cols x).2=0:=by
 unfold listE at h;by_cases h8:8<xs.length
 ·rw [if_pos h8] at h; omega
 ·rw [if_neg h8,typesE_ok] at h;exact ⟨by omega,h⟩
theorem filtZ_wt {cols:List Int} {x:Ex} {z:List Zp} (h:filtE cols x z=0) (q:List Vl):wt (filtZ cols x z) q=if holdsP x q then wt z q else 0:=by
 unfold filtZ filtL;rw [if_pos h,canon_wt,wt_filter _ (resp_holds x)]
theorem mapZ_wt {cols:List Int} {xs:List Ex} {z:List Zp} (h:mapE cols xs z=0) (q:List Vl):wt (mapZ cols xs z) q=tot (fun r=>if cmpL (rowX xs r) q=0 then 1 else 0) z:=by
 unfold mapZ;rw [if_pos h,canon_wt,wt_map]
end Go.Proofs.YtohjlfhmnmcndaaGreat
namespace Go.Proofs.YtohjlfhmnmcndaaGreat
open Go.RowKit

set_option maxHeartbeats 1000000 in
theorem readyOk_at (cols:List Int) (x:Ex) (ca:Option Addr) (ccap:Nat) (a:Option Addr) (cap:Nat) (w:World) (hk:KsAt w.heap.size w a x.ks) (hc:IsAt w.heap.size w ca cols) (h0:(typeTop cols x).2=0) :
  Calls Tryz.prog 148 #[.slice ca cols.length ccap,exV x.k x.v x.c a x.ks.length cap] w fun e w'=>∃ u,e = .returned (.tuple #[.int .i64 (typeTop cols x).1,u,.int .i64 0])∧Asks cols w.heap.size u (fun row=>valX row x) w'∧Below w.heap.size w w':=by
 have S0:=Six.new w x.k x.v x.c a x.ks.length cap 27;have hal:Below w.heap.size w (w.alloc (.cells (exA x a cap) 27)):=(Below.refl _ _).alloc (Nat.le_refl _) _;have z1:(w.alloc (.cells (exA x a cap) 27)).heap.size=w.heap.size+1:=by simp
 have con:=type_at cols x ca ccap a cap _ ((KsAt.next hal (Nat.le_refl _) hk).up hal.size) ((hc.next hal (Nat.le_refl _)).up hal.size);have ra:=ready_any cols x _ (typ_of h0);rw [h0] at con;generalize (typeTop cols x).1=t at *;go_enter Tryz.func148,Tryz.ntmps148;go_wp2_with fail
 generalize w.alloc (.cells (exA x a cap) 27)=w1 at *;refine con.mono ?_;rintro e w2 ⟨rfl,hb2⟩;have hA:=chain hal hb2;obtain ⟨s0,s1,s2,s3,s4,s5⟩:=S0.next hb2 (by omega);simp only [Nat.zero_add] at s1 s2 s3 s4 s5;have con2:=ra w.heap.size a cap w2 (KsAt.next hA (Nat.le_refl _) hk) hA.size;clear con ra S0;go_wp2_with fail
 refine con2.mono ?_;rintro e w3 ⟨u,rfl,hA3,hb3⟩;clear s0 s1 s2 s3 s4 s5 con2;obtain ⟨g,cb,rfl⟩:∃ g cb,u = .func (.func g) #[] cb:=by obtain ⟨g,cb,e,_⟩:=hA3; exact ⟨g,cb,e⟩
 go_wp2
 exact bodyPost_ret (v:=.tuple #[.int .i64 t,.func (.func g) #[] cb,.int .i64 0]) (by simp [results,Tryz.results148,go_sem]) rfl ⟨_,rfl,hA3.down hA.size,chain hA hb3⟩
set_option maxHeartbeats 1000000 in
theorem readyBad_at (cols:List Int) (x:Ex) (ca:Option Addr) (ccap:Nat) (a:Option Addr) (cap:Nat) (w:World) (hk:KsAt w.heap.size w a x.ks) (hc:IsAt w.heap.size w ca cols) (h0:¬ (typeTop cols x).2=0) :
  Calls Tryz.prog 148 #[.slice ca cols.length ccap,exV x.k x.v x.c a x.ks.length cap] w fun e w'=>e = .returned (.tuple #[.int .i64 0,.nilFunc,.int .i64 (typeTop cols x).2])∧Below w.heap.size w w':=by
 have hal:Below w.heap.size w (w.alloc (.cells (exA x a cap) 27)):=(Below.refl _ _).alloc (Nat.le_refl _) _;have con:=type_at cols x ca ccap a cap _ ((KsAt.next hal (Nat.le_refl _) hk).up hal.size) ((hc.next hal (Nat.le_refl _)).up hal.size);have q:((typeTop cols x).2 != 0)=true:=by simpa using h0
 generalize (typeTop cols x).1=t at *;generalize (typeTop cols x).2=t2 at *;go_enter Tryz.func148,Tryz.ntmps148;go_wp2_with fail
 generalize w.alloc (.cells (exA x a cap) 27)=w1 at *;refine con.mono ?_;rintro e w2 ⟨rfl,hb2⟩;have hA:=chain hal hb2;clear con;go_wp2
 exact bodyPost_ret (v:=.tuple #[.int .i64 0,.nilFunc,.int .i64 t2]) (by simp [results,Tryz.results148,go_sem]) rfl ⟨rfl,hA⟩
/-- A function value tells whether x is true of each row that fits, as long as all from lo on is as it was. -/
def Conds (cols:List Int) (lo:Nat) (u:Value) (x:Ex) (w:World):Prop :=
 ∃ g cb,u = .func (.func g) #[] cb∧(∀ args w,(callFunc g args).run Tryz.prog w = .ok (.enter g args) w) ∧
  ∀ (row:List Vl) (a:Option Addr) (cap:Nat) (W:World),FitP cols row→SlAt W a row→Since lo w W →
   Calls Tryz.prog g (#[.slice a row.length cap] ++ cb) W fun e w'=>e = .returned (.bool (holdsP x row))∧Below W.heap.size W w'
theorem Conds.next {cols:List Int} {lo:Nat} {u:Value} {x:Ex} {w w1:World} (h:Conds cols lo u x w) (hb:Since lo w w1):Conds cols lo u x w1:=by
 obtain ⟨g,cb,e,eg,hd⟩:=h;exact ⟨g,cb,e,eg,fun row a cap W hf hs hW=>hd row a cap W hf hs (hb.trans hW)⟩
theorem Conds.down {cols:List Int} {lo lo':Nat} {u:Value} {x:Ex} {w:World} (h:Conds cols lo u x w) (hl:lo'≤lo):Conds cols lo' u x w:=by
 obtain ⟨g,cb,e,eg,hd⟩:=h;exact ⟨g,cb,e,eg,fun row a cap W hf hs hW=>hd row a cap W hf hs (hW.up hl)⟩
set_option maxHeartbeats 400000 in
theorem cond1_at (cols:List Int) (lo:Nat) (x:Ex) (u:Value) (b:Nat) (a:Option Addr) (row:List Vl) (cap:Nat) (W:World) (h0:W.cell? ⟨b,0,none⟩=some u) (hA:Asks cols lo u (fun row=>valX row x) W) (hf:FitP cols row) (hs:SlAt W a row) :
  Calls Tryz.prog 149 #[.slice a row.length cap,.pointer (some ⟨b,0,none⟩)] W fun e w'=>e = .returned (.bool (holdsP x row))∧Below W.heap.size W w':=by
 obtain ⟨g,cb,rfl,eg,d⟩:=hA;have d:=d row a cap W hf hs (Since.refl _ _);dsimp only at d;unfold holdsP;generalize valX row x=v at *;show Calls _ _ _ _ fun e w'=>e = .returned (.bool (cls v.1 v.2.1 == some true))∧_
 go_enter Tryz.func149,Tryz.ntmps149;go_wp2_with (go_at_fn g; refine d.mono ?_; rintro e w1 ⟨rfl,hb1⟩)
 refine (true_any _ _ _ _).mono ?_;rintro e w2 ⟨rfl,hb2⟩;go_wp2
 go_ret;exact ⟨rfl,chain hb1 hb2⟩
set_option maxHeartbeats 1000000 in
theorem condOk_at (cols:List Int) (x:Ex) (ca:Option Addr) (ccap:Nat) (a:Option Addr) (cap:Nat) (w:World) (hk:KsAt w.heap.size w a x.ks) (hc:IsAt w.heap.size w ca cols) (h:condE cols x=0) :
  Calls Tryz.prog 118 #[.slice ca cols.length ccap,exV x.k x.v x.c a x.ks.length cap] w fun e w'=>∃ u,e = .returned (.tuple #[u,.int .i64 0])∧Conds cols w.heap.size u x w'∧Below w.heap.size w w':=by
 obtain ⟨h0,ht⟩:=condE_ok h;have S0:=Six.new w x.k x.v x.c a x.ks.length cap 27;have hal:Below w.heap.size w (w.alloc (.cells (exA x a cap) 27)):=(Below.refl _ _).alloc (Nat.le_refl _) _;have con:=readyOk_at cols x ca ccap a cap _ ((KsAt.next hal (Nat.le_refl _) hk).up hal.size) ((hc.next hal (Nat.le_refl _)).up hal.size) h0;clear h h0;generalize (typeTop cols x).1=t at *;go_enter Tryz.func118,Tryz.ntmps118;go_wp2_with fail
 generalize w.alloc (.cells (exA x a cap) 27)=w1 at *;refine con.mono ?_;rintro e w2 ⟨u,rfl,hA2,hb2⟩;have hA:=chain hal hb2;clear con S0;have hA2:=hA2.down hal.size;obtain ⟨g,cb,rfl⟩:∃ g cb,u = .func (.func g) #[] cb:=by obtain ⟨g,cb,e,_⟩:=hA2; exact ⟨g,cb,e⟩
 have hal3:Below w2.heap.size w2 (w2.alloc (.cells #[.func (.func g) #[] cb] 179)):=(Below.refl _ _).alloc (Nat.le_refl _) _;have fin:∀ W,Since w.heap.size (w2.alloc (.cells #[.func (.func g) #[] cb] 179)) W→∀ (row:List Vl) (a:Option Addr) (cap:Nat),FitP cols row→SlAt W a row→Calls Tryz.prog 149 #[.slice a row.length cap,.pointer (some ⟨w2.heap.size,0,none⟩)] W fun e w'=>e = .returned (.bool (holdsP x row))∧Below W.heap.size W w':=fun W hW row a cap hf hs =>
  cond1_at cols w.heap.size x _ w2.heap.size a row cap W ((hW.cell (p:=⟨w2.heap.size,0,none⟩) hA.size (by simp)).trans (by simp)) ((hA2.next (Since.of hal3)).next hW) hf hs
 have HF:Hid _:=fin;clear fin hA2;rcases ht with rfl | rfl
 rotate_left
 all_goals
  go_wp2
  exact bodyPost_ret (v:=.tuple #[.func (.func 149) #[] #[.pointer (some ⟨w2.heap.size,0,none⟩)],.int .i64 0]) (by simp [results,Tryz.results118,go_sem]) rfl ⟨_,rfl,⟨149,_,rfl,enters_of Tryz.func149 (by kernel_rfl) rfl,fun row a cap W hf hs hW=>HF.out W hW row a cap hf hs⟩,chain hA hal3⟩
set_option maxHeartbeats 1000000 in
theorem condBad_at (cols:List Int) (x:Ex) (ca:Option Addr) (ccap:Nat) (a:Option Addr) (cap:Nat) (w:World) (hk:KsAt w.heap.size w a x.ks) (hc:IsAt w.heap.size w ca cols) (h:¬ condE cols x=0) :
  Calls Tryz.prog 118 #[.slice ca cols.length ccap,exV x.k x.v x.c a x.ks.length cap] w fun e w'=>e = .returned (.tuple #[.nilFunc,.int .i64 (condE cols x)])∧Below w.heap.size w w':=by
 have hal:Below w.heap.size w (w.alloc (.cells (exA x a cap) 27)):=(Below.refl _ _).alloc (Nat.le_refl _) _;have hk':=(KsAt.next hal (Nat.le_refl _) hk).up hal.size;have hc':=(hc.next hal (Nat.le_refl _)).up hal.size;by_cases h0:(typeTop cols x).2=0
 ·have e:condE cols x=9:=by
   unfold condE at h ⊢;rw [if_neg (by simpa using h0)] at h ⊢;by_cases q:(typeTop cols x).1≠2∧(typeTop cols x).1≠1
   ·rw [if_pos q]
   ·rw [if_neg q] at h; exact absurd rfl h
  have ht:¬ (typeTop cols x).1=2∧¬ (typeTop cols x).1=1:=by
   unfold condE at h;rw [if_neg (by simpa using h0)] at h;by_cases q:(typeTop cols x).1≠2∧(typeTop cols x).1≠1
   ·exact q
   ·rw [if_neg q] at h; exact absurd rfl h
  rw [e];have con:=readyOk_at cols x ca ccap a cap _ hk' hc' h0;clear h h0 e;generalize (typeTop cols x).1=t at *;have t2:(t != 2)=true:=by simpa using ht.1
  have t1:(t != 1)=true:=by simpa using ht.2
  go_enter Tryz.func118,Tryz.ntmps118;go_wp2_with fail
  generalize w.alloc (.cells (exA x a cap) 27)=w1 at *;refine con.mono ?_;rintro e w2 ⟨u,rfl,hA2,hb2⟩;have hA:=chain hal hb2;clear con;obtain ⟨g,cb,rfl⟩:∃ g cb,u = .func (.func g) #[] cb:=by obtain ⟨g,cb,e,_⟩:=hA2; exact ⟨g,cb,e⟩
  have hal3:Below w2.heap.size w2 (w2.alloc (.cells #[.func (.func g) #[] cb] 179)):=(Below.refl _ _).alloc (Nat.le_refl _) _;clear hA2;go_wp2
  exact bodyPost_ret (v:=.tuple #[.nilFunc,.int .i64 9]) (by simp [results,Tryz.results118,go_sem]) rfl ⟨rfl,chain hA hal3⟩
 ·have e:condE cols x=(typeTop cols x).2:=by unfold condE; rw [if_pos h0]
  rw [e];have con:=readyBad_at cols x ca ccap a cap _ hk' hc' h0;have q:((typeTop cols x).2 != 0)=true:=by simpa using h0
  clear h e h0;generalize (typeTop cols x).2=t2 at *;go_enter Tryz.func118,Tryz.ntmps118;go_wp2_with fail
  generalize w.alloc (.cells (exA x a cap) 27)=w1 at *;refine con.mono ?_;rintro e w2 ⟨rfl,hb2⟩;have hA:=chain hal hb2;have hal3:Below w2.heap.size w2 (w2.alloc (.cells #[.nilFunc] 179)):=(Below.refl _ _).alloc (Nat.le_refl _) _;clear con;go_wp2
  exact bodyPost_ret (v:=.tuple #[.nilFunc,.int .i64 t2]) (by simp [results,Tryz.results118,go_sem]) rfl ⟨rfl,chain hA hal3⟩

/-- What the making of values has come to: k of them are there. -/
def VTo (W:World) (B n:Nat) (f:Nat→Vl) (k:Nat):Prop:=∃ xs,W.ownsRow B 24 3 (.slice (some ⟨B,0,none⟩) n n) n xs∧∀ j:Nat,j<n→j<k→xs[j*3]? = some (.int .i64 (f j).1)∧xs[j*3+1]? = some (.int .i64 (f j).2.1)∧xs[j*3+2]? = some (.string (f j).2.2)
theorem VTo.step {W:World} {B n:Nat} {f:Nat→Vl} {k:Nat} (h:VTo W B n f k) (hk:k<n) :
  VTo (((W.setCell ⟨B,k*3,none⟩ (.int .i64 (f k).1)).setCell ⟨B,k*3+1,none⟩ (.int .i64 (f k).2.1)).setCell ⟨B,k*3+2,none⟩ (.string (f k).2.2)) B n f (k+1):=by
 obtain ⟨xs,h1,h2⟩:=h;have lx:=h1.1;refine ⟨_,((((h1.stored (k*3) _).1.stored (k*3+1) _).1).stored (k*3+2) _).1,?_⟩;intro j hj hjk;by_cases e:j=k
 ·subst e;refine ⟨?_,?_,?_⟩ <;> simp [List.getElem?_set,lx] <;> omega
 ·obtain ⟨g0,g1,g2⟩:=h2 j hj (by omega);refine ⟨?_,?_,?_⟩
  ·rw [List.getElem?_set_ne (by omega),List.getElem?_set_ne (by omega),List.getElem?_set_ne (by omega)]; exact g0
  ·rw [List.getElem?_set_ne (by omega),List.getElem?_set_ne (by omega),List.getElem?_set_ne (by omega)]; exact g1
  ·rw [List.getElem?_set_ne (by omega),List.getElem?_set_ne (by omega),List.getElem?_set_ne (by omega)]; exact g2
theorem VTo.next {W w1:World} {B n:Nat} {f:Nat→Vl} {k:Nat} (h:VTo W B n f k) (hb:Below W.heap.size W w1):VTo w1 B n f k:=by
 obtain ⟨xs,h1,h2⟩:=h;exact ⟨xs,own_next h1 hb,h2⟩
theorem VTo.cells {W:World} {B n:Nat} {f:Nat→Vl} {k:Nat} (h:VTo W B n f k) (hk:k<n):(∃ u0 u1 u2,W.cell? ⟨B,k*3,none⟩=some u0∧W.cell? ⟨B,k*3+1,none⟩=some u1∧W.cell? ⟨B,k*3+2,none⟩=some u2)∧W.frozen? ⟨B,k*3,none⟩=false∧W.frozen? ⟨B,k*3+1,none⟩=false∧W.frozen? ⟨B,k*3+2,none⟩=false∧B<W.heap.size:=by
 obtain ⟨xs,h1,h2⟩:=h;have lx:=h1.1;refine ⟨⟨xs[k*3]'(by omega),xs[k*3+1]'(by omega),xs[k*3+2]'(by omega),?_,?_,?_⟩,h1.frozenAt _,h1.frozenAt _,h1.frozenAt _,(h1.lt B rfl).2⟩
 ·rw [h1.cellAt _ (by omega)]; exact List.getElem?_eq_getElem (by omega)
 ·rw [h1.cellAt _ (by omega)]; exact List.getElem?_eq_getElem (by omega)
 ·rw [h1.cellAt _ (by omega)]; exact List.getElem?_eq_getElem (by omega)
theorem VTo.done {W:World} {B n:Nat} {f:Nat→Vl} (h:VTo W B n f n) (vs:List Vl) (hn:n=vs.length) (hv:∀ j (hj:j<vs.length),f j=vs[j]) (h8:vs.length≤100):SlAt W (some ⟨B,0,none⟩) vs∧TyAt W (some ⟨B,0,none⟩):=by
 obtain ⟨xs,h1,h2⟩:=h;subst hn;refine ⟨⟨by unfold maxLen; omega,.inr ⟨B,0,rfl,?_,(h1.lt B rfl).2⟩⟩,?_⟩
 ·intro i hi;obtain ⟨g0,g1,g2⟩:=h2 i hi hi;rw [hv i hi] at g0 g1 g2;refine ⟨?_,?_,?_⟩
  ·rw [h1.cellAt _ (by omega),← g0]; congr 1; omega
  ·rw [h1.cellAt _ (by omega),← g1]; congr 1; omega
  ·rw [h1.cellAt _ (by omega),← g2]; congr 1; omega
 ·intro b off e;obtain ⟨_,⟨e',_⟩ | ⟨g,cap,cur,e',_,hh,_⟩⟩:=h1
  ·cases e'
  ·simp only [Value.slice.injEq,Option.some.injEq,Addr.mk.injEq] at e e';obtain ⟨rfl,_⟩:=e;rw [← e'.1.1] at hh;exact ⟨_,_,hh⟩
/-- A slice of new memory holds these values. -/
def RowNew (B:Nat) (W:World) (l:List Vl):Prop:=SlAt W (some ⟨B,0,none⟩) l∧TyAt W (some ⟨B,0,none⟩)
/-- A function value makes rows of what xs come to, as long as all from lo on is as it was. -/
def ListF (cols:List Int) (lo:Nat) (u:Value) (xs:List Ex) (w:World):Prop :=
 ∃ g cb,u = .func (.func g) #[] cb∧(∀ args w,(callFunc g args).run Tryz.prog w = .ok (.enter g args) w) ∧
  ∀ (row:List Vl) (a:Option Addr) (cap:Nat) (W:World),FitP cols row→SlAt W a row→Since lo w W →
   Calls Tryz.prog g (#[.slice a row.length cap] ++ cb) W fun e w'=>e = .returned (.slice (some ⟨W.heap.size,0,none⟩) xs.length xs.length)∧RowNew W.heap.size w' (rowX xs row)∧Below W.heap.size W w'
theorem ListF.next {cols:List Int} {lo:Nat} {u:Value} {xs:List Ex} {w w1:World} (h:ListF cols lo u xs w) (hb:Since lo w w1):ListF cols lo u xs w1:=by
 obtain ⟨g,cb,e,eg,hd⟩:=h;exact ⟨g,cb,e,eg,fun row a cap W hf hs hW=>hd row a cap W hf hs (hb.trans hW)⟩
theorem ListF.down {cols:List Int} {lo lo':Nat} {u:Value} {xs:List Ex} {w:World} (h:ListF cols lo u xs w) (hl:lo'≤lo):ListF cols lo' u xs w:=by
 obtain ⟨g,cb,e,eg,hd⟩:=h;exact ⟨g,cb,e,eg,fun row a cap W hf hs hW=>hd row a cap W hf hs (hW.up hl)⟩
set_option maxHeartbeats 1000000 in
theorem list1_at (cols:List Int) (lo:Nat) (vb:Nat) (xs:List Ex) (a:Option Addr) (row:List Vl) (cap:Nat) (W:World) (hK:KidsF cols lo W vb xs) (h8:xs.length≤8) (hf:FitP cols row) (hs:SlAt W a row) :
  Calls Tryz.prog 151 #[.slice a row.length cap,.pointer (some ⟨vb,0,none⟩)] W fun e w'=>e = .returned (.slice (some ⟨W.heap.size,0,none⟩) xs.length xs.length)∧RowNew W.heap.size w' (rowX xs row)∧Below W.heap.size W w':=by
 obtain ⟨i0,hi,hz0,hz1,hz2⟩:=info_parts Tryz.info49;obtain ⟨K,k1,k2,k3,k4,k5,k6⟩:=hK;have HK:Hid (∀ (i:Nat) (h:i<xs.length),∃ u,W.cell? ⟨K,i,none⟩=some u∧Asks cols lo u (fun row=>valX row xs[i]) W):=k6;go_enter Tryz.func151,Tryz.ntmps151;go_wp2_with (first | (at_make; refine wpList_make_full _ rfl _ _ 56 rfl W.heap.size 24 i0 _ 3 Tryz.underlying56 hi hz0 hz1 .i64 .i64 xs.length xs.length xs.length rfl rfl rfl rfl (by rw [hz2]; omega) (by unfold maxLen; omega) (Nat.le_refl _) ?_))
 intro w1 hown hgrow;have hb0:Below W.heap.size W w1:=(Below.refl _ _).grown hgrow (Nat.le_refl _) (by simp);have hB0:VTo w1 W.heap.size xs.length (fun j=>valX row (xs.getD j (.mk 0 vl0 0 []))) 0:=⟨_,hown,fun j _ hj=>absurd hj (Nat.not_lt_zero _)⟩
 have c1:=(hb0.cell (p:=⟨vb,0,none⟩) k2).trans k5;clear hown hgrow k5 k6;go_wp2_with fail
 clear c1;go_loopw [12] (fun i wr=>∃ k:Nat,k≤xs.length∧i = .int .i64 k∧VTo wr W.heap.size xs.length (fun j=>valX row (xs.getD j (.mk 0 vl0 0 []))) k∧Below W.heap.size W wr) (fun i _=>xs.length - (intOf i).toNat)
 case atStart=>exact ⟨0,Nat.zero_le _,rfl,hB0,hb0⟩
 case round =>
  obtain ⟨k,hk,rfl,HB,hb⟩:=hrel;have hz:=hb.size;by_cases hlt:k<xs.length
  ·obtain ⟨u,cu,A⟩:=HK.out k hlt;have cu:=(hb.cell (p:=⟨K,k,none⟩) k4).trans cu;obtain ⟨g,cb,rfl,eg,d⟩:=A;have d:=d row a cap wr hf (hs.next hb) (Since.of hb);dsimp only at d;have ev:valX row xs[k]=(fun j=>valX row (xs.getD j (.mk 0 vl0 0 []))) k:=by simp [List.getD,hlt]
   rw [ev] at d;generalize (fun j=>valX row (xs.getD j (.mk 0 vl0 0 [])))=f at *;have i0:(0:Int)≤(k:Int):=by omega
   have i1:(k:Int)<(xs.length:Int):=by omega
   go_wp2_with (go_at_fn g; refine d.mono ?_; rintro e w2 ⟨rfl,hb2⟩; have HB2:=HB.next hb2; obtain ⟨⟨u0,u1,u2,d0,d1,d2⟩,f0,f1,f2,hlb⟩:=HB2.cells hlt; have zz:=hb2.size)
   go_roundw
   case rel =>
    refine ⟨k+1,by omega,by go_num,?_,?_⟩
    ·exact HB2.step hlt
    ·exact (((chain hb hb2).setCell (p:=⟨W.heap.size,k*3,none⟩) (Nat.le_refl _) _).setCell (p:=⟨W.heap.size,k*3+1,none⟩) (Nat.le_refl _) _).setCell (p:=⟨W.heap.size,k*3+2,none⟩) (Nat.le_refl _) _
   case measure=>simp [intOf]; omega
  ·have e:k=xs.length:=by omega
   subst e;go_wp2
   go_ret;exact ⟨rfl,HB.done (rowX xs row) (by simp [rowX]) (fun j hj=>by simp [rowX] at hj; simp [rowX,List.getD,hj]) (by simp [rowX]; omega),hb⟩
theorem FTo.new2 {cols:List Int} {w:World} {n:Nat} (ks:List Ex) (hn:n=ks.length) (T T':TypeId) :
  FTo cols w.heap.size (w.heap.size+1) (w.heap.size+2) ((w.alloc (.cells (Array.replicate n Value.nilFunc) T)).alloc (.cells #[.slice (some ⟨w.heap.size,0,none⟩) n n] T')) ks 0:=by
 subst hn;refine ⟨⟨by omega,by omega,by omega,by simp⟩,?_,fun i hi=>⟨⟨Value.nilFunc,?_⟩,?_⟩,fun i _ h=>absurd h (Nat.not_lt_zero _)⟩
 ·rw [World.cell?_alloc_at _ _ _ _ (by simp)]; rfl
 ·rw [World.cell?_alloc_past _ _ _ (by simp),World.cell?_alloc_at _ _ _ _ rfl];simp [hi]
 ·rw [World.frozen?_alloc_past _ _ _ (by simp)];exact World.frozen?_alloc_at _ _ _ _ rfl
set_option maxHeartbeats 2000000 in
theorem list_at (cols:List Int) (xs:List Ex) (ca:Option Addr) (ccap:Nat) (xa:Option Addr) (xcap:Nat) (w:World) (hk:KsAt w.heap.size w xa xs) (hc:IsAt w.heap.size w ca cols) :
  Calls Tryz.prog 121 #[.slice ca cols.length ccap,.slice xa xs.length xcap] w fun e w'=>∃ u,e = .returned (.tuple #[u,.int .i64 (listE cols xs)])∧((listE cols xs=0∧ListF cols w.heap.size u xs w')∨(¬ listE cols xs=0∧u = .nilFunc))∧Below w.heap.size w w':=by
 by_cases h8:8<xs.length
 ·have e:listE cols xs=5:=by simp [listE,h8]
  rw [e];have hz:(8:Int)<(xs.length:Int):=by omega
  go_enter Tryz.func121,Tryz.ntmps121;go_wp2
  exact bodyPost_ret (v:=.tuple #[.nilFunc,.int .i64 5]) (by simp [results,Tryz.results121,go_sem]) rfl ⟨_,rfl,.inr ⟨by decide,rfl⟩,Below.refl _ _⟩
 ·have e:listE cols xs=typesE cols xs:=by simp [listE,h8]
  have HE:Hid (listE cols xs=typesE cols xs):=e;generalize listE cols xs=le at *;clear e;have hmk:=make_funcs (show xs.length≤8 by omega);have F0:FTo cols w.heap.size (w.heap.size+1) (w.heap.size+2) ((w.alloc (.cells (Array.replicate xs.length Value.nilFunc) 179)).alloc (.cells #[.slice (some ⟨w.heap.size,0,none⟩) xs.length xs.length] 183)) xs 0:=FTo.new2 xs rfl _ _
  have hA:Below w.heap.size w ((w.alloc (.cells (Array.replicate xs.length Value.nilFunc) 179)).alloc (.cells #[.slice (some ⟨w.heap.size,0,none⟩) xs.length xs.length] 183)):=((Below.refl _ _).alloc (Nat.le_refl _) _).alloc (by simp) _;have hz:¬ (8:Int)<(xs.length:Int):=by omega
  go_enter Tryz.func121,Tryz.ntmps121;go_wp2_with fail
  generalize (w.alloc (.cells (Array.replicate xs.length Value.nilFunc) 179)).alloc (.cells #[.slice (some ⟨w.heap.size,0,none⟩) xs.length xs.length] 183)=w2 at *;clear hmk;go_loopw [20] (fun i wr=>∃ j:Nat,j≤xs.length∧i = .int .i64 j∧FTo cols w.heap.size (w.heap.size+1) (w.heap.size+2) wr xs j∧Hid (typesE cols xs=typesE cols (xs.drop j))∧Below w.heap.size w wr) (fun i _=>xs.length - (intOf i).toNat)
  case atStart=>exact ⟨0,Nat.zero_le _,rfl,F0,rfl,hA⟩
  case round =>
   clear F0 hA;obtain ⟨j,hj,rfl,F,HT,hb⟩:=hrel;have hz:=hb.size;have hzF:=F.lt.2.2.2;by_cases hlt:j<xs.length
   ·obtain ⟨b,off,ai,ci,rfl,hbl,sx,kx⟩:=(KsAt.next hb (Nat.le_refl _) hk).elem hlt;obtain ⟨x0,x1,x2,x3,x4,x5⟩:=sx;have hal:Below wr.heap.size wr (wr.alloc (.cells #[.int .i64 xs[j].k,.int .i64 xs[j].v.1,.int .i64 xs[j].v.2.1,.string xs[j].v.2.2,.int .i64 xs[j].c,.slice ai xs[j].ks.length ci] 27)):=(Below.refl _ _).alloc (Nat.le_refl _) _;have Fk:=F.next hal;have Sk:=Six.new wr xs[j].k xs[j].v xs[j].c ai xs[j].ks.length ci 27
    have zk:(wr.alloc (.cells #[.int .i64 xs[j].k,.int .i64 xs[j].v.1,.int .i64 xs[j].v.2.1,.string xs[j].v.2.2,.int .i64 xs[j].c,.slice ai xs[j].ks.length ci] 27)).heap.size=wr.heap.size+1:=by simp
    have kk:=(KsAt.next hal hz kx).up (show w.heap.size≤(wr.alloc (.cells #[.int .i64 xs[j].k,.int .i64 xs[j].v.1,.int .i64 xs[j].v.2.1,.string xs[j].v.2.2,.int .i64 xs[j].c,.slice ai xs[j].ks.length ci] 27)).heap.size by omega);have cc:=((hc.next hb (Nat.le_refl _)).next hal hz).up (show w.heap.size≤(wr.alloc (.cells #[.int .i64 xs[j].k,.int .i64 xs[j].v.1,.int .i64 xs[j].v.2.1,.string xs[j].v.2.2,.int .i64 xs[j].c,.slice ai xs[j].ks.length ci] 27)).heap.size by omega);obtain ⟨k0,k1,k2,k3,k4,k5⟩:=Sk;simp only [Nat.zero_add] at k1 k2 k3 k4 k5;have hjz:(j:Int)<xs.length:=by omega
    by_cases h0:(typeTop cols xs[j]).2=0
    ·have con:=readyOk_at cols xs[j] ca ccap ai ci _ kk cc h0;have H0:Hid ((typeTop cols xs[j]).2=0):=h0;clear h0;generalize (typeTop cols xs[j]).1=t at *;go_wp2_with fail
     clear x0 x1 x2 x3 x4 x5 kx k0 k1 k2 k3 k4 k5 kk cc;generalize wr.alloc (.cells #[.int .i64 xs[j].k,.int .i64 xs[j].v.1,.int .i64 xs[j].v.2.1,.string xs[j].v.2.2,.int .i64 xs[j].c,.slice ai xs[j].ks.length ci] 27)=wk at *;refine con.mono ?_;rintro e w3 ⟨u,rfl,hA3,hb3⟩;clear con;have F3:=Fk.next hb3;have q1:=F3.box;obtain ⟨⟨un,q2⟩,q3⟩:=F3.room j hlt;obtain ⟨ug,ucb,rfl⟩:∃ g cb,u = .func (.func g) #[] cb:=by obtain ⟨g,cb,e,_⟩:=hA3; exact ⟨g,cb,e⟩
     go_wp2
     go_roundw
     case rel=>exact ⟨j+1,by omega,by go_num,F3.store hlt (hA3.down (by omega)),HT.out.trans (typesE_next cols xs j hlt H0.out),(chain (chain hb hal) hb3).setCell (p:=⟨w.heap.size,j,none⟩) (Nat.le_refl _) _⟩
     case measure=>simp [intOf]; omega
    ·have con:=readyBad_at cols xs[j] ca ccap ai ci _ kk cc h0;have HN:Hid (le=(typeTop cols xs[j]).2):=HE.out.trans (HT.out.trans (typesE_bad cols xs j hlt h0));have q:((typeTop cols xs[j]).2 != 0)=true:=by simpa using h0
     generalize (typeTop cols xs[j]).2=t2 at *;go_wp2_with fail
     clear x0 x1 x2 x3 x4 x5 kx k0 k1 k2 k3 k4 k5 kk cc;generalize wr.alloc (.cells #[.int .i64 xs[j].k,.int .i64 xs[j].v.1,.int .i64 xs[j].v.2.1,.string xs[j].v.2.2,.int .i64 xs[j].c,.slice ai xs[j].ks.length ci] 27)=wk at *;refine con.mono ?_;rintro e w3 ⟨rfl,hb3⟩;clear con;go_wp2
     exact bodyPost_ret (v:=.tuple #[.nilFunc,.int .i64 t2]) (by simp [results,Tryz.results121,go_sem]) rfl ⟨_,by rw [HN.out],.inr ⟨by rw [HN.out]; exact h0,rfl⟩,chain (chain hb hal) hb3⟩
   ·have e:j=xs.length:=by omega
    subst e;have HN:Hid (le=0):=HE.out.trans (HT.out.trans (typesE_end cols xs _ (Nat.le_refl _)));have KF:Hid (KidsF cols w.heap.size wr (w.heap.size+1) xs):=F.kids (Nat.le_refl _) (by omega);go_wp2_with fail
    refine bodyPost_ret (v:=.tuple #[.func (.func 151) #[] #[.pointer (some ⟨w.heap.size+1,0,none⟩)],.int .i64 0]) (by simp [results,Tryz.results121,go_sem]) rfl ⟨_,by rw [HN.out],.inl ⟨HN.out,151,_,rfl,enters_of Tryz.func151 (by kernel_rfl) rfl,fun row a cap W hf hs hW=>?_⟩,hb⟩;exact list1_at cols w.heap.size (w.heap.size+1) xs a row cap W (KF.out.next hW) (by omega) hf hs

theorem fitsG_end (cols:List Int) (row:List Vl) (k:Nat) (h:row.length≤k):fitsG (cols.drop k) (row.drop k)=0:=by
 rw [List.drop_eq_nil_of_le h]; cases cols.drop k <;> rfl
theorem fitsG_wrong (cols:List Int) (row:List Vl) (k:Nat) (h:k<row.length) (h':k<cols.length) (e:¬ wrongP row[k]=0):fitsG (cols.drop k) (row.drop k)=wrongP row[k]:=by
 rw [List.drop_eq_getElem_cons h,List.drop_eq_getElem_cons h',fitsG,if_pos e]
theorem fitsG_type (cols:List Int) (row:List Vl) (k:Nat) (h:k<row.length) (h':k<cols.length) (e:wrongP row[k]=0) (e1:¬ row[k].1=1) (e2:¬ row[k].1=cols[k]):fitsG (cols.drop k) (row.drop k)=9:=by
 rw [List.drop_eq_getElem_cons h,List.drop_eq_getElem_cons h',fitsG,if_neg (by simp [e]),if_pos ⟨e1,e2⟩]
theorem fitsG_next (cols:List Int) (row:List Vl) (k:Nat) (h:k<row.length) (h':k<cols.length) (e:wrongP row[k]=0) (e1:row[k].1=1∨row[k].1=cols[k]):fitsG (cols.drop k) (row.drop k)=fitsG (cols.drop (k+1)) (row.drop (k+1)):=by
 rw [List.drop_eq_getElem_cons h,List.drop_eq_getElem_cons h',fitsG,if_neg (by simp [e]),if_neg (by omega)]
set_option maxHeartbeats 2000000 in
theorem fits_at (cols:List Int) (row:List Vl) (ca:Option Addr) (ccap:Nat) (ra:Option Addr) (rcap:Nat) (w:World) (hc:IsAt w.heap.size w ca cols) (hs:SlAt w ra row) :
  Calls Tryz.prog 90 #[.slice ca cols.length ccap,.slice ra row.length rcap] w fun e w'=>e = .returned (.int .i64 (fitsL cols row))∧Below w.heap.size w w':=by
 have hl:=hs.1;unfold maxLen at hl;generalize hr:fitsL cols row=r;have HR:Hid (fitsL cols row=r):=hr;clear hr;by_cases hlen:row.length=cols.length
 ·have HG:Hid (fitsG cols row=r):=by show fitsG cols row=r; rw [← HR.out,fitsL,if_neg (by simp [hlen])]
  have HL:Hid (row.length=cols.length):=hlen;have q:((row.length:Int) != (cols.length:Int))=false:=by simp; omega
  clear HR hlen;go_enter Tryz.func90,Tryz.ntmps90;go_wp2_with fail
  go_loopw [15] (fun i wr=>∃ j:Nat,j≤row.length∧i = .int .i64 j∧Hid (fitsG cols row=fitsG (cols.drop j) (row.drop j))∧Below w.heap.size w wr) (fun i _=>row.length - (intOf i).toNat)
  case atStart=>exact ⟨0,Nat.zero_le _,rfl,rfl,Below.refl _ _⟩
  case round =>
   obtain ⟨j,hj,rfl,HE,hb⟩:=hrel;have hz:=hb.size;by_cases hlt:j<row.length
   ·have hlt':j<cols.length:=by have:=HL.out; omega
    obtain ⟨b,off,rfl,hbl,r0,r1,r2⟩:=(hs.next hb).elem hlt;obtain ⟨b',off',rfl,hbl',c0⟩:=(hc.next hb (Nat.le_refl _)).elem hlt';generalize hv:row[j]=v at *;generalize hcj:cols[j]=cj at *;have HV:Hid (row[j]=v):=hv;have HC:Hid (cols[j]=cj):=hcj;clear hv hcj;obtain ⟨k,n,s⟩:=v;have A0:=Box.new wr (.int .i64 k) (.int .i64 n) (.string s) 24;have d0:(wr.alloc (.cells #[.int .i64 k,.int .i64 n,.string s] 24)).cell? ⟨b',off'+j,none⟩=some (.int .i64 cj):=by
     rw [World.cell?_alloc_lt _ _ _ (by show b'<wr.heap.size; omega)]; exact c0
    go_wp2_with fail
    refine (wrong_any _ _ _ _).mono ?_;rintro e w1 ⟨rfl,hb1⟩;have hb1':=hb.trans (below1 hb1 |>.mono hz);have A1:=A0.next hb1;have c1:=(hb1.cell (p:=⟨b',off'+j,none⟩) (by simp; omega)).trans d0;clear r0 r1 r2 c0 A0 d0;by_cases hw:wrongF k n s=0
    ·rw [hw];have HW:Hid (wrongP row[j]=0):=by show wrongP row[j]=0; rw [HV.out]; exact hw
     clear hw;have p0:=past_cell A1.c0;have p1:=past_cell c1;haveI:Nonempty (Past w1):=⟨⟨_,Below.refl _ _⟩⟩
     by_cases k1:k=1;subst k1;have HN:Hid (fitsG (cols.drop j) (row.drop j)=fitsG (cols.drop (j+1)) (row.drop (j+1))):=fitsG_next cols row j hlt hlt' HW.out (.inl (by rw [HV.out]));rotate_left;have q1:(k != 1)=true:=by simpa using k1
     by_cases kc:k=cj;subst kc;have HN:Hid (fitsG (cols.drop j) (row.drop j)=fitsG (cols.drop (j+1)) (row.drop (j+1))):=fitsG_next cols row j hlt hlt' HW.out (.inr (by rw [HV.out,HC.out]));rotate_left;have q2:(k != cj)=true:=by simpa using kc
     have er:r=9:=by rw [← HG.out,HE.out,fitsG_type cols row j hlt hlt' HW.out (by rw [HV.out]; exact k1) (by rw [HV.out,HC.out]; exact kc)]
     subst er;clear HG HE;go_wp2_with fail
     refine wp_region_past (by kernel_rfl) (by kernel_rfl) ?_
     repeat (go_big_quiet_step (fail))
     refine wpQuiet_nil ?_;rintro w2 ⟨⟨v2,hb2⟩,h2⟩;obtain rfl:w2=v2:=h2;clear p0 p1 A1 c1;go_wp2
     go_ret;exact ⟨rfl,chain hb1' hb2⟩
     all_goals
      go_wp2_with fail
      refine wp_region_past (by kernel_rfl) (by kernel_rfl) ?_
      repeat (go_big_quiet_step (fail))
      refine wpQuiet_nil ?_;rintro w2 ⟨⟨v2,hb2⟩,h2⟩;obtain rfl:w2=v2:=h2;clear p0 p1 A1 c1;go_wp2
      go_roundw
      case rel=>exact ⟨j+1,by omega,by go_num,HE.out.trans HN.out,chain hb1' hb2⟩
      case measure=>simp [intOf]; omega
    ·have er:r=wrongF k n s:=by rw [← HG.out,HE.out,fitsG_wrong cols row j hlt hlt' (by rw [HV.out]; exact hw),HV.out]; rfl
     subst er;clear HG HE;have q3:(wrongF k n s != 0)=true:=by simpa using hw
     go_wp2
     go_ret;exact ⟨rfl,hb1'⟩
   ·have er:r=0:=by rw [← HG.out,HE.out,fitsG_end cols row j (by omega)]
    subst er;clear HG HE;go_wp2
    go_ret;exact ⟨rfl,hb⟩
 ·have er:r=8:=by rw [← HR.out,fitsL,if_pos hlen]
  subst er;have q:((row.length:Int) != (cols.length:Int))=true:=by simp; omega
  clear HR;go_enter Tryz.func90,Tryz.ntmps90;go_wp2
  go_ret;exact ⟨rfl,Below.refl _ _⟩
end Go.Proofs.YtohjlfhmnmcndaaGreat
