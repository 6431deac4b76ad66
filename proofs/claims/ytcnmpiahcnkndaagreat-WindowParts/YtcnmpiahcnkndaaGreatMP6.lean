/- Together: H1, HL1, J13, HR2, S7, S8, HL2, HL3, H2. -/
import Derived.Laws.Rows
import Derived.Laws.CopyOwn
import Derived.Deep.Cut
import Derived.Test.YtcnmpiahcnkndaaGreatMP1
import Derived.Test.YtcnmpiahcnkndaaGreatM1
import Derived.Test.YtcnmpiahcnkndaaGreatMP5
/- Rows in line, and what is told of them, plainly; tellers: function values that keep blocks of their own. -/
namespace Go.Proofs.YtcnmpiahcnkndaaGreat
open Go.RowKit

/-- What part and order come to, and the row. -/
abbrev Lp:Type:=List Vl × List Vl × List Vl
/-- Is order another one than of the row ahead? (Rows ahead: the nearest one first.) -/
def newR:List Lp→Lp→Bool
 | [],_=>true
 | q :: _,p=>cmpL q.2.1 p.2.1 != 0
def rkS:List Lp→Int
 | []=>0
 | p :: r=>if newR r p then (r.length:Int)+1 else rkS r
def dnS:List Lp→Int
 | []=>0
 | p :: r=>if newR r p then dnS r+1 else dnS r
def intV (n:Int):Vl:=(intK n,intN n,⟨#[]⟩)
def nulV:Vl:=(1,0,⟨#[]⟩)
def smN (f:List Vl→Vl):List Lp→Int
 | []=>0
 | p :: r=>if (f p.2.2).1=1 then smN f r else smN f r+(f p.2.2).2.1
def smK (f:List Vl→Vl):List Lp→Bool
 | []=>false
 | p :: r=>if (f p.2.2).1=1 then smK f r else true
def tRow (h:List Lp) (_:Lp):Vl:=intV ((h.length:Int)+1)
def tRank (h:List Lp) (p:Lp):Vl:=intV (rkS (p :: h))
def tDense (h:List Lp) (p:Lp):Vl:=intV (dnS (p :: h))
def tSum (f:List Vl→Vl) (h:List Lp) (p:Lp):Vl:=if smK f (p :: h) then intV (smN f (p :: h)) else nulV
def tLag (f:List Vl→Vl):List Lp→Lp→Vl
 | [],_=>nulV
 | q :: _,_=>f q.2.2
theorem dnS_bd:∀ h:List Lp,0≤dnS h∧dnS h≤h.length
 | []=>⟨by decide,by decide⟩
 | p :: r=>by
  have:=dnS_bd r
  unfold dnS
  split <;> simp only [List.length_cons] <;> omega
/-- All blocks but those from a up to b are as they were. -/
structure KeepO (a b:Nat) (W W':World):Prop where
 os:W'.os=W.os
 tape:W'.tape=W.tape
 output:W'.output=W.output
 size:W.heap.size≤W'.heap.size
 block:∀ k,k<W.heap.size→(k<a∨b≤k)→W'.heap[k]? = W.heap[k]?
theorem KeepO.refl (a b:Nat) (W:World):KeepO a b W W:=⟨rfl,rfl,rfl,Nat.le_refl _,fun _ _ _=>rfl⟩
theorem KeepO.trans {a b:Nat} {x y z:World} (h:KeepO a b x y) (k:KeepO a b y z):KeepO a b x z :=
 ⟨k.os.trans h.os,k.tape.trans h.tape,k.output.trans h.output,Nat.le_trans h.size k.size,fun i hi ho=>(k.block i (Nat.lt_of_lt_of_le hi h.size) ho).trans (h.block i hi ho)⟩
theorem KeepO.of {a b:Nat} {W W':World} (h:Below W.heap.size W W'):KeepO a b W W':=⟨h.os,h.tape,h.output,h.size,fun k hk _=>h.block k hk⟩
theorem KeepO.set {a b:Nat} {W W':World} (h:KeepO a b W W') {p:Addr} (h1:a≤p.block) (h2:p.block<b) (u:Value):KeepO a b W (W'.setCell p u) :=
 h.trans ⟨rfl,rfl,rfl,by simp [World.setCell],fun k _ ho=>Below.heap_setCell _ _ _ _ (by omega)⟩
theorem KeepO.put {a b:Nat} {W W':World} (h:KeepO a b W W') {p:Addr} (hp:(a≤p.block∧p.block<b)∨W.heap.size≤p.block) (u:Value):KeepO a b W (W'.setCell p u) :=
 ⟨h.os,h.tape,h.output,by simpa [World.setCell] using h.size,fun k hk ho=>(Below.heap_setCell _ _ _ _ (by omega)).trans (h.block k hk ho)⟩
theorem KeepO.put3 {a b:Nat} {W W':World} (h:KeepO a b W W') {g:Nat} (hp:(a≤g∧g<b)∨W.heap.size≤g) (u v x:Value):KeepO a b W (((W'.setCell ⟨g,0,none⟩ u).setCell ⟨g,1,none⟩ v).setCell ⟨g,2,none⟩ x):=((h.put (p:=⟨g,0,none⟩) hp u).put (p:=⟨g,1,none⟩) hp v).put (p:=⟨g,2,none⟩) hp x
theorem KeepO.alloc {a b:Nat} {W W':World} (h:KeepO a b W W') (o:Obj):KeepO a b W (W'.alloc o):=h.trans (KeepO.of ((Below.refl _ _).alloc (Nat.le_refl _) o))
theorem KeepO.below {a b:Nat} {W W':World} (h:KeepO a b W W') {B:Nat} (h1:B≤a) (h2:B≤W.heap.size):Below B W W':=⟨h.os,h.tape,h.output,h.size,fun k hk=>h.block k (by omega) (.inl (by omega))⟩
theorem KeepO.wide {a b a' b':Nat} {W W':World} (h:KeepO a b W W') (h1:a'≤a) (h2:b≤b'):KeepO a' b' W W':=⟨h.os,h.tape,h.output,h.size,fun k hk ho=>h.block k hk (by omega)⟩

/-- A place as a value: three slices that lie in w1. -/
def PlaceV (w1:World) (v:Value) (p:Lp):Prop:=∃ pa pc oa oc ra rc,v = .agg #[.slice pa p.1.length pc,.slice oa p.2.1.length oc,.slice ra p.2.2.length rc]∧SlAt w1 pa p.1∧SlAt w1 oa p.2.1∧SlAt w1 ra p.2.2
/-- A function value that tells T of the rows of a part, one after the other; it keeps what it needs in the blocks from a up to b. -/
structure Tl (cols:List Int) (w1:World) (T:List Lp→Lp→Value) (g:Nat) (cb:Array Value) (a b:Nat) (I:List Lp→World→Prop):Prop where
 lo:w1.heap.size≤a
 lt:∀ h W,I h W→b≤W.heap.size
 next:∀ h W W',I h W→W.heap.size≤W'.heap.size→(∀ k,a≤k→k<b→W'.heap[k]? = W.heap[k]?)→I h W'
 enter:∀ args w,(callFunc g args).run Tryz.prog w = .ok (.enter g args) w
 call:∀ (h:List Lp) (p:Lp) (v:Value) (W:World),I h W→h.length<1000→(∀ q ∈ h,FitP cols q.2.2)→FitP cols p.2.2→PlaceV w1 v p→Below w1.heap.size w1 W →
  Calls Tryz.prog g (#[v] ++ cb) W fun e W'=>e = .returned (T h p)∧I (p :: h) W'∧KeepO a b W W'
theorem Tl.keep {cols:List Int} {w1:World} {T:List Lp→Lp→Value} {g:Nat} {cb:Array Value} {a b:Nat} {I:List Lp→World→Prop} (t:Tl cols w1 T g cb a b I) {h:List Lp} {W W':World} (hi:I h W) (hb:Below W.heap.size W W'):I h W' :=
 t.next h W W' hi hb.size fun k _ hk=>hb.block k (Nat.lt_of_lt_of_le hk (t.lt h W hi))
theorem Tl.apart {cols:List Int} {w1:World} {T:List Lp→Lp→Value} {g:Nat} {cb:Array Value} {a b c d:Nat} {I:List Lp→World→Prop} (t:Tl cols w1 T g cb a b I) {h:List Lp} {W W':World} (hi:I h W) (hb:KeepO c d W W') (ho:b≤c∨d≤a):I h W' :=
 t.next h W W' hi hb.size fun k h1 hk=>hb.block k (Nat.lt_of_lt_of_le hk (t.lt h W hi)) (by omega)
/-- A function value that begins with a part. -/
def Begs (cols:List Int) (lo:Nat) (u:Value) (T:List Lp→Lp→Value) (w:World):Prop :=
 ∃ g cb,u = .func (.func g) #[] cb∧(∀ args w,(callFunc g args).run Tryz.prog w = .ok (.enter g args) w) ∧
  ∀ (w1 W:World),Since lo w w1→Below w1.heap.size w1 W→Calls Tryz.prog g cb W fun e W'=>∃ g' cb' a b I,e = .returned (.func (.func g') #[] cb')∧W.heap.size≤a∧Tl cols w1 T g' cb' a b I∧I [] W'∧Below W.heap.size W W'
theorem Begs.next {cols:List Int} {lo:Nat} {u:Value} {T:List Lp→Lp→Value} {w w':World} (h:Begs cols lo u T w) (hb:Since lo w w'):Begs cols lo u T w':=by
 obtain ⟨g,cb,e,eg,hd⟩:=h
 exact ⟨g,cb,e,eg,fun w1 W h1 h2=>hd w1 W (hb.trans h1) h2⟩
theorem Begs.down {cols:List Int} {lo lo':Nat} {u:Value} {T:List Lp→Lp→Value} {w:World} (h:Begs cols lo u T w) (hl:lo'≤lo):Begs cols lo' u T w:=by
 obtain ⟨g,cb,e,eg,hd⟩:=h
 exact ⟨g,cb,e,eg,fun w1 W h1 h2=>hd w1 W (h1.up hl) h2⟩

/-- A block of these cells. -/
def Bk (W:World) (k:Nat) (xs:Array Value) (T:TypeId):Prop:=W.heap[k]? = some (.cells xs T (0,0))
theorem Bk.new (W:World) (xs:Array Value) (T:TypeId):Bk (W.alloc (.cells xs T)) W.heap.size xs T:=by
 show (W.heap.push (.cells xs T (0,0)))[W.heap.size]? = _
 exact Array.getElem?_push_size
theorem Bk.cell {W:World} {k:Nat} {xs:Array Value} {T:TypeId} (h:Bk W k xs T) (i:Nat) {v:Value} (hv:xs[i]? = some v):W.cell? ⟨k,i,none⟩=some v:=by
 unfold Bk at h
 simp [World.cell?,h,hv]
theorem Bk.frozen {W:World} {k:Nat} {xs:Array Value} {T:TypeId} (h:Bk W k xs T) (i:Nat):W.frozen? ⟨k,i,none⟩=false:=frozen_of_row W k i _ _ h
theorem Bk.lt {W:World} {k:Nat} {xs:Array Value} {T:TypeId} (h:Bk W k xs T):k<W.heap.size:=by
 unfold Bk at h
 rcases Nat.lt_or_ge k W.heap.size with h' | h'
 ·exact h'
 ·rw [Array.getElem?_eq_none h'] at h; cases h
theorem Bk.next {W W':World} {k:Nat} {xs:Array Value} {T:TypeId} (h:Bk W k xs T) (hb:Below W.heap.size W W'):Bk W' k xs T:=(hb.block k h.lt).trans h
theorem Bk.same {W W':World} {k:Nat} {xs:Array Value} {T:TypeId} (h:Bk W k xs T) (hb:W'.heap[k]? = W.heap[k]?):Bk W' k xs T:=hb.trans h
theorem Bk.keep {W W':World} {k a b:Nat} {xs:Array Value} {T:TypeId} (h:Bk W k xs T) (hb:KeepO a b W W') (ho:k<a∨b≤k):Bk W' k xs T:=(hb.block k h.lt ho).trans h
theorem Bk.put {W:World} {k:Nat} {xs:Array Value} {T:TypeId} (h:Bk W k xs T) (i:Nat) (u:Value):Bk (W.setCell ⟨k,i,none⟩ u) k (xs.setIfInBounds i u) T:=heap_setCell_same W k i xs T u h
theorem Bk.put1 {W:World} {k:Nat} {v:Value} {T:TypeId} (h:Bk W k #[v] T) (u:Value):Bk (W.setCell ⟨k,0,none⟩ u) k #[u] T:=by
 have:=h.put 0 u
 simpa using this
theorem Bk.put3 {W:World} {k:Nat} {x y z:Value} {T:TypeId} (h:Bk W k #[x,y,z] T) (u v s:Value):Bk (((W.setCell ⟨k,0,none⟩ u).setCell ⟨k,1,none⟩ v).setCell ⟨k,2,none⟩ s) k #[u,v,s] T:=by
 have:=((h.put 0 u).put 1 v).put 2 s
 simpa using this
theorem Bk.far {W:World} {k:Nat} {xs:Array Value} {T:TypeId} (h:Bk W k xs T) {p:Addr} (hp:k≠p.block) (u:Value):Bk (W.setCell p u) k xs T:=(Below.heap_setCell W p u k hp).trans h
theorem Bk.far3 {W:World} {k:Nat} {xs:Array Value} {T:TypeId} (h:Bk W k xs T) {g:Nat} (hp:k≠g) (x y z:Value):Bk (((W.setCell ⟨g,0,none⟩ x).setCell ⟨g,1,none⟩ y).setCell ⟨g,2,none⟩ z) k xs T:=((h.far (p:=⟨g,0,none⟩) hp x).far (p:=⟨g,1,none⟩) hp y).far (p:=⟨g,2,none⟩) hp z
end Go.Proofs.YtcnmpiahcnkndaaGreat
/- Rows in line, in order, plainly; how two of them are compared. -/
namespace Go.Proofs.YtcnmpiahcnkndaaGreat
open Go.RowKit Go.Lib Go.Shelf

/-- The rows that are there, each as often as its weight says, with what part and order come to. -/
def withL (ps os:List Ex) (z:List Zp):List Lp:=z.flatMap fun p=>List.replicate p.2.toNat (rowX ps p.1,rowX os p.1,p.1)
def cfP (x y:Lp):Int:=if cmpL x.1 y.1=0 then cmpL x.2.1 y.2.1 else cmpL x.1 y.1
/-- x stands ahead of y, or they are the same. -/
def StL (x y:Lp):Prop:=cfP x y<0∨(cfP x y=0∧cmpL x.2.2 y.2.2≤0)
instance (x y:Lp):Decidable (StL x y):=by unfold StL; exact inferInstance
theorem cfP_neg (x y:Lp):cfP x y = - cfP y x:=by
 have h1:=cmpL_neg x.1 y.1
 have h2:=cmpL_neg x.2.1 y.2.1
 unfold cfP
 by_cases e:cmpL x.1 y.1=0
 ·rw [if_pos e,if_pos (by omega)]; omega
 ·rw [if_neg e,if_neg (by omega)]; omega
theorem cfP_trans (x y z:Lp) (h1:cfP x y≤0) (h2:cfP y z≤0):cfP x z≤0:=by
 unfold cfP at *
 have n1:=cmpL_neg x.1 y.1
 have n2:=cmpL_neg y.1 z.1
 have n3:=cmpL_neg x.1 z.1
 have t1:=cmpL_trans x.1 y.1 z.1
 have t2:=cmpL_trans z.1 y.1 x.1
 have t3:=cmpL_trans x.2.1 y.2.1 z.2.1
 by_cases e1:cmpL x.1 y.1=0
 ·by_cases e2:cmpL y.1 z.1=0
  ·rw [if_pos e1] at h1
   rw [if_pos e2] at h2
   rw [if_pos (by have:=t1 (by omega) (by omega); have:=t2 (by omega) (by omega); omega)]
   exact t3 h1 h2
  ·rw [if_neg e2] at h2
   have:=cmpL_le_lt (a:=x.1) (b:=y.1) (c:=z.1) (by omega) (by omega)
   rw [if_neg (by omega)]; omega
 ·rw [if_neg e1] at h1
  have hl:cmpL y.1 z.1≤0:=by
   by_cases e2:cmpL y.1 z.1=0
   ·omega
   ·rw [if_neg e2] at h2; exact h2
  have:=cmpL_lt_le (a:=x.1) (b:=y.1) (c:=z.1) (by omega) hl
  rw [if_neg (by omega)]; omega
def preP (x y:Lp):Prop:=cmpL x.2.2 y.2.2≤0
theorem ordrP:Ordr cfP preP where
 neg:=cfP_neg
 trans:=cfP_trans
 ptrans _x _y _z h1 h2:=cmpL_trans _ _ _ h1 h2
theorem StL.trans {x y z:Lp} (h1:StL x y) (h2:StL y z):StL x z:=St.trans ordrP h1 h2
theorem StL.total (x y:Lp):StL x y∨StL y x:=by
 have n1:=cfP_neg x y
 have n2:=cmpL_neg x.2.2 y.2.2
 unfold StL
 omega
theorem StL.anti {x y:Lp} (h1:StL x y) (h2:StL y x):cmpL x.2.2 y.2.2=0:=by
 have n1:=cfP_neg x y
 have n2:=cmpL_neg x.2.2 y.2.2
 unfold StL at *
 omega
def insL (x:Lp):List Lp→List Lp
 | []=>[x]
 | y :: r=>if StL x y then x :: y :: r else y :: insL x r
def ordL:List Lp→List Lp
 | []=>[]
 | x :: r=>insL x (ordL r)
theorem insL_perm (x:Lp):∀ l,(insL x l).Perm (x :: l)
 | []=>List.Perm.refl _
 | y :: r=>by
  unfold insL
  split
  ·exact List.Perm.refl _
  ·exact ((insL_perm x r).cons y).trans (List.Perm.swap x y r)
theorem ordL_perm:∀ l,(ordL l).Perm l
 | []=>List.Perm.refl _
 | x :: r=>(insL_perm x (ordL r)).trans ((ordL_perm r).cons x)
theorem insL_sorted (x:Lp):∀ l,l.Pairwise StL→(insL x l).Pairwise StL
 | [],_=>by simp [insL]
 | y :: r,h=>by
  obtain ⟨h1,h2⟩:=List.pairwise_cons.1 h
  unfold insL
  split
  ·rename_i c
   exact List.pairwise_cons.2 ⟨fun z hz=>by
    rcases List.mem_cons.1 hz with rfl | hz
    ·exact c
    ·exact c.trans (h1 z hz),h⟩
  ·rename_i c
   have c':StL y x:=(StL.total x y).resolve_left c
   exact List.pairwise_cons.2 ⟨fun z hz=>by
    rcases List.mem_cons.1 ((insL_perm x r).mem_iff.1 hz) with rfl | hz
    ·exact c'
    ·exact h1 z hz,insL_sorted x r h2⟩
theorem ordL_sorted:∀ l,(ordL l).Pairwise StL
 | []=>List.Pairwise.nil
 | x :: r=>insL_sorted x _ (ordL_sorted r)
/-- The rows in line. -/
def lineL (ps os:List Ex) (z:List Zp):List Lp:=ordL (withL ps os z)
theorem withL_mem {ps os:List Ex} {z:List Zp} {x:Lp} (h:x ∈ withL ps os z):∃ p ∈ z,0<p.2∧x=(rowX ps p.1,rowX os p.1,p.1):=by
 unfold withL at h
 obtain ⟨p,hp,hx⟩:=List.mem_flatMap.1 h
 obtain ⟨h1,h2⟩:=List.mem_replicate.1 hx
 exact ⟨p,hp,by omega,h2⟩
theorem rise_eq:∀ {z:List Zp},Rise z→∀ p ∈ z,∀ q ∈ z,cmpL p.1 q.1=0→p=q
 | [],_,p,hp,_,_,_=>by cases hp
 | x :: r,h,p,hp,q,hq,e=>by
  obtain ⟨h1,h2⟩:=List.pairwise_cons.1 h
  rcases List.mem_cons.1 hp with hp | hp <;> rcases List.mem_cons.1 hq with hq | hq
  ·rw [hp,hq]
  ·have:=h1 q hq
   rw [hp] at e
   omega
  ·have:=h1 p hp
   rw [hq] at e
   have:=cmpL_neg p.1 x.1
   omega
  ·exact rise_eq h2 p hp q hq e
theorem withL_anti {ps os:List Ex} {z:List Zp} (hz:Rise z) {x y:Lp} (hx:x ∈ withL ps os z) (hy:y ∈ withL ps os z) (h1:StL x y) (h2:StL y x):x=y:=by
 obtain ⟨p,hp,_,rfl⟩:=withL_mem hx
 obtain ⟨q,hq,_,rfl⟩:=withL_mem hy
 have:=rise_eq hz p hp q hq (h1.anti h2)
 rw [this]
theorem lineL_uniq {ps os:List Ex} {z:List Zp} (hz:Rise z) {l:List Lp} (hp:l.Perm (withL ps os z)) (hs:l.Pairwise StL):l=lineL ps os z :=
 List.Perm.eq_of_pairwise (le:=StL) (fun _a _b ha hb h1 h2=>withL_anti hz (hp.mem_iff.1 ha) ((ordL_perm _).mem_iff.1 hb) h1 h2) hs (ordL_sorted _) (hp.trans (ordL_perm _).symm)
def cntP:List Zp→Nat
 | []=>0
 | p :: r=>p.2.toNat+cntP r
theorem withL_len (ps os:List Ex):∀ z,(withL ps os z).length=cntP z
 | []=>rfl
 | p :: r=>by
  have:=withL_len ps os r
  unfold withL at *
  rw [List.flatMap_cons,List.length_append,List.length_replicate,this,cntP]
theorem lineL_len (ps os:List Ex) (z:List Zp):(lineL ps os z).length=cntP z:=by rw [lineL,(ordL_perm _).length_eq,withL_len]
/-- They came in the order of their rows. -/
theorem withL_pre {ps os:List Ex}:∀ {z:List Zp},Rise z→(withL ps os z).Pairwise preP
 | [],_=>List.Pairwise.nil
 | p :: r,h=>by
  obtain ⟨h1,h2⟩:=List.pairwise_cons.1 h
  have ih:=withL_pre (ps:=ps) (os:=os) h2
  unfold withL at *
  rw [List.flatMap_cons,List.pairwise_append]
  refine ⟨List.pairwise_replicate.2 (.inr (by unfold preP; rw [cmpL_refl]; exact Int.le_refl 0)),ih,fun x hx y hy=>?_⟩
  obtain ⟨_,rfl⟩:=List.mem_replicate.1 hx
  obtain ⟨q,hq,hy⟩:=List.mem_flatMap.1 hy
  obtain ⟨_,rfl⟩:=List.mem_replicate.1 hy
  have:=h1 q hq
  show cmpL p.1 q.1≤0
  omega

/-! ### In memory -/
structure ElL (W:World) (b o:Nat) (x:Lp):Prop where
 pt:∃ pa pc,W.cell? ⟨b,o,none⟩=some (.slice pa x.1.length pc)∧SlAt W pa x.1
 od:∃ oa oc,W.cell? ⟨b,o+1,none⟩=some (.slice oa x.2.1.length oc)∧SlAt W oa x.2.1
 rw:∃ ra rc,W.cell? ⟨b,o+2,none⟩=some (.slice ra x.2.2.length rc)∧SlAt W ra x.2.2
def LnAt (W:World) (a:Option Addr) (l:List Lp):Prop:=l = []∨∃ b off,a=some ⟨b,off,none⟩∧b<W.heap.size∧∀ i (hi:i<l.length),ElL W b (off+i*3) l[i]
theorem ElL.next {W w1:World} {b o:Nat} {x:Lp} (h:ElL W b o x) (hlt:b<W.heap.size) (hb:Below W.heap.size W w1):ElL w1 b o x:=by
 obtain ⟨⟨pa,pc,h1,h2⟩,⟨oa,oc,h3,h4⟩,ra,rc,h5,h6⟩:=h
 exact ⟨⟨pa,pc,(hb.cell (p:=⟨b,_,none⟩) hlt).trans h1,h2.next hb⟩,⟨oa,oc,(hb.cell (p:=⟨b,_,none⟩) hlt).trans h3,h4.next hb⟩,ra,rc,(hb.cell (p:=⟨b,_,none⟩) hlt).trans h5,h6.next hb⟩
theorem LnAt.next {W w1:World} {a:Option Addr} {l:List Lp} (h:LnAt W a l) (hb:Below W.heap.size W w1):LnAt w1 a l:=by
 rcases h with h | ⟨b,off,e,hlt,hr⟩
 ·exact .inl h
 ·exact .inr ⟨b,off,e,Nat.lt_of_lt_of_le hlt hb.size,fun i hi=>(hr i hi).next hlt hb⟩
theorem LnAt.elem {W:World} {a:Option Addr} {l:List Lp} (h:LnAt W a l) {k:Nat} (hk:k<l.length):∃ b off,a=some ⟨b,off,none⟩∧b<W.heap.size∧ElL W b (off+k*3) l[k]:=by
 rcases h with h | ⟨b,off,e,hlt,hr⟩
 ·subst h; simp at hk
 ·exact ⟨b,off,e,hlt,hr k hk⟩
/-- A place, and where it lies. -/
structure Lr where
 pa:Option Addr
 pc:Nat
 part:List Vl
 oa:Option Addr
 oc:Nat
 order:List Vl
 ra:Option Addr
 rc:Nat
 row:List Vl
abbrev Lg (w:World) (g:Nat):Type:={ x:Lr // (SlAt w x.pa x.part∧Off g x.pa x.part)∧(SlAt w x.oa x.order∧Off g x.oa x.order)∧SlAt w x.ra x.row∧Off g x.ra x.row }
instance (w:World) (g:Nat):Inhabited (Lg w g):=⟨⟨⟨none,0,[],none,0,[],none,0,[]⟩,⟨⟨by simp,.inl rfl⟩,.inl rfl⟩,⟨⟨by simp,.inl rfl⟩,.inl rfl⟩,⟨by simp,.inl rfl⟩,.inl rfl⟩⟩
section
variable (w:World) (g:Nat)
def encL (x:Lg w g):List Value:=[.slice x.1.pa x.1.part.length x.1.pc,.slice x.1.oa x.1.order.length x.1.oc,.slice x.1.ra x.1.row.length x.1.rc]
def plL (x:Lg w g):Lp:=(x.1.part,x.1.order,x.1.row)
def cfL (x y:Lg w g):Int:=cfP (plL w g x) (plL w g y)
def preL (x y:Lg w g):Prop:=preP (plL w g x) (plL w g y)
theorem ordrL:Ordr (cfL w g) (preL w g) where
 neg _x _y:=cfP_neg _ _
 trans _x _y _z h1 h2:=cfP_trans _ _ _ h1 h2
 ptrans _x _y _z h1 h2:=ordrP.ptrans _ _ _ h1 h2
end

set_option maxRecDepth 100000 in
set_option maxHeartbeats 1000000 in
theorem or2_at (b:Nat) (x y:Int) (w:World) (c0:w.cell? ⟨b,0,none⟩=some (.int .i64 x)) (c1:w.cell? ⟨b,1,none⟩=some (.int .i64 y)) :
  Calls Tryz.prog 61 #[.slice (some ⟨b,0,none⟩) 2 2] w fun e w'=>e = .returned (.int .i64 (if x=0 then y else x))∧w'=w:=by
 by_cases hx:x=0
 ·rw [if_pos hx]
  have q:(x != 0)=false:=by simpa using hx
  clear hx
  by_cases hy:y=0
  ·subst hy
   go_enter Tryz.func61,Tryz.ntmps61
   go_wp2_with fail
   refine wp_loop_rounds 3 ?_
   rw [rounds_succ]; go_wp2_with fail
   rw [rounds_succ]; go_wp2_with fail
   rw [rounds_succ]; go_wp2_with fail
   go_ret
   exact ⟨rfl,rfl⟩
  ·have r:(y != 0)=true:=by simpa using hy
   clear hy
   go_enter Tryz.func61,Tryz.ntmps61
   go_wp2_with fail
   refine wp_loop_rounds 3 ?_
   rw [rounds_succ]; go_wp2_with fail
   rw [rounds_succ]; go_wp2_with fail
   go_ret
   exact ⟨rfl,rfl⟩
 ·rw [if_neg hx]
  have q:(x != 0)=true:=by simpa using hx
  clear hx
  go_enter Tryz.func61,Tryz.ntmps61
  go_wp2_with fail
  refine wp_loop_rounds 3 ?_
  rw [rounds_succ]; go_wp2_with fail
  go_ret
  exact ⟨rfl,rfl⟩
set_option maxRecDepth 100000 in
set_option maxHeartbeats 2000000 in
theorem inLine1_at (pa oa ra pa' oa' ra':Option Addr) (pc oc rc pc' oc' rc':Nat) (x x':Lp) (w:World) (hp:SlAt w pa x.1) (ho:SlAt w oa x.2.1) (hp':SlAt w pa' x'.1) (ho':SlAt w oa' x'.2.1) :
  Calls Tryz.prog 60 #[.agg #[.slice pa x.1.length pc,.slice oa x.2.1.length oc,.slice ra x.2.2.length rc],.agg #[.slice pa' x'.1.length pc',.slice oa' x'.2.1.length oc',.slice ra' x'.2.2.length rc']] w fun e w'=>e = .returned (.int .i64 (cfP x x'))∧∃ q os',w'=Go.Sort.grow (w.drewN q) os':=by
 have b1:Below w.heap.size w (w.alloc (.cells #[.slice pa x.1.length pc,.slice oa x.2.1.length oc,.slice ra x.2.2.length rc] 66)):=(Below.refl _ _).alloc (Nat.le_refl _) _
 have q1:=Bk.new w #[.slice pa x.1.length pc,.slice oa x.2.1.length oc,.slice ra x.2.2.length rc] 66
 have z1:(w.alloc (.cells #[.slice pa x.1.length pc,.slice oa x.2.1.length oc,.slice ra x.2.2.length rc] 66)).heap.size=w.heap.size+1:=by simp
 have dw1:(w.alloc (.cells #[.slice pa x.1.length pc,.slice oa x.2.1.length oc,.slice ra x.2.2.length rc] 66)).drawn=w.drawn:=rfl
 generalize hres:cfP x x'=res
 have HR:Hid (cfP x x'=res):=hres
 clear hres
 go_enter Tryz.func60,Tryz.ntmps60
 go_upto_region 1 with fail
 generalize w.alloc (.cells #[.slice pa x.1.length pc,.slice oa x.2.1.length oc,.slice ra x.2.2.length rc] 66)=wa at *
 have b2:=(Below.refl wa.heap.size wa).alloc (Nat.le_refl _) (.cells #[.slice pa' x'.1.length pc',.slice oa' x'.2.1.length oc',.slice ra' x'.2.2.length rc'] 66)
 have q2:=Bk.new wa #[.slice pa' x'.1.length pc',.slice oa' x'.2.1.length oc',.slice ra' x'.2.2.length rc'] 66
 have dw2:(wa.alloc (.cells #[.slice pa' x'.1.length pc',.slice oa' x'.2.1.length oc',.slice ra' x'.2.2.length rc'] 66)).drawn=w.drawn:=dw1
 rw [z1] at q2
 have q1:=q1.next b2
 have bb:=chain b1 b2
 generalize wa.alloc (.cells #[.slice pa' x'.1.length pc',.slice oa' x'.2.1.length oc',.slice ra' x'.2.2.length rc'] 66)=wb at *
 have CC:∀ X X':World,(Bk X w.heap.size #[.slice pa x.1.length pc,.slice oa x.2.1.length oc,.slice ra x.2.2.length rc] 66∧Bk X (w.heap.size+1) #[.slice pa' x'.1.length pc',.slice oa' x'.2.1.length oc',.slice ra' x'.2.2.length rc'] 66∧BwD wb X)→BwD X X'→(Bk X' w.heap.size #[.slice pa x.1.length pc,.slice oa x.2.1.length oc,.slice ra x.2.2.length rc] 66∧Bk X' (w.heap.size+1) #[.slice pa' x'.1.length pc',.slice oa' x'.2.1.length oc',.slice ra' x'.2.2.length rc'] 66∧BwD wb X'):=fun X X' h hb=>⟨h.1.next hb.b,h.2.1.next hb.b,h.2.2.trans hb⟩
 have hCC:=CC
 clear CC
 have CW:(Bk wb.drew w.heap.size #[.slice pa x.1.length pc,.slice oa x.2.1.length oc,.slice ra x.2.2.length rc] 66∧Bk wb.drew (w.heap.size+1) #[.slice pa' x'.1.length pc',.slice oa' x'.2.1.length oc',.slice ra' x'.2.2.length rc'] 66∧BwD wb wb.drew):=by
  have hd:BwD wb wb.drew:=⟨(Below.refl _ _).drew,Nat.le_succ _⟩
  exact ⟨q1.next hd.b,q2.next hd.b,hd⟩
 clear q1 q2 b1 b2 dw1 z1
 refine D.wp_region_cls (fun X=>(Bk X w.heap.size #[.slice pa x.1.length pc,.slice oa x.2.1.length oc,.slice ra x.2.2.length rc] 66∧Bk X (w.heap.size+1) #[.slice pa' x'.1.length pc',.slice oa' x'.2.1.length oc',.slice ra' x'.2.2.length rc'] 66∧BwD wb X)) (by kernel_rfl) ?_
 refine D.wpY_take hCC (some 5) (i:=0) (v:=.pointer (some ⟨w.heap.size,0,none⟩)) rfl rfl (by kernel_rfl) (by kernel_rfl) (by kernel_rfl) (fun _ _ _ h=>h) (Or.inl ⟨rfl,fun n hn=>?_⟩) CW ?_
 ·go_simp
 simp only [Act.put,pA,pB,pC]
 refine D.wpY_take hCC (some 6) (i:=1) (v:=.slice pa x.1.length pc) rfl rfl (by kernel_rfl) (by kernel_rfl) (by kernel_rfl) (fun _ _ _ h=>h) (Or.inl ⟨rfl,fun n hn=>?_⟩) CW ?_
 ·have c0:=hn.1.cell 0 rfl
  go_simp
 simp only [Act.put,pA,pB,pC]
 refine D.wpY_take hCC (some 7) (i:=2) (v:=.pointer (some ⟨w.heap.size+1,0,none⟩)) rfl rfl (by kernel_rfl) (by kernel_rfl) (by kernel_rfl) (fun _ _ _ h=>h) (Or.inl ⟨rfl,fun n hn=>?_⟩) CW ?_
 ·go_simp
 simp only [Act.put,pA,pB,pC]
 refine D.wpY_take hCC (some 8) (i:=3) (v:=.slice pa' x'.1.length pc') rfl rfl (by kernel_rfl) (by kernel_rfl) (by kernel_rfl) (fun _ _ _ h=>h) (Or.inl ⟨rfl,fun n hn=>?_⟩) CW ?_
 ·have c0:=hn.2.1.cell 0 rfl
  go_simp
 simp only [Act.put,pA,pB,pC]
 refine D.wpY_take hCC (some 10) (i:=5) (v:=.pointer (some ⟨w.heap.size,1,none⟩)) rfl rfl (by kernel_rfl) (by kernel_rfl) (by kernel_rfl) (fun _ _ _ h=>h) (Or.inl ⟨rfl,fun n hn=>?_⟩) CW ?_
 ·go_simp
 simp only [Act.put,pA,pB,pC]
 refine D.wpY_take hCC (some 11) (i:=6) (v:=.slice oa x.2.1.length oc) rfl rfl (by kernel_rfl) (by kernel_rfl) (by kernel_rfl) (fun _ _ _ h=>h) (Or.inl ⟨rfl,fun n hn=>?_⟩) CW ?_
 ·have c0:=hn.1.cell 1 rfl
  go_simp
 simp only [Act.put,pA,pB,pC]
 refine D.wpY_take hCC (some 12) (i:=7) (v:=.pointer (some ⟨w.heap.size+1,1,none⟩)) rfl rfl (by kernel_rfl) (by kernel_rfl) (by kernel_rfl) (fun _ _ _ h=>h) (Or.inl ⟨rfl,fun n hn=>?_⟩) CW ?_
 ·go_simp
 simp only [Act.put,pA,pB,pC]
 refine D.wpY_take hCC (some 13) (i:=8) (v:=.slice oa' x'.2.1.length oc') rfl rfl (by kernel_rfl) (by kernel_rfl) (by kernel_rfl) (fun _ _ _ h=>h) (Or.inl ⟨rfl,fun n hn=>?_⟩) CW ?_
 ·have c0:=hn.2.1.cell 1 rfl
  go_simp
 simp only [Act.put,pA,pB,pC]
 refine D.wpY_step (rs:=[4]) (by kernel_rfl) (by simp) ?_
 intro w3 hb3 jj hj
 obtain rfl:jj=4:=by simpa using hj
 clear hj
 have CW3:=hCC _ _ CW hb3
 have hA3:=chain bb CW3.2.2.b
 refine wpOp_step rfl (fun K hK=>?_)
 go_simp
 refine (rows_d _ _ _ _ _ _ _ (hp.next hA3) (hp'.next hA3)).mono ?_
 rintro e w4 ⟨rfl,hb4,hd4⟩
 have CW4:=hCC _ _ CW3 ⟨hb4,hd4⟩
 refine hK _ _ ⟨CW4,?_⟩
 clear hK K CW3 CW hA3
 (try simp only [Act.put,pA,pB,pC])
 refine D.wpY_step (rs:=[9]) (by kernel_rfl) (by simp) ?_
 intro w5 hb5 jj hj
 obtain rfl:jj=9:=by simpa using hj
 clear hj
 have CW5:=hCC _ _ CW4 hb5
 have hA5:=chain bb CW5.2.2.b
 refine wpOp_step rfl (fun K hK=>?_)
 go_simp
 refine (rows_d _ _ _ _ _ _ _ (ho.next hA5) (ho'.next hA5)).mono ?_
 rintro e w6 ⟨rfl,hb6,hd6⟩
 have CW6:=hCC _ _ CW5 ⟨hb6,hd6⟩
 refine hK _ _ ⟨CW6,?_⟩
 clear hK K CW5 CW4 hA5
 have er:res=if cmpL x.1 x'.1=0 then cmpL x.2.1 x'.2.1 else cmpL x.1 x'.1:=by rw [← HR.out]; rfl
 have HE:Hid (res=if cmpL x.1 x'.1=0 then cmpL x.2.1 x'.2.1 else cmpL x.1 x'.1):=er
 clear er HR
 generalize cmpL x.1 x'.1=c1 at *
 generalize cmpL x.2.1 x'.2.1=c2 at *
 (try simp only [Act.put,pA,pB,pC])
 refine D.wpY_step (rs:=[10]) (by kernel_rfl) (by simp) ?_
 intro w7 hb7 jj hj
 obtain rfl:jj=10:=by simpa using hj
 clear hj
 have CW7:=hCC _ _ CW6 hb7
 refine wpOp_step rfl (fun K hK=>?_)
 go_simp
 have b8:=(Below.refl w7.heap.size w7).alloc (Nat.le_refl _) (.cells #[.int .i64 c1,.int .i64 c2] 3)
 have q8:=Bk.new w7 #[.int .i64 c1,.int .i64 c2] 3
 have d8:w7.drawn≤(w7.alloc (.cells #[.int .i64 c1,.int .i64 c2] 3)).drawn:=Nat.le_refl _
 have CW8:=hCC _ _ CW7 ⟨b8,d8⟩
 refine hK _ _ ⟨CW8,?_⟩
 clear hK K CW7 CW6 b8 d8
 generalize w7.alloc (.cells #[.int .i64 c1,.int .i64 c2] 3)=w8 at *
 (try simp only [Act.put,pA,pB,pC])
 refine D.wpY_step (rs:=[11]) (by kernel_rfl) (by simp) ?_
 intro w9 hb9 jj hj
 obtain rfl:jj=11:=by simpa using hj
 clear hj
 have CW9:=hCC _ _ CW8 hb9
 have q9:=q8.next hb9.b
 refine wpOp_step rfl (fun K hK=>?_)
 go_simp
 refine (or2_at w7.heap.size c1 c2 w9 (q9.cell 0 rfl) (q9.cell 1 rfl)).mono ?_
 rintro e w10 ⟨rfl,rfl⟩
 rw [← HE.out]
 refine hK _ _ ⟨CW9,?_⟩
 clear hK K CW8 q8 q9
 (try simp only [Act.put,pA,pB,pC])
 refine D.wpY_take hCC (some 4) (i:=12) (v:=.int .i64 res) rfl rfl (by kernel_rfl) (by kernel_rfl) (by kernel_rfl) (fun _ _ _ h=>h) (Or.inl ⟨rfl,fun n hn=>?_⟩) CW9 ?_
 ·go_simp
 simp only [Act.put,pA,pB,pC]
 refine D.wpY_done (by kernel_rfl) ?_
 intro w11 hb11
 have CW11:=hCC _ _ CW9 hb11
 have B11:=chain bb CW11.2.2.b
 have D11:w.drawn≤w11.drawn:=by rw [← dw2]; exact CW11.2.2.d
 clear CW9 CW11
 go_wp2_with fail
 go_ret
 exact ⟨rfl,grow_of_below B11 D11⟩
end Go.Proofs.YtcnmpiahcnkndaaGreat
/- The walks of math/bits.Mul and slices.Repeat: one value, up to eight times. -/
namespace Go.Proofs.YtcnmpiahcnkndaaGreat
open Go.RowKit Go.Lib Go.Shelf

/-- A copy of elements of k cells. -/
theorem run_copy_k {P:Program} (w:World) (dT sT ty elem:TypeId) (g o dLen dCap:Nat) (a:Addr) (sLen sCap k m:Nat) (cur:List Value) (t:TypeId) (cs:List Value)
  (hu:P.underlying dT=some (.slice elem)) (hs:(P.info? elem).map (·.size)=some k)
  (hg:w.heap[g]? = some (.cells cur.toArray t (0,0))) (hm:Nat.min sLen dLen=m) (hn:cs.length=m*k)
  (hsrc:∀ j v,cs[j]? = some v→w.cell? (a.add j)=some v) (hfit:o+cs.length≤cur.length) (h1:∀ v ∈ cs,v.oneCell'=true) :
  (Builtin.copy_ #[dT,sT] ty #[.slice (some ⟨g,o,none⟩) dLen dCap,.slice (some a) sLen sCap]).run P w =
   .ok (goInt m) (w.setRow g (splice cur o cs).toArray):=by
 have hl:=run_loadCells_list (P:=P) w a cs hsrc
 have hst:=run_storeCells_at P g o t cs 0 cur.toArray w hg (by simpa using hfit) h1
 rw [hn] at hl
 cases hq:P.info? elem with
 | none=>simp [hq] at hs
 | some i =>
  have hi:i.size=k:=by simpa [hq] using hs
  simp [Builtin.copy_,run_underlying hu,Builtin.lenOf,Builtin.firstCells,sizeOf,typeInfo,hq,hi,hm,hl,hst,splice]
theorem wp_copy_at {P:Program} {w:World} {o:Oper} {a:Act} {K:Act→World→Prop} {Q:Exit→Act→World→Prop} (d:Option Tmp) (hd:o.dst=d) (s x:Operand) (t:TypeId)
  (ho:o.op = .call { callee:=.builtin .copy,args:=#[s,x],argTypes:=#[t,t] })
  (elem:TypeId) (g off dLen dCap:Nat) (ad:Addr) (sLen sCap k m:Nat) (cur:List Value) (T:TypeId) (cs:List Value)
  (hu:P.underlying t=some (.slice elem)) (hsz:(P.info? elem).map (·.size)=some k)
  (hg:w.heap[g]? = some (.cells cur.toArray T (0,0))) (hm:Nat.min sLen dLen=m) (hn:cs.length=m*k)
  (hsrc:∀ j v,cs[j]? = some v→w.cell? (ad.add j)=some v) (hfit:off+cs.length≤cur.length) (h1:∀ v ∈ cs,v.oneCell'=true)
  (hs:a.eval s = .slice (some ⟨g,off,none⟩) dLen dCap) (hx:a.eval x = .slice (some ad) sLen sCap)
  (h:K (a.put d (goInt m)) (w.setRow g (splice cur off cs).toArray)):o.wp P a w K Q:=by
 subst hd
 have hr:=run_copy_k (P:=P) w t t o.type elem g off dLen dCap ad sLen sCap k m cur T cs hu hsz hg hm hn hsrc hfit h1
 unfold Oper.wp execOp
 simp only [ho,resolve,invoke,builtin,Sem.run_bind,Sem.run_pure,Result.andThen_ok,List.map_toArray,List.map_cons,List.map_nil,hs,hx,hr]
 exact h
end Go.Proofs.YtcnmpiahcnkndaaGreat
/- math/bits.Mul of one and a number; slices.Repeat at places: one place, up to 400 times. -/
namespace Go.Proofs.YtcnmpiahcnkndaaGreat
open Go.RowKit Go.Lib Go.Shelf

theorem and32:∀ c:Nat,c≤400→bits BinOp.and IntKind.u64 (c:Int) 4294967295=(c:Int):=by
 have h:∀ c:Fin 401,bits BinOp.and IntKind.u64 ((c.1:Nat):Int) 4294967295=((c.1:Nat):Int):=by decide +kernel
 exact fun c hc=>h ⟨c,by omega⟩
set_option maxRecDepth 100000 in
set_option maxHeartbeats 1000000 in
theorem mul64L_at (c:Nat) (hc:c≤400) (w:World):Calls Tryz.prog 143 #[.int .u64 1,.int .u64 c] w fun e w'=>e = .returned (.tuple #[.int .u64 0,.int .u64 c])∧w'=w:=by
 have b0:bits BinOp.and IntKind.u64 0 4294967295=0:=by decide +kernel
 have b1:bits BinOp.and IntKind.u64 1 4294967295=1:=by decide +kernel
 have b2:=and32 c hc
 have s1:(c:Int) / 4294967296=0:=by omega
 have s2:IntKind.u64.wrap (c:Int)=(c:Int):=by rw [IntKind.wrap_u64]; omega
 go_enter Tryz.func143,Tryz.ntmps143
 go_wp2
 exact bodyPost_ret (by simp [results,Tryz.results143,go_sem]) rfl ⟨rfl,rfl⟩
set_option maxRecDepth 100000 in
set_option maxHeartbeats 1000000 in
theorem mulL_at (c:Nat) (hc:c≤400) (w:World):Calls Tryz.prog 102 #[.int .u64 1,.int .u64 c] w fun e w'=>e = .returned (.tuple #[.int .u64 0,.int .u64 c])∧w'=w:=by
 go_enter Tryz.func102,Tryz.ntmps102
 go_wp2_with fail
 refine (mul64L_at c hc w).mono ?_
 rintro e w1 ⟨rfl,rfl⟩
 dsimp only
 go_wp2_with fail
 exact bodyPost_ret (v:=.tuple #[.int .u64 0,.int .u64 c]) (by simp [results,Tryz.results102,go_sem]) rfl ⟨rfl,rfl⟩

/-- Three cells, n times. -/
def fl3 (v:Value × Value × Value):Nat→List Value
 | 0=>[]
 | n+1=>v.1 :: v.2.1 :: v.2.2 :: fl3 v n
theorem fl3_len (v:Value × Value × Value):∀ n,(fl3 v n).length=n*3
 | 0=>rfl
 | n+1=>by simp only [fl3,List.length_cons,fl3_len v n]; omega
theorem fl3_add (v:Value × Value × Value) (m:Nat):∀ n,fl3 v (n+m)=fl3 v n ++ fl3 v m
 | 0=>by simp [fl3]
 | n+1=>by rw [show n+1+m=(n+m)+1 by omega]; simp only [fl3,fl3_add v m n,List.cons_append]
theorem fl3_get (v:Value × Value × Value):∀ (n i:Nat),i<n→(fl3 v n)[i*3]? = some v.1∧(fl3 v n)[i*3+1]? = some v.2.1∧(fl3 v n)[i*3+2]? = some v.2.2
 | 0,i,h=>absurd h (Nat.not_lt_zero _)
 | n+1,0,_=>by simp [fl3]
 | n+1,i+1,h=>by
  have:=fl3_get v n i (by omega)
  rw [show (i+1)*3=i*3+3 by omega]
  simpa [fl3] using this
theorem fl3_one {v:Value × Value × Value} (h:v.1.oneCell'=true∧v.2.1.oneCell'=true∧v.2.2.oneCell'=true):∀ n,∀ u ∈ fl3 v n,u.oneCell'=true
 | 0,u,hu=>by simp [fl3] at hu
 | n+1,u,hu=>by
  simp only [fl3,List.mem_cons] at hu
  rcases hu with rfl | rfl | rfl | hu
  ·exact h.1
  ·exact h.2.1
  ·exact h.2.2
  ·exact fl3_one h n u hu
def z3:Value × Value × Value:=(.slice none 0 0,.slice none 0 0,.slice none 0 0)
def repL (v:Value × Value × Value) (n c:Nat):List Value:=fl3 v n ++ fl3 z3 (c - n)
theorem repL_len (v:Value × Value × Value) (n c:Nat) (h:n≤c):(repL v n c).length=c*3:=by
 unfold repL; rw [List.length_append,fl3_len,fl3_len]; omega
theorem repL_splice (v:Value × Value × Value) (n m c:Nat) (h:n+m≤c):splice (repL v n c) (n*3) (fl3 v m)=repL v (n+m) c:=by
 have e1:repL v n c=fl3 v n ++ (fl3 z3 m ++ fl3 z3 (c - n - m)):=by
  unfold repL
  rw [← fl3_add,show m+(c - n - m)=c - n by omega]
 have t1:(repL v n c).take (n*3)=fl3 v n:=by rw [e1]; exact List.take_left' (fl3_len v n)
 have t2:(repL v n c).drop (n*3+m*3)=fl3 z3 (c - n - m):=by rw [e1,← List.append_assoc]; exact List.drop_left' (by rw [List.length_append,fl3_len,fl3_len])
 unfold splice
 rw [fl3_len,t1,t2]
 unfold repL
 rw [fl3_add,show c - n - m=c - (n+m) by omega,List.append_assoc]
theorem sizeL:(Tryz.prog.info? 66).map (·.size)=some 3:=by kernel_rfl
theorem infoL:(Tryz.prog.info? 66).map (fun i=>(i.zero,i.size,i.bytes))=some (some (.agg #[.slice none 0 0,.slice none 0 0,.slice none 0 0]),3,72):=by kernel_rfl
theorem repL_cells {W:World} {g n c:Nat} {v:Value × Value × Value} (h:W.heap[g]? = some (.cells (repL v n c).toArray 66 (0,0))) {m:Nat} (hm:m≤n):∀ j u,(fl3 v m)[j]? = some u→W.cell? ((⟨g,0,none⟩:Addr).add j)=some u:=fun j u hj=>by
 rw [addr_add',Nat.zero_add]
 have e:repL v n c=fl3 v m ++ (fl3 v (n - m) ++ fl3 z3 (c - n)):=by
  unfold repL
  rw [← List.append_assoc,← fl3_add,show m+(n - m)=n by omega]
 have hl:j<(fl3 v m).length:=by
  rcases Nat.lt_or_ge j (fl3 v m).length with h | h
  ·exact h
  ·rw [List.getElem?_eq_none h] at hj; cases hj
 simp only [World.cell?,h]
 simp only [Option.isSome_none,Bool.false_eq_true,if_false,List.getElem?_toArray]
 rw [e,List.getElem?_append_left hl]
 exact hj
theorem fl3_z3:∀ n,fl3 z3 n=List.replicate (n*3) (.slice none 0 0)
 | 0=>rfl
 | n+1=>by rw [show (n+1)*3=n*3+3 by omega,List.replicate_succ,List.replicate_succ,List.replicate_succ,← fl3_z3 n]; rfl
theorem madeL_rep (v:Value × Value × Value) (c:Nat):repL v 0 c=(madeCells #[.slice none 0 0,.slice none 0 0,.slice none 0 0] (c*3)).toList:=by
 unfold repL
 rw [Nat.sub_zero,fl3_z3]
 simp only [fl3,List.nil_append]
 apply List.ext_getElem
 ·simp [madeCells]
 ·intro i h1 h2
  simp only [List.getElem_replicate,madeCells,Array.getElem_toList,Array.getElem_map,Array.getElem_range]
  have:i % 3=0∨i % 3=1∨i % 3=2:=by omega
  rcases this with e | e | e <;> simp [e]

set_option maxRecDepth 100000 in
set_option maxHeartbeats 4000000 in
theorem repeatL_at (B:Nat) (v:Value × Value × Value) (h1v:v.1.oneCell'=true∧v.2.1.oneCell'=true∧v.2.2.oneCell'=true) (c:Nat) (hc:c≤400) (w:World) (q0:w.cell? ⟨B,0,none⟩=some v.1) (q1:w.cell? ⟨B,1,none⟩=some v.2.1) (q2:w.cell? ⟨B,2,none⟩=some v.2.2) :
  Calls Tryz.prog 58 #[.slice (some ⟨B,0,none⟩) 1 1,.int .i64 c] w fun e w'=>e = .returned (.slice (some ⟨w.heap.size,0,none⟩) c c)∧(∀ j u,(fl3 v c)[j]? = some u→w'.cell? ((⟨w.heap.size,0,none⟩:Addr).add j)=some u)∧Below w.heap.size w w':=by
 obtain ⟨i0,hi,hj0,hj1,hj2⟩:=info_parts infoL
 have hB:=World.block_lt_of_cell? _ _ q0
 go_enter Tryz.func58,Tryz.ntmps58
 go_wp2_with fail
 refine (mulL_at c hc w).mono ?_
 rintro e w1 ⟨rfl,rfl⟩
 dsimp only
 go_wp2_with (first | (at_make; refine wpList_make_full _ rfl _ _ 63 rfl w1.heap.size 66 i0 _ 3 Tryz.underlying63 hi hj0 hj1 .i64 .i64 c c c rfl rfl rfl rfl (by rw [hj2]; omega) (by unfold maxLen; omega) (Nat.le_refl _) ?_))
 intro w2 hown hgrow
 have hb2:Below w1.heap.size w1 w2:=(Below.refl _ _).grown hgrow (Nat.le_refl _) (by simp)
 have hrow:w2.heap[w1.heap.size]? = some (.cells (repL v 0 c).toArray 66 (0,0)):=by
  obtain ⟨hx,⟨e,_⟩ | ⟨g,cap,cur,e,_,hh,_,hcs,hs,ht⟩⟩:=hown
  ·cases e
  ·injection e with e1 _ e3
   have e1:=Option.some.inj e1
   injection e1 with e1
   subst e1 e3
   have hcl:cur.toList=(madeCells #[.slice none 0 0,.slice none 0 0,.slice none 0 0] (c*3)).toList:=by
    rw [← ht]; exact (List.take_of_length_le (by simp [hs])).symm
   have hrp:repL v 0 c=(madeCells #[.slice none 0 0,.slice none 0 0,.slice none 0 0] (c*3)).toList:=madeL_rep v c
   rw [hrp,← hcl]
   exact hh
 clear hown hgrow
 have p0:=(hb2.cell (p:=⟨B,0,none⟩) hB).trans q0
 have p1:=(hb2.cell (p:=⟨B,1,none⟩) hB).trans q1
 have p2:=(hb2.cell (p:=⟨B,2,none⟩) hB).trans q2
 obtain ⟨m0,hm0⟩:∃ m,m=Nat.min 1 c:=⟨_,rfl⟩
 have hm1:m0≤1:=by rw [hm0]; exact Nat.min_le_left _ _
 have hm2:m0≤c:=by rw [hm0]; exact Nat.min_le_right _ _
 have hm3:c=0∨m0=1:=by
  rcases Nat.eq_zero_or_pos c with h | h
  ·exact .inl h
  ·exact .inr (by rw [hm0]; exact Nat.min_eq_left h)
 have HM3:Hid (c=0∨m0=1):=hm3
 have hrow1:(w2.setRow w1.heap.size (splice (repL v 0 c) (0*3) (fl3 v m0)).toArray).heap[w1.heap.size]? = some (.cells (repL v (0+m0) c).toArray 66 (0,0)):=by
  rw [setRow_heap w2 w1.heap.size _ _ _ _ hrow,repL_splice v 0 m0 c (by omega)]
 have hbr:Below w1.heap.size w1 (w2.setRow w1.heap.size (splice (repL v 0 c) (0*3) (fl3 v m0)).toArray):=below_setRow hb2 (Nat.le_refl _) _
 have hs1:∀ j u,(fl3 v m0)[j]? = some u→w2.cell? ((⟨B,0,none⟩:Addr).add j)=some u:=by
  intro j u hj
  have hj':j<(fl3 v m0).length:=by
   rcases Nat.lt_or_ge j (fl3 v m0).length with h | h
   ·exact h
   ·rw [List.getElem?_eq_none h] at hj; cases hj
  have e1:m0=1:=by
   rw [fl3_len] at hj'; (try simp at hj'); omega
  rw [e1] at hj
  have hj3:j=0∨j=1∨j=2:=by rw [fl3_len] at hj'; (try simp at hj'); omega
  rcases hj3 with rfl | rfl | rfl
  ·simp [fl3] at hj; subst hj; rw [addr_add']; exact p0
  ·simp [fl3] at hj; subst hj; rw [addr_add']; exact p1
  ·simp [fl3] at hj; subst hj; rw [addr_add']; exact p2
 have hs2:0*3+(fl3 v m0).length≤(repL v 0 c).length:=by rw [fl3_len,repL_len v 0 c (Nat.zero_le _)]; simp; omega
 have hs3:(fl3 v m0).length=m0*3:=by rw [fl3_len]
 have hcopy:Sem.run Tryz.prog (Builtin.copy_ #[63,63] 3 #[.slice (some ⟨w1.heap.size,0,none⟩) c c,.slice (some ⟨B,0,none⟩) 1 1]) w2 = .ok (.int .i64 m0) (w2.setRow w1.heap.size (splice (repL v 0 c) (0*3) (fl3 v m0)).toArray):=run_copy_k w2 _ _ _ 66 w1.heap.size 0 c c ⟨B,0,none⟩ 1 1 3 m0 (repL v 0 c) 66 (fl3 v m0) Tryz.underlying63 sizeL hrow hm0.symm hs3 hs1 hs2 (fl3_one h1v _)
 rw [Nat.zero_add] at hrow1
 clear hrow hm0 hm3 hs1 hs2 hs3
 generalize w2.setRow w1.heap.size (splice (repL v 0 c) (0*3) (fl3 v m0)).toArray=w3 at *
 go_wp2_with fail
 go_loopw [8] (fun s8 wr=>∃ n:Nat,n≤c∧s8 = .int .i64 n∧Hid (c=0∨0<n)∧Hid (wr.heap[w1.heap.size]? = some (.cells (repL v n c).toArray 66 (0,0)))∧Below w1.heap.size w1 wr) (fun s8 _=>c - (intOf s8).toNat)
 case atStart=>exact ⟨m0,hm2,by first | rfl | simp [goInt],by rcases HM3.out with h | h; exact .inl h; exact .inr (by omega),hrow1,hbr⟩
 case round =>
  clear hrow1 hbr
  obtain ⟨n,hnc,rfl,HN,HR,hb⟩:=hrel
  by_cases hlt:n<c
  ·have hltz:(n:Int)<(c:Int):=by omega
   have hn0:0<n:=by rcases HN.out with h | h; omega; exact h
   obtain ⟨m,hm⟩:∃ m,m=Nat.min n (c - n):=⟨_,rfl⟩
   have hm1:m≤n:=by rw [hm]; exact Nat.min_le_left _ _
   have hm2:m≤c - n:=by rw [hm]; exact Nat.min_le_right _ _
   have hm3:0<m:=by rw [hm]; exact Nat.lt_min.2 ⟨hn0,by omega⟩
   have HM:Hid (m=Nat.min n (c - n)):=hm
   clear hm
   go_wp2_with fail
   have hCC:∀ W W':World,True→Below W.heap.size W W'→True:=fun _ _ _ _=>trivial
   have hdr:Below wr.heap.size wr wr.drew:=(Below.refl _ _).drew
   refine wp_region_cls (fun _=>True) (by kernel_rfl) ?_
   refine wpY_take hCC (some 38) (i:=0) (v:=.int .i64 n) rfl rfl (by kernel_rfl) (by kernel_rfl) (by kernel_rfl) (fun _ _ _ h=>h) (Or.inl ⟨rfl,fun k hk=>?_⟩) trivial ?_
   ·go_simp
   simp only [Act.put,pA,pB,pC]
   refine wpY_take hCC (some 39) (i:=1) (v:=.slice (some ⟨w1.heap.size,0,none⟩) c c) rfl rfl (by kernel_rfl) (by kernel_rfl) (by kernel_rfl) (fun _ _ _ h=>h) (Or.inl ⟨rfl,fun k hk=>?_⟩) trivial ?_
   ·go_simp
   simp only [Act.put,pA,pB,pC]
   refine wpY_take hCC (some 40) (i:=2) (v:=.int .i64 n) rfl rfl (by kernel_rfl) (by kernel_rfl) (by kernel_rfl) (fun _ _ _ h=>h) (Or.inl ⟨rfl,fun k hk=>?_⟩) trivial ?_
   ·go_simp
   simp only [Act.put,pA,pB,pC]
   refine wpY_take hCC (some 41) (i:=3) (v:=.slice (some ⟨w1.heap.size,n*3,none⟩) (c - n) (c - n)) rfl rfl (by kernel_rfl) (by kernel_rfl) (by kernel_rfl) (fun _ _ _ h=>h) (Or.inl ⟨rfl,fun k hk=>?_⟩) trivial ?_
   ·go_simp
    omega
   simp only [Act.put,pA,pB,pC]
   refine wpY_take hCC (some 42) (i:=4) (v:=.slice (some ⟨w1.heap.size,0,none⟩) c c) rfl rfl (by kernel_rfl) (by kernel_rfl) (by kernel_rfl) (fun _ _ _ h=>h) (Or.inl ⟨rfl,fun k hk=>?_⟩) trivial ?_
   ·go_simp
   simp only [Act.put,pA,pB,pC]
   refine wpY_take hCC (some 43) (i:=5) (v:=.int .i64 n) rfl rfl (by kernel_rfl) (by kernel_rfl) (by kernel_rfl) (fun _ _ _ h=>h) (Or.inl ⟨rfl,fun k hk=>?_⟩) trivial ?_
   ·go_simp
   simp only [Act.put,pA,pB,pC]
   refine wpY_take hCC (some 44) (i:=6) (v:=.slice (some ⟨w1.heap.size,0,none⟩) n c) rfl rfl (by kernel_rfl) (by kernel_rfl) (by kernel_rfl) (fun _ _ _ h=>h) (Or.inl ⟨rfl,fun k hk=>?_⟩) trivial ?_
   ·go_simp
   simp only [Act.put,pA,pB,pC]
   refine wpY_step (rs:=[7]) (by kernel_rfl) (by simp) ?_
   intro w4 hb4 jj hj
   obtain rfl:jj=7:=by simpa using hj
   clear hj
   have D4:=chain hdr hb4
   have R4:w4.heap[w1.heap.size]? = some (.cells (repL v n c).toArray 66 (0,0)):=(D4.block _ (lt_of_heap HR.out)).trans HR.out
   have hrow1:(w4.setRow w1.heap.size (splice (repL v n c) (n*3) (fl3 v m)).toArray).heap[w1.heap.size]? = some (.cells (repL v (n+m) c).toArray 66 (0,0)):=by
    rw [setRow_heap w4 w1.heap.size _ _ _ _ R4,repL_splice v n m c (by omega)]
   have hbr:Below w1.heap.size w1 (w4.setRow w1.heap.size (splice (repL v n c) (n*3) (fl3 v m)).toArray):=below_setRow (chain hb D4) (Nat.le_refl _) _
   refine wpOp_step rfl (fun K hK=>?_)
   refine Eq.mpr (if_pos (by kernel_rfl)) ?_
   refine wp_copy_at (some 45) rfl (Operand.tmp 41) (Operand.tmp 44) 63 rfl 66 w1.heap.size (n*3) (c - n) (c - n) ⟨w1.heap.size,0,none⟩ n c 3 m (repL v n c) 66 (fl3 v m) Tryz.underlying63 sizeL R4 HM.out.symm (fl3_len v m) (repL_cells R4 hm1) (by rw [fl3_len,repL_len v n c hnc]; omega) (fl3_one h1v _) rfl rfl ?_
   refine hK _ _ ⟨trivial,?_⟩
   clear hK K R4
   generalize w4.setRow w1.heap.size (splice (repL v n c) (n*3) (fl3 v m)).toArray=w5 at *
   simp only [Act.put,pA,pB,pC]
   refine wpY_take hCC (some 46) (i:=8) (v:=.int .i64 ((n+m:Nat):Int)) rfl rfl (by kernel_rfl) (by kernel_rfl) (by kernel_rfl) (fun _ _ _ h=>h) (Or.inl ⟨rfl,fun k hk=>?_⟩) trivial ?_
   ·go_simp
    rw [IntKind.wrap_i64]
    omega
   simp only [Act.put,pA,pB,pC]
   refine wpY_take hCC (some 8) (i:=9) (v:=.int .i64 ((n+m:Nat):Int)) rfl rfl (by kernel_rfl) (by kernel_rfl) (by kernel_rfl) (fun _ _ _ h=>h) (Or.inl ⟨rfl,fun k hk=>?_⟩) trivial ?_
   ·go_simp
   simp only [Act.put,pA,pB,pC]
   refine wpY_done (by kernel_rfl) ?_
   intro w6 hb6
   have HR6:Hid (w6.heap[w1.heap.size]? = some (.cells (repL v (n+m) c).toArray 66 (0,0))):=(hb6.block _ (lt_of_heap hrow1)).trans hrow1
   have hB6:=chain hbr hb6
   clear hrow1 hbr hb6
   go_wp2_with fail
   go_roundw
   case rel=>exact ⟨n+m,by omega,by first | rfl | go_num,.inr (by omega),HR6,hB6⟩
   case measure=>simp [intOf]; omega
  ·have e:n=c:=by omega
   subst e
   have s1:Hid (∀ j u,(fl3 v n)[j]? = some u→wr.cell? ((⟨w1.heap.size,0,none⟩:Addr).add j)=some u):=repL_cells HR.out (Nat.le_refl n)
   go_wp2_with fail
   go_ret
   exact ⟨rfl,s1.out,hb⟩
end Go.Proofs.YtcnmpiahcnkndaaGreat
/- The walk of ops.inOrder: rows with keys, gathered and sorted. -/
namespace Go.Proofs.YtcnmpiahcnkndaaGreat
open Go.RowKit Go.Lib Go.Shelf

/-- Rows with keys in a slice of one's own: the keys' values lie in blocks of values, the rows' in w0. -/
def EncK (w0 W:World) (xs:List Value) (l:List Kp):Prop:=xs.length=l.length*3∧∀ i (hi:i<l.length),∃ ka kc ra rc,xs[i*3]? = some (.slice ka l[i].1.length kc)∧xs[i*3+1]? = some (.slice ra l[i].2.1.length rc)∧xs[i*3+2]? = some (.int .i64 l[i].2.2)∧(SlAt W ka l[i].1∧TyAt W ka)∧SlAt w0 ra l[i].2.1
def OwnK (w0:World) (base:Nat) (W:World) (v:Value) (l:List Kp):Prop:=∃ xs,W.ownsRow base 129 3 v l.length xs∧EncK w0 W xs l
theorem OwnK.nil (w0:World) (base:Nat) (W:World):OwnK w0 base W (.slice none 0 0) []:=⟨[],by simpa using World.ownsRow_nil _ _ _ _,rfl,fun i hi=>by simp at hi⟩
theorem EncK.next {w0 W w1:World} {xs:List Value} {l:List Kp} (h:EncK w0 W xs l) (hb:Below W.heap.size W w1):EncK w0 w1 xs l:=by
 obtain ⟨h2,h3⟩:=h
 refine ⟨h2,fun i hi=>?_⟩
 obtain ⟨ka,kc,ra,rc,e0,e1,e2,⟨e3,e4⟩,e5⟩:=h3 i hi
 exact ⟨ka,kc,ra,rc,e0,e1,e2,⟨e3.next hb,e4.next hb⟩,e5⟩
theorem OwnK.next {w0 W w1:World} {base:Nat} {v:Value} {l:List Kp} (h:OwnK w0 base W v l) (hb:Below W.heap.size W w1):OwnK w0 base w1 v l:=by
 obtain ⟨xs,h1,h2⟩:=h
 exact ⟨xs,own_next h1 hb,h2.next hb⟩
theorem sl_grown3 {W w1:World} {base n:Nat} {v:Value} {xs:List Value} {a:Option Addr} {r:List Vl} (h:SlAt W a r) (ht:TyAt W a) (ho:W.ownsRow base 129 3 v n xs) (hg:W.grownBy w1 v.ownBlock):SlAt w1 a r∧TyAt w1 a:=by
 have key:∀ b off,a=some ⟨b,off,none⟩→w1.heap[b]? = W.heap[b]?:=by
  intro b off e
  obtain ⟨c,z,h1⟩:=ht b off e
  have hlt:b<W.heap.size:=lt_of_heap h1
  refine hg.block b hlt ?_
  obtain ⟨_,⟨rfl,_⟩ | ⟨g,cap,cur,rfl,_,hh,_⟩⟩:=ho
  ·simp [Value.ownBlock]
  ·simp only [Value.ownBlock]
   intro e
   injection e with e
   subst e
   rw [hh] at h1
   simp at h1
 refine ⟨⟨h.1,?_⟩,?_⟩
 ·rcases h.2 with h | ⟨b,off,e,hr,hlt⟩
  ·exact .inl h
  ·refine .inr ⟨b,off,e,fun i hi=>?_,Nat.lt_of_lt_of_le hlt hg.size⟩
   have k:=key b off e
   obtain ⟨c0,c1,c2⟩:=hr i hi
   exact ⟨(World.cell?_of_block (a:=⟨b,_,none⟩) k).trans c0,(World.cell?_of_block (a:=⟨b,_,none⟩) k).trans c1,(World.cell?_of_block (a:=⟨b,_,none⟩) k).trans c2⟩
 ·intro b off e
  obtain ⟨c,z,h1⟩:=ht b off e
  exact ⟨c,z,(key b off e).trans h1⟩
theorem OwnK.push {w0 W w1:World} {base:Nat} {v v':Value} {xs:List Value} {l:List Kp} {ka ra:Option Addr} {kc rc:Nat} {x:Kp}
  (ho:W.ownsRow base 129 3 v l.length xs) (he:EncK w0 W xs l) (hs:SlAt W ka x.1) (ht:TyAt W ka) (hr:SlAt w0 ra x.2.1)
  (ho':w1.ownsRow base 129 3 v' (l.length+1) (xs ++ [.slice ka x.1.length kc,.slice ra x.2.1.length rc,.int .i64 x.2.2])) (hg:W.grownBy w1 v.ownBlock):OwnK w0 base w1 v' (l ++ [x]):=by
 have lx:=he.1
 refine ⟨_,by simpa using ho',by simp [he.1]; omega,?_⟩
 intro i hi
 by_cases hi':i<l.length
 ·obtain ⟨ka',kc',ra',rc',h1,h2,h3,⟨h4,h5⟩,h6⟩:=he.2 i hi'
  have g:=sl_grown3 h4 h5 ho hg
  rw [List.getElem_append_left hi']
  exact ⟨ka',kc',ra',rc',by rw [List.getElem?_append_left (by omega),h1],by rw [List.getElem?_append_left (by omega),h2],by rw [List.getElem?_append_left (by omega),h3],g,h6⟩
 ·have:i=l.length:=by simp at hi; omega
  subst this
  have g:=sl_grown3 hs ht ho hg
  refine ⟨ka,kc,ra,rc,?_,?_,?_,?_,?_⟩
  ·rw [List.getElem?_append_right (by omega)]; simp [lx]
  ·rw [List.getElem?_append_right (by omega)]; simp [lx]
  ·rw [List.getElem?_append_right (by omega)]; simp [lx]
  ·simpa using g
  ·simpa using hr
end Go.Proofs.YtcnmpiahcnkndaaGreat
/- The walk of ops.inOrder. -/
namespace Go.Proofs.YtcnmpiahcnkndaaGreat
open Go.RowKit Go.Lib Go.Shelf

/-- The slice of one's own as an array for the sort. -/
theorem OwnK.arr {w0 W:World} {base:Nat} {v:Value} {l:List Kp} (h:OwnK w0 base W v l) (hb:Below w0.heap.size w0 W) (hbs:w0.heap.size≤base):(l = []∧v = .slice none 0 0)∨∃ (g cap:Nat) (d:Array (Kg W g)),v = .slice (some ⟨g,0,none⟩) l.length cap∧base≤g∧g<W.heap.size∧d.size=l.length∧d.toList.map (plK W g)=l∧Go.Sort.HoldsK (encK W g) 3 W g 0 d:=by
 obtain ⟨xs,h1,h2,h3⟩:=h
 have h1':=h1
 obtain ⟨hx,⟨rfl,h0⟩ | ⟨g,cap,cur,rfl,hg,hh,hn,hc,hs,ht⟩⟩:=h1
 ·exact .inl ⟨List.eq_nil_of_length_eq_zero h0,rfl⟩
 ·right
  have offK:∀ a r,TyAt W a→Off g a r:=fun a r ha=>.inr fun b off e hbg=>by
   obtain ⟨c,z,h1⟩:=ha b off e
   rw [hbg,hh] at h1
   simp at h1
  have offR:∀ a r,SlAt w0 a r→Off g a r:=fun a r ha=>by
   rcases ha.2 with e | ⟨b,o,e,hr,hlt⟩
   ·exact .inl e
   ·exact .inr fun b' o' e' hbg=>by
     rw [e] at e'
     have e':=Option.some.inj e'
     injection e' with e1
     have:=(h1'.lt g rfl).1
     omega
  obtain ⟨f,hf⟩:=Go.Deep.choose_lt (α:=Kg W g) (n:=l.length) (p:=fun i x=>∀ hi:i<l.length,plK W g x=l[i]∧xs[i*3]? = some (.slice x.1.ka x.1.keys.length x.1.kc)∧xs[i*3+1]? = some (.slice x.1.ra x.1.row.length x.1.rc)∧xs[i*3+2]? = some (.int .i64 x.1.w)) (fun i hi=>by
   obtain ⟨ka,kc,ra,rc,e0,e1,e2,⟨e3,e4⟩,e5⟩:=h3 i hi
   exact ⟨⟨⟨ka,kc,l[i].1,ra,rc,l[i].2.1,l[i].2.2⟩,⟨e3,offK _ _ e4⟩,e5.next hb,offR _ _ e5⟩,fun _=>⟨rfl,e0,e1,e2⟩⟩)
  have hd:∀ i,i<l.length→((Array.range l.length).map f)[i]! = f i:=fun i hi=>by simp [hi]
  refine ⟨g,cap,(Array.range l.length).map f,rfl,(h1'.lt g rfl).1,(h1'.lt g rfl).2,by simp,?_,?_⟩
  ·apply List.ext_getElem
   ·simp
   ·intro i g1 g2
    have:=(hf i g2 g2).1
    simpa using this
  ·intro j hj
   have hj':j<l.length*3:=by simpa using hj
   refine ⟨?_,by rw [Nat.zero_add]; exact h1'.frozenAt j⟩
   have hi:j / 3<l.length:=by omega
   obtain ⟨_,g0,g1,g2⟩:=hf (j / 3) hi hi
   rw [Nat.zero_add,h1'.cellAt j hj']
   show _=some (Go.Sort.flatK (encK W g) 3 ((Array.range l.length).map f))[j]!
   rw [Go.Sort.get_flatK _ _ _ _ (by simpa using hj'),hd _ hi]
   have h3':j % 3=0∨j % 3=1∨j % 3=2:=by omega
   rcases h3' with e | e | e
   ·rw [e]; rw [show j / 3*3=j by omega] at g0; rw [g0]; rfl
   ·rw [e]; rw [show j / 3*3+1=j by omega] at g1; rw [g1]; rfl
   ·rw [e]; rw [show j / 3*3+2=j by omega] at g2; rw [g2]; rfl
end Go.Proofs.YtcnmpiahcnkndaaGreat
/- The rows in line: gathered and sorted. -/
namespace Go.Proofs.YtcnmpiahcnkndaaGreat
open Go.RowKit Go.Lib Go.Shelf

theorem cmpLaysL (w:World) (blk off size:Nat):CmpLays Tryz.prog 60 #[] (encL w blk) 3 (cfL w blk) blk off size w :=
 fun m os _ _ x y=>inLine1_at _ _ _ _ _ _ _ _ _ _ _ _ (plL w blk x) (plL w blk y) _ (sl_sort x.2.1.1 x.2.1.2 ⟨m,os,rfl⟩) (sl_sort x.2.2.1.1 x.2.2.1.2 ⟨m,os,rfl⟩) (sl_sort y.2.1.1 y.2.1.2 ⟨m,os,rfl⟩) (sl_sort y.2.2.1.1 y.2.2.1.2 ⟨m,os,rfl⟩)
end Go.Proofs.YtcnmpiahcnkndaaGreat
namespace Go.Proofs
open Go.Shelf Go.RowKit Go.Lib
shelf_lay_g SlLaysF0.n20 Slsf 20 at Tryz 144 as Tryz.insLn
end Go.Proofs
namespace Go.Proofs.YtcnmpiahcnkndaaGreat
open Go.RowKit Go.Lib Go.Shelf Go.Sort

theorem insAtL (wS:World) (blk off cap:Nat) (d:Array (Lg wS blk)) (R:RowK (encL wS blk) 3 wS blk off d) (hsz:d.size≤1000000):L.InsAt Tryz.prog 3 (encL wS blk) (cfL wS blk) 60 #[] blk off cap d wS:=fun a b dk w hs S hab hbd=>by
 have eg:∀ args w,(callFunc 60 args).run Tryz.prog w = .ok (.enter 60 args) w:=enters_of Tryz.func60 (by kernel_rfl) rfl
 have hH:=S.holds R.hblk R.hH hs.symm
 have hC:CmpLays Tryz.prog 60 #[] (encL wS blk) 3 (cfL wS blk) blk off dk.size w:=fun m os dj hj x y=>by
  have S2:=S.on R.hblk m dj os hj
  exact inLine1_at _ _ _ _ _ _ _ _ _ _ _ _ (plL wS blk x) (plL wS blk y) _ (sl_sort x.2.1.1 x.2.1.2 S2) (sl_sort x.2.2.1.1 x.2.2.1.2 S2) (sl_sort y.2.1.1 y.2.1.2 S2) (sl_sort y.2.2.1.1 y.2.2.1.2 S2)
 refine (AnyQ.insertionSortCmpFunc Tryz.insLn 3 Tryz.isAgg66 Tryz.sizeOf66 (encL wS blk) R.hk R.h1 (cfL wS blk) 60 #[] blk off cap a b dk w eg hC hH (S.lt R.hblk) hab hbd (by omega)).mono ?_
 rintro e w' ⟨rfl,n,os,rfl⟩
 refine ⟨rfl,S.on R.hblk _ _ _ ?_⟩
 exact (insertionS (pre:=fun _ _=>True) ⟨(ordrL wS blk).neg,(ordrL wS blk).trans,fun _ _ _ _ _=>trivial⟩ a b dk hab hbd (fun _ _ _ _ _=>trivial)).1.1

/-- Places in a slice of one's own: what part and order come to lies in blocks of values, the rows in w0. -/
def EncL (w0 W:World) (xs:List Value) (l:List Lp):Prop:=xs.length=l.length*3∧∀ i (hi:i<l.length),∃ pa pc oa oc ra rc,xs[i*3]? = some (.slice pa l[i].1.length pc)∧xs[i*3+1]? = some (.slice oa l[i].2.1.length oc)∧xs[i*3+2]? = some (.slice ra l[i].2.2.length rc)∧(SlAt W pa l[i].1∧TyAt W pa)∧(SlAt W oa l[i].2.1∧TyAt W oa)∧SlAt w0 ra l[i].2.2
def OwnLn (w0:World) (base:Nat) (W:World) (v:Value) (l:List Lp):Prop:=∃ xs,W.ownsRow base 66 3 v l.length xs∧EncL w0 W xs l
theorem OwnLn.nil (w0:World) (base:Nat) (W:World):OwnLn w0 base W (.slice none 0 0) []:=⟨[],by simpa using World.ownsRow_nil _ _ _ _,rfl,fun i hi=>by simp at hi⟩
theorem EncL.next {w0 W w1:World} {xs:List Value} {l:List Lp} (h:EncL w0 W xs l) (hb:Below W.heap.size W w1):EncL w0 w1 xs l:=by
 obtain ⟨h2,h3⟩:=h
 refine ⟨h2,fun i hi=>?_⟩
 obtain ⟨pa,pc,oa,oc,ra,rc,e0,e1,e2,⟨e3,e4⟩,⟨e5,e6⟩,e7⟩:=h3 i hi
 exact ⟨pa,pc,oa,oc,ra,rc,e0,e1,e2,⟨e3.next hb,e4.next hb⟩,⟨e5.next hb,e6.next hb⟩,e7⟩
theorem OwnLn.next {w0 W w1:World} {base:Nat} {v:Value} {l:List Lp} (h:OwnLn w0 base W v l) (hb:Below W.heap.size W w1):OwnLn w0 base w1 v l:=by
 obtain ⟨xs,h1,h2⟩:=h
 exact ⟨xs,own_next h1 hb,h2.next hb⟩
theorem sl_grownL {W w1:World} {base n:Nat} {v:Value} {xs:List Value} {a:Option Addr} {r:List Vl} (h:SlAt W a r) (ht:TyAt W a) (ho:W.ownsRow base 66 3 v n xs) (hg:W.grownBy w1 v.ownBlock):SlAt w1 a r∧TyAt w1 a:=by
 have key:∀ b off,a=some ⟨b,off,none⟩→w1.heap[b]? = W.heap[b]?:=by
  intro b off e
  obtain ⟨c,z,h1⟩:=ht b off e
  have hlt:b<W.heap.size:=lt_of_heap h1
  refine hg.block b hlt ?_
  obtain ⟨_,⟨rfl,_⟩ | ⟨g,cap,cur,rfl,_,hh,_⟩⟩:=ho
  ·simp [Value.ownBlock]
  ·simp only [Value.ownBlock]
   intro e
   injection e with e
   subst e
   rw [hh] at h1
   simp at h1
 refine ⟨⟨h.1,?_⟩,?_⟩
 ·rcases h.2 with h | ⟨b,off,e,hr,hlt⟩
  ·exact .inl h
  ·refine .inr ⟨b,off,e,fun i hi=>?_,Nat.lt_of_lt_of_le hlt hg.size⟩
   have k:=key b off e
   obtain ⟨c0,c1,c2⟩:=hr i hi
   exact ⟨(World.cell?_of_block (a:=⟨b,_,none⟩) k).trans c0,(World.cell?_of_block (a:=⟨b,_,none⟩) k).trans c1,(World.cell?_of_block (a:=⟨b,_,none⟩) k).trans c2⟩
 ·intro b off e
  obtain ⟨c,z,h1⟩:=ht b off e
  exact ⟨c,z,(key b off e).trans h1⟩
theorem OwnLn.pushN {w0 W w1:World} {base:Nat} {v v':Value} {xs:List Value} {l:List Lp} {pa oa ra:Option Addr} {pc oc rc n:Nat} {x:Lp}
  (ho:W.ownsRow base 66 3 v l.length xs) (he:EncL w0 W xs l) (hs:SlAt W pa x.1) (ht:TyAt W pa) (hs':SlAt W oa x.2.1) (ht':TyAt W oa) (hr:SlAt w0 ra x.2.2)
  (ho':w1.ownsRow base 66 3 v' (l.length+n) (xs ++ fl3 (.slice pa x.1.length pc,.slice oa x.2.1.length oc,.slice ra x.2.2.length rc) n)) (hg:W.grownBy w1 v.ownBlock):OwnLn w0 base w1 v' (l ++ List.replicate n x):=by
 have lx:=he.1
 refine ⟨_,by simpa using ho',by simp [he.1,fl3_len]; omega,?_⟩
 intro i hi
 by_cases hi':i<l.length
 ·obtain ⟨pa',pc',oa',oc',ra',rc',h1,h2,h3,⟨h4,h5⟩,⟨h6,h7⟩,h8⟩:=he.2 i hi'
  have g:=sl_grownL h4 h5 ho hg
  have g':=sl_grownL h6 h7 ho hg
  rw [List.getElem_append_left hi']
  exact ⟨pa',pc',oa',oc',ra',rc',by rw [List.getElem?_append_left (by omega),h1],by rw [List.getElem?_append_left (by omega),h2],by rw [List.getElem?_append_left (by omega),h3],g,g',h8⟩
 ·have hi2:i - l.length<n:=by simp at hi; omega
  have g:=sl_grownL hs ht ho hg
  have g':=sl_grownL hs' ht' ho hg
  obtain ⟨f0,f1,f2⟩:=fl3_get (.slice pa x.1.length pc,.slice oa x.2.1.length oc,.slice ra x.2.2.length rc) n (i - l.length) hi2
  have ei:(l ++ List.replicate n x)[i]'hi=x:=by rw [List.getElem_append_right (by omega),List.getElem_replicate]
  rw [ei]
  refine ⟨pa,pc,oa,oc,ra,rc,?_,?_,?_,g,g',hr⟩
  ·rw [List.getElem?_append_right (by omega),← f0]; congr 1; omega
  ·rw [List.getElem?_append_right (by omega),← f1]; congr 1; omega
  ·rw [List.getElem?_append_right (by omega),← f2]; congr 1; omega
/-- The slice of one's own as an array for the sort. -/
theorem OwnLn.arr {w0 W:World} {base:Nat} {v:Value} {l:List Lp} (h:OwnLn w0 base W v l) (hb:Below w0.heap.size w0 W) (hbs:w0.heap.size≤base):(l = []∧v = .slice none 0 0)∨∃ (g cap:Nat) (d:Array (Lg W g)),v = .slice (some ⟨g,0,none⟩) l.length cap∧base≤g∧g<W.heap.size∧d.size=l.length∧d.toList.map (plL W g)=l∧Go.Sort.HoldsK (encL W g) 3 W g 0 d:=by
 obtain ⟨xs,h1,h2,h3⟩:=h
 have h1':=h1
 obtain ⟨hx,⟨rfl,h0⟩ | ⟨g,cap,cur,rfl,hg,hh,hn,hc,hs,ht⟩⟩:=h1
 ·exact .inl ⟨List.eq_nil_of_length_eq_zero h0,rfl⟩
 ·right
  have offK:∀ a r,TyAt W a→Off g a r:=fun a r ha=>.inr fun b off e hbg=>by
   obtain ⟨c,z,h1⟩:=ha b off e
   rw [hbg,hh] at h1
   simp at h1
  have offR:∀ a r,SlAt w0 a r→Off g a r:=fun a r ha=>by
   rcases ha.2 with e | ⟨b,o,e,hr,hlt⟩
   ·exact .inl e
   ·exact .inr fun b' o' e' hbg=>by
     rw [e] at e'
     have e':=Option.some.inj e'
     injection e' with e1
     have:=(h1'.lt g rfl).1
     omega
  obtain ⟨f,hf⟩:=Go.Deep.choose_lt (α:=Lg W g) (n:=l.length) (p:=fun i x=>∀ hi:i<l.length,plL W g x=l[i]∧xs[i*3]? = some (.slice x.1.pa x.1.part.length x.1.pc)∧xs[i*3+1]? = some (.slice x.1.oa x.1.order.length x.1.oc)∧xs[i*3+2]? = some (.slice x.1.ra x.1.row.length x.1.rc)) (fun i hi=>by
   obtain ⟨pa,pc,oa,oc,ra,rc,e0,e1,e2,⟨e3,e4⟩,⟨e5,e6⟩,e7⟩:=h3 i hi
   exact ⟨⟨⟨pa,pc,l[i].1,oa,oc,l[i].2.1,ra,rc,l[i].2.2⟩,⟨e3,offK _ _ e4⟩,⟨e5,offK _ _ e6⟩,e7.next hb,offR _ _ e7⟩,fun _=>⟨rfl,e0,e1,e2⟩⟩)
  have hd:∀ i,i<l.length→((Array.range l.length).map f)[i]! = f i:=fun i hi=>by simp [hi]
  refine ⟨g,cap,(Array.range l.length).map f,rfl,(h1'.lt g rfl).1,(h1'.lt g rfl).2,by simp,?_,?_⟩
  ·apply List.ext_getElem
   ·simp
   ·intro i g1 g2
    have:=(hf i g2 g2).1
    simpa using this
  ·intro j hj
   have hj':j<l.length*3:=by simpa using hj
   refine ⟨?_,by rw [Nat.zero_add]; exact h1'.frozenAt j⟩
   have hi:j / 3<l.length:=by omega
   obtain ⟨_,g0,g1,g2⟩:=hf (j / 3) hi hi
   rw [Nat.zero_add,h1'.cellAt j hj']
   show _=some (Go.Sort.flatK (encL W g) 3 ((Array.range l.length).map f))[j]!
   rw [Go.Sort.get_flatK _ _ _ _ (by simpa using hj'),hd _ hi]
   have h3':j % 3=0∨j % 3=1∨j % 3=2:=by omega
   rcases h3' with e | e | e
   ·rw [e]; rw [show j / 3*3=j by omega] at g0; rw [g0]; rfl
   ·rw [e]; rw [show j / 3*3+1=j by omega] at g1; rw [g1]; rfl
   ·rw [e]; rw [show j / 3*3+2=j by omega] at g2; rw [g2]; rfl
theorem holdsL_ln {w W:World} {g:Nat} {d:Array (Lg w g)} (hS:SWK (encL w g) 3 w g 0 d W) (hH:Go.Sort.HoldsK (encL w g) 3 W g 0 d) (hlt:g<W.heap.size):LnAt W (some ⟨g,0,none⟩) (d.toList.map (plL w g)):=by
 refine .inr ⟨g,0,rfl,hlt,fun i hi=>?_⟩
 have hi':i<d.size:=by simpa using hi
 have e:d[i]! = d[i]:=getElem!_pos d i hi'
 have h0:=(hH (i*3) (by simp; omega)).1
 have h1:=(hH (i*3+1) (by simp; omega)).1
 have h2:=(hH (i*3+2) (by simp; omega)).1
 show ElL W g (0+i*3) _
 rw [Go.Sort.get_flatK _ _ _ _ (by omega),show i*3 / 3=i by omega,show i*3 % 3=0 by omega,e] at h0
 rw [Go.Sort.get_flatK _ _ _ _ (by omega),show (i*3+1) / 3=i by omega,show (i*3+1) % 3=1 by omega,e,← Nat.add_assoc] at h1
 rw [Go.Sort.get_flatK _ _ _ _ (by omega),show (i*3+2) / 3=i by omega,show (i*3+2) % 3=2 by omega,e,← Nat.add_assoc] at h2
 simp only [List.getElem_map,Array.getElem_toList]
 exact ⟨⟨d[i].1.pa,d[i].1.pc,h0,sl_sort d[i].2.1.1 d[i].2.1.2 hS⟩,⟨d[i].1.oa,d[i].1.oc,h1,sl_sort d[i].2.2.1.1 d[i].2.2.1.2 hS⟩,d[i].1.ra,d[i].1.rc,h2,sl_sort d[i].2.2.2.1 d[i].2.2.2.2 hS⟩
theorem rowL_of {W:World} {g:Nat} {d:Array (Lg W g)} (hH:Go.Sort.HoldsK (encL W g) 3 W g 0 d) (hlt:g<W.heap.size):RowK (encL W g) 3 W g 0 d where
 hk _:=rfl
 h1 x v hv:=by simp [encL] at hv; rcases hv with rfl | rfl | rfl <;> rfl
 hH:=hH
 hblk:=hlt
theorem orderedL {W:World} {g:Nat} {d d':Array (Lg W g)} {ps os:List Ex} {z:List Zp} (hz:Rise z) (hd:d.toList.map (plL W g)=withL ps os z) (hp:Go.Sort.PermIn 0 d.size d d') (hs:SortS (cfL W g) (preL W g) 0 d.size d'):d'.toList.map (plL W g)=lineL ps os z:=by
 have hl:d'.size=d.size:=hp.1
 refine lineL_uniq hz ?_ ?_
 ·rw [← hd]
  refine List.Perm.map _ ?_
  have:=hp.2.2
  rw [Array.extract_eq_self_of_le (by omega),Array.extract_eq_self_of_le (by omega)] at this
  exact this
 ·rw [List.pairwise_map,List.pairwise_iff_getElem]
  intro i j hi hj hij
  have hi':i<d'.size:=by simpa using hi
  have hj':j<d'.size:=by simpa using hj
  have:=hs i j (Nat.zero_le _) hij (by omega)
  rw [getElem!_pos d' i hi',getElem!_pos d' j hj'] at this
  exact this
theorem preS_ofL {W:World} {g:Nat} {d:Array (Lg W g)} {ps os:List Ex} {z:List Zp} (hz:Rise z) (hd:d.toList.map (plL W g)=withL ps os z):PreS (preL W g) 0 d.size d:=fun i j _ hij hj=>by
 have hr:=withL_pre (ps:=ps) (os:=os) hz
 rw [← hd,List.pairwise_map,List.pairwise_iff_getElem] at hr
 have:=hr i j (by simpa using (by omega:i<d.size)) (by simpa using hj) hij
 rw [getElem!_pos d i (by omega),getElem!_pos d j hj]
 exact this

/-- The sort of a slice of one's own. -/
theorem sortedL_at (W:World) (g cap:Nat) (d:Array (Lg W g)) (ps os:List Ex) (z:List Zp) (hz:Rise z) (hl:d.size≤1000000) (hlt:g<W.heap.size) (hd:d.toList.map (plL W g)=withL ps os z) (hH:Go.Sort.HoldsK (encL W g) 3 W g 0 d) (w0:World) (hw:w0.heap.size≤g) (hb:Below w0.heap.size w0 W) :
  Calls Tryz.prog 59 #[.slice (some ⟨g,0,none⟩) d.size cap,.func (.func 60) #[] #[]] W fun e w'=>e = .returned (.tuple #[])∧LnAt w' (some ⟨g,0,none⟩) (lineL ps os z)∧Below w0.heap.size w0 w':=by
 have R:=rowL_of hH hlt
 have eg:∀ args w,(callFunc 60 args).run Tryz.prog w = .ok (.enter 60 args) w:=enters_of Tryz.func60 (by kernel_rfl) rfl
 have eSw:∀ args w,(callFunc 201 args).run Tryz.prog w = .ok (.enter 201 args) w:=enters_of Tryz.func201 (by kernel_rfl) rfl
 have eRo:∀ args w,(callFunc 178 args).run Tryz.prog w = .ok (.enter 178 args) w:=enters_of Tryz.func178 (by kernel_rfl) rfl
 have eSy:∀ args w,(callFunc 145 args).run Tryz.prog w = .ok (.enter 145 args) w:=enters_of Tryz.func145 (by kernel_rfl) rfl
 have eIn:∀ args w,(callFunc 144 args).run Tryz.prog w = .ok (.enter 144 args) w:=enters_of Tryz.func144 (by kernel_rfl) rfl
 have eSt:∀ args w,(callFunc 103 args).run Tryz.prog w = .ok (.enter 103 args) w:=enters_of Tryz.func103 (by kernel_rfl) rfl
 refine (L.sortStable_at 3 L.Tryz.klay (encL W g) (ordrL W g) 60 #[] g 0 cap d W hl (SWK.start hH) (preS_ofL hz hd) eIn eSy eSt (insAtL W g 0 cap d R hl) (L.sym_at 3 L.Tryz.klay (encL W g) (cfL W g) (preL W g) (ordrL W g) 60 #[] g 0 cap d W (by omega) eg (cmpLaysL W g 0 d.size) R eSw eRo eSy)).mono ?_
 rintro e w' ⟨rfl,d',hp,hs,S⟩
 refine ⟨rfl,?_,below_sort hb hw S⟩
 rw [← orderedL hz hd hp hs]
 exact holdsL_ln S (S.holds hlt hH hp.1) (S.lt hlt)
set_option maxRecDepth 100000 in
set_option maxHeartbeats 1000000 in
theorem insNoneL_at (cap:Nat) (w:World):Calls Tryz.prog 144 #[.slice none 0 cap,.int .i64 0,.int .i64 0,.func (.func 60) #[] #[]] w fun e w'=>e = .returned (.tuple #[])∧w'=w:=by
 go_enter Tryz.func144,Tryz.ntmps144
 go_wp2
 refine wp_loop_rounds 1 ?_
 rw [rounds_succ]
 go_wp2
 go_end0
 exact ⟨rfl,rfl⟩
set_option maxRecDepth 100000 in
set_option maxHeartbeats 1000000 in
theorem stableNoneL_at (cap:Nat) (w:World):Calls Tryz.prog 103 #[.slice none 0 cap,.int .i64 0,.func (.func 60) #[] #[]] w fun e w'=>e = .returned (.tuple #[])∧w'=w:=by
 go_enter Tryz.func103,Tryz.ntmps103
 go_wp2
 refine wp_loop_rounds 1 ?_
 rw [rounds_succ]
 go_wp2_with fail
 refine (insNoneL_at cap w).mono ?_
 rintro e w1 ⟨rfl,rfl⟩
 dsimp only
 go_wp2
 refine wp_loop_rounds 1 ?_
 rw [rounds_succ]
 go_wp2
 go_end0
 exact ⟨rfl,rfl⟩
set_option maxRecDepth 100000 in
set_option maxHeartbeats 1000000 in
theorem sortNoneL_at (cap:Nat) (w:World):Calls Tryz.prog 59 #[.slice none 0 cap,.func (.func 60) #[] #[]] w fun e w'=>e = .returned (.tuple #[])∧Below w.heap.size w w':=by
 go_enter Tryz.func59,Tryz.ntmps59
 go_wp2_with fail
 refine (stableNoneL_at cap w).mono ?_
 rintro e w1 ⟨rfl,rfl⟩
 dsimp only
 go_wp2
 go_end0
 exact ⟨rfl,Below.refl _ _⟩

end Go.Proofs.YtcnmpiahcnkndaaGreat
/- What makes a place; the rows in line. -/
namespace Go.Proofs.YtcnmpiahcnkndaaGreat
open Go.RowKit Go.Lib Go.Shelf

/-- A place has been made. -/
def PlMade (ps os:List Ex) (row:List Vl) (a:Option Addr) (cap:Nat) (W:World) (e:Ending) (w':World):Prop :=
 ∃ pa pc oa oc,e = .returned (.agg #[.slice pa ps.length pc,.slice oa os.length oc,.slice a row.length cap])∧(SlAt w' pa (rowX ps row)∧TyAt w' pa)∧(SlAt w' oa (rowX os row)∧TyAt w' oa)∧Below W.heap.size W w'
/-- A function value makes places of rows. -/
def PlaceF (cols:List Int) (lo:Nat) (u:Value) (ps os:List Ex) (w:World):Prop :=
 ∃ g cb,u = .func (.func g) #[] cb∧(∀ args w,(callFunc g args).run Tryz.prog w = .ok (.enter g args) w) ∧
  ∀ (row:List Vl) (a:Option Addr) (cap:Nat) (W:World),FitP cols row→SlAt W a row→Since lo w W →
   Calls Tryz.prog g (#[.slice a row.length cap] ++ cb) W (PlMade ps os row a cap W)
theorem PlaceF.next {cols:List Int} {lo:Nat} {u:Value} {ps os:List Ex} {w w1:World} (h:PlaceF cols lo u ps os w) (hb:Since lo w w1):PlaceF cols lo u ps os w1:=by
 obtain ⟨g,cb,e,eg,hd⟩:=h
 exact ⟨g,cb,e,eg,fun row a cap W hf hs hW=>hd row a cap W hf hs (hb.trans hW)⟩

theorem SlAt.same {W W':World} {g off:Nat} {l:List Vl} (h:SlAt W (some ⟨g,off,none⟩) l) (hs:W'.heap[g]? = W.heap[g]?) (hz:W.heap.size≤W'.heap.size):SlAt W' (some ⟨g,off,none⟩) l:=by
 refine ⟨h.1,?_⟩
 rcases h.2 with e | ⟨b,o,e,hr,hlt⟩
 ·exact .inl e
 ·have e':=Option.some.inj e
  injection e' with e1 e2
  subst e1 e2
  refine .inr ⟨_,_,rfl,fun i hi=>?_,Nat.lt_of_lt_of_le hlt hz⟩
  obtain ⟨k0,k1,k2⟩:=hr i hi
  exact ⟨(World.cell?_of_block (a:=⟨g,_,none⟩) hs).trans k0,(World.cell?_of_block (a:=⟨g,_,none⟩) hs).trans k1,(World.cell?_of_block (a:=⟨g,_,none⟩) hs).trans k2⟩
theorem TyAt.same {W W':World} {g off:Nat} (h:TyAt W (some ⟨g,off,none⟩)) (hs:W'.heap[g]? = W.heap[g]?):TyAt W' (some ⟨g,off,none⟩):=fun b o e=>by
 obtain ⟨c,z,k⟩:=h b o e
 have e':=Option.some.inj e
 injection e' with e1 e2
 subst e1
 exact ⟨c,z,hs.trans k⟩
theorem far3 (w:World) (g k:Nat) (h:k≠g) (x y z:Value):(((w.setCell ⟨g,0,none⟩ x).setCell ⟨g,1,none⟩ y).setCell ⟨g,2,none⟩ z).heap[k]? = w.heap[k]?:=by
 rw [Below.heap_setCell _ _ _ k h,Below.heap_setCell _ _ _ k h,Below.heap_setCell _ _ _ k h]

set_option maxRecDepth 100000 in
set_option maxHeartbeats 2000000 in
theorem place1_at (cols:List Int) (lo:Nat) (u1 u2:Value) (ps os:List Ex) (b1 b2:Nat) (row:List Vl) (a:Option Addr) (cap:Nat) (W:World) (hf:FitP cols row) (hs:SlAt W a row) (c1:W.cell? ⟨b1,0,none⟩=some u1) (c2:W.cell? ⟨b2,0,none⟩=some u2) (h1:ListF cols lo u1 ps W) (h2:ListF cols lo u2 os W) :
  Calls Tryz.prog 25 #[.slice a row.length cap,.pointer (some ⟨b1,0,none⟩),.pointer (some ⟨b2,0,none⟩)] W (PlMade ps os row a cap W):=by
 obtain ⟨g1,cb1,rfl,eg1,d1⟩:=h1
 obtain ⟨g2,cb2,rfl,eg2,d2⟩:=h2
 have HD1:Hid (∀ (row:List Vl) (a:Option Addr) (cap:Nat) (W':World),FitP cols row→SlAt W' a row→Since lo W W'→Calls Tryz.prog g1 (#[.slice a row.length cap] ++ cb1) W' fun e w'=>e = .returned (.slice (some ⟨W'.heap.size,0,none⟩) ps.length ps.length)∧RowNew W'.heap.size w' (rowX ps row)∧Below W'.heap.size W' w'):=d1
 have HD2:Hid (∀ (row:List Vl) (a:Option Addr) (cap:Nat) (W':World),FitP cols row→SlAt W' a row→Since lo W W'→Calls Tryz.prog g2 (#[.slice a row.length cap] ++ cb2) W' fun e w'=>e = .returned (.slice (some ⟨W'.heap.size,0,none⟩) os.length os.length)∧RowNew W'.heap.size w' (rowX os row)∧Below W'.heap.size W' w'):=d2
 clear d1 d2
 have l1:b1<W.heap.size:=World.block_lt_of_cell? _ _ c1
 have l2:b2<W.heap.size:=World.block_lt_of_cell? _ _ c2
 have hA:Below W.heap.size W (W.alloc (.cells #[.slice none 0 0,.slice none 0 0,.slice none 0 0] 66)):=(Below.refl _ _).alloc (Nat.le_refl _) _
 have R:=Bk.new W #[.slice none 0 0,.slice none 0 0,.slice none 0 0] 66
 go_enter Tryz.func25,Tryz.ntmps25
 go_upto_region 1 with fail
 generalize W.alloc (.cells #[.slice none 0 0,.slice none 0 0,.slice none 0 0] 66)=Wa at *
 have hCC:∀ X X':World,(X.cell? ⟨b1,0,none⟩=some (.func (.func g1) #[] cb1)∧X.cell? ⟨b2,0,none⟩=some (.func (.func g2) #[] cb2)∧∃ xs,Bk X W.heap.size xs 66∧xs.size=3)→Below X.heap.size X X'→(X'.cell? ⟨b1,0,none⟩=some (.func (.func g1) #[] cb1)∧X'.cell? ⟨b2,0,none⟩=some (.func (.func g2) #[] cb2)∧∃ xs,Bk X' W.heap.size xs 66∧xs.size=3):=fun X X' h hb=>⟨(hb.cell (World.block_lt_of_cell? _ _ h.1)).trans h.1,(hb.cell (World.block_lt_of_cell? _ _ h.2.1)).trans h.2.1,by obtain ⟨xs,h1,h2⟩:=h.2.2; exact ⟨xs,h1.next hb,h2⟩⟩
 have hdr:Below Wa.heap.size Wa Wa.drew:=(Below.refl _ _).drew
 have CW:(Wa.drew.cell? ⟨b1,0,none⟩=some (.func (.func g1) #[] cb1)∧Wa.drew.cell? ⟨b2,0,none⟩=some (.func (.func g2) #[] cb2)∧∃ xs,Bk Wa.drew W.heap.size xs 66∧xs.size=3):=hCC _ _ ⟨(hA.cell (p:=⟨b1,0,none⟩) l1).trans c1,(hA.cell (p:=⟨b2,0,none⟩) l2).trans c2,_,R,rfl⟩ hdr
 have D0:=chain hA hdr
 have lR:=R.lt
 clear c1 c2 R
 refine wp_region_cls (fun X=>(X.cell? ⟨b1,0,none⟩=some (.func (.func g1) #[] cb1)∧X.cell? ⟨b2,0,none⟩=some (.func (.func g2) #[] cb2)∧∃ xs,Bk X W.heap.size xs 66∧xs.size=3)) (by kernel_rfl) ?_
 refine wpY_take hCC (some 5) (i:=0) (v:=.func (.func g1) #[] cb1) rfl rfl (by kernel_rfl) (by kernel_rfl) (by kernel_rfl) (fun _ _ _ h=>h) (Or.inl ⟨rfl,fun n hn=>?_⟩) CW ?_
 ·have c0:=hn.1
  go_simp
 simp only [Act.put,pA,pB,pC]
 refine wpY_take hCC (some 6) (i:=1) (v:=.slice a row.length cap) rfl rfl (by kernel_rfl) (by kernel_rfl) (by kernel_rfl) (fun _ _ _ h=>h) (Or.inl ⟨rfl,fun n hn=>?_⟩) CW ?_
 ·go_simp
 simp only [Act.put,pA,pB,pC]
 refine wpY_take hCC (some 8) (i:=3) (v:=.func (.func g2) #[] cb2) rfl rfl (by kernel_rfl) (by kernel_rfl) (by kernel_rfl) (fun _ _ _ h=>h) (Or.inl ⟨rfl,fun n hn=>?_⟩) CW ?_
 ·have c0:=hn.2.1
  go_simp
 simp only [Act.put,pA,pB,pC]
 refine wpY_take hCC (some 9) (i:=4) (v:=.slice a row.length cap) rfl rfl (by kernel_rfl) (by kernel_rfl) (by kernel_rfl) (fun _ _ _ h=>h) (Or.inl ⟨rfl,fun n hn=>?_⟩) CW ?_
 ·go_simp
 simp only [Act.put,pA,pB,pC]
 refine wpY_take hCC (some 11) (i:=6) (v:=.slice a row.length cap) rfl rfl (by kernel_rfl) (by kernel_rfl) (by kernel_rfl) (fun _ _ _ h=>h) (Or.inl ⟨rfl,fun n hn=>?_⟩) CW ?_
 ·go_simp
 simp only [Act.put,pA,pB,pC]
 refine wpY_step (rs:=[2]) (by kernel_rfl) (by simp) ?_
 intro w3 hb3 jj hj
 obtain rfl:jj=2:=by simpa using hj
 clear hj
 have D3:=chain D0 hb3
 have CW3:=hCC _ _ CW hb3
 have con:=HD1.out row a cap w3 hf (hs.next D3) (Since.of D3)
 refine wpOp_step rfl (fun K hK=>?_)
 go_simp
 first | (refine con.mono ?_) | (go_at_fn g1; refine con.mono ?_)
 rintro e w4 ⟨rfl,R4,hb4⟩
 have D4:=chain D3 hb4
 have CW4:=hCC _ _ CW3 hb4
 refine hK _ _ ⟨CW4,?_⟩
 clear hK K con CW3 CW
 refine wpY_step (rs:=[5]) (by kernel_rfl) (by simp) ?_
 intro w5 hb5 jj hj
 obtain rfl:jj=5:=by simpa using hj
 clear hj
 have D5:=chain D4 hb5
 have CW5:=hCC _ _ CW4 hb5
 have con:=HD2.out row a cap w5 hf (hs.next D5) (Since.of D5)
 refine wpOp_step rfl (fun K hK=>?_)
 go_simp
 first | (refine con.mono ?_) | (go_at_fn g2; refine con.mono ?_)
 rintro e w6 ⟨rfl,R6,hb6⟩
 have D6:=chain D5 hb6
 have CW6:=hCC _ _ CW5 hb6
 have P6:SlAt w6 (some ⟨w3.heap.size,0,none⟩) (rowX ps row)∧TyAt w6 (some ⟨w3.heap.size,0,none⟩):=⟨(R4.1.next hb5).next hb6,(R4.2.next hb5).next hb6⟩
 refine hK _ _ ⟨CW6,?_⟩
 clear hK K con CW5 CW4 R4
 refine wpY_take hCC (some 12) (i:=7) (v:=.agg #[.slice (some ⟨w3.heap.size,0,none⟩) ps.length ps.length,.slice (some ⟨w5.heap.size,0,none⟩) os.length os.length,.slice a row.length cap]) rfl rfl (by kernel_rfl) (by kernel_rfl) (by kernel_rfl) (fun _ _ _ h=>h) (Or.inl ⟨rfl,fun n hn=>?_⟩) CW6 ?_
 ·go_simp
 simp only [Act.put,pA,pB,pC]
 refine wpY_step (rs:=[8]) (by kernel_rfl) (by simp) ?_
 intro w7 hb7 jj hj
 obtain rfl:jj=8:=by simpa using hj
 clear hj
 have D7:=chain D6 hb7
 have CW7:=hCC _ _ CW6 hb7
 have P7:=P6.1.next hb7
 have P7':=P6.2.next hb7
 have R7:=R6.1.next hb7
 have R7':=R6.2.next hb7
 obtain ⟨v0,v1,v2,B7⟩:∃ v0 v1 v2,Bk w7 W.heap.size #[v0,v1,v2] 66:=by
  obtain ⟨xs,h1,h2⟩:=CW7.2.2
  match xs,h1,h2 with
  | ⟨[v0,v1,v2]⟩,h1,_=>exact ⟨v0,v1,v2,h1⟩
 have c0:=B7.cell 0 rfl
 have c1:=B7.cell 1 rfl
 have c2:=B7.cell 2 rfl
 have f0:=B7.frozen 0
 have f1:=B7.frozen 1
 have f2:=B7.frozen 2
 have X:=B7.put3 (.slice (some ⟨w3.heap.size,0,none⟩) ps.length ps.length) (.slice (some ⟨w5.heap.size,0,none⟩) os.length os.length) (.slice a row.length cap)
 have z3:=D3.size
 have z4:=hb4.size
 have z5:=hb5.size
 have ne1:∀ o u (X:World),(X.setCell ⟨W.heap.size,o,none⟩ u).cell? ⟨b1,0,none⟩=X.cell? ⟨b1,0,none⟩:=fun o u X=>World.cell?_setCell_other _ _ _ _ (by intro e; injection e with e; omega)
 have ne2:∀ o u (X:World),(X.setCell ⟨W.heap.size,o,none⟩ u).cell? ⟨b2,0,none⟩=X.cell? ⟨b2,0,none⟩:=fun o u X=>World.cell?_setCell_other _ _ _ _ (by intro e; injection e with e; omega)
 have z0:=(chain hdr hb3).size
 have hsz:w7.heap.size≤(((w7.setCell ⟨W.heap.size,0,none⟩ (.slice (some ⟨w3.heap.size,0,none⟩) ps.length ps.length)).setCell ⟨W.heap.size,1,none⟩ (.slice (some ⟨w5.heap.size,0,none⟩) os.length os.length)).setCell ⟨W.heap.size,2,none⟩ (.slice a row.length cap)).heap.size:=by simp [World.setCell]
 have P8:=P7.same (far3 w7 W.heap.size w3.heap.size (by omega) (.slice (some ⟨w3.heap.size,0,none⟩) ps.length ps.length) (.slice (some ⟨w5.heap.size,0,none⟩) os.length os.length) (.slice a row.length cap)) hsz
 have P8':=P7'.same (far3 w7 W.heap.size w3.heap.size (by omega) (.slice (some ⟨w3.heap.size,0,none⟩) ps.length ps.length) (.slice (some ⟨w5.heap.size,0,none⟩) os.length os.length) (.slice a row.length cap))
 have R8:=R7.same (far3 w7 W.heap.size w5.heap.size (by omega) (.slice (some ⟨w3.heap.size,0,none⟩) ps.length ps.length) (.slice (some ⟨w5.heap.size,0,none⟩) os.length os.length) (.slice a row.length cap)) hsz
 have R8':=R7'.same (far3 w7 W.heap.size w5.heap.size (by omega) (.slice (some ⟨w3.heap.size,0,none⟩) ps.length ps.length) (.slice (some ⟨w5.heap.size,0,none⟩) os.length os.length) (.slice a row.length cap))
 have D8:=((D7.setCell (p:=⟨W.heap.size,0,none⟩) (Nat.le_refl _) (.slice (some ⟨w3.heap.size,0,none⟩) ps.length ps.length)).setCell (p:=⟨W.heap.size,1,none⟩) (Nat.le_refl _) (.slice (some ⟨w5.heap.size,0,none⟩) os.length os.length)).setCell (p:=⟨W.heap.size,2,none⟩) (Nat.le_refl _) (.slice a row.length cap)
 refine wpOp_step rfl (fun K hK=>?_)
 go_simp
 refine hK _ _ ⟨⟨by rw [ne1,ne1,ne1]; exact CW7.1,by rw [ne2,ne2,ne2]; exact CW7.2.1,_,X,rfl⟩,?_⟩
 clear hK K c0 c1 c2 f0 f1 f2 CW7 CW6 ne1 ne2
 generalize ((w7.setCell ⟨W.heap.size,0,none⟩ (.slice (some ⟨w3.heap.size,0,none⟩) ps.length ps.length)).setCell ⟨W.heap.size,1,none⟩ (.slice (some ⟨w5.heap.size,0,none⟩) os.length os.length)).setCell ⟨W.heap.size,2,none⟩ (.slice a row.length cap)=w8 at *
 refine wpY_done (by kernel_rfl) ?_
 intro w9 hb9
 have X9:=X.next hb9
 have r0:=X9.cell 0 rfl
 have r1:=X9.cell 1 rfl
 have r2:=X9.cell 2 rfl
 have P9:=P8.next hb9
 have P9':=P8'.next hb9
 have R9:=R8.next hb9
 have R9':=R8'.next hb9
 have D9:=chain D8 hb9
 clear X P8 P8' R8 R8' D8
 go_wp2_with fail
 exact bodyPost_ret (v:=.agg #[.slice (some ⟨w3.heap.size,0,none⟩) ps.length ps.length,.slice (some ⟨w5.heap.size,0,none⟩) os.length os.length,.slice a row.length cap]) (by simp [results,Tryz.results25,go_sem,r0,r1,r2]) rfl ⟨_,_,_,_,rfl,⟨P9,P9'⟩,⟨R9,R9'⟩,D9⟩

theorem withL_take {ps os:List Ex} {l:List Zp} {k:Nat} (h:k<l.length):withL ps os (l.take (k+1))=withL ps os (l.take k) ++ List.replicate l[k].2.toNat (rowX ps l[k].1,rowX os l[k].1,l[k].1):=by
 unfold withL
 rw [List.take_succ_eq_append_getElem h,List.flatMap_append]
 simp
theorem cntP_take:∀ (l:List Zp) (k:Nat),cntP (l.take k)≤cntP l
 | [],k=>by simp [cntP]
 | p :: r,0=>by simp [cntP]
 | p :: r,k+1=>by simp only [List.take_succ_cons,cntP]; have:=cntP_take r k; omega
theorem cntP_get:∀ (l:List Zp) (k:Nat) (h:k<l.length),l[k].2.toNat≤cntP l
 | p :: r,0,_=>by simp [cntP]
 | p :: r,k+1,h=>by simp only [List.getElem_cons_succ,cntP]; have:=cntP_get r k (by simpa using h); omega

set_option maxRecDepth 100000 in
set_option maxHeartbeats 8000000 in
theorem inLine_at (cols:List Int) (ps os:List Ex) (u:Value) (lo:Nat) (a:Option Addr) (cap:Nat) (l:List Zp) (w:World) (hu:PlaceF cols lo u ps os w) (hz:InpOk cols l) (hcnt:cntP l≤400) (h:ZsAt w a l) :
  Calls Tryz.prog 24 #[.slice a l.length cap,u] w fun e w'=>∃ a' c',e = .returned (.slice a' (lineL ps os l).length c')∧LnAt w' a' (lineL ps os l)∧Below w.heap.size w w':=by
 obtain ⟨i0,hi,hj0,hj1,hj2⟩:=info_parts infoL
 have hl:=set_len hz
 have hR:Rise l:=((wrongZ_iff l).1 hz.set).2.2
 obtain ⟨g,cb,rfl,eg,hd⟩:=hu
 have HD:Hid (∀ (row:List Vl) (a:Option Addr) (cap:Nat) (W:World),FitP cols row→SlAt W a row→Since lo w W→Calls Tryz.prog g (#[.slice a row.length cap] ++ cb) W (PlMade ps os row a cap W)):=hd
 have HO:Hid (InpOk cols l):=hz
 have HR:Hid (Rise l):=hR
 have HC:Hid (cntP l≤400):=hcnt
 clear hd hz hR hcnt
 go_enter Tryz.func24,Tryz.ntmps24
 go_wp2_with fail
 go_loopw [5,10] (fun v i wr=>∃ k:Nat,k≤l.length∧i = .int .i64 k∧OwnLn w w.heap.size wr v (withL ps os (l.take k))∧Below w.heap.size w wr) (fun _ i _=>l.length - (intOf i).toNat)
 case atStart=>exact ⟨0,Nat.zero_le _,rfl,OwnLn.nil _ _ _,Below.refl _ _⟩
 case round =>
  obtain ⟨k,hk,rfl,HK,hb⟩:=hrel
  have hzr:=hb.size
  by_cases hlt:k<l.length
  ·obtain ⟨b,off,rfl,hbl,d1,ra,rc,d0,sr⟩:=h.elem hlt
   have c1':=(hb.cell (p:=⟨b,_,none⟩) hbl).trans d1
   have c0':=(hb.cell (p:=⟨b,_,none⟩) hbl).trans d0
   have HS:Hid (SlAt w ra l[k].1):=sr
   have hal:Below wr.heap.size wr (wr.alloc (.cells #[.slice ra l[k].1.length rc,.int .i64 l[k].2] 33)):=(Below.refl _ _).alloc (Nat.le_refl _) _
   have q0:=Bk.new wr #[.slice ra l[k].1.length rc,.int .i64 l[k].2] 33
   have HT:Hid (withL ps os (l.take (k+1))=withL ps os (l.take k) ++ List.replicate l[k].2.toNat (rowX ps l[k].1,rowX os l[k].1,l[k].1)):=withL_take hlt
   have hfit:=HO.out.fit l[k] (List.getElem_mem hlt)
   have HFk:Hid (FitP cols l[k].1):=hfit
   have hw4:=cntP_get l k hlt
   have hw5:=HC.out
   have hwl:(withL ps os (l.take k)).length≤400:=by rw [withL_len]; have:=cntP_take l k; omega
   clear d0 d1 sr hfit
   by_cases hpos:0<l[k].2
   ·have n4:l[k].2.toNat≤400:=by omega
    obtain ⟨n,hn⟩:∃ n:Nat,l[k].2=(n:Int):=⟨l[k].2.toNat,by omega⟩
    have HN:Hid (l[k].2=(n:Int)):=hn
    have hn4:n≤400:=by omega
    have hn0:0<n:=by omega
    have hnz:(0:Int)<(n:Int):=by omega
    have hT2:withL ps os (l.take (k+1))=withL ps os (l.take k) ++ List.replicate n (rowX ps l[k].1,rowX os l[k].1,l[k].1):=by have:=HT.out; rw [hn] at this; simpa using this
    have HT2:Hid (withL ps os (l.take (k+1))=withL ps os (l.take k) ++ List.replicate n (rowX ps l[k].1,rowX os l[k].1,l[k].1)):=hT2
    rw [hn] at c1' hal q0
    clear hpos n4 hw4 hw5 hT2 hn
    go_upto_region 6 with fail
    clear c0' c1'
    generalize wr.alloc (.cells #[.slice ra l[k].1.length rc,.int .i64 n] 33)=wa at *
    have hCC:∀ W W':World,Bk W wr.heap.size #[.slice ra l[k].1.length rc,.int .i64 n] 33→Below W.heap.size W W'→Bk W' wr.heap.size #[.slice ra l[k].1.length rc,.int .i64 n] 33:=fun W W' h hb=>h.next hb
    have hdr:Below wa.heap.size wa wa.drew:=(Below.refl _ _).drew
    have CW:=hCC _ _ q0 hdr
    refine wp_region_cls (fun W=>Bk W wr.heap.size #[.slice ra l[k].1.length rc,.int .i64 n] 33) (by kernel_rfl) ?_
    refine wpY_take hCC (some 17) (i:=0) (v:=u5) rfl rfl (by kernel_rfl) (by kernel_rfl) (by kernel_rfl) (fun _ _ _ h=>h) (Or.inl ⟨rfl,fun nn hn=>?_⟩) CW ?_
    ·go_simp
    simp only [Act.put,pA,pB,pC]
    refine wpY_take hCC (some 18) (i:=1) (v:=.func (.func g) #[] cb) rfl rfl (by kernel_rfl) (by kernel_rfl) (by kernel_rfl) (fun _ _ _ h=>h) (Or.inl ⟨rfl,fun nn hn=>?_⟩) CW ?_
    ·go_simp
    simp only [Act.put,pA,pB,pC]
    refine wpY_take hCC (some 19) (i:=2) (v:=.pointer (some ⟨wr.heap.size,0,none⟩)) rfl rfl (by kernel_rfl) (by kernel_rfl) (by kernel_rfl) (fun _ _ _ h=>h) (Or.inl ⟨rfl,fun nn hn=>?_⟩) CW ?_
    ·go_simp
    simp only [Act.put,pA,pB,pC]
    refine wpY_take hCC (some 20) (i:=3) (v:=.slice ra l[k].1.length rc) rfl rfl (by kernel_rfl) (by kernel_rfl) (by kernel_rfl) (fun _ _ _ h=>h) (Or.inl ⟨rfl,fun nn hn=>?_⟩) CW ?_
    ·have c0:=hn.cell 0 rfl
     go_simp
    simp only [Act.put,pA,pB,pC]
    refine wpY_take hCC (some 23) (i:=6) (v:=.pointer (some ⟨wr.heap.size,1,none⟩)) rfl rfl (by kernel_rfl) (by kernel_rfl) (by kernel_rfl) (fun _ _ _ h=>h) (Or.inl ⟨rfl,fun nn hn=>?_⟩) CW ?_
    ·go_simp
    simp only [Act.put,pA,pB,pC]
    refine wpY_take hCC (some 24) (i:=7) (v:=.int .i64 n) rfl rfl (by kernel_rfl) (by kernel_rfl) (by kernel_rfl) (fun _ _ _ h=>h) (Or.inl ⟨rfl,fun nn hn=>?_⟩) CW ?_
    ·have c1:=hn.cell 1 rfl
     go_simp
    simp only [Act.put,pA,pB,pC]
    refine wpY_step (rs:=[4]) (by kernel_rfl) (by simp) ?_
    intro w3 hb3 jj hj
    obtain rfl:jj=4:=by simpa using hj
    clear hj
    have D3:=chain (chain hal hdr) hb3
    have B3:=chain hb D3
    have CW3:=hCC _ _ CW hb3
    have con:=HD.out l[k].1 ra rc w3 HFk.out (HS.out.next B3) (Since.of B3)
    refine wpOp_step rfl (fun K hK=>?_)
    go_simp
    first | (refine con.mono ?_) | (go_at_fn g; refine con.mono ?_)
    rintro e w4 ⟨pa,pc,oa,oc,rfl,P4,O4,hb4⟩
    have D4:=chain D3 hb4
    have CW4:=hCC _ _ CW3 hb4
    refine hK _ _ ⟨CW4,?_⟩
    clear hK K con CW3 CW
    refine wpY_step (rs:=[5]) (by kernel_rfl) (by simp) ?_
    intro w5 hb5 jj hj
    obtain rfl:jj=5:=by simpa using hj
    clear hj
    refine wpOp_step rfl (fun K hK=>?_)
    go_simp
    have D5:=chain D4 hb5
    have CW5:=hCC _ _ CW4 hb5
    have hal5:Below w5.heap.size w5 (w5.alloc (.cells #[.slice pa ps.length pc,.slice oa os.length oc,.slice ra l[k].1.length rc] 66)):=(Below.refl _ _).alloc (Nat.le_refl _) _
    have q6:=Bk.new w5 #[.slice pa ps.length pc,.slice oa os.length oc,.slice ra l[k].1.length rc] 66
    have D6:=chain D5 hal5
    have CW6:=hCC _ _ CW5 hal5
    have S6:=(P4.1.next hb5).next hal5
    have T6:=(P4.2.next hb5).next hal5
    have S6':=(O4.1.next hb5).next hal5
    have T6':=(O4.2.next hb5).next hal5
    refine hK _ _ ⟨CW6,?_⟩
    clear hK K CW5 CW4 P4 O4
    generalize w5.alloc (.cells #[.slice pa ps.length pc,.slice oa os.length oc,.slice ra l[k].1.length rc] 66)=w6 at *
    (try simp only [Act.put,pA,pB,pC])
    refine wpY_step (rs:=[8]) (by kernel_rfl) (by simp) ?_
    intro w7 hb7 jj hj
    obtain rfl:jj=8:=by simpa using hj
    clear hj
    have D7:=chain D6 hb7
    have CW7:=hCC _ _ CW6 hb7
    have S7:=S6.next hb7
    have T7:=T6.next hb7
    have S7':=S6'.next hb7
    have T7':=T6'.next hb7
    have q7:=q6.next hb7
    have con:=repeatL_at w5.heap.size (.slice pa ps.length pc,.slice oa os.length oc,.slice ra l[k].1.length rc) ⟨rfl,rfl,rfl⟩ n hn4 w7 (q7.cell 0 rfl) (q7.cell 1 rfl) (q7.cell 2 rfl)
    refine wpOp_step rfl (fun K hK=>?_)
    go_simp
    refine con.mono ?_
    rintro e w8 ⟨rfl,F8,hb8⟩
    have D8:=chain D7 hb8
    have CW8:=hCC _ _ CW7 hb8
    have S8:=S7.next hb8
    have T8:=T7.next hb8
    have S8':=S7'.next hb8
    have T8':=T7'.next hb8
    have HF8:Hid (∀ j u,(fl3 (.slice pa ps.length pc,.slice oa os.length oc,.slice ra l[k].1.length rc) n)[j]? = some u→w8.cell? ((⟨w7.heap.size,0,none⟩:Addr).add j)=some u):=F8
    have lt8:w7.heap.size<w8.heap.size:=by
     have:=F8 0 (.slice pa ps.length pc) (by obtain ⟨f0,_,_⟩:=fl3_get (.slice pa ps.length pc,.slice oa os.length oc,.slice ra l[k].1.length rc) n 0 hn0; simpa using f0)
     exact World.block_lt_of_cell? _ _ this
    refine hK _ _ ⟨CW8,?_⟩
    clear hK K con CW7 CW6 S7 T7 S7' T7' S6 T6 S6' T6' q6 q7 F8
    (try simp only [Act.put,pA,pB,pC])
    refine wpY_step (rs:=[9]) (by kernel_rfl) (by simp) ?_
    intro w9 hb9 jj hj
    obtain rfl:jj=9:=by simpa using hj
    clear hj
    have D9:=chain D8 hb9
    have CW9:=hCC _ _ CW8 hb9
    have S9:=S8.next hb9
    have T9:=T8.next hb9
    have S9':=S8'.next hb9
    have T9':=T8'.next hb9
    have F9:∀ j u,(fl3 (.slice pa ps.length pc,.slice oa os.length oc,.slice ra l[k].1.length rc) n)[j]? = some u→w9.cell? ((⟨w7.heap.size,0,none⟩:Addr).add j)=some u:=fun j u hj=>by
     have:=HF8.out j u hj
     exact (hb9.cell (World.block_lt_of_cell? _ _ this)).trans this
    obtain ⟨ys,o9,en9⟩:=HK.next D9
    have zz:=D9.size
    have hnb:∀ g',u5.ownBlock=some g'→g'<wr.heap.size∧w.heap.size≤g':=fun g' hg'=>by
     obtain ⟨ys0,o0,_⟩:=HK
     exact ⟨(o0.lt g' hg').2,(o0.lt g' hg').1⟩
    refine wpOp_step rfl (fun K hK=>?_)
    refine Eq.mpr (if_pos (by kernel_rfl)) ?_
    refine wp_append_at (some 26) rfl (Operand.tmp 17) (Operand.tmp 25) 63 rfl w.heap.size 66 i0 _ 3 72 Tryz.underlying63 hi hj0 hj1 hj2 rfl (by decide) u5 _ ys rfl o9 ⟨w7.heap.size,0,none⟩ n n (fl3 (.slice pa ps.length pc,.slice oa os.length oc,.slice ra l[k].1.length rc) n) rfl (fl3_len _ n) F9 (fl3_one ⟨rfl,rfl,rfl⟩ n) (by unfold maxLen; omega) (by omega) (by omega) ?_
    intro v' w10 o10 g10 _
    have CW10:Bk w10 wr.heap.size #[.slice ra l[k].1.length rc,.int .i64 n] 33:=(g10.block _ CW9.lt (fun e=>by have:=(hnb _ e.symm).1; omega)).trans CW9
    have e1:ps.length=(rowX ps l[k].1).length:=by simp [rowX]
    have e2:os.length=(rowX os l[k].1).length:=by simp [rowX]
    have OK10:OwnLn w w.heap.size w10 v' (withL ps os (l.take k) ++ List.replicate n (rowX ps l[k].1,rowX os l[k].1,l[k].1)):=OwnLn.pushN (pc:=pc) (oc:=oc) (rc:=rc) (x:=(rowX ps l[k].1,rowX os l[k].1,l[k].1)) o9 en9 S9 T9 S9' T9' HS.out (by rw [← e1,← e2]; exact o10) g10
    have b10:Below w.heap.size w w10:=(hb.trans (D9.mono hzr)).trans ((Below.refl _ _).grown g10 (by omega) (fun q hq=>(hnb q hq).2))
    refine hK _ _ ⟨CW10,?_⟩
    clear hK K CW9 CW8 S8 T8 S8' T8' S9 T9 S9' T9' o9 en9 o10 D9 D8 D7 D6 D5 D4 D3 F9 HF8 g10 HK e1 e2
    (try simp only [Act.put,pA,pB,pC])
    refine wpY_take hCC (some 5) (i:=10) (v:=v') rfl rfl (by kernel_rfl) (by kernel_rfl) (by kernel_rfl) (fun _ _ _ h=>h) (Or.inl ⟨rfl,fun nn hn=>?_⟩) CW10 ?_
    ·go_simp
    simp only [Act.put,pA,pB,pC]
    refine wpY_done (by kernel_rfl) ?_
    intro w11 hb11
    have OK11:=OK10.next hb11
    have b11:=chain b10 hb11
    clear OK10 b10 CW10 hb11
    go_wp2_with fail
    go_roundw
    case rel=>exact ⟨k+1,by omega,by go_num,by rw [HT2.out]; exact OK11,b11⟩
    case measure=>simp [intOf]; omega
   ·have hneg:¬ 0<l[k].2:=hpos
    have hT2:withL ps os (l.take (k+1))=withL ps os (l.take k):=by rw [HT.out,show l[k].2.toNat=0 by omega]; simp
    have HT2:Hid (withL ps os (l.take (k+1))=withL ps os (l.take k)):=hT2
    clear hT2
    go_wp2_with fail
    go_roundw
    case rel=>exact ⟨k+1,by omega,by go_num,by rw [HT2.out]; exact HK.next hal,chain hb hal⟩
    case measure=>simp [intOf]; omega
  ·have e:k=l.length:=by omega
   subst e
   rw [List.take_length] at HK
   have hil:(lineL ps os l).length=(withL ps os l).length:=(ordL_perm _).length_eq
   have hwl:(withL ps os l).length≤400:=by rw [withL_len]; exact HC.out
   rcases HK.arr hb (Nat.le_refl _) with ⟨hn,rfl⟩ | ⟨gb,kc,dd,rfl,hg1,hg2,hds,hdm,hH⟩
   ·have hio:lineL ps os l = []:=List.eq_nil_of_length_eq_zero (by rw [hil,hn]; rfl)
    have con:=sortNoneL_at 0 wr
    clear HK
    go_wp2_with fail
    refine con.mono ?_
    rintro e w2 ⟨rfl,hb2⟩
    clear con
    dsimp only
    go_wp2_with fail
    go_ret
    exact ⟨none,0,by rw [hio]; rfl,.inl hio,chain hb hb2⟩
   ·have con:=sortedL_at wr gb kc dd ps os l HR.out (by omega) hg2 hdm hH w hg1 hb
    rw [hds,← hil] at con
    rw [← hil]
    clear HK hH hdm hil hds
    go_wp2_with fail
    refine con.mono ?_
    rintro e w2 ⟨rfl,kd,hb2⟩
    clear con
    dsimp only
    have HKD:Hid (LnAt w2 (some ⟨gb,0,none⟩) (lineL ps os l)):=kd
    clear kd
    go_wp2_with fail
    go_ret
    exact ⟨_,_,rfl,HKD.out,hb2⟩
end Go.Proofs.YtcnmpiahcnkndaaGreat
/- What tells numbers; whether order is another one; ranks. -/
namespace Go.Proofs.YtcnmpiahcnkndaaGreat
open Go.RowKit

set_option maxRecDepth 100000 in
set_option maxHeartbeats 1000000 in
theorem numbers1_at (w1 W:World) (hb:Below w1.heap.size w1 W) (v:Value) (p:Lp) (a n:Nat) (hn:n<1000) (hv:PlaceV w1 v p) (h1:Bk W a #[.int .i64 n] 2) :
  Calls Tryz.prog 133 #[v,.pointer (some ⟨a,0,none⟩)] W fun e W'=>e = .returned (agV (intV ((n:Int)+1)))∧Bk W' a #[.int .i64 ((n:Int)+1)] 2∧KeepO a (a+1) W W':=by
 obtain ⟨pa,pc,oa,oc,ra,rc,rfl,sp,so,sr⟩:=hv
 have lth1:=h1.lt
 have hA:Below W.heap.size W (W.alloc (.cells #[.slice pa p.1.length pc,.slice oa p.2.1.length oc,.slice ra p.2.2.length rc] 66)):=(Below.refl _ _).alloc (Nat.le_refl _) _
 have P:=Bk.new W #[.slice pa p.1.length pc,.slice oa p.2.1.length oc,.slice ra p.2.2.length rc] 66
 go_enter Tryz.func133,Tryz.ntmps133
 go_upto_region 1 with fail
 have hz:(W.alloc (.cells #[.slice pa p.1.length pc,.slice oa p.2.1.length oc,.slice ra p.2.2.length rc] 66)).heap.size=W.heap.size+1:=by simp
 generalize W.alloc (.cells #[.slice pa p.1.length pc,.slice oa p.2.1.length oc,.slice ra p.2.2.length rc] 66)=Wa at *
 have R:=Bk.new Wa #[.int .i64 0,.int .i64 0,.string ⟨#[]⟩] 38
 have hN:=(Below.refl Wa.heap.size Wa).alloc (Nat.le_refl _) (.cells #[.int .i64 0,.int .i64 0,.string ⟨#[]⟩] 38)
 have P:=P.next hN
 have hB:=chain hA hN
 rw [hz] at R
 generalize Wa.alloc (.cells #[.int .i64 0,.int .i64 0,.string ⟨#[]⟩] 38)=Wb at *
 have h1:=h1.next hB
 have kp:=KeepO.of (a:=a) (b:=(a+1)) hB
 have ltW:Below w1.heap.size w1 W:=hb
 have hw:IntKind.i64.wrap ((n:Int)+1)=(n:Int)+1:=by rw [IntKind.wrap_i64]; omega
 have ch10:=h1.cell 0 rfl
 have fh10:=h1.frozen 0
 go_upto_region 2 with fail
 have h1:=h1.put1 (.int .i64 ((n:Int)+1))
 have P:=P.far (p:=⟨a,0,none⟩) (show W.heap.size≠a by omega) (.int .i64 ((n:Int)+1))
 have R:=R.far (p:=⟨a,0,none⟩) (show W.heap.size+1≠a by omega) (.int .i64 ((n:Int)+1))
 have kp:=kp.put (p:=⟨a,0,none⟩) (.inl (show a≤a∧a<(a+1) by omega)) (.int .i64 ((n:Int)+1))
 clear ch10 fh10
 generalize (Wb.setCell ⟨a,0,none⟩ (.int .i64 ((n:Int)+1)))=w11 at *
 have ch10:=h1.cell 0 rfl
 have fh10:=h1.frozen 0
 go_wp2_with fail
 refine (int_any _ _).mono ?_
 rintro e w12 ⟨rfl,hb1⟩
 clear ch10 fh10
 have h1:=h1.next hb1
 have P:=P.next hb1
 have R:=R.next hb1
 have kp:=kp.trans (KeepO.of hb1)
 have cR0:=R.cell 0 rfl
 have fR0:=R.frozen 0
 have cR1:=R.cell 1 rfl
 have fR1:=R.frozen 1
 have cR2:=R.cell 2 rfl
 have fR2:=R.frozen 2
 go_wp2_with fail
 have h1:=h1.far3 (g:=W.heap.size+1) (show a≠W.heap.size+1 by omega) (.int .i64 (intK ((n:Int)+1))) (.int .i64 (intN ((n:Int)+1))) (.string ⟨#[]⟩)
 have P:=P.far3 (g:=W.heap.size+1) (show W.heap.size≠W.heap.size+1 by omega) (.int .i64 (intK ((n:Int)+1))) (.int .i64 (intN ((n:Int)+1))) (.string ⟨#[]⟩)
 have R:=R.put3 (.int .i64 (intK ((n:Int)+1))) (.int .i64 (intN ((n:Int)+1))) (.string ⟨#[]⟩)
 have kp:=kp.put3 (g:=W.heap.size+1) (show (a≤W.heap.size+1∧W.heap.size+1<(a+1))∨W.heap.size≤W.heap.size+1 by omega) (.int .i64 (intK ((n:Int)+1))) (.int .i64 (intN ((n:Int)+1))) (.string ⟨#[]⟩)
 clear cR0 fR0 cR1 fR1 cR2 fR2
 generalize ((w12.setCell ⟨W.heap.size+1,0,none⟩ (.int .i64 (intK ((n:Int)+1)))).setCell ⟨W.heap.size+1,1,none⟩ (.int .i64 (intN ((n:Int)+1)))).setCell ⟨W.heap.size+1,2,none⟩ (.string ⟨#[]⟩)=w13 at *
 have r0:=R.cell 0 rfl
 have r1:=R.cell 1 rfl
 have r2:=R.cell 2 rfl
 exact bodyPost_ret (v:=agV (intV ((n:Int)+1))) (by simp [results,Tryz.results133,go_sem,r0,r1,r2,intV]) rfl ⟨rfl,h1,kp⟩
set_option maxRecDepth 100000 in
set_option maxHeartbeats 1000000 in
theorem changes1_nil (w1 W:World) (hb:Below w1.heap.size w1 W) (v:Value) (p:Lp) (a:Nat) (sv:Value) (hv:PlaceV w1 v p) (h1:Bk W a #[sv] 31) (h2:Bk W (a+1) #[.bool true] 4) :
  Calls Tryz.prog 177 #[v,.pointer (some ⟨a+1,0,none⟩),.pointer (some ⟨a,0,none⟩)] W fun e W'=>e = .returned (.bool true)∧(∃ oa oc,Bk W' a #[.slice oa p.2.1.length oc] 31∧SlAt w1 oa p.2.1)∧Bk W' (a+1) #[.bool false] 4∧KeepO a (a+2) W W':=by
 obtain ⟨pa,pc,oa,oc,ra,rc,rfl,sp,so,sr⟩:=hv
 have lth1:=h1.lt
 have lth2:=h2.lt
 have hA:Below W.heap.size W (W.alloc (.cells #[.slice pa p.1.length pc,.slice oa p.2.1.length oc,.slice ra p.2.2.length rc] 66)):=(Below.refl _ _).alloc (Nat.le_refl _) _
 have P:=Bk.new W #[.slice pa p.1.length pc,.slice oa p.2.1.length oc,.slice ra p.2.2.length rc] 66
 go_enter Tryz.func177,Tryz.ntmps177
 go_upto_region 1 with fail
 generalize W.alloc (.cells #[.slice pa p.1.length pc,.slice oa p.2.1.length oc,.slice ra p.2.2.length rc] 66)=Wa at *
 have hB:=hA
 clear hA
 have h1:=h1.next hB
 have h2:=h2.next hB
 have kp:=KeepO.of (a:=a) (b:=(a+2)) hB
 have ltW:Below w1.heap.size w1 W:=hb
 have ch10:=h1.cell 0 rfl
 have fh10:=h1.frozen 0
 have ch20:=h2.cell 0 rfl
 have fh20:=h2.frozen 0
 have cP1:=P.cell 1 rfl
 have fP1:=P.frozen 1
 go_upto_region 2 with fail
 clear ch10 fh10 ch20 fh20 cP1 fP1
 have ch10:=h1.cell 0 rfl
 have fh10:=h1.frozen 0
 have ch20:=h2.cell 0 rfl
 have fh20:=h2.frozen 0
 have cP1:=P.cell 1 rfl
 have fP1:=P.frozen 1
 go_upto_region 3 with fail
 have h1:=h1.put1 (.slice oa p.2.1.length oc)
 have h2:=h2.far (p:=⟨a,0,none⟩) (show (a+1)≠a by omega) (.slice oa p.2.1.length oc)
 have P:=P.far (p:=⟨a,0,none⟩) (show W.heap.size≠a by omega) (.slice oa p.2.1.length oc)
 have kp:=kp.put (p:=⟨a,0,none⟩) (.inl (show a≤a∧a<(a+2) by omega)) (.slice oa p.2.1.length oc)
 have h1:=h1.far (p:=⟨(a+1),0,none⟩) (show a≠(a+1) by omega) (.bool false)
 have h2:=h2.put1 (.bool false)
 have P:=P.far (p:=⟨(a+1),0,none⟩) (show W.heap.size≠(a+1) by omega) (.bool false)
 have kp:=kp.put (p:=⟨(a+1),0,none⟩) (.inl (show a≤(a+1)∧(a+1)<(a+2) by omega)) (.bool false)
 clear ch10 fh10 ch20 fh20 cP1 fP1
 generalize ((Wa.setCell ⟨a,0,none⟩ (.slice oa p.2.1.length oc)).setCell ⟨(a+1),0,none⟩ (.bool false))=w11 at *
 go_wp2_with fail
 go_ret
 exact ⟨rfl,⟨oa,oc,h1,so⟩,h2,kp⟩
set_option maxRecDepth 100000 in
set_option maxHeartbeats 1000000 in
theorem changes1_some (w1 W:World) (hb:Below w1.heap.size w1 W) (v:Value) (p q:Lp) (a:Nat) (qa:Option Addr) (qc:Nat) (sq:SlAt w1 qa q.2.1) (hv:PlaceV w1 v p) (h1:Bk W a #[.slice qa q.2.1.length qc] 31) (h2:Bk W (a+1) #[.bool false] 4) :
  Calls Tryz.prog 177 #[v,.pointer (some ⟨a+1,0,none⟩),.pointer (some ⟨a,0,none⟩)] W fun e W'=>e = .returned (.bool (cmpL q.2.1 p.2.1 != 0))∧(∃ oa oc,Bk W' a #[.slice oa p.2.1.length oc] 31∧SlAt w1 oa p.2.1)∧Bk W' (a+1) #[.bool false] 4∧KeepO a (a+2) W W':=by
 obtain ⟨pa,pc,oa,oc,ra,rc,rfl,sp,so,sr⟩:=hv
 have lth1:=h1.lt
 have lth2:=h2.lt
 have hA:Below W.heap.size W (W.alloc (.cells #[.slice pa p.1.length pc,.slice oa p.2.1.length oc,.slice ra p.2.2.length rc] 66)):=(Below.refl _ _).alloc (Nat.le_refl _) _
 have P:=Bk.new W #[.slice pa p.1.length pc,.slice oa p.2.1.length oc,.slice ra p.2.2.length rc] 66
 go_enter Tryz.func177,Tryz.ntmps177
 go_upto_region 1 with fail
 generalize W.alloc (.cells #[.slice pa p.1.length pc,.slice oa p.2.1.length oc,.slice ra p.2.2.length rc] 66)=Wa at *
 have hB:=hA
 clear hA
 have h1:=h1.next hB
 have h2:=h2.next hB
 have kp:=KeepO.of (a:=a) (b:=(a+2)) hB
 have ltW:Below w1.heap.size w1 W:=hb
 have s1:=(sq.next ltW).next hB
 have s2:=(so.next ltW).next hB
 have ch10:=h1.cell 0 rfl
 have fh10:=h1.frozen 0
 have ch20:=h2.cell 0 rfl
 have fh20:=h2.frozen 0
 have cP1:=P.cell 1 rfl
 have fP1:=P.frozen 1
 go_wp2_with fail
 refine (rows_at _ _ _ _ _ _ _ s1 s2).mono ?_
 rintro e w11 ⟨rfl,hb1⟩
 clear ch10 fh10 ch20 fh20 cP1 fP1
 have h1:=h1.next hb1
 have h2:=h2.next hb1
 have P:=P.next hb1
 have kp:=kp.trans (KeepO.of hb1)
 skip
 clear s1 s2
 have cP1:=P.cell 1 rfl
 have fP1:=P.frozen 1
 have ch10:=h1.cell 0 rfl
 have fh10:=h1.frozen 0
 have ch20:=h2.cell 0 rfl
 have fh20:=h2.frozen 0
 go_upto_region 3 with fail
 have h1:=h1.put1 (.slice oa p.2.1.length oc)
 have h2:=h2.far (p:=⟨a,0,none⟩) (show (a+1)≠a by omega) (.slice oa p.2.1.length oc)
 have P:=P.far (p:=⟨a,0,none⟩) (show W.heap.size≠a by omega) (.slice oa p.2.1.length oc)
 have kp:=kp.put (p:=⟨a,0,none⟩) (.inl (show a≤a∧a<(a+2) by omega)) (.slice oa p.2.1.length oc)
 have h1:=h1.far (p:=⟨(a+1),0,none⟩) (show a≠(a+1) by omega) (.bool false)
 have h2:=h2.put1 (.bool false)
 have P:=P.far (p:=⟨(a+1),0,none⟩) (show W.heap.size≠(a+1) by omega) (.bool false)
 have kp:=kp.put (p:=⟨(a+1),0,none⟩) (.inl (show a≤(a+1)∧(a+1)<(a+2) by omega)) (.bool false)
 clear cP1 fP1 ch10 fh10 ch20 fh20
 generalize ((w11.setCell ⟨a,0,none⟩ (.slice oa p.2.1.length oc)).setCell ⟨(a+1),0,none⟩ (.bool false))=w12 at *
 go_wp2_with fail
 go_ret
 exact ⟨rfl,⟨oa,oc,h1,so⟩,h2,kp⟩
end Go.Proofs.YtcnmpiahcnkndaaGreat
