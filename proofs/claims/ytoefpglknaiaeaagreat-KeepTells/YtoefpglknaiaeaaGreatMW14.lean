import Derived.Test.YtoefpglknaiaeaaGreatMW13
set_option maxHeartbeats 16000000
set_option maxRecDepth 100000
namespace Go.Proofs.YtoefpglknaiaeaaGreat
open Go.RowKit
def fk (k:Int):Nat:=if k=1 then 0 else if 4≤k∧k≤9 then 2 else 1
theorem mn (k:Int):fk k≤2:=by
 unfold fk
 split
 ·decide
 ·split <;> decide
def eF (k:Int) (len:Nat) (n d:Int):Int:=if 60<n∨15<d then 4 else if k<1∨13<k then 1 else if len≠fk k then 5 else 0
def gf (cols:List Int) (xs:List Ex):List Int:=xs.map fun x=>(ax cols x).1
def wP (cols:List Int) (g:Ag):Int:=if g.1=4∨g.1=5 then (ax cols g.2).1 else 3
def jB:List Int→List Int→Int
 | a :: l,b :: r=>if (cN a b).2≠0 then (cN a b).2 else jB l r
 | _,_=>0
def cU:List Int→List Int→List Int
 | a :: l,b :: r=>(cN a b).1 :: cU l r
 | _,_=>[]
def jr (l r:List Int):Int:=if l.length≠r.length then 8 else jB l r
def jT (k n:Int) (x:Ex) (xs:List Ex) (gs:List Ag) (cols:List Int):Int:=if k=2 then fU cols x [] else if k=3 then jS cols xs [] else if k=12 then dx cols xs gs [] else if k=13 then jU cols xs n [] else 0
def rI (k:Int) (xs:List Ex) (gs:List Ag) (cols:List Int):List Int:=if k=3 then gf cols xs else if k=12 then gf cols xs ++ gs.map (wP cols) else cols
def xg (k:Int) (x:Ex) (l r:List Int):Int:=if k=8∨k=9 then jr l r else cw 0 l r x [] []
def rL (k:Int) (l r:List Int):List Int:=if k=8∨k=9 then cU l r else if k=5∨k=6 then l else l ++ r
def hM (ts:List (List Int)) (k n:Int) (x:Ex) (xs:List Ex) (gs:List Ag) (cs:List (List Int)):Int:=match cs with
 | []=>if n<0∨ts.length≤n then 7 else 0
 | [c]=>jT k n x xs gs c
 | l :: r :: _=>xg k x l r
def nH (ts:List (List Int)) (k n:Int) (xs:List Ex) (gs:List Ag) (cs:List (List Int)):List Int:=match cs with
 | []=>ts.getD n.toNat []
 | [c]=>rI k xs gs c
 | l :: r :: _=>rL k l r
mutual
def aA (ts:List (List Int)):Pl→List Int
 | .mk k n _ xs gs ks=>nH ts k n xs gs (ko ts ks)
def ko (ts:List (List Int)):List Pl→List (List Int)
 | []=>[]
 | p :: r=>aA ts p :: ko ts r
end
theorem gr (ts:List (List Int)):∀ l,ko ts l=l.map (aA ts)
 | []=>by simp [ko]
 | p :: r=>by rw [ko,gr ts r,Oe]
mutual
def bD (ts:List (List Int)):Pl→Int→Int→Int × Int
 | .mk k n x xs gs ks,m,d =>
  if eF k ks.length (m+1) d≠0 then (eF k ks.length (m+1) d,m+1)
  else if (bo ts ks (m+1) (d+1)).1≠0 then bo ts ks (m+1) (d+1)
  else (hM ts k n x xs gs (ko ts ks),(bo ts ks (m+1) (d+1)).2)
def bo (ts:List (List Int)):List Pl→Int→Int→Int × Int
 | [],m,_=>(0,m)
 | p :: r,m,d=>if (bD ts p m d).1≠0 then bD ts p m d else bo ts r (bD ts p m d).2 d
end
theorem tC {ts:List (List Int)} {ks:List Pl} {m d:Int} {j:Nat} (h:j<ks.length) (he:¬ (bD ts ks[j] m d).1=0):bo ts (ks.drop j) m d=bD ts ks[j] m d:=by
 rw [MI h,bo,if_pos he]
theorem yO {ts:List (List Int)} {ks:List Pl} {m d:Int} {j:Nat} (h:j<ks.length) (he:(bD ts ks[j] m d).1=0):bo ts (ks.drop j) m d=bo ts (ks.drop (j+1)) (bD ts ks[j] m d).2 d:=by
 rw [MI h,bo,if_neg (by simp [he])]
theorem AQ {ts:List (List Int)} {ks:List Pl} {m d:Int} {j:Nat} (h:ks.length≤j):bo ts (ks.drop j) m d=(0,m):=by
 rw [M7 h,bo]
def bL (data:List (List Zp)) (k n:Int) (x:Ex) (xs:List Ex) (gs:List Ag) (cs:List (List Int)) (zs:List (List Zp)):Int × List Zp:=match cs,zs with
 | [c],[z] =>
  if k=2 then (fU c x z,iQ c x z) else if k=3 then (jS c xs z,nr c xs z) else if k=10 then (aM z,jV kZ z) else if k=11 then (aM z,jV ln z)
  else if k=12 then (dx c xs gs z,ei c xs gs z) else (jU c xs n z,lY c xs n z)
 | l :: r :: _,a :: b :: _ =>
  if k=4 then (cw 0 l r x a b,cB 0 l r x a b) else if k=5 then (cw 1 l r x a b,cB 1 l r x a b) else if k=6 then (cw 2 l r x a b,cB 2 l r x a b) else if k=7 then (cw 3 l r x a b,cB 3 l r x a b)
  else if k=8 then (eJ 1 a b,dM 1 a b) else (eJ (-1) a b,dM (-1) a b)
 | _,_=>(aR (data.getD n.toNat []),bh (data.getD n.toNat []))
mutual
def aW (ts:List (List Int)) (data:List (List Zp)):Pl→Int × List Zp
 | .mk k n x xs gs ks=>if (eH ts data ks).1≠0 then ((eH ts data ks).1,[]) else bL data k n x xs gs (ko ts ks) (eH ts data ks).2
def eH (ts:List (List Int)) (data:List (List Zp)):List Pl→Int × List (List Zp)
 | []=>(0,[])
 | p :: r=>if (aW ts data p).1≠0 then ((aW ts data p).1,[]) else ((eH ts data r).1,(aW ts data p).2 :: (eH ts data r).2)
end
def jG (B:Nat) (W:World) (a:Option Addr) (l:List (List Int)):Prop:=l = []∨∃ (b off:Nat) (ai:Nat→Option Addr) (ci:Nat→Nat),a=some ⟨b,off,none⟩∧b<B∧∀ (i:Nat) (h:i<l.length),W.cell? ⟨b,off+i,none⟩=some (.slice (ai i) l[i].length (ci i))∧bf B W (ai i) l[i]
theorem jG.next {B B':Nat} {W w1:World} {a:Option Addr} {l:List (List Int)} (h:jG B W a l) (hb:Below B' W w1) (hB:B≤B'):jG B w1 a l:=by
 rcases h with h | ⟨b,off,ai,ci,e,hlt,h⟩
 ·exact .inl h
 ·exact .inr ⟨b,off,ai,ci,e,hlt,fun i hi=>⟨(hb.cell (p:=⟨b,_,none⟩) (My hlt hB)).trans (h i hi).1,(h i hi).2.next hb hB⟩⟩
theorem jG.up {B B':Nat} {W:World} {a:Option Addr} {l:List (List Int)} (h:jG B W a l) (hB:B≤B'):jG B' W a l:=by
 rcases h with h | ⟨b,off,ai,ci,e,hlt,h⟩
 ·exact .inl h
 ·exact .inr ⟨b,off,ai,ci,e,My hlt hB,fun i hi=>⟨(h i hi).1,(h i hi).2.up hB⟩⟩
theorem jG.elem {B:Nat} {W:World} {a:Option Addr} {l:List (List Int)} (h:jG B W a l) {i:Nat} (hi:i<l.length):∃ b off ai ci,a=some ⟨b,off,none⟩∧b<B∧W.cell? ⟨b,off+i,none⟩=some (.slice ai l[i].length ci)∧bf B W ai l[i]:=by
 rcases h with h | ⟨b,off,ai,ci,e,hlt,h⟩
 ·subst h; simp at hi
 ·exact ⟨b,off,ai i,ci i,e,hlt,h i hi⟩
def nN (W:World) (a:Option Addr) (l:List (List Zp)):Prop:=l = []∨∃ (b off:Nat) (ai:Nat→Option Addr) (ci:Nat→Nat),a=some ⟨b,off,none⟩∧b<W.heap.size∧∀ (i:Nat) (h:i<l.length),W.cell? ⟨b,off+i,none⟩=some (.slice (ai i) l[i].length (ci i))∧aK W (ai i) l[i]∧(ai i=none→ci i=0)
theorem nN.next {W w1:World} {a:Option Addr} {l:List (List Zp)} (h:nN W a l) (hb:Below W W w1):nN w1 a l:=by
 rcases h with h | ⟨b,off,ai,ci,e,hlt,h⟩
 ·exact .inl h
 ·exact .inr ⟨b,off,ai,ci,e,My hlt hb.size,fun i hi=>⟨(hb.cell (p:=⟨b,_,none⟩) hlt).trans (h i hi).1,(h i hi).2.1.next hb,(h i hi).2.2⟩⟩
theorem nN.elem {W:World} {a:Option Addr} {l:List (List Zp)} (h:nN W a l) {i:Nat} (hi:i<l.length):∃ b off ai ci,a=some ⟨b,off,none⟩∧b<W.heap.size∧W.cell? ⟨b,off+i,none⟩=some (.slice ai l[i].length ci)∧aK W ai l[i]∧(ai=none→ci=0):=by
 rcases h with h | ⟨b,off,ai,ci,e,hlt,h⟩
 ·subst h; simp at hi
 ·exact ⟨b,off,ai i,ci i,e,hlt,h i hi⟩
structure Kept (B lo:Nat) (W w1:World):Prop where
 low:Below B W w1
 high:∀ k,k<W.heap.size→lo≤k→w1.heap[k]? = W.heap[k]?
theorem Kept.of {B lo:Nat} {W w1:World} (h:Below W W w1) (hB:B≤W.heap.size):Kept B lo W w1:=⟨h.mono hB,fun k hk _=>h.block k hk⟩
theorem Kept.Mn {B lo t:Nat} {W w1:World} (h:aw t W w1) (hB:B≤t) (ht:t<lo):Kept B lo W w1:=⟨h.below hB,fun k hk hl=>h.2 k hk ag⟩
theorem Kept.set {B lo:Nat} {W w1:World} (h:Kept B lo W w1) (g o:Nat) (u:Value) (hB:B≤g) (hg:g<lo):Kept B lo W (w1.setCell (ah g o) u) :=
 ⟨h.low.setCell (p:=ah g o) hB u,fun k hk hl=>by
  have h1:=((aw.refl g w1).set o u).2 k (My hk h.low.size) ag
  rw [h1,h.high k hk hl]⟩
theorem Kept.refl (B lo:Nat) (W:World):Kept B lo W W:=⟨Mz _ _,fun _ _ _=>rfl⟩
theorem Kept.cell {B lo:Nat} {W w1:World} (h:Kept B lo W w1) {b o:Nat} (hb:b<W.heap.size) (hz:b<B∨lo≤b):w1.cell? (ah b o)=W.cell? (ah b o):=by
 rcases hz with hz | hz
 ·exact h.low.cell (p:=ah b o) hz
 ·exact MP (w:=W) (a:=ah b o) (h.high b hb hz)
def jZ (B lo:Nat) (W:World) (a:Option Addr) (l:List Int):Prop:=l.length≤maxLen∧(l = []∨∃ b off,a=some ⟨b,off,none⟩∧b<W.heap.size∧(b<B∨lo≤b)∧∀ (i:Nat) (h:i<l.length),W.cell? ⟨b,off+i,none⟩=some (.int .i64 l[i]))
theorem jZ.next {B lo:Nat} {W w1:World} {a:Option Addr} {l:List Int} (h:jZ B lo W a l) (hb:Kept B lo W w1):jZ B lo w1 a l:=by
 obtain ⟨h0,h | ⟨b,off,e,hlt,hn,h⟩⟩:=h
 ·exact ⟨h0,.inl h⟩
 ·exact ⟨h0,.inr ⟨b,off,e,My hlt hb.low.size,hn,fun i hi=>(hb.cell hlt hn).trans (h i hi)⟩⟩
theorem jZ.wide {B lo lo':Nat} {W:World} {a:Option Addr} {l:List Int} (h:jZ B lo W a l) (hl:lo'≤lo):jZ B lo' W a l:=by
 obtain ⟨h0,h | ⟨b,off,e,hlt,hn,h⟩⟩:=h
 ·exact ⟨h0,.inl h⟩
 ·exact ⟨h0,.inr ⟨b,off,e,hlt,by omega,h⟩⟩
theorem jZ.at {B lo:Nat} {W:World} {a:Option Addr} {l:List Int} (h:jZ B lo W a l):bf W W a l:=by
 obtain ⟨h0,h | ⟨b,off,e,hlt,hn,h⟩⟩:=h
 ·exact ⟨h0,.inl h⟩
 ·exact ⟨h0,.inr ⟨b,off,e,hlt,h⟩⟩
theorem bf.t {B lo:Nat} {W:World} {a:Option Addr} {l:List Int} (h:bf B W a l) (hB:B≤W.heap.size):jZ B lo W a l:=by
 obtain ⟨h0,h | ⟨b,off,e,hlt,h⟩⟩:=h
 ·exact ⟨h0,.inl h⟩
 ·exact ⟨h0,.inr ⟨b,off,e,by omega,.inl hlt,h⟩⟩
inductive rS (ts:List (List Int)) (B lo:Nat) (W:World):Option Addr→List Pl→Prop
 | nil (a:Option Addr):rS ts B lo W a []
 | some (b off:Nat) (l:List Pl) (q:Nat→Pw) (ca:Nat→Option Addr) (cc:Nat→Nat) (na:Nat→Option Addr) (nc:Nat→Nat) (hb:b<W.heap.size) (hn:lo≤b)
   (hc:∀ (i:Nat) (h:i<l.length),ft W b (off+i*13) l[i] (q i))
   (h11:∀ (i:Nat) (h:i<l.length),W.cell? ⟨b,off+i*13+11,none⟩=some (.slice (ca i) (aA ts l[i]).length (cc i)))
   (h12:∀ (i:Nat) (h:i<l.length),W.cell? ⟨b,off+i*13+12,none⟩=some (.slice (na i) l[i].ks.length (nc i)))
   (hp:∀ (i:Nat) (h:i<l.length),kH B W l[i] (q i))
   (hcol:∀ (i:Nat) (h:i<l.length),jZ B lo W (ca i) (aA ts l[i]))
   (hk:∀ (i:Nat) (h:i<l.length),rS ts B lo W (na i) l[i].ks):rS ts B lo W (some (ah b off)) l
theorem ft.kept {B lo:Nat} {W w1:World} {b off:Nat} {p:Pl} {q:Pw} (h:ft W b off p q) (hb:Kept B lo W w1) (hB:b<W.heap.size) (hn:b<B∨lo≤b):ft w1 b off p q :=
 ⟨(hb.cell hB hn).trans h.c0,(hb.cell hB hn).trans h.c1,⟨(hb.cell hB hn).trans h.tX.c0,(hb.cell hB hn).trans h.tX.c1,(hb.cell hB hn).trans h.tX.c2,(hb.cell hB hn).trans h.tX.c3,(hb.cell hB hn).trans h.tX.c4,(hb.cell hB hn).trans h.tX.c5⟩,(hb.cell hB hn).trans h.c8,(hb.cell hB hn).trans h.c9,(hb.cell hB hn).trans h.Bm⟩
theorem rS.next {ts:List (List Int)} {B lo:Nat} {W w1:World} (hb:Kept B lo W w1) {a:Option Addr} {l:List Pl} (h:rS ts B lo W a l):rS ts B lo w1 a l:=by
 induction h with
 | nil a=>exact .nil a
 | some b off l q ca cc na nc hlt hn hc h11 h12 hp hcol _ ih =>
  exact .some b off l q ca cc na nc (My hlt hb.low.size) hn (fun i hi=>(hc i hi).kept hb hlt (.inr hn)) (fun i hi=>(hb.cell hlt (.inr hn)).trans (h11 i hi)) (fun i hi=>(hb.cell hlt (.inr hn)).trans (h12 i hi)) (fun i hi=>(hp i hi).next hb.low (Mx _)) (fun i hi=>(hcol i hi).next hb) ih
theorem rS.wide {ts:List (List Int)} {B lo lo':Nat} {W:World} (hl:lo'≤lo) {a:Option Addr} {l:List Pl} (h:rS ts B lo W a l):rS ts B lo' W a l:=by
 induction h with
 | nil a=>exact .nil a
 | some b off l q ca cc na nc hlt hn hc h11 h12 hp hcol _ ih=>exact .some b off l q ca cc na nc hlt (MO hl hn) hc h11 h12 hp (fun i hi=>(hcol i hi).wide hl) ih
structure EM (ts:List (List Int)) (B lo:Nat) (W:World) (p:Pl) (q:Pw) (ca na:Option Addr):Prop where
 pl:kH B W p q
 cols:jZ B lo W ca (aA ts p)
 kids:rS ts B lo W na p.ks
theorem EM.next {ts:List (List Int)} {B lo:Nat} {W w1:World} {p:Pl} {q:Pw} {ca na:Option Addr} (h:EM ts B lo W p q ca na) (hb:Kept B lo W w1):EM ts B lo w1 p q ca na:=⟨h.pl.next hb.low (Mx _),h.cols.next hb,rS.next hb h.kids⟩
theorem EM.wide {ts:List (List Int)} {B lo lo':Nat} {W:World} {p:Pl} {q:Pw} {ca na:Option Addr} (h:EM ts B lo W p q ca na) (hl:lo'≤lo):EM ts B lo' W p q ca na:=⟨h.pl,h.cols.wide hl,rS.wide hl h.kids⟩
theorem rS.elem {ts:List (List Int)} {B lo:Nat} {W:World} {a:Option Addr} {l:List Pl} (h:rS ts B lo W a l) {i:Nat} (hi:i<l.length):∃ b off q ca cc na nc,a=Option.some ⟨b,off,none⟩∧b<W.heap.size∧lo≤b∧ft W b (off+i*13) l[i] q∧W.cell? ⟨b,off+i*13+11,none⟩=Option.some (.slice ca (aA ts l[i]).length cc)∧W.cell? ⟨b,off+i*13+12,none⟩=Option.some (.slice na l[i].ks.length nc)∧EM ts B lo W l[i] q ca na:=by
 cases h with
 | nil=>simp at hi
 | some b off l q ca cc na nc hlt hn hc h11 h12 hp hcol hk=>exact ⟨b,off,q i,ca i,cc i,na i,nc i,rfl,hlt,hn,hc i hi,h11 i hi,h12 i hi,⟨hp i hi,hcol i hi,hk i hi⟩⟩
def fw (p:Pl) (q:Pw):Value:=.agg (fE p q)
def vJ (p:Pl) (q:Pw) (ca:Option Addr) (n cc:Nat) (na:Option Addr) (nc:Nat):Value:=.agg (xB p q ca n cc na p.ks.length nc)
def zV:Value:=.agg #[aD,aD,aD,aD,aD,(),aD,bX,bX,bX,bX,bX,bX]
theorem ft.new (w:World) (p:Pl) (q:Pw) (T:TypeId):ft (w.alloc (.cells (fE p q) T)) w 0 p q:=by
 have h:=bq w (fE p q) T;exact ⟨cell_of (i:=0) h rfl,cell_of (i:=1) h rfl,⟨cell_of (i:=2) h rfl,cell_of (i:=3) h rfl,cell_of (i:=4) h rfl,cell_of (i:=5) h rfl,cell_of (i:=6) h rfl,cell_of (i:=7) h rfl⟩,cell_of (i:=8) h rfl,cell_of (i:=9) h rfl,cell_of (i:=10) h rfl⟩
open Go.Lib Go.Shelf _root_.Go.Proofs.Tryz
theorem wy {n:Nat} (h:n≤8) (w:World):(Instr.makeSlice 33 n n).run prog w = .ok (.slice (some (ah w 0)) n n) (w.alloc (.cells (Array.replicate n aD) 3)):=by
 obtain rfl | rfl | rfl | rfl | rfl | rfl | rfl | rfl | rfl:n=0∨n=1∨n=2∨n=3∨n=4∨n=5∨n=6∨n=7∨n=8:=by omega
 all_goals kernel_rfl
theorem A6 (k:Int) (w:World):Calls prog 119 #[k] w fun e w'=>e = .returned (.int .i64 (fk k))∧Below w w w':=by
 have hc:k=1∨k=4∨k=5∨k=6∨k=7∨k=8∨k=9∨(¬ k=1∧¬ (4≤k∧k≤9)):=by omega
 rcases hc with rfl | rfl | rfl | rfl | rfl | rfl | rfl | ⟨h1,h2⟩
 all_goals try (
  go_enter func119,ntmps119;go_wp2_with fail
  go_ret;exact ⟨rfl,Mz _ _⟩)
 have e:fk k=1:=by unfold fk; rw [if_neg h1,if_neg h2]
 rw [e];have b1:(k == 1)=false:=by rw [beq_eq_false_iff_ne]; exact h1
 have b4:(k == 4)=false:=by rw [beq_eq_false_iff_ne]; omega
 have b5:(k == 5)=false:=by rw [beq_eq_false_iff_ne]; omega
 have b6:(k == 6)=false:=by rw [beq_eq_false_iff_ne]; omega
 have b7:(k == 7)=false:=by rw [beq_eq_false_iff_ne]; omega
 have b8:(k == 8)=false:=by rw [beq_eq_false_iff_ne]; omega
 have b9:(k == 9)=false:=by rw [beq_eq_false_iff_ne]; omega
 clear h1 h2 e;go_enter func119,ntmps119;go_wp2_with fail
 go_ret;exact ⟨rfl,Mz _ _⟩
def Lr (B:Nat) (w':World) (e:Ending) (er:Int) (C:List Int):Prop:=∃ ca cc,e = .returned (.tuple #[.slice ca (if er=0 then C else []).length cc,er])∧bf B w' ca (if er=0 then C else [])
theorem xb (ts:List (List Int)) (n:Int) (B:Nat) (a:Option Addr) (cap:Nat) (w:World) (h:jG B w a ts) :
  Calls prog 120 #[.slice a ts.length cap,n] w fun e w'=>Lr B w' e (if n<0∨ts.length≤n then 7 else 0) (ts.getD n.toNat [])∧Below w w w':=by
 by_cases h0:n<0;rw [if_pos (.inl h0)];rotate_left;by_cases h1:(ts.length:Int)≤n;rw [if_pos (.inr h1)];rotate_left;rw [if_neg ag];obtain ⟨j,rfl⟩:∃ j:Nat,n=j:=⟨n.toNat,by omega⟩
 have hj:j<ts.length:=by omega
 obtain ⟨b,off,ai,ci,rfl,hb,c0,hi⟩:=h.elem hj;have hj0:(0:Int)≤(j:Int):=by omega
 have hjl:(j:Int)<(ts.length:Int):=by omega
 have e:ts.getD (j:Int).toNat []=ts[j]:=by simp [hj]
 rw [e];clear e;go_enter func120,ntmps120;go_wp2_with fail
 exact bJ rfl rfl ⟨⟨ai,ci,rfl,hi⟩,Mz _ _⟩
 all_goals
  go_enter func120,ntmps120;go_wp2_with fail
  exact bJ rfl rfl ⟨⟨none,0,rfl,⟨MD _,.inl rfl⟩⟩,Mz _ _⟩
def fb (cols:List Int):Int:=if 8<cols.length then 5 else if ∃ c ∈ cols,c<1∨4<c then 1 else 0
def jI:List (List Int)→Int
 | []=>0
 | c :: r=>if fb c≠0 then fb c else jI r
def fg (ts:List (List Int)):Int:=if 8<ts.length then 5 else jI ts
theorem uW {ts:List (List Int)} {j:Nat} (h:j<ts.length) (he:¬ fb ts[j]=0):jI (ts.drop j)=fb ts[j]:=by
 rw [MI h,jI,if_pos he]
theorem rN {ts:List (List Int)} {j:Nat} (h:j<ts.length) (he:fb ts[j]=0):jI (ts.drop j)=jI (ts.drop (j+1)):=by
 rw [MI h,jI,if_neg (by simp [he])]
theorem tM (ts:List (List Int)) (a:Option Addr) (cap:Nat) (w:World) (h:jG w w a ts) :
  Calls prog 64 #[.slice a ts.length cap] w fun e w'=>e = .returned (.int .i64 (fg ts))∧Below w w w':=by
 generalize hr:fg ts=r;have HR:=aB hr;clear hr;go_enter func64,ntmps64;by_cases h8:8<ts.length
 ·have h8z:8<(ts.length:Int):=by omega
  have e:r=5:=by rw [← HR.out]; unfold fg; rw [if_pos h8]
  subst e;go_wp2_with fail
  go_ret;exact ⟨rfl,Mz _ _⟩
 have h8z:¬ 8<(ts.length:Int):=by omega
 have HR':Hid (r=jI (ts.drop 0)):=by show _=_; rw [← HR.out]; unfold fg; rw [if_neg h8]; rfl
 clear HR;go_wp2_with fail
 go_loopw [12] (fun i wr=>∃ j:Nat,j≤ts.length∧i = .int .i64 j∧Hid (r=jI (ts.drop j))∧Below w w wr) (fun i _=>ts.length - (intOf i).toNat)
 case atStart=>exact ⟨0,MD _,rfl,HR',Mz _ _⟩
 case round =>
  obtain ⟨j,hj,rfl,HT,hb⟩:=hrel;by_cases hlt:j<ts.length
  ·obtain ⟨b,off,ai,ci,rfl,hbl,c0,hi⟩:=(h.next hb (Mx _)).elem hlt;have hjz:(j:Int)<(ts.length:Int):=by omega
   have HBad:Hid (¬ fb ts[j]=0→r=fb ts[j]):=fun c=>HT.out.trans (uW hlt c)
   have HOk:Hid (fb ts[j]=0→r=jI (ts.drop (j+1))):=fun c=>HT.out.trans (rN hlt c)
   clear HT;generalize ts[j]=cs at *;by_cases hc8:8<cs.length
   ·have hcz:8<(cs.length:Int):=by omega
    have e1:fb cs=5:=by unfold fb; rw [if_pos hc8]
    have e:r=5:=by rw [HBad.out (by rw [e1]; decide),e1]
    subst e;clear HBad HOk e1;go_wp2_with fail
    go_ret;exact ⟨rfl,hb⟩
   ·have hcz:¬ 8<(cs.length:Int):=by omega
    have HC:Hid (fb cs=if ∃ c ∈ cs,c<1∨4<c then 1 else 0):=by show _=_; unfold fb; rw [if_neg hc8]
    obtain ⟨wo,hwo⟩:∃ z,z=wr:=⟨_,rfl⟩
    subst hwo;go_upto_region 8 with fail
    clear c0;go_wp2_with fail
    go_loopw [21] (fun i wr=>∃ k:Nat,k≤cs.length∧i = .int .i64 k∧Hid (∀ c ∈ cs.take k,¬ (c<1∨4<c))∧Below wo wo wr) (fun i _=>cs.length - (intOf i).toNat)
    case atStart=>exact ⟨0,MD _,rfl,(fun c hc=>by simp at hc),Mz _ _⟩
    case round =>
     obtain ⟨k,hk,rfl,HK,hbk⟩:=hrel;have hbw:=hb.trans (hbk.mono hb.size);by_cases hkl:k<cs.length
     ·obtain ⟨b1,o1,rfl,hb1,c1⟩:=(hi.next hbk hb.size).elem hkl;have hkz:(k:Int)<(cs.length:Int):=by omega
      have HT1:=aB (MJ hkl);have HM:=aB (MC hkl);generalize cs[k]=c at *;by_cases hbad:c<1∨4<c
      ·have e1:fb cs=1:=by rw [HC.out,if_pos ⟨c,HM.out,hbad⟩]
       have e:r=1:=by rw [HBad.out (by rw [e1]; decide),e1]
       subst e;clear HBad HOk e1 HC HK;have hb2:c<1∨(¬ c<1∧4<c):=by omega
       clear hbad;rcases hb2 with g1 | ⟨g1,g2⟩
       all_goals (
        go_wp2_with fail
        go_ret;exact ⟨rfl,hbw⟩)
      ·have g1:¬ c<1:=fun e=>hbad (.inl e)
       have g2:¬ 4<c:=fun e=>hbad (.inr e)
       have HK':Hid (∀ c ∈ cs.take (k+1),¬ (c<1∨4<c)):=by
        show ∀ c ∈ _,_
        rw [HT1.out];intro c' hc';rcases List.mem_append.1 hc' with hc' | hc'
        ·exact HK.out c' hc'
        ·rw [List.mem_singleton.1 hc']; exact hbad
       clear hbad HK;go_wp2_with fail
       go_roundw
       case rel=>exact ⟨k+1,by omega,by go_num,HK',hbk⟩
       case measure=>simp [intOf]; omega
     ·have e:k=cs.length:=by omega
      subst e;rw [MM] at HK;have e1:fb cs=0:=by rw [HC.out,if_neg fun ⟨c,hc,hh⟩=>HK.out c hc hh]
      have HT':=aB (HOk.out e1);clear HBad HOk e1 HC HK;go_wp2_with fail
      go_roundw
      case rel=>exact ⟨j+1,by omega,by go_num,HT',hbw⟩
      case measure=>simp [intOf]; omega
  ·have e:j=ts.length:=by omega
   have e1:r=0:=by rw [HT.out,M7 ag]; rfl
   subst e1;have hjz:¬ (j:Int)<(ts.length:Int):=by omega
   clear HT;go_wp2_with fail
   go_ret;exact ⟨rfl,hb⟩
theorem vg (cols:List Int) {xs:List Ex} {j:Nat} (h:j<xs.length):gf cols (xs.take (j+1))=gf cols (xs.take j) ++ [(ax cols xs[j]).1]:=by
 unfold gf;rw [MJ h,Nc];rfl
theorem iR (cols:List Int) (xs:List Ex):(gf cols xs).length=xs.length:=by unfold gf; rw [Nt]
theorem dC.nx {W w1:World} {g:Nat} {l:List Int} (h:dC W g l) (hb:Below W W w1):dC w1 g l :=
 ⟨My h.lt hb.size,fun i hi=>(hb.cell (p:=ah g i) h.lt).trans (h.c i hi),fun i=>(hb.frozen (p:=ah g i) h.lt).trans (h.f i)⟩
theorem rW {W:World} {g n j:Nat} {ts:List Int} (h:dC W g (ts ++ List.replicate (n - j) 0)) (hl:ts.length=j) (hj:j<n):W.cell? ⟨g,j,none⟩=some (.int .i64 0)∧W.frozen? ⟨g,j,none⟩=false∧∀ u,dC (W.setCell ⟨g,j,none⟩ (.int .i64 u)) g ((ts ++ [u]) ++ List.replicate (n - (j+1)) 0):=by
 have hlen:j<(ts ++ List.replicate (n - j) 0).length:=by simp; omega
 refine ⟨?_,h.f j,fun u=>?_⟩
 ·rw [h.c j hlen]
  congr 2
  rw [Nx ag];simp
 ·have:=h.set j hlen u;rw [CF ts n j u hl hj] at this;exact this
theorem tT (cols:List Int) (xs:List Ex) (ca:Option Addr) (ccap:Nat) (xa:Option Addr) (xcap:Nat) (w:World) (hc:bf w w ca cols) (hx:aU w w xa xs) (h8:xs.length≤8) :
  Calls prog 161 #[.slice ca cols.length ccap,.slice xa xs.length xcap] w fun e w'=>e = .returned (.slice (some (ah w 0)) xs.length xs.length)∧dC w' w (gf cols xs)∧Below w w w':=by
 have hmk:=wy h8;have O0:=dC.new w xs.length 3;have hal0:=aN w (.cells (Array.replicate xs.length aD) 3);go_enter func161,ntmps161;go_wp2_with fail
 generalize w.alloc (.cells (Array.replicate xs.length aD) 3)=w1 at *;clear hmk;go_loopw [13] (fun i wr=>∃ j:Nat,j≤xs.length∧i = .int .i64 j∧dC wr w (gf cols (xs.take j) ++ List.replicate (xs.length - j) 0)∧Below w w wr) (fun i _=>xs.length - (intOf i).toNat)
 case atStart=>exact ⟨0,MD _,rfl,by simpa [gf] using O0,hal0⟩
 case round =>
  obtain ⟨j,hj,rfl,hO,hb⟩:=hrel;have hz:=hb.size;by_cases hlt:j<xs.length
  ·obtain ⟨b,off,ai,ci,rfl,hbl,sx,kx⟩:=(aU.next hb (Mx _) hx).elem hlt;obtain ⟨x0,x1,x2,x3,x4,x5⟩:=sx;have hjz:(j:Int)<(xs.length:Int):=by omega
   have hal:=aN wr (.cells #[.int .i64 xs[j].k,.int .i64 xs[j].v.1,.int .i64 xs[j].v.2.1,.string xs[j].v.2.2,.int .i64 xs[j].c,.slice ai xs[j].ks.length ci] 27);have hA:=chain hb hal;have con:=rB cols xs[j] ca ccap ai ci _ ((aU.next hal hz kx).up (MO hz hal.size)) ((hc.next hA (Mx _)).up hA.size);have HT:Hid (gf cols (xs.take (j+1))=gf cols (xs.take j) ++ [(ax cols xs[j]).1]):=vg cols hlt;have hlen:(gf cols (xs.take j)).length=j:=by rw [iR,MR]; omega
   unfold fN at con;go_wp2_with fail
   refine bC con fun w5 hb5=>?_;clear con x0 x1 x2 x3 x4 x5 kx;have hb5':=chain hal hb5;obtain ⟨cc,ff,hset⟩:=rW (hO.nx hb5') hlen hlt;have hA5:=chain hb hb5';have O6:=hset (ax cols xs[j]).1;have hA6:=hA5.setCell (p:=ah w j) (Mx _) (.int .i64 (ax cols xs[j]).1);rw [← HT.out] at O6;clear hset hO hlen;dsimp only;go_wp2
   go_roundw
   case rel=>exact ⟨j+1,by omega,by go_num,O6,hA6⟩
   case measure=>simp [intOf]; omega
  ·have e:j=xs.length:=by omega
   subst e;rw [MM,Nat.sub_self,List.replicate_zero,M8] at hO;go_wp2
   go_ret;exact ⟨rfl,hO,hb⟩
def dO (cols:List Int) (gs:List Ag):List Int:=gs.map (wP cols)
theorem sS (cols:List Int) {gs:List Ag} {j:Nat} (h:j<gs.length):dO cols (gs.take (j+1))=dO cols (gs.take j) ++ [wP cols gs[j]]:=by
 unfold dO;rw [MJ h,Nc];rfl
theorem pM (cols:List Int) (gs:List Ag):(dO cols gs).length=gs.length:=by unfold dO; rw [Nt]
theorem yd (cols:List Int) (gs:List Ag) (ca:Option Addr) (ccap:Nat) (xa:Option Addr) (xcap:Nat) (w:World) (hc:bf w w ca cols) (hx:iO w w xa gs) (h8:gs.length≤8) :
  Calls prog 163 #[.slice ca cols.length ccap,.slice xa gs.length xcap] w fun e w'=>e = .returned (.slice (some (ah w 0)) gs.length gs.length)∧dC w' w (dO cols gs)∧Below w w w':=by
 have hmk:=wy h8;have O0:=dC.new w gs.length 3;have hal0:=aN w (.cells (Array.replicate gs.length aD) 3);go_enter func163,ntmps163;go_wp2_with fail
 generalize w.alloc (.cells (Array.replicate gs.length aD) 3)=w1 at *;clear hmk;go_loopw [13] (fun i wr=>∃ j:Nat,j≤gs.length∧i = .int .i64 j∧dC wr w (dO cols (gs.take j) ++ List.replicate (gs.length - j) 0)∧Below w w wr) (fun i _=>gs.length - (intOf i).toNat)
 case atStart=>exact ⟨0,MD _,rfl,by simpa [dO] using O0,hal0⟩
 case round =>
  obtain ⟨j,hj,rfl,hO,hb⟩:=hrel;have hz:=hb.size;by_cases hlt:j<gs.length
  ·obtain ⟨b,off,ai,ci,rfl,hbl,x0,sx,kx⟩:=(iO.next hb (Mx _) hx).elem hlt;obtain ⟨x1,x2,x3,x4,x5,x6⟩:=sx;have hjz:(j:Int)<(gs.length:Int):=by omega
   have hal:=aN wr (.cells #[.int .i64 gs[j].1,.int .i64 gs[j].2.k,.int .i64 gs[j].2.v.1,.int .i64 gs[j].2.v.2.1,.string gs[j].2.v.2.2,.int .i64 gs[j].2.c,.slice ai gs[j].2.ks.length ci] 123);have q0:=bq wr #[.int .i64 gs[j].1,.int .i64 gs[j].2.k,.int .i64 gs[j].2.v.1,.int .i64 gs[j].2.v.2.1,.string gs[j].2.v.2.2,.int .i64 gs[j].2.c,.slice ai gs[j].2.ks.length ci] 123;have HT:Hid (dO cols (gs.take (j+1))=dO cols (gs.take j) ++ [wP cols gs[j]]):=sS cols hlt
   have hlen:(dO cols (gs.take j)).length=j:=by rw [pM,MR]; omega
   have zn:w.heap.size≠wr.heap.size:=Nat.ne_of_lt hO.lt;obtain ⟨cc,ff,hset⟩:=rW (hO.nx hal) hlen hlt;have O1:=hset 3;have hS:Below w.heap.size wr ((wr.alloc (.cells #[.int .i64 gs[j].1,.int .i64 gs[j].2.k,.int .i64 gs[j].2.v.1,.int .i64 gs[j].2.v.2.1,.string gs[j].2.v.2.2,.int .i64 gs[j].2.c,.slice ai gs[j].2.ks.length ci] 123)).setCell ⟨w.heap.size,j,none⟩ (.int .i64 3)):=(hal.mono hz).setCell (p:=⟨w.heap.size,j,none⟩) (Mx _) _;have kk:=aU.next hS (Mx _) kx;clear hset hO kx;go_upto_region 6 with fail
   clear x0 x1 x2 x3 x4 x5 x6 cc ff;have p0:((wr.alloc (.cells #[.int .i64 gs[j].1,.int .i64 gs[j].2.k,.int .i64 gs[j].2.v.1,.int .i64 gs[j].2.v.2.1,.string gs[j].2.v.2.2,.int .i64 gs[j].2.c,.slice ai gs[j].2.ks.length ci] 123)).setCell (ah w j) (3:Int)).cell? (ah wr 0)=some (.int .i64 gs[j].1):=(dR zn).trans (cell_of (i:=0) q0 rfl)
   have p1:((wr.alloc (.cells #[.int .i64 gs[j].1,.int .i64 gs[j].2.k,.int .i64 gs[j].2.v.1,.int .i64 gs[j].2.v.2.1,.string gs[j].2.v.2.2,.int .i64 gs[j].2.c,.slice ai gs[j].2.ks.length ci] 123)).setCell (ah w j) (3:Int)).cell? (ah wr 1)=some (.int .i64 gs[j].2.k):=(dR zn).trans (cell_of (i:=1) q0 rfl)
   have p2:((wr.alloc (.cells #[.int .i64 gs[j].1,.int .i64 gs[j].2.k,.int .i64 gs[j].2.v.1,.int .i64 gs[j].2.v.2.1,.string gs[j].2.v.2.2,.int .i64 gs[j].2.c,.slice ai gs[j].2.ks.length ci] 123)).setCell (ah w j) (3:Int)).cell? (ah wr 2)=some (.int .i64 gs[j].2.v.1):=(dR zn).trans (cell_of (i:=2) q0 rfl)
   have p3:((wr.alloc (.cells #[.int .i64 gs[j].1,.int .i64 gs[j].2.k,.int .i64 gs[j].2.v.1,.int .i64 gs[j].2.v.2.1,.string gs[j].2.v.2.2,.int .i64 gs[j].2.c,.slice ai gs[j].2.ks.length ci] 123)).setCell (ah w j) (3:Int)).cell? (ah wr 3)=some (.int .i64 gs[j].2.v.2.1):=(dR zn).trans (cell_of (i:=3) q0 rfl)
   have p4:((wr.alloc (.cells #[.int .i64 gs[j].1,.int .i64 gs[j].2.k,.int .i64 gs[j].2.v.1,.int .i64 gs[j].2.v.2.1,.string gs[j].2.v.2.2,.int .i64 gs[j].2.c,.slice ai gs[j].2.ks.length ci] 123)).setCell (ah w j) (3:Int)).cell? (ah wr 4)=some (.string gs[j].2.v.2.2):=(dR zn).trans (cell_of (i:=4) q0 rfl)
   have p5:((wr.alloc (.cells #[.int .i64 gs[j].1,.int .i64 gs[j].2.k,.int .i64 gs[j].2.v.1,.int .i64 gs[j].2.v.2.1,.string gs[j].2.v.2.2,.int .i64 gs[j].2.c,.slice ai gs[j].2.ks.length ci] 123)).setCell (ah w j) (3:Int)).cell? (ah wr 5)=some (.int .i64 gs[j].2.c):=(dR zn).trans (cell_of (i:=5) q0 rfl)
   have p6:((wr.alloc (.cells #[.int .i64 gs[j].1,.int .i64 gs[j].2.k,.int .i64 gs[j].2.v.1,.int .i64 gs[j].2.v.2.1,.string gs[j].2.v.2.2,.int .i64 gs[j].2.c,.slice ai gs[j].2.ks.length ci] 123)).setCell (ah w j) (3:Int)).cell? (ah wr 6)=some (.slice ai gs[j].2.ks.length ci):=(dR zn).trans (cell_of (i:=6) q0 rfl);generalize (wr.alloc (.cells #[.int .i64 gs[j].1,.int .i64 gs[j].2.k,.int .i64 gs[j].2.v.1,.int .i64 gs[j].2.v.2.1,.string gs[j].2.v.2.2,.int .i64 gs[j].2.c,.slice ai gs[j].2.ks.length ci] 123)).setCell (ah w j) (3:Int)=wk at *
   clear q0 hal;have hA:=hb.trans hS;have hzk:=hS.size;by_cases hk:gs[j].1=4∨gs[j].1=5
   ·have HT':Hid (dO cols (gs.take (j+1))=dO cols (gs.take j) ++ [(ax cols gs[j].2).1]):=by show _=_; rw [HT.out]; unfold wP; rw [if_pos hk]
    have con:=rB cols gs[j].2 ca ccap ai ci wk (kk.up hA.size) ((hc.next hA (Mx _)).up hA.size);generalize (ax cols gs[j].2).1=ty at *;unfold fN at con;generalize gs[j].1=kd at *;clear HT;have hk2:kd=4∨(¬ kd=4∧kd=5):=by omega
    clear hk;rcases hk2 with rfl | ⟨hk4,rfl⟩
    all_goals (
     go_wp2_with fail
     refine bC con fun w5 hb5=>?_;clear con p0 p1 p2 p3 p4 p5 p6 kk;have O5:=O1.nx hb5;have hlen2:j<((dO cols (gs.take j) ++ [3]) ++ List.replicate (gs.length - (j+1)) 0).length:=by first | (simp [hlen]; done) | (simp [hlen]; omega)
     have cc:w5.cell? (ah w j)=some (.int .i64 3):=by
      rw [O5.c j hlen2]
      congr 2
      rw [MV (by simp [hlen])];rw [Nx ag];simp [hlen]
     have ff:=O5.f j;have O6:=O5.set j hlen2 ty;have es:((dO cols (gs.take j) ++ [3]) ++ List.replicate (gs.length - (j+1)) 0).set j ty=dO cols (gs.take (j+1)) ++ List.replicate (gs.length - (j+1)) 0:=by
      rw [HT'.out,List.set_append_left _ _ (by simp [hlen]),List.set_append_right _ _ ag];simp [hlen]
     rw [es] at O6;have hA6:=(chain hA hb5).setCell (p:=ah w j) (Mx _) ty;clear O5 es hlen2 O1 hlen;dsimp only;go_wp2_with fail
     go_roundw
     case rel=>exact ⟨j+1,by omega,by go_num,O6,hA6⟩
     case measure=>simp [intOf]; omega)
   ·have HT':Hid (dO cols (gs.take (j+1))=dO cols (gs.take j) ++ [3]):=by show _=_; rw [HT.out]; unfold wP; rw [if_neg hk]
    have k4:(gs[j].1 == 4)=false:=by rw [beq_eq_false_iff_ne]; exact fun e=>hk (.inl e)
    have k5:(gs[j].1 == 5)=false:=by rw [beq_eq_false_iff_ne]; exact fun e=>hk (.inr e)
    rw [← HT'.out] at O1;clear hk HT hlen;go_wp2_with fail
    go_roundw
    case rel=>exact ⟨j+1,by omega,by go_num,O1,hA⟩
    case measure=>simp [intOf]; omega
  ·have e:j=gs.length:=by omega
   subst e;rw [MM,Nat.sub_self,List.replicate_zero,M8] at hO;go_wp2_with fail
   go_ret;exact ⟨rfl,hO,hb⟩
theorem vf {l r:List Int} {j:Nat} (h:j<l.length) (h':j<r.length) (he:¬ (cN l[j] r[j]).2=0):jB (l.drop j) (r.drop j)=(cN l[j] r[j]).2:=by
 rw [MI h,MI h',jB,if_pos he]
theorem nU {l r:List Int} {j:Nat} (h:j<l.length) (h':j<r.length) (he:(cN l[j] r[j]).2=0):jB (l.drop j) (r.drop j)=jB (l.drop (j+1)) (r.drop (j+1)):=by
 rw [MI h,MI h',jB,if_neg (by simp [he])]
theorem uQ {l r:List Int} {j:Nat} (h:l.length≤j):jB (l.drop j) (r.drop j)=0:=by
 rw [M7 h,jB];intro a l b r h; cases h
theorem lI:∀ {l r:List Int} {j:Nat} (h:j<l.length) (h':j<r.length),cU (l.take (j+1)) (r.take (j+1))=cU (l.take j) (r.take j) ++ [(cN l[j] r[j]).1]
 | a :: l,b :: r,0,_,_=>by simp [cU]
 | a :: l,b :: r,j+1,h,h'=>by
  have:=lI (l:=l) (r:=r) (j:=j) (by simpa using h) (by simpa using h')
  simp only [List.take_succ_cons,cU,NJ,Nu] at this ⊢
  rw [this]
theorem gA:∀ {l r:List Int},l.length=r.length→(cU l r).length=l.length
 | [],[],_=>rfl
 | a :: l,b :: r,h=>by rw [cU,Ng,gA (by simpa using h),Ng]
theorem vY (l r:List Int) (la:Option Addr) (lc:Nat) (ra:Option Addr) (rc:Nat) (w:World) (hl:bf w w la l) (hr:bf w w ra r) (h8:l.length≤8) :
  Calls prog 164 #[.slice la l.length lc,.slice ra r.length rc] w fun e w'=>∃ v,e = .returned (.tuple #[v,.int .i64 (jr l r)])∧(jr l r=0→v = .slice (some (ah w 0)) l.length l.length∧dC w' w (cU l r))∧(¬ jr l r=0→v = .slice none 0 0)∧Below w w w':=by
 have hmk:=wy h8;have O0:=dC.new w l.length 3;have hal0:=aN w (.cells (Array.replicate l.length aD) 3);generalize he:jr l r=er;have HE:Hid (jr l r=er):=he;clear he;go_enter func164,ntmps164;by_cases hlr:l.length=r.length;rotate_left
 ·have hne:((l.length:Int) != (r.length:Int))=true:=by simp; omega
  have e:er=8:=by rw [← HE.out]; unfold jr; rw [if_pos hlr]
  subst e;clear hmk O0 hal0 HE;go_wp2_with fail
  exact MA (v:=.tuple #[bX,(8:Int)]) (by simp [results,results164,go_sem]) rfl ⟨_,rfl,fun c=>by omega,fun _=>rfl,Mz _ _⟩
 have hne:((l.length:Int) != (r.length:Int))=false:=by simp; omega
 have HE':Hid (er=jB (l.drop 0) (r.drop 0)):=by show _=_; rw [← HE.out]; unfold jr; rw [if_neg (by simpa using hlr)]; rfl
 have HL:Hid (l.length=r.length):=hlr;have hl1:l.length≤r.length:=by omega
 have hl2:r.length≤l.length:=by omega
 clear HE hlr;go_wp2_with fail
 generalize w.alloc (.cells (Array.replicate l.length aD) 3)=w1 at *;clear hmk hne;go_loopw [20] (fun i wr=>∃ j:Nat,j≤l.length∧i = .int .i64 j∧Hid (er=jB (l.drop j) (r.drop j))∧dC wr w (cU (l.take j) (r.take j) ++ List.replicate (l.length - j) 0)∧Below w w wr) (fun i _=>l.length - (intOf i).toNat)
 case atStart=>exact ⟨0,MD _,rfl,HE',by simpa [cU] using O0,hal0⟩
 case round =>
  obtain ⟨j,hj,rfl,HT,hO,hb⟩:=hrel;by_cases hlt:j<l.length
  ·have hlr:j<r.length:=by omega
   obtain ⟨b1,o1,rfl,hb1,c1⟩:=(hl.next hb (Mx _)).elem hlt;obtain ⟨b2,o2,rfl,hb2,c2⟩:=(hr.next hb (Mx _)).elem hlr;have hjz:(j:Int)<(l.length:Int):=by omega
   have hjr:(j:Int)<(r.length:Int):=by omega
   have hj0:(0:Int)≤(j:Int):=by omega
   have HBad:Hid (¬ (cN l[j] r[j]).2=0→er=(cN l[j] r[j]).2):=fun c=>HT.out.trans (vf hlt hlr c)
   have HOk:Hid ((cN l[j] r[j]).2=0→er=jB (l.drop (j+1)) (r.drop (j+1))):=fun c=>HT.out.trans (nU hlt hlr c)
   have HTl:Hid (cU (l.take (j+1)) (r.take (j+1))=cU (l.take j) (r.take j) ++ [(cN l[j] r[j]).1]):=lI hlt hlr;have hlen:(cU (l.take j) (r.take j)).length=j:=by rw [gA (by rw [MR,MR]; omega),MR]; omega
   clear HT;have con:=di l[j] r[j];generalize cN l[j] r[j]=tg at *;generalize l[j]=lj at *;generalize r[j]=rj at *;have p1:=ak c1;have p2:=ak c2;haveI:Nonempty (cF wr):=⟨⟨_,Mz _ _⟩⟩
   go_wp2_with fail
   refine aq aG aG ?_
   repeat (go_big_quiet_step (first | (go_at_call 194; exact cG (con _))))
   refine wpQuiet_nil ?_;rintro w5 ⟨⟨v5,hb5⟩,h5⟩;obtain rfl:w5=v5:=h5;clear p1 p2 this c1 c2 con;by_cases h0:tg.2=0
   ·have HT':Hid (er=jB (l.drop (j+1)) (r.drop (j+1))):=HOk.out h0;have h0b:(tg.2 != 0)=false:=by simp [h0]
    obtain ⟨cc,ff,hset⟩:=rW (hO.nx hb5) hlen hlt;have O6:=hset tg.1;have hA6:=(chain hb hb5).setCell (p:=ah w j) (Mx _) tg.1;rw [← HTl.out] at O6;clear HBad HOk h0 hset hO hlen HTl;go_wp2_with fail
    go_roundw
    case rel=>exact ⟨j+1,by omega,by go_num,HT',O6,hA6⟩
    case measure=>simp [intOf]; omega
   ·have e:er=tg.2:=HBad.out h0;have h0b:(tg.2 != 0)=true:=by simpa using h0
    clear HBad HOk HTl hO hlen;go_wp2_with fail
    exact MA (v:=.tuple #[bX,tg.2]) (by simp [results,results164,go_sem]) rfl ⟨_,by rw [e],fun c=>absurd (e ▸ c) h0,fun _=>rfl,chain hb hb5⟩
  ·have e:j=l.length:=by omega
   have er0:er=0:=by rw [HT.out,uQ ag]
   subst e;rw [MM,Nat.sub_self,List.replicate_zero,M8,HL.out,MM] at hO;subst er0;clear HT;go_wp2_with fail
   first
    | exact MA (v:=.tuple #[.slice (some (ah w 0)) l.length l.length,aD]) (by simp [results,results164,go_sem]) rfl ⟨_,rfl,⟨rfl,hO⟩,hb⟩
    | exact MA (v:=.tuple #[.slice (some (ah w 0)) l.length l.length,aD]) (by simp [results,results164,go_sem]) rfl ⟨_,rfl,fun _=>⟨rfl,hO⟩,fun c=>absurd rfl c,hb⟩
end Go.Proofs.YtoefpglknaiaeaaGreat
namespace Go.Proofs.YtoefpglknaiaeaaGreat
open Go.RowKit Go.Lib Go.Shelf _root_.Go.Proofs.Tryz
def C1 (lo:Nat) (u:Value) (T:List Wp→Vl) (w:World):Prop :=
 ∃ g cb,u = .func (.func g) #[] cb∧(∀ args w,(callFunc g args).run prog w = .ok (.enter g args) w) ∧
  ∀ (l:List Wp) (a:Option Addr) (cap:Nat) (W:World),JV l→0<l.length→kV W a l→aI lo w W →
   Calls prog g (#[.slice a l.length cap] ++ cb) W fun e w'=>e = .returned (dV (T l))∧Below W W w'
theorem C1.next {lo:Nat} {u:Value} {T:List Wp→Vl} {w w1:World} (h:C1 lo u T w) (hb:aI lo w w1):C1 lo u T w1:=by
 obtain ⟨g,cb,e,eg,hd⟩:=h;exact ⟨g,cb,e,eg,fun l a cap W hk h0 hs hW=>hd l a cap W hk h0 hs (hb.trans hW)⟩
def kA (T:List Wp→Vl) (l:List Wp):Vl:=if l.length=0 then (1,0,⟨#[]⟩) else T l
theorem Ap (lo:Nat) (ut:Value) (T:List Wp→Vl) (tb:Nat) (a:Option Addr) (cap:Nat) (l:List Wp) (W:World) (c0:W.cell? (ah tb 0)=some ut) (hT:C1 lo ut T W) (hk:JV l) (h:kV W a l) :
  Calls prog 239 #[.slice a l.length cap,ah tb 0] W fun e w'=>e = .returned (dV (kA T l))∧Below W W w':=by
 obtain ⟨hal,q0⟩:=iV W #[aD,aD,()] 24
 have ends:∀ w2:World,Below (W.alloc (.cells #[aD,aD,()] 24)).heap.size (W.alloc (.cells #[aD,aD,()] 24)) w2→(w2.cell? (ah W 0)=some (.int .i64 0)∧w2.cell? (ah W 1)=some (.int .i64 0)∧w2.cell? (ah W 2)=some (.string ⟨#[]⟩))∧w2.frozen? (ah W 0)=false∧w2.frozen? (ah W 1)=false∧w2.frozen? (ah W 2)=false:=fun w2 hb2=>by
  have q2:=iX hb2 q0;exact ⟨⟨cell_of (i:=0) q2 rfl,cell_of (i:=1) q2 rfl,cell_of (i:=2) q2 rfl⟩,MB w2 W 0 _ _ q2,MB w2 W 1 _ _ q2,MB w2 W 2 _ _ q2⟩
 have HEn:=aB ends;have d:=(hal.cell (p:=ah tb 0) (ML _ _ c0)).trans c0;clear ends;by_cases h0:l.length=0
 ·have e:kA T l=(1,0,⟨#[]⟩):=by unfold kA; rw [if_pos h0]
  rw [e,h0];unfold dV;clear e d hT;go_enter func239,ntmps239;go_wp2_with fail
  generalize W.alloc _=w0 at *;refine bC (eI w0) fun w2 hb2=>?_;obtain ⟨⟨d0,d1,d2⟩,f0,f1,f2⟩:=HEn.out w2 hb2;have hA2:=chain hal hb2;dsimp only;go_wp2
  exact MA (v:=.agg #[(1:Int),aD,()]) (by simp [results,results239,go_sem,d0,d1,d2]) rfl ⟨rfl,((hA2.setCell (p:=ah W 0) (Mx _) _).setCell (p:=ah W 1) (Mx _) _).setCell (p:=ah W 2) (Mx _) _⟩
 ·have e:kA T l=T l:=by unfold kA; rw [if_neg h0]
  rw [e];obtain ⟨gt,ct,rfl,egt,dt⟩:=hT;have con:=dt l a cap _ hk ag (h.next hal) (aI.of hal);have hn:¬ (l.length:Int)=0:=by omega
  have hnb:((l.length:Int) == 0)=false:=by rw [beq_eq_false_iff_ne]; exact hn
  generalize T l=res at *;unfold dV at con ⊢;clear e dt h0;go_enter func239,ntmps239;go_wp2_with fail
  generalize W.alloc _=w0 at *;go_wp2_with (go_at_fn gt; refine con.mono ?_; rintro e w2 ⟨rfl,hb2⟩; obtain ⟨⟨d0,d1,d2⟩,f0,f1,f2⟩:=HEn.out w2 hb2; have hA2:=chain hal hb2)
  exact MA (v:=.agg #[res.1,res.2.1,res.2.2]) (by simp [results,results239,go_sem,d0,d1,d2]) rfl ⟨rfl,((hA2.setCell (p:=ah W 0) (Mx _) _).setCell (p:=ah W 1) (Mx _) _).setCell (p:=ah W 2) (Mx _) _⟩
theorem ql (u:Value) (T:List Wp→Vl) (w:World) (hT:C1 w u T w) :
  Calls prog 208 #[u] w fun e w'=>∃ v,e = .returned v∧qY w v (kA T) w'∧Below w w w':=by
 have hT':=hT;obtain ⟨gt,ct,rfl,_,_⟩:=hT';obtain ⟨hal,q0⟩:=iV w #[.func (.func gt) #[] ct] 199;have fin:qY w (.func (.func 239) #[] #[ah w 0]) (kA T) (w.alloc (.cells #[.func (.func gt) #[] ct] 199)) :=
  ⟨239,_,rfl,enters_of func239 aG rfl,fun l a cap W hk hs hW=>Ap w _ T w a cap l W ((hW.cell (p:=ah w 0) (Mx _) (an q0)).trans (cell_of (i:=0) q0 rfl)) ((hT.next (aI.of hal)).next hW) hk hs⟩
 have HF:=aB fin;clear fin hT;go_enter func208,ntmps208;go_wp2
 go_ret;exact ⟨_,rfl,HF.out,hal⟩
def qG (g:Nat) (T:List Wp→Vl):Prop:=∀ (l:List Wp) (a:Option Addr) (cap:Nat) (W:World),JV l→0<l.length→kV W a l→Calls prog g #[.slice a l.length cap] W fun e w'=>e = .returned (dV (T l))∧Below W W w'
theorem qG.fn {g:Nat} {T:List Wp→Vl} (h:qG g T) (eg:∀ args w,(callFunc g args).run prog w = .ok (.enter g args) w) (lo:Nat) (w:World):C1 lo (.func (.func g) #[] #[]) T w :=
 ⟨g,#[],rfl,eg,fun l a cap W hk h0 hs _=>by simpa using h l a cap W hk h0 hs⟩
theorem CQ (h:qG 209 (eQ 3)):iK 3:=by
 intro w;have eT:kA (eQ 3)=eQ 3:=by
  funext l
  unfold kA
  split
  ·rename_i h0
   have:l = []:=MH h0;subst this;simp [eQ,CG]
  ·rfl
 have con:=ql (.func (.func 209) #[] #[]) (eQ 3) w (h.fn (enters_of func209 aG rfl) _ _);rw [eT] at con;go_enter func174,ntmps174;go_wp2_with fail
 refine con.mono ?_;rintro e w1 ⟨v,rfl,hv,hb⟩;clear con;obtain ⟨g,cb,rfl⟩:∃ g cb,v = .func (.func g) #[] cb:=by obtain ⟨g,cb,e,_⟩:=hv; exact ⟨g,cb,e⟩
 dsimp only;go_wp2
 go_ret;exact ⟨_,rfl,hv,hb⟩
theorem Du (h:qG 210 (eQ 4)):iK 4:=by
 intro w;have eT:kA (eQ 4)=eQ 4:=by
  funext l
  unfold kA
  split
  ·rename_i h0
   have:l = []:=MH h0;subst this;simp [eQ,BJ]
  ·rfl
 have con:=ql (.func (.func 210) #[] #[]) (eQ 4) w (h.fn (enters_of func210 aG rfl) _ _);rw [eT] at con;go_enter func174,ntmps174;go_wp2_with fail
 refine con.mono ?_;rintro e w1 ⟨v,rfl,hv,hb⟩;clear con;obtain ⟨g,cb,rfl⟩:∃ g cb,v = .func (.func g) #[] cb:=by obtain ⟨g,cb,e,_⟩:=hv; exact ⟨g,cb,e⟩
 dsimp only;go_wp2
 go_ret;exact ⟨_,rfl,hv,hb⟩
theorem CS (h:qG 211 (eQ 5)):iK 5:=by
 intro w;have eT:kA (eQ 5)=eQ 5:=by
  funext l
  unfold kA
  split
  ·rename_i h0
   have:l = []:=MH h0;subst this;simp [eQ,BU]
  ·rfl
 have con:=ql (.func (.func 211) #[] #[]) (eQ 5) w (h.fn (enters_of func211 aG rfl) _ _);rw [eT] at con;go_enter func174,ntmps174;go_wp2_with fail
 refine con.mono ?_;rintro e w1 ⟨v,rfl,hv,hb⟩;clear con;obtain ⟨g,cb,rfl⟩:∃ g cb,v = .func (.func g) #[] cb:=by obtain ⟨g,cb,e,_⟩:=hv; exact ⟨g,cb,e⟩
 dsimp only;go_wp2
 go_ret;exact ⟨_,rfl,hv,hb⟩
theorem tF (x y:Wp) (w:World):Calls prog 242 #[.agg #[x.1.1,x.1.2.1,x.1.2.2,x.2],.agg #[y.1.1,y.1.2.1,y.1.2.2,y.2]] w fun e w'=>e = .returned (.int .i64 (cR x.1.1 x.1.2.1 x.1.2.2 y.1.1 y.1.2.1 y.1.2.2))∧Below w w w':=by
 go_enter func242,ntmps242;go_wp2_with fail
 refine bC (mh _ _ _ _ _ _ _) fun w1 hb1=>?_;dsimp only;go_wp2
 go_ret;exact ⟨rfl,chain ((aN ..).alloc (by simp) _) hb1⟩
theorem BY (a b c d:Value) (w:World):(Instr.field 234 (.agg #[a,b,c,d]) 0).run prog w = .ok (.agg #[a,b,c]) w:=by kernel_rfl
structure gU (W:World) (b:Nat) (p:Wp):Prop where
 c0:W.cell? (ah b 0)=some (.int .i64 p.1.1)
 c1:W.cell? (ah b 1)=some (.int .i64 p.1.2.1)
 c2:W.cell? (ah b 2)=some (.string p.1.2.2)
 c3:W.cell? (ah b 3)=some (.int .i64 p.2)
 f:∀ i,W.frozen? (ah b i)=false
 lt:b<W.heap.size
theorem gU.next {W w1:World} {b:Nat} {p:Wp} (h:gU W b p) (hb:Below W W w1):gU w1 b p :=
 ⟨(hb.cell (p:=ah b 0) h.lt).trans h.c0,(hb.cell (p:=ah b 1) h.lt).trans h.c1,(hb.cell (p:=ah b 2) h.lt).trans h.c2,(hb.cell (p:=ah b 3) h.lt).trans h.c3,fun i=>(hb.frozen (p:=ah b i) h.lt).trans (h.f i),My h.lt hb.size⟩
theorem gU.new (W:World) (p:Wp) (T:TypeId):gU (W.alloc (.cells #[p.1.1,p.1.2.1,p.1.2.2,p.2] T)) W p:=by
 have q:=bq W #[p.1.1,p.1.2.1,p.1.2.2,p.2] T;exact ⟨cell_of (i:=0) q rfl,cell_of (i:=1) q rfl,cell_of (i:=2) q rfl,cell_of (i:=3) q rfl,fun i=>MB _ W i _ _ q,an q⟩
theorem gU.put {W:World} {b:Nat} {p:Wp} (h:gU W b p) (u:Wp):gU ((((W.setCell (ah b 0) u.1.1).setCell (ah b 1) u.1.2.1).setCell (ah b 2) u.1.2.2).setCell (ah b 3) u.2) b u:=by
 refine ⟨?_,?_,?_,?_,fun i=>by rw [Na,Na,Na,Na]; exact h.f i,by simpa using h.lt⟩
 ·simp [go_sem,h.c0]
 ·simp [go_sem,h.c1]
 ·simp [go_sem,h.c2]
 ·simp [go_sem,h.c3]
theorem gU.Fu {W:World} {b:Nat} {p:Wp} (h:gU W b p) (g:Nat) (u:Wp) (hn:g≠b):gU ((((W.setCell (ah g 0) u.1.1).setCell (ah g 1) u.1.2.1).setCell (ah g 2) u.1.2.2).setCell (ah g 3) u.2) b p:=by
 have key:∀ (X:World) (o o':Nat) (v:Value),(X.setCell (ah g o') v).cell? (ah b o)=X.cell? (ah b o):=fun X o o' v=>MN _ _ _ _ (by intro e; injection e with e; exact hn e)
 refine ⟨?_,?_,?_,?_,fun i=>by rw [Na,Na,Na,Na]; exact h.f i,by simpa using h.lt⟩
 ·rw [key,key,key,key]; exact h.c0
 ·rw [key,key,key,key]; exact h.c1
 ·rw [key,key,key,key]; exact h.c2
 ·rw [key,key,key,key]; exact h.c3
def lU:List Wp→Wp
 | []=>(gX,0)
 | p :: r=>r.foldl (fun m x=>if dP x.1 m.1<0 then x else m) p
theorem C0 {l:List Wp} {i:Nat} (h0:0<i) (h:i<l.length):lU (l.take (i+1))=if dP l[i].1 (lU (l.take i)).1<0 then l[i] else lU (l.take i):=by
 rw [MJ h]
 match l,i,h0,h with
 | p :: r,i+1,_,h =>
  simp only [List.take_succ_cons,Nu,lU,Oi,NA,List.foldl_nil];rfl
theorem GB {l:List Wp} (h:0<l.length):lU (l.take 1)=l[0]:=by
 match l,h with
 | p :: r,_=>rfl
theorem Ga:∀ (l:List Wp),0<l.length→(lU l).1=BJ l
 | p :: r,_=>by
  unfold lU BJ
  have aux:∀ (r:List Wp) (p:Wp),(r.foldl (fun m x=>if dP x.1 m.1<0 then x else m) p).1=r.foldl (fun m x=>if dP x.1 m<0 then x.1 else m) p.1:=by
   intro r
   induction r with
   | nil=>intro p; rfl
   | cons x t ih =>
    intro p;rw [NA,NA,ih];by_cases c:dP x.1 p.1<0
    ·rw [if_pos c,if_pos c]
    ·rw [if_neg c,if_neg c]
  exact aux r p
theorem BQ (g:Nat) (eg:∀ args w,(callFunc g args).run prog w = .ok (.enter g args) w) (hd:∀ (x y:Wp) (W:World),Calls prog g #[.agg #[x.1.1,x.1.2.1,x.1.2.2,x.2],.agg #[y.1.1,y.1.2.1,y.1.2.2,y.2]] W fun e w'=>e = .returned (.int .i64 (cR x.1.1 x.1.2.1 x.1.2.2 y.1.1 y.1.2.1 y.1.2.2))∧Below W W w') (a:Option Addr) (cap:Nat) (l:List Wp) (w:World) (h:kV w a l) (h0:0<l.length) (hl:l.length≤400) :
  Calls prog 241 #[.slice a l.length cap,.func (.func g) #[] #[]] w fun e w'=>e = .returned (.agg #[.int .i64 (lU l).1.1,.int .i64 (lU l).1.2.1,.string (lU l).1.2.2,.int .i64 (lU l).2])∧Below w w w':=by
 have hal:=aN w (.cells #[aD,aD,(),aD] 234);have V0:gU (w.alloc (.cells #[aD,aD,(),aD] 234)) w (gX,0):=gU.new w (gX,0) 234;obtain ⟨b,off,rfl,hbl,c0,c1,c2,c3⟩:=(h.next hal).elem h0;have z0:(w.alloc (.cells #[aD,aD,(),aD] 234)).heap.size > w.heap.size:=by simp
 generalize hres:lU l=res;have HRes:Hid (lU l=res):=hres;clear hres;simp only [Oa,NW] at c0 c1 c2 c3;have hn1:¬ (l.length:Int)<1:=by omega
 have hp:(0:Int)<(l.length:Int):=by omega
 go_enter func241,ntmps241;go_upto_region 3 with fail
 generalize w.alloc (.cells #[.int .i64 0,.int .i64 0,.string ⟨#[]⟩,.int .i64 0] 234)=w0 at *;have hal1:=aa w0 (.cells #[.int .i64 l[0].1.1,.int .i64 l[0].1.2.1,.string l[0].1.2.2,.int .i64 l[0].2] 234);have V1:gU (w0.alloc (.cells #[.int .i64 l[0].1.1,.int .i64 l[0].1.2.1,.string l[0].1.2.2,.int .i64 l[0].2] 234)) w0.heap.size l[0]:=gU.new w0 l[0] 234;have V0':=V0.next hal1;go_upto_region 4 with fail
 clear c0 c1 c2 c3 V0;have hA1:=chain hal hal1;generalize w0.alloc (.cells #[.int .i64 l[0].1.1,.int .i64 l[0].1.2.1,.string l[0].1.2.2,.int .i64 l[0].2] 234)=w1 at *;go_wp2_with fail
 go_loopw [6] (fun i wr=>∃ (k:Nat) (mv:Wp),0<k∧k≤l.length∧i = .int .i64 k∧gU wr w0 mv∧gU wr w (gX,0)∧Hid (mv=lU (l.take k))∧Below w w wr) (fun i _=>l.length - (intOf i).toNat)
 case atStart=>exact ⟨1,l[0],by omega,by omega,rfl,V1,V0',(GB h0).symm,hA1⟩
 case round =>
  clear V1 V0' hA1 hal1;obtain ⟨k,mv,hk0,hk,rfl,VM,VR,HM,hb⟩:=hrel;by_cases hlt:k<l.length
  ·obtain ⟨b',off',e',hbl',c0,c1,c2,c3⟩:=(h.next hb).elem hlt;have HT:=aB (C0 hk0 hlt);injection e' with e'
   injection e' with e1 e2 _
   subst e1 e2;have k0:(0:Int)≤(k:Int):=by omega
   have k1:(k:Int)<(l.length:Int):=by omega
   clear c0 c1 c2 c3;have hCC:∀ W W':World,(kV W (some (ah b off)) l∧gU W w0 mv)→Below W W W'→(kV W' (some (ah b off)) l∧gU W' w0 mv):=fun W W' h hb=>⟨h.1.next hb,h.2.next hb⟩
   have hdr:Below wr wr wr.drew:=(Mz _ _).drew;have CW:=hCC _ _ ⟨h.next hb,VM⟩ hdr;go_upto_region 7 with fail
   refine aP (fun W=>(kV W (some (ah b off)) l∧gU W w0 mv)) aG ?_;refine bB hCC 20 0 (.func (.func g) #[] #[]) (fun n hn=>?_) CW ?_
   ·go_simp
   simp only [pX];refine bB hCC 21 1 (.slice (some (ah b off)) l.length cap) (fun n hn=>?_) CW ?_
   ·go_simp
   simp only [pX];refine bB hCC 22 2 (.int .i64 (k:Int)) (fun n hn=>?_) CW ?_
   ·go_simp
   simp only [pX];refine bB hCC 23 3 (.pointer (some ⟨b,off+k*4,none⟩)) (fun n hn=>?_) CW ?_
   ·go_simp
   simp only [pX];refine bB hCC 24 4 (.agg #[.int .i64 l[k].1.1,.int .i64 l[k].1.2.1,.string l[k].1.2.2,.int .i64 l[k].2]) (fun n hn=>?_) CW ?_
   ·obtain ⟨b2,off2,e2,_,d0,d1,d2,d3⟩:=hn.1.elem hlt;injection e2 with e2
    injection e2 with e21 e22 _
    subst e21 e22;go_simp
   simp only [Act.put,pA,pB,pC];refine bB hCC 25 5 (.agg #[mv.1.1,mv.1.2.1,mv.1.2.2,mv.2]) (fun n hn=>?_) CW ?_
   ·obtain ⟨n0,n1,n2,n3,_,_⟩:=hn.2;go_simp
   simp only [Act.put,pA,pB,pC];refine gp 6 aG fun w3 hb3=>?_
   have CW3:=hCC _ _ CW hb3;have con:=hd l[k] mv w3;generalize hcm:cR l[k].1.1 l[k].1.2.1 l[k].1.2.2 mv.1.1 mv.1.2.1 mv.1.2.2=cm at con;have HCm:Hid (dP l[k].1 mv.1=cm):=hcm;clear hcm;refine wpOp_step rfl (fun K hK=>?_);go_simp
   first | (refine con.mono ?_) | (go_at_fn g; refine con.mono ?_)
   rintro e w4 ⟨rfl,hb4⟩;clear con;have CW4:=hCC _ _ CW3 hb4;refine hK _ _ ⟨CW4,?_⟩;clear hK K CW3;refine bB hCC 27 7 (.bool (decide (cm<0))) (fun n hn=>?_) CW4 ?_
   ·go_simp
   simp only [Act.put,pA,pB,pC];refine cA aG ?_;intro w7 hb7;have D7:=chain hdr (chain hb3 (chain hb4 hb7));have hB7:=chain hb D7;obtain ⟨S7,VM7⟩:=hCC _ _ CW4 hb7;have VR7:=VR.next D7;clear CW CW4 hCC hb3 hb4 hb7 VM VR;by_cases hc:cm<0
   ·have hg:decide (cm<0)=true:=decide_eq_true hc;rw [hg];have HM':Hid (l[k]=lU (l.take (k+1))):=by show _=_; rw [HT.out,← HM.out,HCm.out,if_pos hc]
    obtain ⟨b2,off2,e2,_,d0,d1,d2,d3⟩:=S7.elem hlt;injection e2 with e2
    injection e2 with e21 e22 _
    subst e21 e22;have VS:=VM7.put l[k];have VRS:=VR7.Fu w0 l[k] ag;obtain ⟨n0,n1,n2,n3,nf,nl⟩:=VM7;have nf0:=nf 0;have nf1:=nf 1;have nf2:=nf 2;have nf3:=nf 3;clear hc HM D7;go_wp2
    go_roundw
    case rel=>exact ⟨k+1,l[k],by omega,by omega,by go_num,VS,VRS,HM',(((hB7.setCell (p:=ah w0 0) (by show _≤w0.heap.size; omega) _).setCell (p:=ah w0 1) (by show _≤w0.heap.size; omega) _).setCell (p:=ah w0 2) (by show _≤w0.heap.size; omega) _).setCell (p:=ah w0 3) (by show _≤w0.heap.size; omega) _⟩
    case measure=>simp [intOf]; omega
   ·have hg:decide (cm<0)=false:=decide_eq_false hc;rw [hg];have HM':Hid (mv=lU (l.take (k+1))):=by show _=_; rw [HT.out,← HM.out,HCm.out,if_neg hc]
    clear hc HM D7 S7;go_wp2
    go_roundw
    case rel=>exact ⟨k+1,mv,by omega,by omega,by go_num,VM7,VR7,HM',hB7⟩
    case measure=>simp [intOf]; omega
  ·have e:k=l.length:=by omega
   subst e;have er:mv=res:=by rw [HM.out,MM,HRes.out]
   subst er;obtain ⟨m0,m1,m2,m3,_,_⟩:=VM;have VS:=VR.put mv;obtain ⟨n0,n1,n2,n3,nf,nl⟩:=VR;have nf0:=nf 0;have nf1:=nf 1;have nf2:=nf 2;have nf3:=nf 3;obtain ⟨s0,s1,s2,s3,_,_⟩:=VS;clear HM;go_wp2
   exact MA (v:=.agg #[.int .i64 mv.1.1,.int .i64 mv.1.2.1,.string mv.1.2.2,.int .i64 mv.2]) (by simp [results,results241,go_sem,s0,s1,s2,s3]) rfl ⟨rfl,(((hb.setCell (p:=⟨w.heap.size,0,none⟩) (Mx _) _).setCell (p:=⟨w.heap.size,1,none⟩) (Mx _) _).setCell (p:=⟨w.heap.size,2,none⟩) (Mx _) _).setCell (p:=⟨w.heap.size,3,none⟩) (Mx _) _⟩
def lV:List Wp→Wp
 | []=>(gX,0)
 | p :: r=>r.foldl (fun m x=>if 0<dP x.1 m.1 then x else m) p
theorem El {l:List Wp} {i:Nat} (h0:0<i) (h:i<l.length):lV (l.take (i+1))=if 0<dP l[i].1 (lV (l.take i)).1 then l[i] else lV (l.take i):=by
 rw [MJ h]
 match l,i,h0,h with
 | p :: r,i+1,_,h =>
  simp only [List.take_succ_cons,Nu,lV,Oi,NA,List.foldl_nil];rfl
theorem FR {l:List Wp} (h:0<l.length):lV (l.take 1)=l[0]:=by
 match l,h with
 | p :: r,_=>rfl
theorem Iu:∀ (l:List Wp),0<l.length→(lV l).1=BU l
 | p :: r,_=>by
  unfold lV BU
  have aux:∀ (r:List Wp) (p:Wp),(r.foldl (fun m x=>if 0<dP x.1 m.1 then x else m) p).1=r.foldl (fun m x=>if 0<dP x.1 m then x.1 else m) p.1:=by
   intro r
   induction r with
   | nil=>intro p; rfl
   | cons x t ih =>
    intro p;rw [NA,NA,ih];by_cases c:0<dP x.1 p.1
    ·rw [if_pos c,if_pos c]
    ·rw [if_neg c,if_neg c]
  exact aux r p
theorem As (g:Nat) (eg:∀ args w,(callFunc g args).run prog w = .ok (.enter g args) w) (hd:∀ (x y:Wp) (W:World),Calls prog g #[.agg #[x.1.1,x.1.2.1,x.1.2.2,x.2],.agg #[y.1.1,y.1.2.1,y.1.2.2,y.2]] W fun e w'=>e = .returned (.int .i64 (cR x.1.1 x.1.2.1 x.1.2.2 y.1.1 y.1.2.1 y.1.2.2))∧Below W W w') (a:Option Addr) (cap:Nat) (l:List Wp) (w:World) (h:kV w a l) (h0:0<l.length) (hl:l.length≤400) :
  Calls prog 243 #[.slice a l.length cap,.func (.func g) #[] #[]] w fun e w'=>e = .returned (.agg #[.int .i64 (lV l).1.1,.int .i64 (lV l).1.2.1,.string (lV l).1.2.2,.int .i64 (lV l).2])∧Below w w w':=by
 have hal:=aN w (.cells #[aD,aD,(),aD] 234);have V0:gU (w.alloc (.cells #[aD,aD,(),aD] 234)) w (gX,0):=gU.new w (gX,0) 234;obtain ⟨b,off,rfl,hbl,c0,c1,c2,c3⟩:=(h.next hal).elem h0;have z0:(w.alloc (.cells #[aD,aD,(),aD] 234)).heap.size > w.heap.size:=by simp
 generalize hres:lV l=res;have HRes:Hid (lV l=res):=hres;clear hres;simp only [Oa,NW] at c0 c1 c2 c3;have hn1:¬ (l.length:Int)<1:=by omega
 have hp:(0:Int)<(l.length:Int):=by omega
 go_enter func243,ntmps243;go_upto_region 3 with fail
 generalize w.alloc (.cells #[.int .i64 0,.int .i64 0,.string ⟨#[]⟩,.int .i64 0] 234)=w0 at *;have hal1:=aa w0 (.cells #[.int .i64 l[0].1.1,.int .i64 l[0].1.2.1,.string l[0].1.2.2,.int .i64 l[0].2] 234);have V1:gU (w0.alloc (.cells #[.int .i64 l[0].1.1,.int .i64 l[0].1.2.1,.string l[0].1.2.2,.int .i64 l[0].2] 234)) w0.heap.size l[0]:=gU.new w0 l[0] 234;have V0':=V0.next hal1;go_upto_region 4 with fail
 clear c0 c1 c2 c3 V0;have hA1:=chain hal hal1;generalize w0.alloc (.cells #[.int .i64 l[0].1.1,.int .i64 l[0].1.2.1,.string l[0].1.2.2,.int .i64 l[0].2] 234)=w1 at *;go_wp2_with fail
 go_loopw [6] (fun i wr=>∃ (k:Nat) (mv:Wp),0<k∧k≤l.length∧i = .int .i64 k∧gU wr w0 mv∧gU wr w (gX,0)∧Hid (mv=lV (l.take k))∧Below w w wr) (fun i _=>l.length - (intOf i).toNat)
 case atStart=>exact ⟨1,l[0],by omega,by omega,rfl,V1,V0',(FR h0).symm,hA1⟩
 case round =>
  clear V1 V0' hA1 hal1;obtain ⟨k,mv,hk0,hk,rfl,VM,VR,HM,hb⟩:=hrel;by_cases hlt:k<l.length
  ·obtain ⟨b',off',e',hbl',c0,c1,c2,c3⟩:=(h.next hb).elem hlt;have HT:=aB (El hk0 hlt);injection e' with e'
   injection e' with e1 e2 _
   subst e1 e2;have k0:(0:Int)≤(k:Int):=by omega
   have k1:(k:Int)<(l.length:Int):=by omega
   clear c0 c1 c2 c3;have hCC:∀ W W':World,(kV W (some (ah b off)) l∧gU W w0 mv)→Below W W W'→(kV W' (some (ah b off)) l∧gU W' w0 mv):=fun W W' h hb=>⟨h.1.next hb,h.2.next hb⟩
   have hdr:Below wr wr wr.drew:=(Mz _ _).drew;have CW:=hCC _ _ ⟨h.next hb,VM⟩ hdr;go_upto_region 7 with fail
   refine aP (fun W=>(kV W (some (ah b off)) l∧gU W w0 mv)) aG ?_;refine bB hCC 20 0 (.func (.func g) #[] #[]) (fun n hn=>?_) CW ?_
   ·go_simp
   simp only [pX];refine bB hCC 21 1 (.slice (some (ah b off)) l.length cap) (fun n hn=>?_) CW ?_
   ·go_simp
   simp only [pX];refine bB hCC 22 2 (.int .i64 (k:Int)) (fun n hn=>?_) CW ?_
   ·go_simp
   simp only [pX];refine bB hCC 23 3 (.pointer (some ⟨b,off+k*4,none⟩)) (fun n hn=>?_) CW ?_
   ·go_simp
   simp only [pX];refine bB hCC 24 4 (.agg #[.int .i64 l[k].1.1,.int .i64 l[k].1.2.1,.string l[k].1.2.2,.int .i64 l[k].2]) (fun n hn=>?_) CW ?_
   ·obtain ⟨b2,off2,e2,_,d0,d1,d2,d3⟩:=hn.1.elem hlt;injection e2 with e2
    injection e2 with e21 e22 _
    subst e21 e22;go_simp
   simp only [Act.put,pA,pB,pC];refine bB hCC 25 5 (.agg #[mv.1.1,mv.1.2.1,mv.1.2.2,mv.2]) (fun n hn=>?_) CW ?_
   ·obtain ⟨n0,n1,n2,n3,_,_⟩:=hn.2;go_simp
   simp only [Act.put,pA,pB,pC];refine gp 6 aG fun w3 hb3=>?_
   have CW3:=hCC _ _ CW hb3;have con:=hd l[k] mv w3;generalize hcm:cR l[k].1.1 l[k].1.2.1 l[k].1.2.2 mv.1.1 mv.1.2.1 mv.1.2.2=cm at con;have HCm:Hid (dP l[k].1 mv.1=cm):=hcm;clear hcm;refine wpOp_step rfl (fun K hK=>?_);go_simp
   first | (refine con.mono ?_) | (go_at_fn g; refine con.mono ?_)
   rintro e w4 ⟨rfl,hb4⟩;clear con;have CW4:=hCC _ _ CW3 hb4;refine hK _ _ ⟨CW4,?_⟩;clear hK K CW3;refine bB hCC 27 7 (.bool (decide (0<cm))) (fun n hn=>?_) CW4 ?_
   ·go_simp
   simp only [Act.put,pA,pB,pC];refine cA aG ?_;intro w7 hb7;have D7:=chain hdr (chain hb3 (chain hb4 hb7));have hB7:=chain hb D7;obtain ⟨S7,VM7⟩:=hCC _ _ CW4 hb7;have VR7:=VR.next D7;clear CW CW4 hCC hb3 hb4 hb7 VM VR;by_cases hc:0<cm
   ·have hg:decide (0<cm)=true:=decide_eq_true hc;rw [hg];have HM':Hid (l[k]=lV (l.take (k+1))):=by show _=_; rw [HT.out,← HM.out,HCm.out,if_pos hc]
    obtain ⟨b2,off2,e2,_,d0,d1,d2,d3⟩:=S7.elem hlt;injection e2 with e2
    injection e2 with e21 e22 _
    subst e21 e22;have VS:=VM7.put l[k];have VRS:=VR7.Fu w0 l[k] ag;obtain ⟨n0,n1,n2,n3,nf,nl⟩:=VM7;have nf0:=nf 0;have nf1:=nf 1;have nf2:=nf 2;have nf3:=nf 3;clear hc HM D7;go_wp2
    go_roundw
    case rel=>exact ⟨k+1,l[k],by omega,by omega,by go_num,VS,VRS,HM',(((hB7.setCell (p:=ah w0 0) (by show _≤w0.heap.size; omega) _).setCell (p:=ah w0 1) (by show _≤w0.heap.size; omega) _).setCell (p:=ah w0 2) (by show _≤w0.heap.size; omega) _).setCell (p:=ah w0 3) (by show _≤w0.heap.size; omega) _⟩
    case measure=>simp [intOf]; omega
   ·have hg:decide (0<cm)=false:=decide_eq_false hc;rw [hg];have HM':Hid (mv=lV (l.take (k+1))):=by show _=_; rw [HT.out,← HM.out,HCm.out,if_neg hc]
    clear hc HM D7 S7;go_wp2
    go_roundw
    case rel=>exact ⟨k+1,mv,by omega,by omega,by go_num,VM7,VR7,HM',hB7⟩
    case measure=>simp [intOf]; omega
  ·have e:k=l.length:=by omega
   subst e;have er:mv=res:=by rw [HM.out,MM,HRes.out]
   subst er;obtain ⟨m0,m1,m2,m3,_,_⟩:=VM;have VS:=VR.put mv;obtain ⟨n0,n1,n2,n3,nf,nl⟩:=VR;have nf0:=nf 0;have nf1:=nf 1;have nf2:=nf 2;have nf3:=nf 3;obtain ⟨s0,s1,s2,s3,_,_⟩:=VS;clear HM;go_wp2
   exact MA (v:=.agg #[.int .i64 mv.1.1,.int .i64 mv.1.2.1,.string mv.1.2.2,.int .i64 mv.2]) (by simp [results,results243,go_sem,s0,s1,s2,s3]) rfl ⟨rfl,(((hb.setCell (p:=⟨w.heap.size,0,none⟩) (Mx _) _).setCell (p:=⟨w.heap.size,1,none⟩) (Mx _) _).setCell (p:=⟨w.heap.size,2,none⟩) (Mx _) _).setCell (p:=⟨w.heap.size,3,none⟩) (Mx _) _⟩
theorem Hb:qG 210 (eQ 4):=by
 intro l a cap W hk h0 h;have eT:eQ 4 l=(lU l).1:=by rw [Ga l h0]; simp [eQ]
 rw [eT];obtain ⟨hal,q0⟩:=iV W #[aD,aD,()] 24;have con:=BQ 242 (enters_of func242 aG rfl) tF a cap l _ (h.next hal) h0 hk.len;generalize lU l=res at *;unfold dV;clear eT;go_enter func210,ntmps210;go_wp2_with fail
 generalize W.alloc _=w0 at *;refine bC con fun w2 hb2=>?_;clear con;have q2:=iX hb2 q0;have d0:=cell_of (i:=0) q2 rfl;have d1:=cell_of (i:=1) q2 rfl;have d2:=cell_of (i:=2) q2 rfl;have f0:=MB w2 W 0 _ _ q2;have f1:=MB w2 W 1 _ _ q2
 have f2:=MB w2 W 2 _ _ q2;have hA2:=chain hal hb2;have hfw:=BY res.1.1 res.1.2.1 res.1.2.2 res.2 w2;dsimp only;go_wp2
 exact MA (v:=.agg #[res.1.1,res.1.2.1,res.1.2.2]) (by simp [results,results210,go_sem,d0,d1,d2]) rfl ⟨rfl,((hA2.setCell (p:=ah W 0) (Mx _) _).setCell (p:=ah W 1) (Mx _) _).setCell (p:=ah W 2) (Mx _) _⟩
theorem zq:qG 211 (eQ 5):=by
 intro l a cap W hk h0 h;have eT:eQ 5 l=(lV l).1:=by rw [Iu l h0]; simp [eQ]
 rw [eT];obtain ⟨hal,q0⟩:=iV W #[aD,aD,()] 24;have con:=As 242 (enters_of func242 aG rfl) tF a cap l _ (h.next hal) h0 hk.len;generalize lV l=res at *;unfold dV;clear eT;go_enter func211,ntmps211;go_wp2_with fail
 generalize W.alloc _=w0 at *;refine bC con fun w2 hb2=>?_;clear con;have q2:=iX hb2 q0;have d0:=cell_of (i:=0) q2 rfl;have d1:=cell_of (i:=1) q2 rfl;have d2:=cell_of (i:=2) q2 rfl;have f0:=MB w2 W 0 _ _ q2;have f1:=MB w2 W 1 _ _ q2
 have f2:=MB w2 W 2 _ _ q2;have hA2:=chain hal hb2;have hfw:=BY res.1.1 res.1.2.1 res.1.2.2 res.2 w2;dsimp only;go_wp2
 exact MA (v:=.agg #[res.1.1,res.1.2.1,res.1.2.2]) (by simp [results,results211,go_sem,d0,d1,d2]) rfl ⟨rfl,((hA2.setCell (p:=ah W 0) (Mx _) _).setCell (p:=ah W 1) (Mx _) _).setCell (p:=ah W 2) (Mx _) _⟩
theorem Kd:iK 4:=Du Hb
theorem Kk:iK 5:=CS zq
def rk:List Wp→Int
 | []=>0
 | p :: r=>p.2*(p.1.2.1.tdiv 100000000)+rk r
def rf:List Wp→Int
 | []=>0
 | p :: r=>p.2*(p.1.2.1.tmod 100000000)+rf r
theorem Fm {l:List Wp} {k:Nat} (h:k<l.length):rk (l.take (k+1))=rk (l.take k)+l[k].2*(l[k].1.2.1.tdiv 100000000):=by
 have aux:∀ (l:List Wp) (p:Wp),rk (l ++ [p])=rk l+p.2*(p.1.2.1.tdiv 100000000):=by
  intro l p
  induction l with
  | nil=>simp [rk]
  | cons q r ih=>rw [Nu,rk,rk,ih]; omega
 rw [MJ h,aux]
theorem DN {l:List Wp} {k:Nat} (h:k<l.length):rf (l.take (k+1))=rf (l.take k)+l[k].2*(l[k].1.2.1.tmod 100000000):=by
 have aux:∀ (l:List Wp) (p:Wp),rf (l ++ [p])=rf l+p.2*(p.1.2.1.tmod 100000000):=by
  intro l p
  induction l with
  | nil=>simp [rf]
  | cons q r ih=>rw [Nu,rf,rf,ih]; omega
 rw [MJ h,aux]
theorem JU:∀ l:List Wp,rk l*100000000+rf l=jc l
 | []=>rfl
 | p :: r=>by
  have ih:=JU r
  have e:=Int.mul_tdiv_add_tmod p.1.2.1 100000000
  rw [rk,rf,jc,← ih]
  conv=>rhs; rw [← e]
  rw [Int.mul_add,Int.add_mul,Int.mul_assoc p.2,Int.mul_comm (Int.tdiv _ _) 100000000]
  omega
theorem CC {n:Int} (h:-1000000000000000≤n∧n≤1000000000000000):-10000000≤n.tdiv 100000000∧n.tdiv 100000000≤10000000:=by
 by_cases h0:0≤n
 ·rw [N1 h0]; omega
 ·have e:=Int.neg_tdiv (-n) 100000000;rw [Int.neg_neg] at e;rw [e,N1 ag];omega
theorem BZ {n:Int}:-100000000≤n.tmod 100000000∧n.tmod 100000000≤100000000:=by
 by_cases h0:0≤n
 ·rw [NR h0]; omega
 ·have e:=Int.neg_tmod (-n) 100000000;rw [Int.neg_neg] at e;rw [e,NR ag];omega
theorem Hy {n:Int}:-100000000<n.tmod 100000000∧n.tmod 100000000<100000000:=by
 by_cases h0:0≤n
 ·rw [NR h0]; omega
 ·have e:=Int.neg_tmod (-n) 100000000;rw [Int.neg_neg] at e;rw [e,NR ag];omega
theorem GM {x w B:Int} (h:0≤w∧w≤1000000) (hx:-B≤x∧x≤B) (hB:0≤B):-(1000000*B)≤w*x∧w*x≤1000000*B:=by
 constructor
 ·have h1:=N8 hx.1 h.1;have h2:=N7 h.2 hB;rw [Int.mul_neg] at h1;omega
 ·have h1:w*x≤w*B:=N8 hx.2 h.1;have h2:=N7 h.2 hB;omega
theorem KB:qG 209 (eQ 3):=by
 intro l a cap W hok hl0 h;have eT:eQ 3 l=if kO (jc l)=true then (3,jc l,⟨#[]⟩) else (1,0,⟨#[]⟩):=by
  have:¬ l = []:=by intro e; rw [e] at hl0; simp at hl0
  simp only [eQ,if_true,CG];rw [if_neg this]
 have hl:=hok.len;have HK:Hid (JV l):=hok;generalize hres:eQ 3 l=res;have HRes:Hid (res=if kO (jc l)=true then (3,jc l,⟨#[]⟩) else (1,0,⟨#[]⟩)):=by show _=_; rw [← hres]; exact eT
 clear hok eT hres hl0;have hal0:=aN W (.cells #[aD,aD,()] 24);have q00:=bq W #[aD,aD,()] 24;unfold dV;go_enter func209,ntmps209;go_wp2_with fail
 generalize W.alloc (.cells #[aD,aD,()] 24)=w0 at *;go_loopw [3,4,9] (fun vu vv i wr=>∃ (k:Nat) (u v:Int),k≤l.length∧i = .int .i64 k∧vu = .int .i64 u∧vv = .int .i64 v∧Hid (u=rk (l.take k)∧v=rf (l.take k)) ∧ -(10000000000000*(k:Int))≤u∧u≤10000000000000*(k:Int) ∧ -(100000000000000*(k:Int))≤v∧v≤100000000000000*(k:Int)∧Below w0 w0 wr) (fun _ _ i _=>l.length - (intOf i).toNat)
 case atStart=>exact ⟨0,0,0,MD _,rfl,rfl,rfl,⟨rfl,rfl⟩,by omega,by omega,by omega,by omega,Mz _ _⟩
 case round =>
  obtain ⟨k,u,v,hk,rfl,rfl,rfl,HN,hu0,hu1,hv0,hv1,hb⟩:=hrel;have hA:=chain hal0 hb;by_cases hlt:k<l.length
  ·obtain ⟨b,off,rfl,hbl,c0,c1,c2,c3⟩:=(h.next hA).elem hlt;have hw:=HK.out.wt _ (MC hlt);have hn:=H9 (HK.out.right _ (MC hlt)) (HK.out.num _ (MC hlt));have hal:=aN wr (.cells #[.int .i64 l[k].1.1,.int .i64 l[k].1.2.1,.string l[k].1.2.2,.int .i64 l[k].2] 234);have b1:=GM hw (CC hn) (by decide);have b2:=GM hw (BZ (n:=l[k].1.2.1)) (by decide)
   have HN':Hid (u+l[k].2*(l[k].1.2.1.tdiv 100000000)=rk (l.take (k+1))∧v+l[k].2*(l[k].1.2.1.tmod 100000000)=rf (l.take (k+1))):=⟨by rw [Fm hlt,HN.out.1],by rw [DN hlt,HN.out.2]⟩
   have t1:=CC hn;have t2:=BZ (n:=l[k].1.2.1);have hW1:IntKind.i64.wrap (l[k].2*(l[k].1.2.1.tdiv 100000000))=l[k].2*(l[k].1.2.1.tdiv 100000000):=IntWalk.i64_in _ ⟨by omega,by omega⟩;have hW2:IntKind.i64.wrap (l[k].2*(l[k].1.2.1.tmod 100000000))=l[k].2*(l[k].1.2.1.tmod 100000000):=IntWalk.i64_in _ ⟨by omega,by omega⟩;have hW3:IntKind.i64.wrap (u+l[k].2*(l[k].1.2.1.tdiv 100000000))=u+l[k].2*(l[k].1.2.1.tdiv 100000000):=IntWalk.i64_in _ ⟨by omega,by omega⟩
   have hW4:IntKind.i64.wrap (v+l[k].2*(l[k].1.2.1.tmod 100000000))=v+l[k].2*(l[k].1.2.1.tmod 100000000):=IntWalk.i64_in _ ⟨by omega,by omega⟩;have hW5:IntKind.i64.wrap (l[k].1.2.1.tdiv 100000000)=l[k].1.2.1.tdiv 100000000:=IntWalk.i64_in _ ⟨by omega,by omega⟩;have hW6:IntKind.i64.wrap (l[k].1.2.1.tmod 100000000)=l[k].1.2.1.tmod 100000000:=IntWalk.i64_in _ ⟨by omega,by omega⟩;go_wp2_with fail
   go_roundw
   case rel=>exact ⟨k+1,u+l[k].2*(l[k].1.2.1.tdiv 100000000),v+l[k].2*(l[k].1.2.1.tmod 100000000),by omega,by go_num,rfl,rfl,HN',by omega,by omega,by omega,by omega,chain hb hal⟩
   case measure=>simp [intOf]; omega
  ·have e:k=l.length:=by omega
   subst e;have es:jc l=u*100000000+v:=by
    have:=HN.out;rw [MM] at this;rw [this.1,this.2,JU]
   have ev:=Int.mul_tdiv_add_tmod v 100000000;have vb:=Hy (n:=v);have hn4:(l.length:Int)≤400:=by omega
   generalize hq:v.tdiv 100000000=vq at *;generalize hm:v.tmod 100000000=vm at *;have hs:jc l=(u+vq)*100000000+vm:=by omega
   have hW5:IntKind.i64.wrap vq=vq:=IntWalk.i64_in _ ⟨by omega,by omega⟩;have hW6:IntKind.i64.wrap vm=vm:=IntWalk.i64_in _ ⟨by omega,by omega⟩;have hW7:IntKind.i64.wrap (u+vq)=u+vq:=IntWalk.i64_in _ ⟨by omega,by omega⟩;generalize hu:u+vq=u2 at *;have HS:=aB hs;clear HN es hs ev;by_cases ho:u2 < -10000001∨10000001<u2
   ·have er:res=(1,0,⟨#[]⟩):=by
     rw [HRes.out,HS.out];have:kO (u2*100000000+vm)=false:=by simp [kO]; omega
     rw [this]; rfl
    subst er;clear HRes HS;by_cases ho1:u2 < -10000001;rotate_left;have ho2:10000001<u2:=by omega
    all_goals
     go_wp2_with fail
     refine bC (eI wr) fun w2 hb2=>?_;have q2:=((chain hb hb2).block _ (an q00)).trans q00;have d0:=cell_of (i:=0) q2 rfl;have d1:=cell_of (i:=1) q2 rfl;have d2:=cell_of (i:=2) q2 rfl;have f0:=MB w2 W 0 _ _ q2;have f1:=MB w2 W 1 _ _ q2
     have f2:w2.frozen? (ah W 2)=false:=MB w2 W 2 _ _ q2;have hA2:=chain hA hb2;dsimp only;go_wp2_with fail
     exact MA (v:=.agg #[(1:Int),aD,()]) (by simp [results,results209,go_sem,d0,d1,d2]) rfl ⟨rfl,((hA2.setCell (p:=ah W 0) (Mx _) _).setCell (p:=ah W 1) (Mx _) _).setCell (p:=ah W 2) (Mx _) _⟩
   ·have ho1:¬ u2 < -10000001:=fun h=>ho (.inl h)
    have ho2:¬ 10000001<u2:=fun h=>ho (.inr h)
    have hW8:IntKind.i64.wrap (u2*100000000)=u2*100000000:=IntWalk.i64_in _ ⟨by omega,by omega⟩;have hW9:IntKind.i64.wrap (u2*100000000+vm)=u2*100000000+vm:=IntWalk.i64_in _ ⟨by omega,by omega⟩;have con:Calls prog 240 #[.int .i64 (u2*100000000+vm)] wr fun e w'=>e = .returned (.agg #[res.1,res.2.1,res.2.2])∧Below wr wr w':=by
     rw [HRes.out,HS.out];cases hi:kO (u2*100000000+vm) with
     | true=>exact Bn _ wr hi
     | false=>exact Cg _ wr hi
    clear HRes HS ho;generalize hS:u2*100000000+vm=s at *;go_wp2_with fail
    refine bC con fun w2 hb2=>?_;clear con;have q2:=((chain hb hb2).block _ (an q00)).trans q00;have d0:=cell_of (i:=0) q2 rfl;have d1:=cell_of (i:=1) q2 rfl;have d2:=cell_of (i:=2) q2 rfl;have f0:=MB w2 W 0 _ _ q2;have f1:=MB w2 W 1 _ _ q2
    have f2:=MB w2 W 2 _ _ q2;have hA2:=chain hA hb2;dsimp only;go_wp2_with fail
    exact MA (v:=.agg #[res.1,res.2.1,res.2.2]) (by simp [results,results209,go_sem,d0,d1,d2]) rfl ⟨rfl,((hA2.setCell (p:=ah W 0) (Mx _) _).setCell (p:=ah W 1) (Mx _) _).setCell (p:=ah W 2) (Mx _) _⟩
theorem KZ:iK 3:=CQ KB
theorem vP (k:Int):iK k:=by
 by_cases h3:k=3
 ·subst h3; exact KZ
 by_cases h4:k=4
 ·subst h4; exact Kd
 by_cases h5:k=5
 ·subst h5; exact Kk
 exact DU k h3 h4 h5
end Go.Proofs.YtoefpglknaiaeaaGreat
