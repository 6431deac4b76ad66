import Derived.Sort.LotA
import Derived.Sort.WalkA
import Derived.Shelf.SlSortCmp.Insertion
import Derived.Test.YtoefpglknaiaeaaGreatProg
import Derived.Shelf.SlSortCmp.KitK
import Derived.Sort.WalkB2
import Derived.Sort.WalkB12
import Derived.Deep.LoopGhost
import Derived.Deep.Cut
import Derived.Test.YtoefpglknaiaeaaGreatMW0
set_option maxHeartbeats 16000000
set_option maxRecDepth 100000
namespace Go.Proofs.YtoefpglknaiaeaaGreat
open Go.Sort
variable {α:Type} [Inhabited α]
structure jD (cf:α→α→Int) (pre:α→α→Prop):Prop where
 neg:∀ x y,cf x y = - cf y x
 trans:∀ x y z,cf x y≤0→cf y z≤0→cf x z≤0
 GH:∀ x y z,pre x y→pre y z→pre x z
def St (cf:α→α→Int) (pre:α→α→Prop) (x y:α):Prop:=cf x y<0∨(cf x y=0∧pre x y)
variable {cf:α→α→Int} {pre:α→α→Prop}
omit [Inhabited α] in
theorem jD.Ce (h:jD cf pre) {x y z:α} (h1:cf x y<0) (h2:cf y z≤0):cf x z<0:=by
 have h3:=h.trans x y z ag h2
 by_cases e:cf x z=0
 ·have h4:=h.trans y z x h2 (by have:=h.neg x z; omega)
  have:=h.neg x y
  omega
 ·omega
omit [Inhabited α] in
theorem jD.FZ (h:jD cf pre) {x y z:α} (h1:cf x y≤0) (h2:cf y z<0):cf x z<0:=by
 have h3:=h.trans x y z h1 ag
 by_cases e:cf x z=0
 ·have h4:=h.trans z x y (by have:=h.neg x z; omega) h1
  have:=h.neg y z
  omega
 ·omega
omit [Inhabited α] in
theorem St.le {x y:α} (h:St cf pre x y):cf x y≤0:=by rcases h with h | ⟨h,_⟩ <;> omega
omit [Inhabited α] in
theorem St.trans (h:jD cf pre) {x y z:α} (h1:St cf pre x y) (h2:St cf pre y z):St cf pre x z:=by
 rcases h1 with h1 | ⟨h1,p1⟩
 ·exact .inl (h.Ce h1 h2.le)
 ·rcases h2 with h2 | ⟨h2,p2⟩
  ·exact .inl (h.FZ ag h2)
  ·have a:=h.trans x y z ag ag
   have b:=h.trans z y x (by have:=h.neg y z; omega) (by have:=h.neg x y; omega)
   have:=h.neg x z
   exact .inr ⟨by omega,h.GH _ _ _ p1 p2⟩
omit [Inhabited α] in
theorem St.of (h:jD cf pre) {x y:α} (h1:¬ cf y x<0) (h2:pre x y):St cf pre x y:=by
 have:=h.neg x y;by_cases e:cf x y=0
 ·exact .inr ⟨e,h2⟩
 ·exact .inl ag
def bu (cf:α→α→Int) (pre:α→α→Prop) (a b:Nat) (d:Array α):Prop:=∀ i j,a≤i→i<j→j<b→St cf pre d[i]! d[j]!
def fC (pre:α→α→Prop) (a m b:Nat) (d:Array α):Prop:=∀ i j,a≤i→i<m→m≤j→j<b→pre d[i]! d[j]!
def AK (pre:α→α→Prop) (a b:Nat) (d:Array α):Prop:=∀ i j,a≤i→i<j→j<b→pre d[i]! d[j]!
structure EI (cf:α→α→Int) (pre:α→α→Prop) (a j i:Nat) (d:Array α):Prop where
 rest:∀ p q,a≤p→p<q→q≤i→p≠j→q≠j→St cf pre d[p]! d[q]!
 right:∀ q,j<q→q≤i→cf d[j]! d[q]! < 0
 left:∀ p,a≤p→p<j→pre d[p]! d[j]!
theorem EI.stop (h:jD cf pre) {a j i:Nat} {d:Array α} (hI:EI cf pre a j i d) (hs:j≤a∨ltOf cf d[j]! d[j - 1]! = false):bu cf pre a (i+1) d:=by
 intro p q hap hpq hqi;by_cases hq:q=j
 ·subst hq;rcases hs with hs | hs
  ·omega
  ·have hs':¬ cf d[q]! d[q - 1]! < 0:=by simpa [ltOf] using hs
   have s1:=St.of h hs' (hI.left (q - 1) ag ag);by_cases hp:p=q - 1
   ·subst hp; exact s1
   ·exact (hI.rest p (q - 1) hap ag ag ag ag).trans h s1
 ·by_cases hp:p=j
  ·subst hp; exact .inl (hI.right q hpq ag)
  ·exact hI.rest p q hap hpq ag hp hq
theorem EI.step {a j i:Nat} {d:Array α} (h:EI cf pre a (j+1) i d) (hl:ltOf cf d[j+1]! d[j]! = true) (haj:a≤j) (hsz:j+1<d.size):EI cf pre a j i (swp d (j+1) j):=by
 have g:=swp_get d hsz (show j<d.size by omega);have hl':cf d[j+1]! d[j]! < 0:=by simpa [ltOf] using hl
 refine ⟨?_,?_,?_⟩
 ·intro p q hap hpq hqi hp hq;rw [g,g];by_cases hq1:q=j+1
  ·subst hq1;simp only [hq,hp,if_false,if_true,show p≠j+1 by omega];exact h.rest p j hap ag ag ag ag
  ·by_cases hp1:p=j+1
   ·subst hp1;simp only [hq,hp,hq1,if_false,if_true];exact h.rest j q haj ag hqi ag hq1
   ·simp only [hq,hp,hq1,hp1,if_false];exact h.rest p q hap hpq hqi hp1 hq1
 ·intro q hjq hqi;rw [g,g];by_cases hq1:q=j+1
  ·subst hq1
   simpa [show j+1≠j by omega] using hl'
  ·simp only [if_true,show q≠j by omega,hq1,if_false];exact h.right q ag hqi
 ·intro p hap hpj;rw [g,g];simp only [show p≠j by omega,show p≠j+1 by omega,if_false,if_true];exact h.left p hap ag
theorem uL (h:jD cf pre) (a b i:Nat) (hib:i<b) :
  ∀ (j:Nat) (d:Array α),a≤j→j≤i→b≤d.size→EI cf pre a j i d→PermIn a (i+1) d (insInner (ltOf cf) a j d)∧bu cf pre a (i+1) (insInner (ltOf cf) a j d)
 | 0,d,_,_,_,hI=>by
  unfold insInner
  exact ⟨permIn_refl d a _,hI.stop h (Or.inl (MD _))⟩
 | j+1,d,haj,hji,hb,hI=>by
  unfold insInner
  split
  ·rename_i hc
   simp only [NO,decide_eq_true_eq] at hc
   have ih:=uL h a b i hib j (swp d (j+1) j) ag ag (by rw [swp_size]; exact hb) (hI.step hc.2 ag ag)
   exact ⟨permIn_trans _ _ _ a (i+1) (swp_permIn d a (i+1) (j+1) j haj ag ag ag ag) ih.1,ih.2⟩
  ·rename_i hc
   simp only [NO,decide_eq_true_eq,not_and,Bool.not_eq_true] at hc
   refine ⟨permIn_refl d a _,hI.stop h ?_⟩
   by_cases h:j+1 > a
   ·exact Or.inr (by simpa using hc h)
   ·exact Or.inl ag
theorem vh (h:jD cf pre) (a b:Nat) :
  ∀ (n i:Nat) (d:Array α),b - i=n→a<i→i≤b→b≤d.size→bu cf pre a i d→fC pre a i b d→AK pre i b d→PermIn a b d (insOuter (ltOf cf) a b i d)∧bu cf pre a b (insOuter (ltOf cf) a b i d)
 | 0,i,d,hn,_,hib,_,hs,_,_=>by
  obtain rfl:i=b:=by omega
  rw [insOuter,if_neg ag]
  exact ⟨permIn_refl d a i,hs⟩
 | n+1,i,d,hn,hai,hib,hb,hs,hp,hq=>by
  have hlt:i<b:=by omega
  rw [insOuter,if_pos hlt]
  have h1:=uL h a b i hlt i d ag (Mx _) hb ⟨fun p q hap hpq hqi _ hq=>hs p q hap hpq ag,fun q h1 h2=>by omega,fun p h1 h2=>hp p i h1 h2 (Mx _) hlt⟩
  have out:∀ q,i+1≤q→(insInner (ltOf cf) a i d)[q]! = d[q]!:=fun q hq'=>h1.1.2.1 q (Or.inr hq')
  have p1:fC pre a (i+1) b (insInner (ltOf cf) a i d):=by
   intro p q hap hpi hiq hqb;rw [out q hiq];refine permIn_all d _ a (i+1) (fun x=>pre x d[q]!) ag h1.1 ?_ p hap hpi;intro p hap hpi;by_cases e:p=i
   ·subst e; exact hq p q (Mx _) hiq hqb
   ·exact hp p q hap ag ag hqb
  have q1:AK pre (i+1) b (insInner (ltOf cf) a i d):=by
   intro p q hap hpq hqb;rw [out p hap,out q ag];exact hq p q ag hpq hqb
  have h2:=vh h a b n (i+1) (insInner (ltOf cf) a i d) ag ag ag (by rw [h1.1.1]; exact hb) h1.2 p1 q1;exact ⟨permIn_trans _ _ _ a b (permIn_mono _ _ a (i+1) a b (Mx _) ag hb h1.1) h2.1,h2.2⟩
theorem nZ (h:jD cf pre) (a b:Nat) (d:Array α) (hab:a≤b) (hb:b≤d.size) (hp:AK pre a b d):PermIn a b d (insertionSort (ltOf cf) d a b)∧bu cf pre a b (insertionSort (ltOf cf) d a b):=by
 unfold insertionSort;by_cases e:a=b
 ·subst e;rw [insOuter,if_neg ag];exact ⟨permIn_refl d a a,fun i j h1 h2 h3=>by omega⟩
 ·exact vh h a b (b - (a+1)) (a+1) d rfl ag ag hb (fun i j h1 h2 h3=>by omega) (fun i j h1 h2 h3 h4=>hp i j h1 ag h4) (fun i j h1 h2 h3=>hp i j ag h2 h3)
def sN (a b n:Nat) (d d':Array α):Prop:=d'.size=d.size∧∀ i,d'[i]! = if a≤i∧i<a+n then d[b+(i - a)]! else if b≤i∧i<b+n then d[a+(i - b)]! else d[i]!
def iW (a m b:Nat) (d d':Array α):Prop:=d'.size=d.size∧∀ i,d'[i]! = if a≤i∧i<a+(b - m) then d[m+(i - a)]! else if a+(b - m)≤i∧i<b then d[a+(i - (a+(b - m)))]! else d[i]!
theorem sN.zero (a b:Nat) (d:Array α):sN a b 0 d d:=⟨rfl,fun i=>by rw [if_neg ag,if_neg ag]⟩
theorem sN.step {a b n:Nat} {d d':Array α} (h:sN a b n d d') (hab:a+n<b) (hb:b+n<d.size):sN a b (n+1) d (swp d' (a+n) (b+n)):=by
 have sz:=h.1;refine ⟨by rw [swp_size]; exact sz,fun i=>?_⟩;rw [swp_get d' (show a+n<d'.size by omega) (show b+n<d'.size by omega),h.2,h.2,h.2];by_cases e1:i=b+n
 ·subst e1;rw [if_pos rfl,if_neg ag,if_neg ag,if_neg ag,if_pos ag]
  congr 1; omega
 ·rw [if_neg e1];by_cases e2:i=a+n
  ·subst e2;rw [if_pos rfl,if_neg ag,if_neg ag,if_pos ag]
   congr 1; omega
  ·rw [if_neg e2];by_cases c1:a≤i∧i<a+n
   ·rw [if_pos c1,if_pos ag]
   ·rw [if_neg c1,if_neg (show ¬ (a≤i∧i<a+(n+1)) by omega)];by_cases c2:b≤i∧i<b+n
    ·rw [if_pos c2,if_pos ag]
    ·rw [if_neg c2,if_neg ag]
theorem iW.same {m i:Nat} {d d':Array α} (h:sN (m - i) m i d d') (hi:i≤m):iW (m - i) m (m+i) d d':=by
 refine ⟨h.1,fun q=>?_⟩;rw [h.2];by_cases c1:m - i≤q∧q<m - i+i
 ·rw [if_pos c1,if_pos ag]
 ·rw [if_neg c1,if_neg (show ¬ (m - i≤q∧q<m - i+(m+i - m)) by omega)];by_cases c2:m≤q∧q<m+i
  ·rw [if_pos c2,if_pos ag]
   congr 1; omega
  ·rw [if_neg c2,if_neg ag]
theorem iW.left {m i j:Nat} {d d1 d':Array α} (hs:sN (m - i) m j d d1) (hi:i≤m) (hj:j<i) (h:iW (m - (i - j)) m (m+j) d1 d'):iW (m - i) m (m+j) d d':=by
 refine ⟨h.1.trans hs.1,fun q=>?_⟩;rw [h.2];by_cases c1:m - i≤q∧q<m - i+j
 ·rw [if_neg ag,if_neg ag,hs.2,if_pos c1,if_pos ag]
 ·rw [if_neg (show ¬ (m - i≤q∧q<m - i+(m+j - m)) by omega)];by_cases c2:m - (i - j)≤q∧q<m - (i - j)+(m+j - m)
  ·rw [if_pos c2,hs.2,if_neg ag,if_pos ag,if_pos ag]
   congr 1; omega
  ·rw [if_neg c2];by_cases c3:m - (i - j)+(m+j - m)≤q∧q<m+j
   ·rw [if_pos c3,hs.2,if_neg ag,if_neg ag,if_pos ag]
    congr 1; omega
   ·rw [if_neg c3,hs.2,if_neg ag,if_neg ag,if_neg ag]
theorem iW.right {m i j:Nat} {d d1 d':Array α} (hs:sN (m - i) (m+j - i) i d d1) (hi:i≤m) (hj:i<j) (h:iW (m - i) m (m+(j - i)) d1 d'):iW (m - i) m (m+j) d d':=by
 refine ⟨h.1.trans hs.1,fun q=>?_⟩;rw [h.2];by_cases c1:m - i≤q∧q<m - i+(m+(j - i) - m)
 ·rw [if_pos c1,if_pos ag,hs.2];by_cases e:m+(q - (m - i))<m+j - i
  ·rw [if_neg ag,if_neg ag]
  ·rw [if_neg ag,if_pos ag];omega
 ·rw [if_neg c1];by_cases c2:m - i+(m+(j - i) - m)≤q∧q<m+(j - i)
  ·rw [if_pos c2,hs.2,if_pos ag,if_pos ag]
   congr 1; omega
  ·rw [if_neg c2,hs.2];by_cases c3:m+j - i≤q∧q<m+j
   ·rw [if_neg ag,if_pos ag,if_neg ag,if_pos ag]
    congr 1; omega
   ·rw [if_neg ag,if_neg ag,if_neg ag,if_neg ag]
theorem iW.none (a:Nat) (m:Nat) (d:Array α):iW a m m d d:=⟨rfl,fun i=>by
 rw [if_neg ag]
 by_cases c:a+(m - m)≤i∧i<m
 ·rw [if_pos c]; congr 1; omega
 ·rw [if_neg c]⟩
theorem iW.nothing (m b:Nat) (d:Array α) (h:m≤b):iW m m b d d:=⟨rfl,fun i=>by
 by_cases c:m≤i∧i<m+(b - m)
 ·rw [if_pos c]; congr 1; omega
 ·rw [if_neg c,if_neg ag]⟩
theorem iW.up {a k:Nat} {d d':Array α} (h:iW a (a+1) (k+1) d d') (hk:a≤k) (hs:k+1<d.size):iW a (a+1) (k+2) d (swp d' k (k+1)):=by
 have sz:=h.1;refine ⟨by rw [swp_size]; exact sz,fun i=>?_⟩;rw [swp_get d' (show k<d'.size by omega) (show k+1<d'.size by omega),h.2,h.2,h.2];by_cases e1:i=k+1
 ·subst e1;rw [if_pos rfl,if_neg ag,if_pos ag,if_neg ag,if_pos ag]
  congr 1; omega
 ·rw [if_neg e1];by_cases e2:i=k
  ·subst e2;rw [if_pos rfl,if_neg ag,if_neg ag,if_pos ag]
   congr 1; omega
  ·rw [if_neg e2];by_cases c1:a≤i∧i<a+(k+1 - (a+1))
   ·rw [if_pos c1,if_pos ag]
   ·rw [if_neg c1,if_neg ag,if_neg ag,if_neg ag]
theorem iW.down {m k:Nat} {d d':Array α} (h:iW (k+1) m (m+1) d d') (hk:k+1≤m) (hs:m<d.size):iW k m (m+1) d (swp d' (k+1) k):=by
 have sz:=h.1;refine ⟨by rw [swp_size]; exact sz,fun i=>?_⟩;rw [swp_get d' (show k+1<d'.size by omega) (show k<d'.size by omega),h.2,h.2,h.2];by_cases e1:i=k
 ·subst e1;rw [if_pos rfl,if_pos ag,if_pos ag]
  congr 1; omega
 ·rw [if_neg e1];by_cases e2:i=k+1
  ·subst e2;rw [if_pos rfl,if_neg ag,if_neg ag,if_neg ag,if_pos ag]
   congr 1; omega
  ·rw [if_neg e2];by_cases c2:k+1+(m+1 - m)≤i∧i<m+1
   ·rw [if_neg ag,if_pos c2,if_neg ag,if_pos ag]
    congr 1; omega
   ·rw [if_neg ag,if_neg c2,if_neg ag,if_neg ag]
theorem iW.l1 {a m b:Nat} {d d':Array α} (h:iW a m b d d') {i:Nat} (h1:a≤i) (h2:i<a+(b - m)):d'[i]! = d[m+(i - a)]!:=by rw [h.2,if_pos ⟨h1,h2⟩]
theorem iW.l2 {a m b:Nat} {d d':Array α} (h:iW a m b d d') {i:Nat} (h1:a+(b - m)≤i) (h2:i<b):d'[i]! = d[a+(i - (a+(b - m)))]!:=by rw [h.2,if_neg ag,if_pos ⟨h1,h2⟩]
theorem iW.l0 {a m b:Nat} {d d':Array α} (h:iW a m b d d') {i:Nat} (h1:i<a∨b≤i) (hm:a≤m) (hb:m≤b):d'[i]! = d[i]!:=by rw [h.2,if_neg ag,if_neg ag]
structure Split (cf:α→α→Int) (pre:α→α→Prop) (a s mid e b:Nat) (d:Array α):Prop where
 s1:bu cf pre a s d
 s2:bu cf pre s mid d
 p1:fC pre a s mid d
 s3:bu cf pre mid e d
 s4:bu cf pre e b d
 p2:fC pre mid e b d
 lr:∀ i j,a≤i→i<mid→mid≤j→j<b→St cf pre d[i]! d[j]!
theorem Ge (h:jD cf pre) {a s m e b mid:Nat} {d d':Array α} (h1:bu cf pre a m d) (h2:bu cf pre m b d) (hp:fC pre a m b d) (has:a≤s) (hsm:s≤m) (hme:m≤e) (heb:e≤b) (hmid:mid=s+(e - m))
  (c1:s=a∨e=b∨¬ cf d[e]! d[s - 1]! < 0) (c2:s=m∨e=m∨cf d[e - 1]! d[s]! < 0) (hr:iW s m e d d'):Split cf pre a s mid e b d':=by
 subst hmid;have L0:=fun i (hi:i<s∨e≤i)=>hr.l0 hi hsm hme
 have L1:=fun i h1 h2=>hr.l1 (i:=i) h1 h2
 have L2:=fun i h1 h2=>hr.l2 (i:=i) h1 h2
 refine ⟨?_,?_,?_,?_,?_,?_,?_⟩
 ·intro i j hi hij hj;rw [L0 i ag,L0 j ag];exact h1 i j hi hij ag
 ·intro i j hi hij hj;rw [L1 i hi ag,L1 j ag hj];exact h2 _ _ ag ag ag
 ·intro i j hi his hsj hj;rw [L0 i ag,L1 j hsj hj];exact hp _ _ hi ag ag ag
 ·intro i j hi hij hj;rw [L2 i hi ag,L2 j ag hj];exact h1 _ _ ag ag ag
 ·intro i j hi hij hj;rw [L0 i ag,L0 j ag];exact h2 i j ag hij ag
 ·intro i j hi his hsj hj;rw [L2 i hi his,L0 j ag];exact hp _ _ ag ag ag hj
 ·intro i j hi his hsj hj;by_cases ci:i<s
  ·rw [L0 i ag];by_cases cj:j<e
   ·rw [L2 j hsj cj];exact h1 _ _ hi ag ag
   ·rw [L0 j ag];rcases c1 with c1 | c1 | c1
    ·omega
    ·omega
    ·have q0:=St.of h c1 (hp _ _ ag ag hme ag);have q1:St cf pre d[i]! d[e]!:=by
      by_cases e1:i=s - 1
      ·subst e1; exact q0
      ·exact (h1 i (s - 1) hi ag ag).trans h q0
     by_cases e1:j=e
     ·subst e1; exact q1
     ·exact q1.trans h (h2 e j hme ag hj)
  ·rw [L1 i ag his];by_cases cj:j<e
   ·rw [L2 j hsj cj];rcases c2 with c2 | c2 | c2
    ·omega
    ·omega
    ·have q0:St cf pre d[e - 1]! d[s]!:=.inl c2;have q1:St cf pre d[m+(i - s)]! d[s]!:=by
      by_cases e1:m+(i - s)=e - 1
      ·rw [e1]; exact q0
      ·exact (h2 _ (e - 1) ag ag ag).trans h q0
     by_cases e1:s+(j - (s+(e - m)))=s
     ·rw [e1]; exact q1
     ·exact q1.trans h (h1 s _ has ag ag)
   ·rw [L0 j ag];exact h2 _ _ ag ag hj
theorem kJ {a mid b:Nat} {d d1 d2:Array α} (hb:b≤d.size) (hmb:mid≤b) (lr:∀ i j,a≤i→i<mid→mid≤j→j<b→St cf pre d[i]! d[j]!)
  (p1:PermIn a mid d d1) (s1:bu cf pre a mid d1) (p2:PermIn mid b d1 d2) (s2:bu cf pre mid b d2):bu cf pre a b d2:=by
 have lr1:∀ i j,a≤i→i<mid→mid≤j→j<b→St cf pre d1[i]! d1[j]!:=by
  intro i j hi him hj hjb;rw [p1.2.1 j (Or.inr hj)];exact permIn_all d d1 a mid (fun x=>St cf pre x d[j]!) ag p1 (fun i h1 h2=>lr i j h1 h2 hj hjb) i hi him
 intro i j hi hij hj;by_cases ci:i<mid
 ·rw [p2.2.1 i (Or.inl ci)];by_cases cj:j<mid
  ·rw [p2.2.1 j (Or.inl cj)];exact s1 i j hi hij cj
  ·exact permIn_all d1 d2 mid b (fun x=>St cf pre d1[i]! x) (by rw [p1.1]; exact hb) p2 (fun j h1 h2=>lr1 i j hi ci h1 h2) j ag hj
 ·exact s2 i j ag hij hj
theorem Jz (h:jD cf pre) {a i b:Nat} {d d':Array α} (h2:bu cf pre (a+1) b d) (hp:fC pre a (a+1) b d) (hi:a+1≤i) (hib:i≤b) (lo:∀ q,a+1≤q→q<i→cf d[q]! d[a]! < 0) (hi':∀ q,i≤q→q<b→¬ cf d[q]! d[a]! < 0) (hr:iW a (a+1) i d d'):bu cf pre a b d':=by
 intro p q hap hpq hqb;by_cases c1:q<i - 1
 ·rw [hr.l1 hap ag,hr.l1 (i:=q) ag ag];exact h2 _ _ ag ag ag
 ·by_cases c2:q=i - 1
  ·rw [hr.l1 hap ag,hr.l2 (i:=q) ag ag];have e:a+(q - (a+(i - (a+1))))=a:=by omega
   rw [e];exact .inl (lo _ ag ag)
  ·rw [hr.l0 (i:=q) ag ag ag];by_cases c3:p<i - 1
   ·rw [hr.l1 hap ag];exact h2 _ _ ag ag hqb
   ·by_cases c4:p=i - 1
    ·rw [hr.l2 (i:=p) ag ag];have e:a+(p - (a+(i - (a+1))))=a:=by omega
     rw [e];exact St.of h (hi' q ag hqb) (hp a q (Mx _) ag ag hqb)
    ·rw [hr.l0 (i:=p) ag ag ag];exact h2 _ _ ag hpq hqb
theorem FW (h:jD cf pre) {a i m:Nat} {d d':Array α} (h1:bu cf pre a m d) (hp:fC pre a m (m+1) d) (hi:a≤i) (him:i≤m) (lo:∀ q,a≤q→q<i→¬ cf d[m]! d[q]! < 0) (hi':∀ q,i≤q→q<m→cf d[m]! d[q]! < 0) (hr:iW i m (m+1) d d'):bu cf pre a (m+1) d':=by
 intro p q hap hpq hqb;by_cases c1:q<i
 ·rw [hr.l0 (i:=p) ag ag ag,hr.l0 (i:=q) ag ag ag];exact h1 _ _ hap hpq ag
 ·by_cases c2:q=i
  ·subst c2;rw [hr.l0 (i:=p) ag ag ag,hr.l1 (i:=q) ag ag];have e:m+(q - q)=m:=by omega
   rw [e];exact St.of h (lo p hap hpq) (hp p m hap ag (Mx _) ag)
  ·rw [hr.l2 (i:=q) ag ag];by_cases c3:p<i
   ·rw [hr.l0 (i:=p) ag ag ag];exact h1 _ _ hap ag ag
   ·by_cases c4:p=i
    ·rw [hr.l1 (i:=p) ag ag];have e:m+(p - i)=m:=by omega
     rw [e];exact .inl (hi' _ ag ag)
    ·rw [hr.l2 (i:=p) ag ag];exact h1 _ _ ag ag ag
theorem bu.sub {a b a' b':Nat} {d:Array α} (h:bu cf pre a b d) (ha:a≤a') (hb:b'≤b):bu cf pre a' b' d:=fun i j h1 h2 h3=>h i j ag h2 ag
theorem bu.congr {a b:Nat} {d d':Array α} (h:bu cf pre a b d) (e:∀ i,a≤i→i<b→d'[i]! = d[i]!):bu cf pre a b d':=fun i j h1 h2 h3=>by
 rw [e i h1 ag,e j ag h3]; exact h i j h1 h2 h3
theorem bu.one {a b:Nat} {d:Array α} (h:b≤a+1):bu cf pre a b d:=fun i j h1 h2 h3=>by omega
theorem fC.perm {a m b:Nat} {d d':Array α} (hb:b≤d.size) (hmb:m≤b) (h:fC pre a m b d) (p1:PermIn a m d d'):fC pre a m b d':=fun i j h1 h2 h3 h4=>by
 rw [p1.2.1 j (Or.inr h3)]
 exact permIn_all d d' a m (fun x=>pre x d[j]!) ag p1 (fun i g1 g2=>h i j g1 g2 h3 h4) i h1 h2
end Go.Proofs.YtoefpglknaiaeaaGreat
namespace Go.Proofs.YtoefpglknaiaeaaGreat
open Go.Shelf Go.RowKit Go.Lib Go.Sort _root_.Go.Proofs.Tryz
variable {P:Program} {α:Type} [Inhabited α]
structure sV (P:Program) (k:Nat):Prop where
 mixed:P.follows .mixedOrders=true
 Md:P.funcs[277]? = some Tryz.f277
 L8:P.funcs[269]? = some Tryz.f269
 LD:P.funcs[245]? = some Tryz.f245
 Mh:P.funcs[213]? = some Tryz.f213
 Mk:P.funcs[179]? = some Tryz.f179
 t0:P.underlying 0=some (TypeDesc.tuple #[])
 a0:∀ w,(isAgg 0).run P w = .ok false w
 z0:∀ w,(Go.sizeOf 0).run P w = .ok 1 w
 t3:P.underlying 3=some (TypeDesc.int IntKind.i64)
 a3:∀ w,(isAgg 3).run P w = .ok false w
 z3:∀ w,(Go.sizeOf 3).run P w = .ok 1 w
 v3:∀ w,(zeroValue 3).run P w = .ok (Value.int IntKind.i64 0) w
 t4:P.underlying 4=some (TypeDesc.bool)
 a4:∀ w,(isAgg 4).run P w = .ok false w
 z4:∀ w,(Go.sizeOf 4).run P w = .ok 1 w
 t22:P.underlying 159=some (TypeDesc.slice 165)
 a22:∀ w,(isAgg 159).run P w = .ok false w
 z22:∀ w,(Go.sizeOf 159).run P w = .ok 1 w
 t25:P.underlying 206=some (TypeDesc.func #[165,165] #[3] false)
 a25:∀ w,(isAgg 206).run P w = .ok false w
 z25:∀ w,(Go.sizeOf 206).run P w = .ok 1 w
 t39:P.underlying 190=some (TypeDesc.int IntKind.u64)
 a39:∀ w,(isAgg 190).run P w = .ok false w
 z39:∀ w,(Go.sizeOf 190).run P w = .ok 1 w
 aE:∀ w,(isAgg 165).run P w = .ok true w
 zE:∀ w,(Go.sizeOf 165).run P w = .ok k w
theorem Tryz.Lc:sV Tryz.prog 3 where
 mixed:=by kernel_rfl
 Md:=func277
 L8:=func269
 LD:=func245
 Mh:=func213
 Mk:=func179
 t0:=underlying0
 a0:=Tryz.isAgg0
 z0:=Tryz.sizeOf0
 t3:=underlying3
 a3:=Tryz.isAgg3
 z3:=Tryz.sizeOf3
 v3:=Tryz.zeroValue3
 t4:=underlying4
 a4:=Tryz.isAgg4
 z4:=Tryz.sizeOf4
 t22:=underlying159
 a22:=Tryz.isAgg159
 z22:=Tryz.sizeOf159
 t25:=underlying206
 a25:=Tryz.isAgg206
 z25:=Tryz.sizeOf206
 t39:=underlying190
 a39:=Tryz.isAgg190
 z39:=Tryz.sizeOf190
 aE:=Tryz.isAgg165
 zE:=Tryz.sizeOf165
theorem lK (k:Nat) (L:sV P k) (enc:α→List Value) (g:Nat) (cb:Array Value) (blk off cap a b n:Nat) (d0 d:Array α) (w0 w:World)
  (R:RowK enc k w0 blk off d0) (hs:d0.size=d.size) (S:SWK enc k w0 blk off d w) (hab:a+n≤b) (hb:b+n≤d.size) (hsz:d.size<4611686018427387904) :
  Calls P 277 #[.slice (some (ah blk off)) d.size cap,a,b,n,.func (.func g) #[] cb] w fun e w'=>e = .returned (.tuple #[])∧∃ d',sN a b n d d'∧SWK enc k w0 blk off d' w':=by
 have mixed:=L.mixed; have t0:=L.t0; have a0:=L.a0; have z0:=L.z0; have t3:=L.t3; have a3:=L.a3; have z3:=L.z3; have v3:=L.v3; have t4:=L.t4; have a4:=L.a4; have z4:=L.z4; have t22:=L.t22; have a22:=L.a22; have z22:=L.z22; have t25:=L.t25; have a25:=L.a25; have z25:=L.z25; have aE:=L.aE; have zE:=L.zE;have FG:=L.Md;have S0:=S;clear S L;go_enter FG,ntmps277;go_wp2
 go_loopg [10] n (fun kx s10 wr=>∃ (i:Nat) (dk:Array α),s10 = .int .i64 i∧i≤n∧n - i≤kx∧dk.size=d.size∧Hid (sN a b i d dk)∧Aside (SWK enc k w0 blk off dk wr))
 case atStart=>exact ⟨0,d,rfl,MD _,Mx _,rfl,sN.zero a b d,S0⟩
 case round =>
  clear S0;obtain ⟨i,dk,rfl,hin,hkx,hds,HS,S1⟩:=hrel;by_cases hlt:i<n
  ·have hltz:(i:Int)<(n:Int):=by omega
   go_wp2_with fail
   have ea44:((a:Int)+(i:Int)).toNat=a+i:=by omega
   have pa44:(0:Int)≤(a:Int)+(i:Int):=by omega
   have ba44:(a:Int)+(i:Int)<(d.size:Int):=by omega
   have ra44:IntKind.i64.wrap ((a:Int)+(i:Int))=(a:Int)+(i:Int):=by rw [IntKind.wrap_i64]; omega
   have ec44:((b:Int)+(i:Int)).toNat=b+i:=by omega
   have pc44:(0:Int)≤(b:Int)+(i:Int):=by omega
   have bc44:(b:Int)+(i:Int)<(d.size:Int):=by omega
   have rc44:IntKind.i64.wrap ((b:Int)+(i:Int))=(b:Int)+(i:Int):=by rw [IntKind.wrap_i64]; omega
   have S2:Aside (SWK enc k w0 blk off (swp dk (a+i) (b+i)) ((wr.drew.setCells blk (off+(a+i)*k) (enc dk[b+i]!)).setCells blk (off+(b+i)*k) (enc dk[a+i]!))):=S1.out.swapped R (a+i) (b+i) ag ag;have l44a:=S1.out.ld1 R ag P (a+i) ag;have l44b:=S1.out.ld1 R ag P (b+i) ag;have s44a:=S1.out.st1 R ag P (a+i) ag dk[b+i]!;have s44b:=S1.out.st2 R ag P (a+i) (b+i) ag ag dk[b+i]! dk[a+i]!;have n44a:(enc dk[a+i]!).length=k:=R.hk _;have n44b:(enc dk[b+i]!).length=k:=R.hk _
   generalize enc dk[a+i]! = cI44 at S2 l44a s44b n44a;generalize enc dk[b+i]! = cJ44 at S2 l44b s44a s44b n44b;clear S1;go_wp2_with fail
   go_big_region_o
   clear l44a l44b s44a s44b;generalize (wr.drew.setCells blk (off+(a+i)*k) cJ44).setCells blk (off+(b+i)*k) cI44=w2 at S2 ⊢;go_wp2
   go_roundg (n - (i+1))
   case measure=>omega
   case rel=>exact ⟨i+1,swp dk (a+i) (b+i),by simp,by omega,Mx _,by rw [size_swp]; exact hds,HS.out.step ag ag,S2⟩
  ·have hltz:¬ (i:Int)<(n:Int):=by omega
   have e:i=n:=by omega
   subst e;go_wp2
   go_end0
   exact ⟨rfl,dk,HS.out,S1.out⟩
theorem mK (k:Nat) (L:sV P k) (enc:α→List Value) (g:Nat) (cb:Array Value) (blk off cap a m b:Nat) (d0 d:Array α) (w0 w:World)
  (R:RowK enc k w0 blk off d0) (hs:d0.size=d.size) (S:SWK enc k w0 blk off d w) (ham:a<m) (hmb:m<b) (hb:b≤d.size) (hsz:d.size<4611686018427387904)
  (eg:∀ args w,(callFunc 277 args).run P w = .ok (.enter 277 args) w) :
  Calls P 269 #[.slice (some (ah blk off)) d.size cap,a,m,b,.func (.func g) #[] cb] w fun e w'=>e = .returned (.tuple #[])∧∃ d',iW a m b d d'∧SWK enc k w0 blk off d' w':=by
 have mixed:=L.mixed; have t0:=L.t0; have a0:=L.a0; have z0:=L.z0; have t3:=L.t3; have a3:=L.a3; have z3:=L.z3; have v3:=L.v3; have t4:=L.t4; have a4:=L.a4; have z4:=L.z4; have t22:=L.t22; have a22:=L.a22; have z22:=L.z22; have t25:=L.t25; have a25:=L.a25; have z25:=L.z25;have FG:=L.L8;have HL:Hid (sV P k):=L;have S0:Aside (SWK enc k w0 blk off d w):=S;have HR:Aside (RowK enc k w0 blk off d0):=R;clear S L R;go_enter FG,ntmps269;go_wp2
 go_loopg [10,11] (b - a) (fun kx s10 s11 wr=>∃ (i j:Nat) (dk:Array α),s10 = .int .i64 i∧s11 = .int .i64 j∧0<i∧0<j∧i≤m - a∧j≤b - m∧i+j≤kx∧dk.size=d.size∧Hid (∀ d',iW (m - i) m (m+j) dk d'→iW a m b d d')∧Aside (SWK enc k w0 blk off dk wr))
 case atStart=>exact ⟨m - a,b - m,d,by go_num,by go_num,by omega,by omega,Mx _,Mx _,by omega,rfl,fun d' h=>by
  rw [show m - (m - a)=a by omega,show m+(b - m)=b by omega] at h; exact h,S0⟩
 case round =>
  clear S0;obtain ⟨i,j,dk,rfl,rfl,hi0,hj0,hi,hj,hkx,hds,HS,S1⟩:=hrel;have hmi:IntKind.i64.wrap ((m:Int) - (i:Int))=((m - i:Nat):Int):=by rw [IntKind.wrap_i64]; omega
  have hmj:IntKind.i64.wrap ((m:Int)+(j:Int))=(m:Int)+(j:Int):=by rw [IntKind.wrap_i64]; omega
  by_cases hij:i=j
  ·subst hij;have hne:((i:Int) != (i:Int))=false:=by simp
   have con:=lK k HL.out enc g cb blk off cap (m - i) m i d0 dk w0 wr HR.out ag S1.out ag ag ag;rw [hds] at con;clear S1;go_wp2_with (go_at_fn 277; refine con.mono ?_; rintro e w1 ⟨rfl,d1,hs1,S2⟩)
   go_end0
   exact ⟨rfl,d1,HS.out d1 (iW.same hs1 ag),S2⟩
  ·have hne:((i:Int) != (j:Int))=true:=by simp; omega
   by_cases hlt:j<i
   ·have hltz:(j:Int)<(i:Int):=by omega
    have con:=lK k HL.out enc g cb blk off cap (m - i) m j d0 dk w0 wr HR.out ag S1.out ag ag ag;rw [hds] at con;clear S1;go_wp2_with (go_at_fn 277; refine con.mono ?_; rintro e w1 ⟨rfl,d1,hs1,S2⟩)
    have z1:=hs1.1;go_roundg (i - j+j)
    case measure=>omega
    case rel=>exact ⟨i - j,j,d1,by go_num,rfl,by omega,hj0,by omega,hj,Mx _,by omega,fun d' h=>HS.out d' (iW.left hs1 ag hlt h),S2⟩
   ·have hltz:¬ (j:Int)<(i:Int):=by omega
    have hmji:IntKind.i64.wrap ((m:Int)+(j:Int) - (i:Int))=((m+j - i:Nat):Int):=by rw [IntKind.wrap_i64]; omega
    have con:=lK k HL.out enc g cb blk off cap (m - i) (m+j - i) i d0 dk w0 wr HR.out ag S1.out ag ag ag;rw [hds] at con;clear S1;go_wp2_with (go_at_fn 277; refine con.mono ?_; rintro e w1 ⟨rfl,d1,hs1,S2⟩)
    have z1:=hs1.1;go_roundg (i+(j - i))
    case measure=>omega
    case rel=>exact ⟨i,j - i,d1,rfl,by go_num,hi0,by omega,hi,by omega,Mx _,by omega,fun d' h=>HS.out d' (iW.right hs1 ag ag h),S2⟩
variable {P:Program} {α:Type} [Inhabited α]
theorem iW.perm {a m b:Nat} {d d':Array α} (h:iW a m b d d') (ham:a≤m) (hmb:m≤b) (hb:b≤d.size):PermIn a b d d':=by
 refine ⟨h.1,fun i hi=>h.l0 hi ham hmb,?_⟩;have hz:=h.1;have g:∀ (x:Array α) (i:Nat) (hi:i<x.size),x[i]=x[i]!:=fun x i hi=>(getElem!_pos x i hi).symm
 have e1:(d.extract a b).toList=(d.extract a m).toList ++ (d.extract m b).toList:=by
  apply List.ext_getElem
  ·simp; omega
  ·intro i h1 h2;simp only [Array.length_toList,Array.size_extract] at h1;by_cases c:i<m - a
   ·rw [MV (by simp; omega)];simp
   ·rw [Nx (by simp; omega)];simp only [NP,Array.getElem_extract,Array.length_toList,Array.size_extract]
    congr 1; omega
 have e2:(d'.extract a b).toList=(d.extract m b).toList ++ (d.extract a m).toList:=by
  apply List.ext_getElem
  ·simp; omega
  ·intro i h1 h2;simp only [Array.length_toList,Array.size_extract] at h1;by_cases c:i<b - m
   ·rw [MV (by simp; omega)];simp only [NP,Array.getElem_extract];rw [g d' _ ag,g d _ ag,h.l1 ag ag]
    congr 1; omega
   ·rw [Nx (by simp; omega)];simp only [NP,Array.getElem_extract,Array.length_toList,Array.size_extract];rw [g d' _ ag,g d _ ag,h.l2 ag ag]
    congr 1; omega
 rw [e1,e2];exact List.perm_append_comm
theorem IL (k:Nat) (L:sV P k) (enc:α→List Value) (cf:α→α→Int) (pre:α→α→Prop) (hO:jD cf pre) (g:Nat) (cb:Array Value) (blk off cap a m b:Nat) (d0 d:Array α) (w0 w:World)
  (eg:∀ args w,(callFunc g args).run P w = .ok (.enter g args) w) (hcmp:CmpLays P g cb enc k cf blk off d0.size w0) (R:RowK enc k w0 blk off d0) (hs:d0.size=d.size) (S:SWK enc k w0 blk off d w) (hma:m=a+1) (hmb:m<b) (hb:b≤d.size) (hsz:d.size<4611686018427387904) (h2:bu cf pre m b d) (hp:fC pre a m b d) :
  Calls P 245 #[.slice (some (ah blk off)) d.size cap,a,m,b,.func (.func g) #[] cb] w fun e w'=>e = .returned (.tuple #[])∧∃ d',PermIn a b d d'∧bu cf pre a b d'∧SWK enc k w0 blk off d' w':=by
 have mixed:=L.mixed; have t0:=L.t0; have a0:=L.a0; have z0:=L.z0; have t3:=L.t3; have a3:=L.a3; have z3:=L.z3; have v3:=L.v3; have t4:=L.t4; have a4:=L.a4; have z4:=L.z4; have t22:=L.t22; have a22:=L.a22; have z22:=L.z22; have t25:=L.t25; have a25:=L.a25; have z25:=L.z25; have t39:=L.t39; have a39:=L.a39; have z39:=L.z39; have aE:=L.aE; have zE:=L.zE;have FG:=L.LD;have HC:Aside _:=hcmp;have S0:Aside (SWK enc k w0 blk off d w):=S;have HR:Aside (RowK enc k w0 blk off d0):=R;have HO:Hid (jD cf pre):=hO;have H2:Hid (bu cf pre m b d):=h2;have HP:Hid (fC pre a m b d):=hp
 have hmz:((m:Int) - (a:Int) == 1)=true:=by simp; omega
 have hmw:IntKind.i64.wrap ((m:Int) - (a:Int))=(m:Int) - (a:Int):=by rw [IntKind.wrap_i64]; omega
 have HM:Hid (m=a+1):=hma;have hm1:a<m:=by omega
 have hm2:m<a+2:=by omega
 clear S L R hcmp h2 hp hma hO;go_enter FG,ntmps245;go_wp2
 go_loopg [10,11] (b - m) (fun kx s10 s11 wr=>∃ (i j:Nat),s10 = .int .i64 i∧s11 = .int .i64 j∧m≤i∧i≤j∧j≤b∧j - i≤kx∧Hid ((∀ q,m≤q→q<i→cf d[q]! d[a]! < 0)∧∀ q,j≤q→q<b→¬ cf d[q]! d[a]! < 0)∧Aside (SWK enc k w0 blk off d wr))
 case atStart=>exact ⟨m,b,rfl,rfl,Mx _,by omega,Mx _,Mx _,⟨fun q h1 h2=>by omega,fun q h1 h2=>by omega⟩,S0⟩
 case round =>
  clear S0;obtain ⟨i,j,rfl,rfl,hmi,hij,hjb,hkx,HI,S1⟩:=hrel;by_cases hlt:i<j
  ·have hltz:(i:Int)<(j:Int):=by omega
   by_cases hless:cf d[(i+j) / 2]! d[a]! < 0
   ·have hgo:∀ q,m≤q→q<(i+j) / 2+1→cf d[q]! d[a]! < 0:=fun q h1 h2=>by
     by_cases e:q=(i+j) / 2
     ·rw [e]; exact hless
     ·have h3:=(H2.out q ((i+j) / 2) h1 ag ag).le;have h4:=HO.out.FZ h3 hless;exact h4
    have HG:Hid _:=hgo;clear hgo;have ea24:(((i:Int)+(j:Int)) / 2).toNat=(i+j) / 2:=by omega
    have pa24:(0:Int)≤((i:Int)+(j:Int)) / 2:=by omega
    have ba24:((i:Int)+(j:Int)) / 2<(d.size:Int):=by omega
    have ra24:IntKind.i64.wrap (((i:Int)+(j:Int)) / 2)=((i:Int)+(j:Int)) / 2:=by rw [IntKind.wrap_i64]; omega
    have ec24:((a:Int)).toNat=a:=by omega
    have pc24:(0:Int)≤(a:Int):=by omega
    have bc24:(a:Int)<(d.size:Int):=by omega
    have rc24:IntKind.i64.wrap ((a:Int))=(a:Int):=by rw [IntKind.wrap_i64]; omega
    obtain ⟨x24,hx24⟩:∃ x,x=d[(i+j) / 2]!:=⟨_,rfl⟩
    obtain ⟨y24,hy24⟩:∃ x,x=d[a]!:=⟨_,rfl⟩
    have l24a:=S1.out.ld HR.out ag P ((i+j) / 2) ag;have l24b:=S1.out.ld HR.out ag P (a) ag;rw [← hx24] at l24a;rw [← hy24] at l24b;have hc24:=S1.out.cmp HC.out ag x24 y24;have hv24:cf x24 y24<0:=by rw [hx24,hy24]; exact hless
    have hd24:decide (cf x24 y24<0)=true:=decide_eq_true hv24;have HL24:Hid _:=hless;clear hless;clear hx24 hy24;go_wp2_with fail
    go_quiet_grown (first | (go_at_fn g; refine Calls.grown_of (hc24 _ _)))
    have S2:Aside (SWK enc k w0 blk off d (grow (wr.drewN nq) osq)):=S1.out.grown nq osq;clear l24a l24b hc24 S1;generalize grow (wr.drewN nq) osq=w2 at S2 ⊢;clear nq osq;go_wp2_with fail
    go_roundg (j - ((i+j) / 2+1))
    case measure=>omega
    case rel=>exact ⟨(i+j) / 2+1,j,by rw [show ((i:Int)+(j:Int)) / 2+1=(((i+j) / 2+1:Nat):Int) by omega],rfl,by omega,by omega,hjb,Mx _,⟨HG.out,HI.out.2⟩,S2⟩
   ·have hgo:∀ q,(i+j) / 2≤q→q<b→¬ cf d[q]! d[a]! < 0:=fun q h1 h2 h5=>by
     by_cases e:q=(i+j) / 2
     ·rw [e] at h5; exact hless h5
     ·have h3:=(H2.out ((i+j) / 2) q ag ag h2).le;exact hless (HO.out.FZ h3 h5)
    have HG:Hid _:=hgo;clear hgo;have ea24:(((i:Int)+(j:Int)) / 2).toNat=(i+j) / 2:=by omega
    have pa24:(0:Int)≤((i:Int)+(j:Int)) / 2:=by omega
    have ba24:((i:Int)+(j:Int)) / 2<(d.size:Int):=by omega
    have ra24:IntKind.i64.wrap (((i:Int)+(j:Int)) / 2)=((i:Int)+(j:Int)) / 2:=by rw [IntKind.wrap_i64]; omega
    have ec24:((a:Int)).toNat=a:=by omega
    have pc24:(0:Int)≤(a:Int):=by omega
    have bc24:(a:Int)<(d.size:Int):=by omega
    have rc24:IntKind.i64.wrap ((a:Int))=(a:Int):=by rw [IntKind.wrap_i64]; omega
    obtain ⟨x24,hx24⟩:∃ x,x=d[(i+j) / 2]!:=⟨_,rfl⟩
    obtain ⟨y24,hy24⟩:∃ x,x=d[a]!:=⟨_,rfl⟩
    have l24a:=S1.out.ld HR.out ag P ((i+j) / 2) ag;have l24b:=S1.out.ld HR.out ag P (a) ag;rw [← hx24] at l24a;rw [← hy24] at l24b;have hc24:=S1.out.cmp HC.out ag x24 y24;have hv24:¬ cf x24 y24<0:=by rw [hx24,hy24]; exact hless
    have hd24:decide (cf x24 y24<0)=false:=decide_eq_false hv24;have HL24:Hid _:=hless;clear hless;clear hx24 hy24;go_wp2_with fail
    go_quiet_grown (first | (go_at_fn g; refine Calls.grown_of (hc24 _ _)))
    have S2:Aside (SWK enc k w0 blk off d (grow (wr.drewN nq) osq)):=S1.out.grown nq osq;clear l24a l24b hc24 S1;generalize grow (wr.drewN nq) osq=w2 at S2 ⊢;clear nq osq;go_wp2_with fail
    go_roundg ((i+j) / 2 - i)
    case measure=>omega
    case rel=>exact ⟨i,(i+j) / 2,rfl,by rw [show ((i:Int)+(j:Int)) / 2=(((i+j) / 2:Nat):Int) by omega],hmi,by omega,by omega,Mx _,⟨HI.out.1,HG.out⟩,S2⟩
  ·obtain rfl:i=j:=by omega
   have hltz:¬ (i:Int)<(i:Int):=by omega
   have hiw:IntKind.i64.wrap ((i:Int) - 1)=(i:Int) - 1:=by rw [IntKind.wrap_i64]; omega
   go_wp2
   go_loopg [13] (i - 1 - a) (fun kx s13 wr2=>∃ (q:Nat) (dk:Array α),s13 = .int .i64 q∧a≤q∧q≤i - 1∧i - 1 - q≤kx∧dk.size=d.size∧Hid (iW a (a+1) (q+1) d dk)∧Aside (SWK enc k w0 blk off dk wr2))
   case atStart=>exact ⟨a,d,rfl,Mx _,by omega,Mx _,rfl,iW.none a (a+1) d,S1⟩
   case round =>
    clear S1;obtain ⟨q,dk,rfl,haq,hqi,hkq,hds,HQ,S1⟩:=hrel;by_cases hq:q<i - 1
    ·have hqz:(q:Int)<(i:Int) - 1:=by omega
     have ea44:((q:Int)).toNat=q:=by omega
     have pa44:(0:Int)≤(q:Int):=by omega
     have ba44:(q:Int)<(d.size:Int):=by omega
     have ra44:IntKind.i64.wrap ((q:Int))=(q:Int):=by rw [IntKind.wrap_i64]; omega
     have ec44:((q:Int)+1).toNat=q+1:=by omega
     have pc44:(0:Int)≤(q:Int)+1:=by omega
     have bc44:(q:Int)+1<(d.size:Int):=by omega
     have rc44:IntKind.i64.wrap ((q:Int)+1)=(q:Int)+1:=by rw [IntKind.wrap_i64]; omega
     have S2:Aside (SWK enc k w0 blk off (swp dk (q) (q+1)) ((wr.drew.setCells blk (off+(q)*k) (enc dk[q+1]!)).setCells blk (off+(q+1)*k) (enc dk[q]!))):=S1.out.swapped HR.out (q) (q+1) ag ag;have l44a:=S1.out.ld1 HR.out ag P (q) ag;have l44b:=S1.out.ld1 HR.out ag P (q+1) ag;have s44a:=S1.out.st1 HR.out ag P (q) ag dk[q+1]!;have s44b:=S1.out.st2 HR.out ag P (q) (q+1) ag ag dk[q+1]! dk[q]!;have n44a:(enc dk[q]!).length=k:=HR.out.hk _;have n44b:(enc dk[q+1]!).length=k:=HR.out.hk _
     generalize enc dk[q]! = cI44 at S2 l44a s44b n44a;generalize enc dk[q+1]! = cJ44 at S2 l44b s44a s44b n44b;clear S1;go_wp2_with fail
     go_big_region_o
     clear l44a l44b s44a s44b;generalize (wr.drew.setCells blk (off+(q)*k) cJ44).setCells blk (off+(q+1)*k) cI44=w2 at S2 ⊢;go_wp2
     go_roundg (i - 1 - (q+1))
     case measure=>omega
     case rel=>exact ⟨q+1,swp dk q (q+1),by simp,by omega,by omega,Mx _,by rw [size_swp]; exact hds,HQ.out.up haq ag,S2⟩
    ·have hqz:¬ (q:Int)<(i:Int) - 1:=by omega
     obtain rfl:q=i - 1:=by omega
     go_wp2
     (try simp only [Exit.inBlock,Exit.then]); refine MA (results_none rfl _ _ _) rfl ?_
     have hr:=HQ.out;rw [show i - 1+1=i by omega] at hr;refine ⟨rfl,dk,?_,?_,S1.out⟩
     ·obtain ⟨q1,q2,q3⟩:=hr.perm ag ag ag;exact permIn_mono d dk a i a b (Mx _) hjb hb ⟨q1,q2,q3⟩
     ·have hma:=HM.out;subst hma;exact Jz HO.out H2.out HP.out ag ag HI.out.1 (fun q g1 g2=>by have:=HI.out.2 q g1 g2; omega) hr
theorem JO (k:Nat) (L:sV P k) (enc:α→List Value) (cf:α→α→Int) (pre:α→α→Prop) (hO:jD cf pre) (g:Nat) (cb:Array Value) (blk off cap a m b:Nat) (d0 d:Array α) (w0 w:World)
  (eg:∀ args w,(callFunc g args).run P w = .ok (.enter g args) w) (hcmp:CmpLays P g cb enc k cf blk off d0.size w0) (R:RowK enc k w0 blk off d0) (hs:d0.size=d.size) (S:SWK enc k w0 blk off d w) (hma:a+1<m) (hmb:b=m+1) (hb:b≤d.size) (hsz:d.size<4611686018427387904) (h1:bu cf pre a m d) (hp:fC pre a m b d) :
  Calls P 245 #[.slice (some (ah blk off)) d.size cap,a,m,b,.func (.func g) #[] cb] w fun e w'=>e = .returned (.tuple #[])∧∃ d',PermIn a b d d'∧bu cf pre a b d'∧SWK enc k w0 blk off d' w':=by
 have mixed:=L.mixed; have t0:=L.t0; have a0:=L.a0; have z0:=L.z0; have t3:=L.t3; have a3:=L.a3; have z3:=L.z3; have v3:=L.v3; have t4:=L.t4; have a4:=L.a4; have z4:=L.z4; have t22:=L.t22; have a22:=L.a22; have z22:=L.z22; have t25:=L.t25; have a25:=L.a25; have z25:=L.z25; have t39:=L.t39; have a39:=L.a39; have z39:=L.z39; have aE:=L.aE; have zE:=L.zE;have FG:=L.LD;have HC:Aside _:=hcmp;have S0:Aside (SWK enc k w0 blk off d w):=S;have HR:Aside (RowK enc k w0 blk off d0):=R;have HO:Hid (jD cf pre):=hO;have H1:Hid (bu cf pre a m d):=h1;have HP:Hid (fC pre a m b d):=hp
 have hmz:((m:Int) - (a:Int) == 1)=false:=by simp; omega
 have hmw:IntKind.i64.wrap ((m:Int) - (a:Int))=(m:Int) - (a:Int):=by rw [IntKind.wrap_i64]; omega
 have hbz:((b:Int) - (m:Int) == 1)=true:=by simp; omega
 have hbw:IntKind.i64.wrap ((b:Int) - (m:Int))=(b:Int) - (m:Int):=by rw [IntKind.wrap_i64]; omega
 have HM:Hid (b=m+1):=hmb;have hm1:m<b:=by omega
 have hm2:b<m+2:=by omega
 clear S L R hcmp h1 hp hmb hO;go_enter FG,ntmps245;go_wp2
 go_loopg [14,15] (m - a) (fun kx s14 s15 wr=>∃ (i j:Nat),s14 = .int .i64 i∧s15 = .int .i64 j∧a≤i∧i≤j∧j≤m∧j - i≤kx∧Hid ((∀ q,a≤q→q<i→¬ cf d[m]! d[q]! < 0)∧∀ q,j≤q→q<m→cf d[m]! d[q]! < 0)∧Aside (SWK enc k w0 blk off d wr))
 case atStart=>exact ⟨a,m,rfl,rfl,Mx _,by omega,Mx _,Mx _,⟨fun q h1 h2=>by omega,fun q h1 h2=>by omega⟩,S0⟩
 case round =>
  clear S0;obtain ⟨i,j,rfl,rfl,hmi,hij,hjb,hkx,HI,S1⟩:=hrel;by_cases hlt:i<j
  ·have hltz:(i:Int)<(j:Int):=by omega
   by_cases hless:cf d[m]! d[(i+j) / 2]! < 0
   ·have hgo:∀ q,(i+j) / 2≤q→q<m→cf d[m]! d[q]! < 0:=fun q h1 h2=>by
     by_cases e:q=(i+j) / 2
     ·rw [e]; exact hless
     ·have h3:=(H1.out ((i+j) / 2) q ag ag h2).le;exact HO.out.Ce hless h3
    have HG:Hid _:=hgo;clear hgo;have ea24:((m:Int)).toNat=m:=by omega
    have pa24:(0:Int)≤(m:Int):=by omega
    have ba24:(m:Int)<(d.size:Int):=by omega
    have ra24:IntKind.i64.wrap ((m:Int))=(m:Int):=by rw [IntKind.wrap_i64]; omega
    have ec24:(((i:Int)+(j:Int)) / 2).toNat=(i+j) / 2:=by omega
    have pc24:(0:Int)≤((i:Int)+(j:Int)) / 2:=by omega
    have bc24:((i:Int)+(j:Int)) / 2<(d.size:Int):=by omega
    have rc24:IntKind.i64.wrap (((i:Int)+(j:Int)) / 2)=((i:Int)+(j:Int)) / 2:=by rw [IntKind.wrap_i64]; omega
    obtain ⟨x24,hx24⟩:∃ x,x=d[m]!:=⟨_,rfl⟩
    obtain ⟨y24,hy24⟩:∃ x,x=d[(i+j) / 2]!:=⟨_,rfl⟩
    have l24a:=S1.out.ld HR.out ag P (m) ag;have l24b:=S1.out.ld HR.out ag P ((i+j) / 2) ag;rw [← hx24] at l24a;rw [← hy24] at l24b;have hc24:=S1.out.cmp HC.out ag x24 y24;have hv24:cf x24 y24<0:=by rw [hx24,hy24]; exact hless
    have hd24:decide (cf x24 y24<0)=true:=decide_eq_true hv24;have HL24:Hid _:=hless;clear hless;clear hx24 hy24;go_wp2_with fail
    go_quiet_grown (first | (go_at_fn g; refine Calls.grown_of (hc24 _ _)))
    have S2:Aside (SWK enc k w0 blk off d (grow (wr.drewN nq) osq)):=S1.out.grown nq osq;clear l24a l24b hc24 S1;generalize grow (wr.drewN nq) osq=w2 at S2 ⊢;clear nq osq;go_wp2_with fail
    go_roundg ((i+j) / 2 - i)
    case measure=>omega
    case rel=>exact ⟨i,(i+j) / 2,rfl,by rw [show ((i:Int)+(j:Int)) / 2=(((i+j) / 2:Nat):Int) by omega],hmi,by omega,by omega,Mx _,⟨HI.out.1,HG.out⟩,S2⟩
   ·have hgo:∀ q,a≤q→q<(i+j) / 2+1→¬ cf d[m]! d[q]! < 0:=fun q h1 h2 h5=>by
     by_cases e:q=(i+j) / 2
     ·rw [e] at h5; exact hless h5
     ·have h3:=(H1.out q ((i+j) / 2) h1 ag ag).le;exact hless (HO.out.Ce h5 h3)
    have HG:Hid _:=hgo;clear hgo;have ea24:((m:Int)).toNat=m:=by omega
    have pa24:(0:Int)≤(m:Int):=by omega
    have ba24:(m:Int)<(d.size:Int):=by omega
    have ra24:IntKind.i64.wrap ((m:Int))=(m:Int):=by rw [IntKind.wrap_i64]; omega
    have ec24:(((i:Int)+(j:Int)) / 2).toNat=(i+j) / 2:=by omega
    have pc24:(0:Int)≤((i:Int)+(j:Int)) / 2:=by omega
    have bc24:((i:Int)+(j:Int)) / 2<(d.size:Int):=by omega
    have rc24:IntKind.i64.wrap (((i:Int)+(j:Int)) / 2)=((i:Int)+(j:Int)) / 2:=by rw [IntKind.wrap_i64]; omega
    obtain ⟨x24,hx24⟩:∃ x,x=d[m]!:=⟨_,rfl⟩
    obtain ⟨y24,hy24⟩:∃ x,x=d[(i+j) / 2]!:=⟨_,rfl⟩
    have l24a:=S1.out.ld HR.out ag P (m) ag;have l24b:=S1.out.ld HR.out ag P ((i+j) / 2) ag;rw [← hx24] at l24a;rw [← hy24] at l24b;have hc24:=S1.out.cmp HC.out ag x24 y24;have hv24:¬ cf x24 y24<0:=by rw [hx24,hy24]; exact hless
    have hd24:decide (cf x24 y24<0)=false:=decide_eq_false hv24;have HL24:Hid _:=hless;clear hless;clear hx24 hy24;go_wp2_with fail
    go_quiet_grown (first | (go_at_fn g; refine Calls.grown_of (hc24 _ _)))
    have S2:Aside (SWK enc k w0 blk off d (grow (wr.drewN nq) osq)):=S1.out.grown nq osq;clear l24a l24b hc24 S1;generalize grow (wr.drewN nq) osq=w2 at S2 ⊢;clear nq osq;go_wp2_with fail
    go_roundg (j - ((i+j) / 2+1))
    case measure=>omega
    case rel=>exact ⟨(i+j) / 2+1,j,by rw [show ((i:Int)+(j:Int)) / 2+1=(((i+j) / 2+1:Nat):Int) by omega],rfl,by omega,by omega,hjb,Mx _,⟨HG.out,HI.out.2⟩,S2⟩
  ·obtain rfl:i=j:=by omega
   have hltz:¬ (i:Int)<(i:Int):=by omega
   go_wp2
   go_loopg [17] (m - i) (fun kx s17 wr2=>∃ (q:Nat) (dk:Array α),s17 = .int .i64 q∧i≤q∧q≤m∧q - i≤kx∧dk.size=d.size∧Hid (iW q m (m+1) d dk)∧Aside (SWK enc k w0 blk off dk wr2))
   case atStart=>exact ⟨m,d,rfl,by omega,Mx _,Mx _,rfl,iW.nothing m (m+1) d ag,S1⟩
   case round =>
    clear S1;obtain ⟨q,dk,rfl,haq,hqi,hkq,hds,HQ,S1⟩:=hrel;by_cases hq:i<q
    ·have hqz:(i:Int)<(q:Int):=by omega
     obtain ⟨p,rfl⟩:∃ p,q=p+1:=⟨q - 1,by omega⟩
     have hqz':(i:Int)<(p:Int)+1:=by omega
     have ea44:((p:Int)+1).toNat=p+1:=by omega
     have pa44:(0:Int)≤(p:Int)+1:=by omega
     have ba44:(p:Int)+1<(d.size:Int):=by omega
     have ra44:IntKind.i64.wrap ((p:Int)+1)=(p:Int)+1:=by rw [IntKind.wrap_i64]; omega
     have ec44:((p:Int)).toNat=p:=by omega
     have pc44:(0:Int)≤(p:Int):=by omega
     have bc44:(p:Int)<(d.size:Int):=by omega
     have rc44:IntKind.i64.wrap ((p:Int))=(p:Int):=by rw [IntKind.wrap_i64]; omega
     have S2:Aside (SWK enc k w0 blk off (swp dk (p+1) (p)) ((wr.drew.setCells blk (off+(p+1)*k) (enc dk[p]!)).setCells blk (off+(p)*k) (enc dk[p+1]!))):=S1.out.swapped HR.out (p+1) (p) ag ag;have l44a:=S1.out.ld1 HR.out ag P (p+1) ag;have l44b:=S1.out.ld1 HR.out ag P (p) ag;have s44a:=S1.out.st1 HR.out ag P (p+1) ag dk[p]!;have s44b:=S1.out.st2 HR.out ag P (p+1) (p) ag ag dk[p]! dk[p+1]!;have n44a:(enc dk[p+1]!).length=k:=HR.out.hk _;have n44b:(enc dk[p]!).length=k:=HR.out.hk _
     generalize enc dk[p+1]! = cI44 at S2 l44a s44b n44a;generalize enc dk[p]! = cJ44 at S2 l44b s44a s44b n44b;clear S1;go_wp2_with fail
     go_big_region_o
     clear l44a l44b s44a s44b;generalize (wr.drew.setCells blk (off+(p+1)*k) cJ44).setCells blk (off+(p)*k) cI44=w2 at S2 ⊢;go_wp2
     go_roundg (p - i)
     case measure=>omega
     case rel=>exact ⟨p,swp dk (p+1) p,by first | rfl | go_num | (congr 1; omega),by omega,by omega,Mx _,by rw [size_swp]; exact hds,HQ.out.down ag ag,S2⟩
    ·have hqz:¬ (i:Int)<(q:Int):=by omega
     obtain rfl:q=i:=by omega
     go_wp2
     (try simp only [Exit.inBlock,Exit.then]); refine MA (results_none rfl _ _ _) rfl ?_
     have hr:=HQ.out;refine ⟨rfl,dk,?_,?_,S1.out⟩
     ·have hmb:=HM.out;subst hmb;exact permIn_mono d dk q (m+1) a (m+1) ag (Mx _) hb (hr.perm ag ag ag)
     ·have hmb:=HM.out;subst hmb;exact FW HO.out H1.out HP.out ag ag (fun q g1 g2=>by have:=HI.out.1 q g1 g2; omega) HI.out.2 hr
variable {P:Program} {α:Type} [Inhabited α]
def zQ (P:Program) (k:Nat) (enc:α→List Value) (cf:α→α→Int) (pre:α→α→Prop) (g:Nat) (cb:Array Value) (blk off cap:Nat) (d0:Array α) (w0:World) (n:Nat):Prop :=
 ∀ (a m b:Nat) (d:Array α) (w:World),b - a≤n→d0.size=d.size→SWK enc k w0 blk off d w→a<m→m<b→b≤d.size→bu cf pre a m d→bu cf pre m b d→fC pre a m b d →
  Calls P 245 #[.slice (some (ah blk off)) d.size cap,a,m,b,.func (.func g) #[] cb] w fun e w'=>e = .returned (.tuple #[])∧∃ d',PermIn a b d d'∧bu cf pre a b d'∧SWK enc k w0 blk off d' w'
theorem Split.left {cf:α→α→Int} {pre:α→α→Prop} {a s mid e b:Nat} {d:Array α} (h:Split cf pre a s mid e b d) (hc:s=a∨s=mid):bu cf pre a mid d:=by
 rcases hc with rfl | rfl
 ·exact h.s2
 ·exact h.s1
theorem Split.right {cf:α→α→Int} {pre:α→α→Prop} {a s mid e b:Nat} {d d2:Array α} (h:Split cf pre a s mid e b d) (p:PermIn a mid d d2) (hme:mid≤e):bu cf pre mid e d2∧bu cf pre e b d2∧fC pre mid e b d2:=by
 have q:∀ i,mid≤i→d2[i]! = d[i]!:=fun i hi=>p.2.1 i (.inr hi)
 refine ⟨h.s3.congr fun i h1 _=>q i h1,h.s4.congr fun i h1 _=>q i ag,fun i j h1 h2 h3 h4=>?_⟩;rw [q i h1,q j ag];exact h.p2 i j h1 h2 h3 h4
theorem Split.Aw {cf:α→α→Int} {pre:α→α→Prop} {a s mid e b:Nat} {d d2:Array α} (h:Split cf pre a s mid e b d) (p:PermIn a mid d d2) (hme:mid≤e) (hc:e=mid∨e=b):bu cf pre mid b d2:=by
 obtain ⟨r1,r2,_⟩:=h.right p hme;rcases hc with rfl | rfl
 ·exact r2
 ·exact r1
theorem kK {a s m mid e b:Nat} {d d1 d2 d3:Array α} (hr:iW s m e d d1) (p:PermIn a mid d1 d2) (q:PermIn mid b d2 d3) (h1:a≤s) (h2:s≤m) (h3:m≤e) (h4:e≤b) (h5:a≤mid∧mid≤b) (hb:b≤d.size):PermIn a b d d3:=by
 have z1:=hr.1;have z2:=p.1;exact permIn_trans d d1 d3 a b (permIn_mono d d1 s e a b h1 h4 hb (hr.perm h2 h3 ag)) (permIn_trans d1 d2 d3 a b (permIn_mono d1 d2 a mid a b (Mx _) h5.2 ag p) (permIn_mono d2 d3 mid b a b h5.1 (Mx _) ag q))
theorem Aq (n:Nat) (k:Nat) (L:sV P k) (enc:α→List Value) (cf:α→α→Int) (pre:α→α→Prop) (hO:jD cf pre) (g:Nat) (cb:Array Value) (blk off cap a m b:Nat) (d0 d:Array α) (w0 w:World)
  (eg:∀ args w,(callFunc g args).run P w = .ok (.enter g args) w) (hcmp:CmpLays P g cb enc k cf blk off d0.size w0) (R:RowK enc k w0 blk off d0) (hs:d0.size=d.size) (S:SWK enc k w0 blk off d w) (eSw:∀ args w,(callFunc 277 args).run P w = .ok (.enter 277 args) w) (eRo:∀ args w,(callFunc 269 args).run P w = .ok (.enter 269 args) w) (eSy:∀ args w,(callFunc 245 args).run P w = .ok (.enter 245 args) w) (hma:a+1<m) (hmb:m+1<b) (hb:b≤d.size) (hsz:d.size<4611686018427387904) (h1:bu cf pre a m d) (h2:bu cf pre m b d) (hp:fC pre a m b d) (hn:b - a≤n+1) (IH:zQ P k enc cf pre g cb blk off cap d0 w0 n) :
  Calls P 245 #[.slice (some (ah blk off)) d.size cap,a,m,b,.func (.func g) #[] cb] w fun e w'=>e = .returned (.tuple #[])∧∃ d',PermIn a b d d'∧bu cf pre a b d'∧SWK enc k w0 blk off d' w':=by
 have mixed:=L.mixed; have t0:=L.t0; have a0:=L.a0; have z0:=L.z0; have t3:=L.t3; have a3:=L.a3; have z3:=L.z3; have v3:=L.v3; have t4:=L.t4; have a4:=L.a4; have z4:=L.z4; have t22:=L.t22; have a22:=L.a22; have z22:=L.z22; have t25:=L.t25; have a25:=L.a25; have z25:=L.z25; have t39:=L.t39; have a39:=L.a39; have z39:=L.z39; have aE:=L.aE; have zE:=L.zE;have FG:=L.LD;have HLay:Aside (sV P k):=L;have HC:Aside _:=hcmp;have S0:Aside (SWK enc k w0 blk off d w):=S;have HR:Aside (RowK enc k w0 blk off d0):=R;have HO:Hid (jD cf pre):=hO;have H1:Hid (bu cf pre a m d):=h1
 have H2:Hid (bu cf pre m b d):=h2;have HP:Hid (fC pre a m b d):=hp;have HI:Hid (zQ P k enc cf pre g cb blk off cap d0 w0 n):=IH;have hmz:((m:Int) - (a:Int) == 1)=false:=by simp; omega
 have hmw:IntKind.i64.wrap ((m:Int) - (a:Int))=(m:Int) - (a:Int):=by rw [IntKind.wrap_i64]; omega
 have hbz:((b:Int) - (m:Int) == 1)=false:=by simp; omega
 have hbw:IntKind.i64.wrap ((b:Int) - (m:Int))=(b:Int) - (m:Int):=by rw [IntKind.wrap_i64]; omega
 obtain ⟨mid,hmid⟩:∃ mid,mid=(a+b) / 2:=⟨_,rfl⟩
 have hmidz:((a:Int)+(b:Int)) / 2=(mid:Int):=by omega
 have hm1:a<mid:=by omega
 have hm2:mid<b:=by omega
 have hm3:2*mid≤a+b:=by omega
 have hm4:a+b<2*mid+2:=by omega
 have hmm:IntKind.i64.wrap ((mid:Int)+(m:Int))=(mid:Int)+(m:Int):=by rw [IntKind.wrap_i64]; omega
 have hp1:IntKind.i64.wrap ((mid:Int)+(m:Int) - 1)=(mid:Int)+(m:Int) - 1:=by rw [IntKind.wrap_i64]; omega
 have hsb:IntKind.i64.wrap ((mid:Int)+(m:Int) - (b:Int))=(mid:Int)+(m:Int) - (b:Int):=by rw [IntKind.wrap_i64]; omega
 clear S L R hcmp h1 h2 hp hO IH hmid;have REST:∀ s0 r0:Nat,(s0=a∧r0=m∧m≤mid)∨(s0+b=mid+m∧r0=mid∧mid<m)→Aside (∀ s,s0≤s→s≤r0→(s0<s→¬ cf d[mid+m - s]! d[s - 1]! < 0)→(s<r0→cf d[mid+m - 1 - s]! d[s]! < 0)→∀ d',iW s m (mid+m - s) d d'→Split cf pre a s mid (mid+m - s) b d'∧a≤s∧s≤mid∧s≤m∧mid≤mid+m - s∧m≤mid+m - s∧mid+m - s≤b):=fun s0 r0 hc s hs1 hs2 c1 c2 d' hr=>by
  have q1:a≤s∧s≤mid∧s≤m∧mid≤mid+m - s∧m≤mid+m - s∧mid+m - s≤b:=by omega
  refine ⟨Ge HO.out H1.out H2.out HP.out q1.1 q1.2.2.1 q1.2.2.2.2.1 q1.2.2.2.2.2 ag ?_ ?_ hr,q1⟩
  ·by_cases e:s0<s
   ·exact .inr (.inr (c1 e))
   ·rcases hc with hc | hc
    ·exact .inl ag
    ·exact .inr (.inl ag)
  ·by_cases e:s<r0
   ·rw [show mid+m - s - 1=mid+m - 1 - s by omega]; exact .inr (.inr (c2 e))
   ·rcases hc with hc | hc
    ·exact .inl ag
    ·exact .inr (.inl ag)
 have RESTH:Hid (∀ s0 r0:Nat,(s0=a∧r0=m∧m≤mid)∨(s0+b=mid+m∧r0=mid∧mid<m)→Aside (∀ s,s0≤s→s≤r0→(s0<s→¬ cf d[mid+m - s]! d[s - 1]! < 0)→(s<r0→cf d[mid+m - 1 - s]! d[s]! < 0)→∀ d',iW s m (mid+m - s) d d'→Split cf pre a s mid (mid+m - s) b d'∧a≤s∧s≤mid∧s≤m∧mid≤mid+m - s∧m≤mid+m - s∧mid+m - s≤b)):=REST;clear REST;go_enter FG,ntmps245;go_upto_if 140 with fail
 go_cut [20,21] from 25 (fun s20 s21 wc=>∃ s0 r0:Nat,s20 = .int .i64 s0∧s21 = .int .i64 r0∧((s0=a∧r0=m∧m≤mid)∨(s0+b=mid+m∧r0=mid∧mid<m))∧wc=w)
 case first =>
  clear HC S0 HR HO H1 H2 HP HI RESTH HLay;by_cases hgt:mid<m
  ·have hgz:(mid:Int)<(m:Int):=by omega
   go_wp2_with fail
   go_meet
   case rel=>exact ⟨mid+m - b,mid,by go_num,rfl,.inr ⟨by omega,rfl,hgt⟩,rfl⟩
  ·have hgz:¬ (mid:Int)<(m:Int):=by omega
   go_wp2_with fail
   go_meet
   case rel=>exact ⟨a,m,rfl,rfl,.inl ⟨rfl,rfl,by omega⟩,rfl⟩
 case rest =>
 obtain ⟨s0,r0,rfl,rfl,hc0,rfl⟩:=hcut;have REST:=RESTH.out s0 r0 hc0;have hb1:s0≤r0:=by omega
 have hb2:r0≤mid:=by omega
 have hb3:a≤s0:=by omega
 have hb4:r0≤m:=by omega
 have hb5:mid+m≤s0+b:=by omega
 clear RESTH hc0;go_wp2_with fail
 go_loopg [20,21] (r0 - s0) (fun kx s20 s21 wr=>∃ (s r:Nat),s20 = .int .i64 s∧s21 = .int .i64 r∧s0≤s∧s≤r∧r≤r0∧r - s≤kx∧Hid ((s0<s→0≤cf d[mid+m - s]! d[s - 1]!)∧(r<r0→cf d[mid+m - 1 - r]! d[r]! < 0))∧Aside (SWK enc k w0 blk off d wr))
 case atStart=>exact ⟨s0,r0,rfl,rfl,Mx _,hb1,Mx _,Mx _,⟨fun h=>absurd h (Nat.lt_irrefl _),fun h=>absurd h (Nat.lt_irrefl _)⟩,S0⟩
 case round =>
  clear S0;obtain ⟨s,r,rfl,rfl,hss,hsr,hrr,hkx,HS,S1⟩:=hrel;by_cases hlt:s<r
  ·have hltz:(s:Int)<(r:Int):=by omega
   obtain ⟨c,hc⟩:∃ c,c=(s+r) / 2:=⟨_,rfl⟩
   have hcz:((s:Int)+(r:Int)) / 2=(c:Int):=by omega
   have hc1:s≤c:=by omega
   have hc2:c<r:=by omega
   obtain ⟨q,hq⟩:∃ q,q=mid+m - 1 - c:=⟨_,rfl⟩
   have hqz:IntKind.i64.wrap ((mid:Int)+(m:Int) - 1 - (c:Int))=(q:Int):=by rw [IntKind.wrap_i64]; omega
   have hq1:q+c<mid+m:=by omega
   have hq2:mid+m≤q+c+1:=by omega
   have HQ:Hid (q=mid+m - 1 - c):=hq;clear hc hq;by_cases hless:cf d[q]! d[c]! < 0
   ·have HG:Hid (cf d[q]! d[c]! < 0):=hless;have ea24:((q:Int)).toNat=q:=by omega
    have pa24:(0:Int)≤(q:Int):=by omega
    have ba24:(q:Int)<(d.size:Int):=by omega
    have ra24:IntKind.i64.wrap ((q:Int))=(q:Int):=by rw [IntKind.wrap_i64]; omega
    have ec24:((c:Int)).toNat=c:=by omega
    have pc24:(0:Int)≤(c:Int):=by omega
    have bc24:(c:Int)<(d.size:Int):=by omega
    have rc24:IntKind.i64.wrap ((c:Int))=(c:Int):=by rw [IntKind.wrap_i64]; omega
    obtain ⟨x24,hx24⟩:∃ x,x=d[q]!:=⟨_,rfl⟩
    obtain ⟨y24,hy24⟩:∃ x,x=d[c]!:=⟨_,rfl⟩
    have l24a:=S1.out.ld HR.out ag P (q) ag;have l24b:=S1.out.ld HR.out ag P (c) ag;rw [← hx24] at l24a;rw [← hy24] at l24b;have hc24:=S1.out.cmp HC.out ag x24 y24;have hv24:cf x24 y24<0:=by rw [hx24,hy24]; exact hless
    have hd24:decide (cf x24 y24<0)=true:=decide_eq_true hv24;have HL24:Hid _:=hless;clear hless;clear hx24 hy24;go_wp2_with fail
    go_quiet_grown (first | (go_at_fn g; refine Calls.grown_of (hc24 _ _)))
    have S2:Aside (SWK enc k w0 blk off d (grow (wr.drewN nq) osq)):=S1.out.grown nq osq;clear l24a l24b hc24 S1;generalize grow (wr.drewN nq) osq=w2 at S2 ⊢;clear nq osq;go_wp2_with fail
    go_roundg (c - s)
    case measure=>omega
    case rel=>exact ⟨s,c,rfl,rfl,hss,by omega,by omega,Mx _,⟨HS.out.1,fun _=>by rw [← HQ.out]; exact HG.out⟩,S2⟩
   ·have HG:Hid (¬ cf d[q]! d[c]! < 0):=hless;have ea24:((q:Int)).toNat=q:=by omega
    have pa24:(0:Int)≤(q:Int):=by omega
    have ba24:(q:Int)<(d.size:Int):=by omega
    have ra24:IntKind.i64.wrap ((q:Int))=(q:Int):=by rw [IntKind.wrap_i64]; omega
    have ec24:((c:Int)).toNat=c:=by omega
    have pc24:(0:Int)≤(c:Int):=by omega
    have bc24:(c:Int)<(d.size:Int):=by omega
    have rc24:IntKind.i64.wrap ((c:Int))=(c:Int):=by rw [IntKind.wrap_i64]; omega
    obtain ⟨x24,hx24⟩:∃ x,x=d[q]!:=⟨_,rfl⟩
    obtain ⟨y24,hy24⟩:∃ x,x=d[c]!:=⟨_,rfl⟩
    have l24a:=S1.out.ld HR.out ag P (q) ag;have l24b:=S1.out.ld HR.out ag P (c) ag;rw [← hx24] at l24a;rw [← hy24] at l24b;have hc24:=S1.out.cmp HC.out ag x24 y24;have hv24:¬ cf x24 y24<0:=by rw [hx24,hy24]; exact hless
    have hd24:decide (cf x24 y24<0)=false:=decide_eq_false hv24;have HL24:Hid _:=hless;clear hless;clear hx24 hy24;go_wp2_with fail
    go_quiet_grown (first | (go_at_fn g; refine Calls.grown_of (hc24 _ _)))
    have S2:Aside (SWK enc k w0 blk off d (grow (wr.drewN nq) osq)):=S1.out.grown nq osq;clear l24a l24b hc24 S1;generalize grow (wr.drewN nq) osq=w2 at S2 ⊢;clear nq osq;go_wp2_with fail
    go_roundg (r - (c+1))
    case measure=>omega
    case rel=>exact ⟨c+1,r,by go_num,rfl,by omega,by omega,hrr,Mx _,⟨fun _=>by
     rw [show mid+m - (c+1)=mid+m - 1 - c by omega,show c+1 - 1=c by omega,← HQ.out];have:=HG.out; omega,HS.out.2⟩,S2⟩
  ·obtain rfl:s=r:=by omega
   have hltz:¬ (s:Int)<(s:Int):=by omega
   obtain ⟨e,he⟩:∃ e,e=mid+m - s:=⟨_,rfl⟩
   have HT:Hid (∀ d',iW s m e d d'→Split cf pre a s mid e b d'∧a≤s∧s≤mid∧s≤m∧mid≤e∧m≤e∧e≤b):=by
    show _;rw [he];exact REST.out s hss hrr HS.out.1 HS.out.2
   have he1:e+s≤mid+m:=by omega
   have he2:mid+m≤e+s:=by omega
   have hew:IntKind.i64.wrap ((mid:Int)+(m:Int) - (s:Int))=(e:Int):=by rw [IntKind.wrap_i64]; omega
   clear he REST HS;by_cases c1:s<m
   ·by_cases c2:s<mid
    ·by_cases c3:a<s
     ·by_cases c4:e<b
      ·have z1:(s:Int)<(m:Int):=by omega
       have z2:(m:Int)<(e:Int):=by omega
       have z3:(a:Int)<(s:Int):=by omega
       have z4:(s:Int)<(mid:Int):=by omega
       have z5:(mid:Int)<(e:Int):=by omega
       have z6:(e:Int)<(b:Int):=by omega
       have con:=mK k HLay.out enc g cb blk off cap s m e d0 d w0 wr HR.out ag S1.out ag ag ag ag eSw;clear S1;go_wp2_with fail
       refine con.mono ?_;rintro _ w1 ⟨rfl,d1,hr,S2⟩;have S2:Aside _:=S2;clear con;dsimp only;have hz1:=hr.1;have SP:=HT.out d1 hr;have HRt:Hid (iW s m e d d1):=hr;have HSP:Hid (Split cf pre a s mid e b d1):=SP.1;clear SP hr;have con:=HI.out a s mid d1 w1 ag ag S2.out ag ag ag HSP.out.s1 HSP.out.s2 HSP.out.p1;rw [hz1] at con;clear S2;go_wp2_with fail
       refine con.mono ?_;rintro _ w2 ⟨rfl,d2,q1,q2,S3⟩;have S3:Aside _:=S3;have Q1:Hid (PermIn a mid d1 d2):=q1;have Q2:Hid (bu cf pre a mid d2):=q2;have hz2:d2.size=d1.size:=q1.1;clear con q1 q2;dsimp only;have RR:=HSP.out.right Q1.out ag;have con:=HI.out mid e b d2 w2 ag ag S3.out ag ag ag RR.1 RR.2.1 RR.2.2;rw [hz2,hz1] at con;clear S3 RR;go_wp2_with fail
       refine con.mono ?_;rintro _ w3 ⟨rfl,d3,q3,q4,S4⟩;have S4:Aside _:=S4;have Q3:Hid (PermIn mid b d2 d3):=q3;have Q4:Hid (bu cf pre mid b d3):=q4;clear con q3 q4;dsimp only;go_wp2_with fail
       go_end0
       exact ⟨rfl,d3,kK HRt.out Q1.out Q3.out ag ag ag ag ag hb,kJ (d:=d1) ag ag HSP.out.lr Q1.out Q2.out Q3.out Q4.out,S4.out⟩
      ·have z1:(s:Int)<(m:Int):=by omega
       have z2:(m:Int)<(e:Int):=by omega
       have z3:(a:Int)<(s:Int):=by omega
       have z4:(s:Int)<(mid:Int):=by omega
       have z5:(mid:Int)<(e:Int):=by omega
       have z6:¬ (e:Int)<(b:Int):=by omega
       have con:=mK k HLay.out enc g cb blk off cap s m e d0 d w0 wr HR.out ag S1.out ag ag ag ag eSw;clear S1;go_wp2_with fail
       refine con.mono ?_;rintro _ w1 ⟨rfl,d1,hr,S2⟩;have S2:Aside _:=S2;clear con;dsimp only;have hz1:=hr.1;have SP:=HT.out d1 hr;have HRt:Hid (iW s m e d d1):=hr;have HSP:Hid (Split cf pre a s mid e b d1):=SP.1;clear SP hr;have con:=HI.out a s mid d1 w1 ag ag S2.out ag ag ag HSP.out.s1 HSP.out.s2 HSP.out.p1;rw [hz1] at con;clear S2;go_wp2_with fail
       refine con.mono ?_;rintro _ w2 ⟨rfl,d2,q1,q2,S3⟩;have S3:Aside _:=S3;have Q1:Hid (PermIn a mid d1 d2):=q1;have Q2:Hid (bu cf pre a mid d2):=q2;have hz2:d2.size=d1.size:=q1.1;clear con q1 q2;dsimp only;have Q3:Hid (PermIn mid b d2 d2):=permIn_refl d2 mid b;have Q4:Hid (bu cf pre mid b d2):=HSP.out.Aw Q1.out ag ag;go_wp2_with fail
       go_end0
       exact ⟨rfl,d2,kK HRt.out Q1.out Q3.out ag ag ag ag ag hb,kJ (d:=d1) ag ag HSP.out.lr Q1.out Q2.out Q3.out Q4.out,S3.out⟩
     ·by_cases c4:e<b
      ·have z1:(s:Int)<(m:Int):=by omega
       have z2:(m:Int)<(e:Int):=by omega
       have z3:¬ (a:Int)<(s:Int):=by omega
       have z4:(s:Int)<(mid:Int):=by omega
       have z5:(mid:Int)<(e:Int):=by omega
       have z6:(e:Int)<(b:Int):=by omega
       have con:=mK k HLay.out enc g cb blk off cap s m e d0 d w0 wr HR.out ag S1.out ag ag ag ag eSw;clear S1;go_wp2_with fail
       refine con.mono ?_;rintro _ w1 ⟨rfl,d1,hr,S2⟩;have S2:Aside _:=S2;clear con;dsimp only;have hz1:=hr.1;have SP:=HT.out d1 hr;have HRt:Hid (iW s m e d d1):=hr;have HSP:Hid (Split cf pre a s mid e b d1):=SP.1;clear SP hr;obtain ⟨d2,hd2⟩:∃ d2,d2=d1:=⟨_,rfl⟩
       have hz2:d2.size=d1.size:=by rw [hd2]
       have Q1:Hid (PermIn a mid d1 d2):=by show PermIn a mid d1 d2; rw [hd2]; exact permIn_refl d1 a mid
       have Q2:Hid (bu cf pre a mid d2):=by show bu cf pre a mid d2; rw [hd2]; exact HSP.out.left ag
       rw [← hd2] at S2;have S3:Aside _:=S2;clear S2 hd2;have RR:=HSP.out.right Q1.out ag;have con:=HI.out mid e b d2 w1 ag ag S3.out ag ag ag RR.1 RR.2.1 RR.2.2;rw [hz2,hz1] at con;clear S3 RR;go_wp2_with fail
       refine con.mono ?_;rintro _ w3 ⟨rfl,d3,q3,q4,S4⟩;have S4:Aside _:=S4;have Q3:Hid (PermIn mid b d2 d3):=q3;have Q4:Hid (bu cf pre mid b d3):=q4;clear con q3 q4;dsimp only;go_wp2_with fail
       go_end0
       exact ⟨rfl,d3,kK HRt.out Q1.out Q3.out ag ag ag ag ag hb,kJ (d:=d1) ag ag HSP.out.lr Q1.out Q2.out Q3.out Q4.out,S4.out⟩
      ·have z1:(s:Int)<(m:Int):=by omega
       have z2:(m:Int)<(e:Int):=by omega
       have z3:¬ (a:Int)<(s:Int):=by omega
       have z4:(s:Int)<(mid:Int):=by omega
       have z5:(mid:Int)<(e:Int):=by omega
       have z6:¬ (e:Int)<(b:Int):=by omega
       have con:=mK k HLay.out enc g cb blk off cap s m e d0 d w0 wr HR.out ag S1.out ag ag ag ag eSw;clear S1;go_wp2_with fail
       refine con.mono ?_;rintro _ w1 ⟨rfl,d1,hr,S2⟩;have S2:Aside _:=S2;clear con;dsimp only;have hz1:=hr.1;have SP:=HT.out d1 hr;have HRt:=aB hr;have HSP:=aB SP.1;clear SP hr;obtain ⟨d2,hd2⟩:∃ d2,d2=d1:=⟨_,rfl⟩
       have hz2:d2.size=d1.size:=by rw [hd2]
       have Q1:Hid (PermIn a mid d1 d2):=by show PermIn a mid d1 d2; rw [hd2]; exact permIn_refl d1 a mid
       have Q2:Hid (bu cf pre a mid d2):=by show bu cf pre a mid d2; rw [hd2]; exact HSP.out.left ag
       rw [← hd2] at S2;have S3:Aside _:=S2;clear S2 hd2;have Q3:=aB (permIn_refl d2 mid b);have Q4:=aB (HSP.out.Aw Q1.out ag ag);go_wp2_with fail
       go_end0
       exact ⟨rfl,d2,kK HRt.out Q1.out Q3.out ag ag ag ag ag hb,kJ (d:=d1) ag ag HSP.out.lr Q1.out Q2.out Q3.out Q4.out,S3.out⟩
    ·have z1:(s:Int)<(m:Int):=by omega
     have z2:¬ (m:Int)<(e:Int):=by omega
     have z3:(a:Int)<(s:Int):=by omega
     have z4:¬ (s:Int)<(mid:Int):=by omega
     have z5:(mid:Int)<(e:Int):=by omega
     have z6:(e:Int)<(b:Int):=by omega
     obtain ⟨d1,hd1⟩:∃ d1,d1=d:=⟨_,rfl⟩
     have hz1:d1.size=d.size:=by rw [hd1]
     have hr:iW s m e d d1:=by
      rw [hd1];obtain rfl:e=m:=by omega
      exact iW.none s e d
     rw [← hd1] at S1;have S2:Aside _:=S1;clear S1;have SP:=HT.out d1 hr;have HRt:=aB hr;have HSP:=aB SP.1;clear SP hr hd1;obtain ⟨d2,hd2⟩:∃ d2,d2=d1:=⟨_,rfl⟩
     have hz2:d2.size=d1.size:=by rw [hd2]
     have Q1:Hid (PermIn a mid d1 d2):=by show PermIn a mid d1 d2; rw [hd2]; exact permIn_refl d1 a mid
     have Q2:Hid (bu cf pre a mid d2):=by show bu cf pre a mid d2; rw [hd2]; exact HSP.out.left ag
     rw [← hd2] at S2;have S3:Aside _:=S2;clear S2 hd2;have RR:=HSP.out.right Q1.out ag;have con:=HI.out mid e b d2 wr ag ag S3.out ag ag ag RR.1 RR.2.1 RR.2.2;rw [hz2,hz1] at con;clear S3 RR;go_wp2_with fail
     refine con.mono ?_;rintro _ w3 ⟨rfl,d3,q3,q4,S4⟩;have S4:Aside _:=S4;have Q3:=aB q3;have Q4:=aB q4;clear con q3 q4;dsimp only;go_wp2_with fail
     go_end0
     exact ⟨rfl,d3,kK HRt.out Q1.out Q3.out ag ag ag ag ag hb,kJ (d:=d1) ag ag HSP.out.lr Q1.out Q2.out Q3.out Q4.out,S4.out⟩
   ·by_cases c2:s<mid;have z1:¬ (s:Int)<(m:Int):=by omega
    have z2:(m:Int)<(e:Int):=by omega
    have z3:(a:Int)<(s:Int):=by omega
    have z4:(s:Int)<(mid:Int):=by omega
    have z5:¬ (mid:Int)<(e:Int):=by omega
    have z6:(e:Int)<(b:Int):=by omega
    obtain ⟨d1,hd1⟩:∃ d1,d1=d:=⟨_,rfl⟩
    have hz1:d1.size=d.size:=by rw [hd1]
    have hr:iW s m e d d1:=by
     rw [hd1];obtain rfl:s=m:=by omega
     exact iW.nothing s e d ag
    rw [← hd1] at S1;have S2:Aside _:=S1;clear S1;have SP:=HT.out d1 hr;have HRt:=aB hr;have HSP:=aB SP.1;clear SP hr hd1;have con:=HI.out a s mid d1 wr ag ag S2.out ag ag ag HSP.out.s1 HSP.out.s2 HSP.out.p1;rw [hz1] at con;clear S2;go_wp2_with fail
    refine con.mono ?_;rintro _ w2 ⟨rfl,d2,q1,q2,S3⟩;have S3:Aside _:=S3;have Q1:=aB q1;have Q2:=aB q2;have hz2:=q1.1;clear con q1 q2;dsimp only;rotate_left;have z1:¬ (s:Int)<(m:Int):=by omega
    have z2:¬ (m:Int)<(e:Int):=by omega
    have z3:(a:Int)<(s:Int):=by omega
    have z4:¬ (s:Int)<(mid:Int):=by omega
    have z5:¬ (mid:Int)<(e:Int):=by omega
    have z6:(e:Int)<(b:Int):=by omega
    obtain ⟨d1,hd1⟩:∃ d1,d1=d:=⟨_,rfl⟩
    have hz1:d1.size=d.size:=by rw [hd1]
    have hr:iW s m e d d1:=by
     rw [hd1];obtain rfl:s=m:=by omega
     exact iW.nothing s e d ag
    rw [← hd1] at S1;have S2:Aside _:=S1;clear S1;have SP:=HT.out d1 hr;have HRt:=aB hr;have HSP:=aB SP.1;clear SP hr hd1;obtain ⟨d2,hd2⟩:∃ d2,d2=d1:=⟨_,rfl⟩
    have hz2:d2.size=d1.size:=by rw [hd2]
    have Q1:Hid (PermIn a mid d1 d2):=by show PermIn a mid d1 d2; rw [hd2]; exact permIn_refl d1 a mid
    have Q2:Hid (bu cf pre a mid d2):=by show bu cf pre a mid d2; rw [hd2]; exact HSP.out.left ag
    rw [← hd2] at S2;have S3:Aside _:=S2;clear S2 hd2
    all_goals
     have Q3:=aB (permIn_refl d2 mid b);have Q4:=aB (HSP.out.Aw Q1.out ag ag);go_wp2_with fail
     go_end0
     exact ⟨rfl,d2,kK HRt.out Q1.out Q3.out ag ag ag ag ag hb,kJ (d:=d1) ag ag HSP.out.lr Q1.out Q2.out Q3.out Q4.out,S3.out⟩
variable {P:Program} {α:Type} [Inhabited α]
theorem Ik (k:Nat) (L:sV P k) (enc:α→List Value) (cf:α→α→Int) (pre:α→α→Prop) (hO:jD cf pre) (g:Nat) (cb:Array Value) (blk off cap:Nat) (d0:Array α) (w0:World) (hsz:d0.size<4611686018427387904)
  (eg:∀ args w,(callFunc g args).run P w = .ok (.enter g args) w) (hcmp:CmpLays P g cb enc k cf blk off d0.size w0) (R:RowK enc k w0 blk off d0)
  (eSw:∀ args w,(callFunc 277 args).run P w = .ok (.enter 277 args) w) (eRo:∀ args w,(callFunc 269 args).run P w = .ok (.enter 269 args) w) (eSy:∀ args w,(callFunc 245 args).run P w = .ok (.enter 245 args) w) :
  ∀ n,zQ P k enc cf pre g cb blk off cap d0 w0 n
 | 0=>fun a m b d w hn _ _ h1 h2 _ _ _ _=>absurd hn ag
 | n+1=>fun a m b d w hn hs S h1 h2 hb s1 s2 p=>by
  have IH:=Ik k L enc cf pre hO g cb blk off cap d0 w0 hsz eg hcmp R eSw eRo eSy n
  by_cases c1:m=a+1
  ·exact IL k L enc cf pre hO g cb blk off cap a m b d0 d w0 w eg hcmp R hs S c1 h2 hb ag s2 p
  ·by_cases c2:b=m+1
   ·exact JO k L enc cf pre hO g cb blk off cap a m b d0 d w0 w eg hcmp R hs S ag c2 hb ag s1 p
   ·exact Aq n k L enc cf pre hO g cb blk off cap a m b d0 d w0 w eg hcmp R hs S eSw eRo eSy ag ag hb ag s1 s2 p hn IH
section
variable (cf:α→α→Int) (pre:α→α→Prop)
def kf (bs n lo:Nat) (d:Array α):Prop:=∀ c,bs ∣ c→lo≤c→c<n→bu cf pre c (min (c+bs) n) d
def qM (B a:Nat) (d:Array α):Prop:=∀ c,B ∣ c→c+B≤a→bu cf pre c (c+B) d
def gO (bs n lo:Nat) (d:Array α):Prop:=∀ c,bs ∣ c→lo≤c→c≤n→fC pre 0 c n d
end
theorem mT {k a c:Nat} (ha:k ∣ a) (hc:k ∣ c) (h:a<c):a+k≤c:=by
 obtain ⟨x,rfl⟩:=ha
 obtain ⟨y,rfl⟩:=hc
 have hxy:x<y:=Nat.lt_of_mul_lt_mul_left h
 calc k*x+k=k*(x+1):=by rw [Nat.mul_add,Nat.mul_one]
  _≤k*y:=Nat.mul_le_mul_left k hxy
variable {cf:α→α→Int} {pre:α→α→Prop}
theorem fC.Hi {a m b:Nat} {d d':Array α} (hb:b≤d.size) (_hm:a≤m) (h:fC pre a m b d) (p1:PermIn m b d d'):fC pre a m b d':=fun i j h1 h2 h3 h4=>by
 rw [p1.2.1 i (Or.inl h2)]
 exact permIn_all d d' m b (fun x=>pre d[i]! x) hb p1 (fun j g1 g2=>h i j h1 h2 g1 g2) j h3 h4
theorem qM.step {B a:Nat} {d d':Array α} (h:qM cf pre B a d) (ha:B ∣ a) (p:PermIn a (a+B) d d') (s:bu cf pre a (a+B) d'):qM cf pre B (a+B) d':=fun c hc hl=>by
 rcases Nl c a with h1 | h1
 ·have h2:=mT hc ha h1
  exact (h c hc h2).congr fun i _ g2=>p.2.1 i (.inl ag)
 ·obtain rfl:c=a:=by omega
  exact s
theorem gO.step {B n a b:Nat} {d d':Array α} (hn:n≤d.size) (h:gO pre B n 0 d) (hb:b≤n) (p:PermIn a b d d') (hc:∀ c,B ∣ c→c≤a∨b≤c):gO pre B n 0 d':=fun c hB _ hcn=>by
 have hP:=h c hB (MD _) hcn
 rcases hc c hB with h1 | h1
 ·exact hP.Hi hn (MD _) (permIn_mono d d' a b c n h1 hb hn p)
 ·exact hP.perm hn hcn (permIn_mono d d' a b 0 c (MD _) h1 ag p)
theorem gO.after {bs n a b:Nat} {d d':Array α} (hn:n≤d.size) (h:gO pre bs n a d) (hab:a≤b) (p:PermIn a b d d'):gO pre bs n b d':=fun c hB hbc hcn=>(h c hB ag hcn).perm hn hcn (permIn_mono d d' a b 0 c (MD _) hbc ag p)
theorem kf.after {bs n a b:Nat} {d d':Array α} (h:kf cf pre bs n a d) (hab:a≤b) (p:PermIn a b d d'):kf cf pre bs n b d':=fun c hB hbc hcn=>(h c hB ag hcn).congr fun i g1 _=>p.2.1 i (.inr ag)
theorem kf.whole {B n a:Nat} {d:Array α} (h:qM cf pre B a d) (ha:B ∣ a) (_hB:0<B) (hn:n<a+B) (s:bu cf pre a n d):kf cf pre B n 0 d:=fun c hc _ hcn=>by
 rcases Nl c a with h1 | h1
 ·have h2:=mT hc ha h1
  exact (h c hc h2).sub (Mx _) (Nat.min_le_left _ _)
 ·rcases Nl a c with h2 | h2
  ·have:=mT ha hc h2
   omega
  ·obtain rfl:c=a:=by omega
   rw [Nat.min_eq_right ag]; exact s
theorem gO.of {n:Nat} {d:Array α} (h:AK pre 0 n d) (bs:Nat):gO pre bs n 0 d:=fun c _ _ _ i j _ h1 h2 h3=>h i j (MD _) ag h3
def GD (P:Program) (k:Nat) (enc:α→List Value) (cf:α→α→Int) (g:Nat) (cb:Array Value) (blk off cap:Nat) (d0:Array α) (w0:World):Prop :=
 ∀ (a b:Nat) (d:Array α) (w:World),d0.size=d.size→SWK enc k w0 blk off d w→a≤b→b≤d.size →
  Calls P 244 #[.slice (some (ah blk off)) d.size cap,a,b,.func (.func g) #[] cb] w fun e w'=>e = .returned (.tuple #[])∧SWK enc k w0 blk off (insertionSort (ltOf cf) d a b) w'
theorem D0 (k:Nat) (L:sV P k) (enc:α→List Value) (hO:jD cf pre) (g:Nat) (cb:Array Value) (blk off cap:Nat) (d:Array α) (w0:World) (hsz:d.size≤1000000)
  (hS:SWK enc k w0 blk off d w0) (hP:AK pre 0 d.size d)
  (eIn:∀ args w,(callFunc 244 args).run P w = .ok (.enter 244 args) w) (eSy:∀ args w,(callFunc 245 args).run P w = .ok (.enter 245 args) w)
  (hIns:GD P k enc cf g cb blk off cap d w0) (hSym:∀ n,zQ P k enc cf pre g cb blk off cap d w0 n) :
  Calls P 213 #[.slice (some (ah blk off)) d.size cap,d.size,.func (.func g) #[] cb] w0 fun e w'=>e = .returned (.tuple #[])∧∃ d',PermIn 0 d.size d d'∧bu cf pre 0 d.size d'∧SWK enc k w0 blk off d' w':=by
 have mixed:=L.mixed; have t0:=L.t0; have a0:=L.a0; have z0:=L.z0; have t3:=L.t3; have a3:=L.a3; have z3:=L.z3; have v3:=L.v3; have t4:=L.t4; have a4:=L.a4; have z4:=L.z4; have t22:=L.t22; have a22:=L.a22; have z22:=L.z22; have t25:=L.t25; have a25:=L.a25; have z25:=L.z25;have FG:=L.Mh;have S0:=hS;have HP:=aB hP;have HI:=aB hIns;have HY:=aB hSym;have HO:=aB hO;clear hS hP hIns hSym hO L;go_enter FG,ntmps213;go_wp2
 go_loopg [7,8] d.size (fun kx s7 s8 wr=>∃ (a:Nat) (dk:Array α),s7 = .int .i64 a∧s8 = .int .i64 ((a+20:Nat):Int)∧a≤d.size∧d.size - a≤kx∧dk.size=d.size∧Hid (20 ∣ a∧PermIn 0 d.size d dk∧qM cf pre 20 a dk∧(∀ i,a≤i→dk[i]! = d[i]!)∧gO pre 20 d.size 0 dk)∧Aside (SWK enc k w0 blk off dk wr))
 case atStart=>exact ⟨0,d,rfl,rfl,MD _,Mx _,rfl,⟨Nat.dvd_zero _,permIn_refl _ _ _,fun c _ h=>by omega,fun _ _=>rfl,gO.of HP.out 20⟩,S0⟩
 case round =>
  clear S0;obtain ⟨a,dk,rfl,rfl,hal,hkx,hds,HV,S1⟩:=hrel;have e20:((a+20:Nat):Int)=(a:Int)+20:=by omega
  by_cases hlt:a+20≤d.size
  ·have hltz:(a:Int)+20≤(d.size:Int):=by omega
   have con:=HI.out a (a+20) dk wr ag S1.out ag ag;rw [hds] at con;obtain ⟨v1,v2,v3',v4,v5⟩:=HV.out;have ins:=nZ HO.out a (a+20) dk ag ag (fun i j h1 h2 h3=>by rw [v4 i h1,v4 j ag]; exact HP.out i j (MD _) h2 ag);have hnew:20 ∣ a+20∧PermIn 0 d.size d (insertionSort (ltOf cf) dk a (a+20))∧qM cf pre 20 (a+20) (insertionSort (ltOf cf) dk a (a+20))∧(∀ i,a+20≤i→(insertionSort (ltOf cf) dk a (a+20))[i]! = d[i]!)∧gO pre 20 d.size 0 (insertionSort (ltOf cf) dk a (a+20)) :=
    ⟨Nat.dvd_add v1 (Nat.dvd_refl _),permIn_trans d dk _ 0 d.size v2 (permIn_mono dk _ a (a+20) 0 d.size (MD _) hlt ag ins.1),v3'.step v1 ins.1 ins.2,fun i hi=>by rw [ins.1.2.1 i (.inr hi),v4 i ag],v5.step ag hlt ins.1 fun c hc=>by
     rcases Nl a c with h | h
     ·exact .inr (mT v1 hc h)
     ·exact .inl h⟩
   have hzn:=ins.1.1;have HN:=aB hnew;clear S1 v1 v2 v3' v4 v5 ins hnew HV;generalize insertionSort (ltOf cf) dk a (a+20)=dn at *;rw [e20] at con;go_wp2_with fail
   refine con.mono ?_;rintro _ w1 ⟨rfl,S2⟩;have S2:Aside _:=S2;clear con;dsimp only;go_wp2
   go_roundg (d.size - (a+20))
   case measure=>omega
   case rel=>exact ⟨a+20,dn,by go_num,by go_num,hlt,Mx _,by omega,HN,S2⟩
  ·have hltz:¬ (a:Int)+20≤(d.size:Int):=by omega
   have con:=HI.out a d.size dk wr ag S1.out ag ag;rw [hds] at con;obtain ⟨v1,v2,v3',v4,v5⟩:=HV.out;have ins:=nZ HO.out a d.size dk ag ag (fun i j h1 h2 h3=>by rw [v4 i h1,v4 j ag]; exact HP.out i j (MD _) h2 ag);have hnew:PermIn 0 d.size d (insertionSort (ltOf cf) dk a d.size)∧kf cf pre 20 d.size 0 (insertionSort (ltOf cf) dk a d.size)∧gO pre 20 d.size 0 (insertionSort (ltOf cf) dk a d.size) :=
    ⟨permIn_trans d dk _ 0 d.size v2 (permIn_mono dk _ a d.size 0 d.size (MD _) (Mx _) ag ins.1),kf.whole (a:=a) (fun c hc hl=>(v3' c hc hl).congr fun i _ g2=>ins.1.2.1 i (.inl ag)) v1 ag ag ins.2,fun c hc h1 h2=>by
     rcases Nl a c with h | h
     ·have:=mT v1 hc h; omega
     ·exact (v5 c hc h1 h2).Hi ag (MD _) (permIn_mono dk _ a d.size c d.size h (Mx _) ag ins.1)⟩
   have hzn:=ins.1.1;have HN:=aB hnew;clear S1 v1 v2 v3' v4 v5 ins hnew HV;generalize insertionSort (ltOf cf) dk a d.size=dn at *;go_wp2_with fail
   refine con.mono ?_;rintro _ w1 ⟨rfl,S2⟩;have S2:Aside _:=S2;clear con;dsimp only;go_wp2
   go_loopg [6,7,8] (d.size) (fun kx s6 s7 s8 wr=>∃ (bs:Nat) (dk:Array α),s6 = .int .i64 bs∧0<bs∧bs≤2000000∧d.size - bs≤kx∧dk.size=d.size∧Hid (PermIn 0 d.size d dk∧kf cf pre bs d.size 0 dk∧gO pre bs d.size 0 dk)∧Aside (SWK enc k w0 blk off dk wr))
   case atStart=>exact ⟨20,dn,rfl,by omega,by omega,by omega,by omega,HN,S2⟩
   case round =>
    clear S2 HN hzn;obtain ⟨bs,dk,rfl,hb0,hb1,hkx,hds,HV,S1⟩:=hrel;have hw2:IntKind.i64.wrap (2*(bs:Int))=((2*bs:Nat):Int):=by rw [IntKind.wrap_i64]; omega
    by_cases hlt:bs<d.size
    ·have hltz:(bs:Int)<(d.size:Int):=by omega
     obtain ⟨B,hB⟩:∃ B,B=2*bs:=⟨_,rfl⟩
     have hB1:B≤2*bs:=by omega
     have hB2:2*bs≤B:=by omega
     rw [← hB] at hw2;have hdv:bs ∣ B:=⟨2,by omega⟩
     have HDV:=aB hdv;have hw3:IntKind.i64.wrap ((bs:Int)*2)=(B:Int):=by rw [IntKind.wrap_i64]; omega
     clear hdv hB;go_wp2_with fail
     go_loopg [7,8] (d.size) (fun kx s7 s8 wr=>∃ (a:Nat) (dk:Array α),s7 = .int .i64 a∧s8 = .int .i64 ((a+B:Nat):Int)∧a≤d.size∧d.size - a≤kx∧dk.size=d.size∧Hid (B ∣ a∧PermIn 0 d.size d dk∧qM cf pre B a dk∧kf cf pre bs d.size a dk∧gO pre bs d.size a dk∧gO pre B d.size 0 dk)∧Aside (SWK enc k w0 blk off dk wr))
     case atStart=>exact ⟨0,dk,rfl,by simp,MD _,Mx _,hds,⟨Nat.dvd_zero _,HV.out.1,fun c _ h=>by omega,HV.out.2.1,HV.out.2.2,fun c hc h1 h2=>HV.out.2.2 c (Nat.dvd_trans HDV.out hc) h1 h2⟩,S1⟩
     case round =>
      clear S1 HV hds;obtain ⟨a,dm,rfl,rfl,hal,hkx2,hds,HV,S1⟩:=hrel;have eB:((a+B:Nat):Int)=(a:Int)+(B:Int):=by omega
      have wab:IntKind.i64.wrap ((a:Int)+(bs:Int))=((a+bs:Nat):Int):=by rw [IntKind.wrap_i64]; omega
      obtain ⟨v1,v2,v3',v4,v5,v6⟩:=HV.out;have hda:bs ∣ a:=Nat.dvd_trans HDV.out v1;have hdm:=Nat.dvd_add hda (Nat.dvd_refl _);have cut:∀ c,B ∣ c→c≤a∨a+B≤c:=fun c hc=>by
       rcases Nl a c with h | h
       ·exact .inr (mT v1 hc h)
       ·exact .inl h
      by_cases hle:a+B≤d.size
      ·have hlez:(a:Int)+(B:Int)≤(d.size:Int):=by omega
       have s1:bu cf pre a (a+bs) dm:=by have:=v4 a hda (Mx _) ag; rwa [Nat.min_eq_left ag] at this
       have s2:bu cf pre (a+bs) (a+B) dm:=by have:=v4 (a+bs) hdm ag ag; rwa [Nat.min_eq_left ag,show a+bs+bs=a+B by omega] at this
       have p1:fC pre a (a+bs) (a+B) dm:=fun i j h1 h2 h3 h4=>v5 (a+bs) hdm ag ag i j (MD _) h2 h3 ag
       have con:=HY.out B a (a+bs) (a+B) dm wr ag ag S1.out ag ag ag s1 s2 p1;rw [hds] at con;have HNX:Hid (∀ d',PermIn a (a+B) dm d'→bu cf pre a (a+B) d'→B ∣ a+B∧PermIn 0 d.size d d'∧qM cf pre B (a+B) d'∧kf cf pre bs d.size (a+B) d'∧gO pre bs d.size (a+B) d'∧gO pre B d.size 0 d'):=fun d' q1 q2 =>
        ⟨Nat.dvd_add v1 (Nat.dvd_refl _),permIn_trans d dm d' 0 d.size v2 (permIn_mono dm d' a (a+B) 0 d.size (MD _) hle ag q1),v3'.step v1 q1 q2,v4.after ag q1,v5.after ag ag q1,v6.step ag hle q1 cut⟩
       clear S1 HV v1 v2 v3' v4 v5 v6 s1 s2 p1 cut hda hdm;rw [eB] at con;go_wp2_with fail
       refine con.mono ?_;rintro _ w2 ⟨rfl,dn2,q1,q2,S2⟩;have S2:Aside _:=S2;have HN:=HNX.out dn2 q1 q2;have HN2:=aB HN;have hzn:=q1.1;clear con q1 q2 HN HNX;dsimp only;go_wp2
       go_roundg (d.size - (a+B))
       case measure=>omega
       case rel=>exact ⟨a+B,dn2,by go_num,by go_num,hle,Mx _,by omega,HN2,S2⟩
      ·have hlez:¬ (a:Int)+(B:Int)≤(d.size:Int):=by omega
       have wab':IntKind.i64.wrap ((a:Int)+(bs:Int))=(a:Int)+(bs:Int):=by rw [IntKind.wrap_i64]; omega
       clear wab;by_cases hm:a+bs<d.size
       ·have hmz:(a:Int)+(bs:Int)<(d.size:Int):=by omega
        have s1:bu cf pre a (a+bs) dm:=by have:=v4 a hda (Mx _) ag; rwa [Nat.min_eq_left ag] at this
        have s2:bu cf pre (a+bs) d.size dm:=by have:=v4 (a+bs) hdm ag ag; rwa [Nat.min_eq_right ag] at this
        have p1:fC pre a (a+bs) d.size dm:=fun i j h1 h2 h3 h4=>v5 (a+bs) hdm ag ag i j (MD _) h2 h3 ag
        have con:=HY.out d.size a (a+bs) d.size dm wr ag ag S1.out ag ag ag s1 s2 p1;rw [hds] at con;have HNX:Hid (∀ d',PermIn a d.size dm d'→bu cf pre a d.size d'→PermIn 0 d.size d d'∧kf cf pre B d.size 0 d'∧gO pre B d.size 0 d'):=fun d' q1 q2 =>
         ⟨permIn_trans d dm d' 0 d.size v2 (permIn_mono dm d' a d.size 0 d.size (MD _) (Mx _) ag q1),kf.whole (a:=a) (fun c hc hl=>(v3' c hc hl).congr fun i _ g2=>q1.2.1 i (.inl ag)) v1 ag ag q2,fun c hc h1 h2=>by
          rcases cut c hc with h | h
          ·exact (v6 c hc h1 h2).Hi ag (MD _) (permIn_mono dm d' a d.size c d.size h (Mx _) ag q1)
          ·omega⟩
        clear S1 HV v1 v2 v3' v4 v5 v6 s1 s2 p1 cut hda hdm;have emz:((a+bs:Nat):Int)=(a:Int)+(bs:Int):=by omega
        rw [emz] at con;go_wp2_with fail
        refine con.mono ?_;rintro _ w2 ⟨rfl,dn2,q1,q2,S2⟩;have S2:Aside _:=S2;have HN:=HNX.out dn2 q1 q2;have HN2:=aB HN;have hzn:=q1.1;clear con q1 q2 HN HNX;dsimp only;go_wp2
        go_roundg (d.size - B)
        case measure=>omega
        case rel=>exact ⟨B,dn2,rfl,by omega,by omega,Mx _,by omega,HN2,S2⟩
       ·have hmz:¬ (a:Int)+(bs:Int)<(d.size:Int):=by omega
        have s1:bu cf pre a d.size dm:=by
         rcases Nl a d.size with h | h
         ·have:=v4 a hda (Mx _) h; rwa [Nat.min_eq_right ag] at this
         ·exact bu.one ag
        have HN2:Hid (PermIn 0 d.size d dm∧kf cf pre B d.size 0 dm∧gO pre B d.size 0 dm):=⟨v2,kf.whole v3' v1 ag ag s1,v6⟩
        clear HV v1 v2 v3' v4 v5 v6 s1 cut hda hdm;go_wp2
        go_roundg (d.size - B)
        case measure=>omega
        case rel=>exact ⟨B,dm,rfl,by omega,by omega,Mx _,by omega,HN2,S1⟩
    ·have hltz:¬ (bs:Int)<(d.size:Int):=by omega
     go_wp2
     go_end0
     refine ⟨rfl,dk,HV.out.1,?_,S1.out⟩;rcases Nat.eq_zero_or_pos d.size with h | h
     ·exact bu.one ag
     ·have:=HV.out.2.1 0 (Nat.dvd_zero _) (Mx _) h
      rwa [MG,Nat.min_eq_right ag] at this
theorem uj (k:Nat) (L:sV P k) (enc:α→List Value) (hO:jD cf pre) (g:Nat) (cb:Array Value) (blk off cap:Nat) (d:Array α) (w0:World) (hsz:d.size≤1000000)
  (hS:SWK enc k w0 blk off d w0) (hP:AK pre 0 d.size d)
  (eIn:∀ args w,(callFunc 244 args).run P w = .ok (.enter 244 args) w) (eSy:∀ args w,(callFunc 245 args).run P w = .ok (.enter 245 args) w) (eSt:∀ args w,(callFunc 213 args).run P w = .ok (.enter 213 args) w)
  (hIns:GD P k enc cf g cb blk off cap d w0) (hSym:∀ n,zQ P k enc cf pre g cb blk off cap d w0 n) :
  Calls P 179 #[.slice (some (ah blk off)) d.size cap,.func (.func g) #[] cb] w0 fun e w'=>e = .returned (.tuple #[])∧∃ d',PermIn 0 d.size d d'∧bu cf pre 0 d.size d'∧SWK enc k w0 blk off d' w':=by
 have con:=D0 k L enc hO g cb blk off cap d w0 hsz hS hP eIn eSy hIns hSym;have mixed:=L.mixed; have t0:=L.t0; have a0:=L.a0; have z0:=L.z0; have t3:=L.t3; have a3:=L.a3; have z3:=L.z3; have v3:=L.v3; have t4:=L.t4; have a4:=L.a4; have z4:=L.z4; have t22:=L.t22; have a22:=L.a22; have z22:=L.z22; have t25:=L.t25; have a25:=L.a25; have z25:=L.z25;have FG:=L.Mk;clear hS hP hIns hSym hO L;go_enter FG,ntmps179;go_wp2_with fail
 refine con.mono ?_;rintro _ w2 ⟨rfl,hd⟩;clear con;dsimp only;have HD:=aB hd;clear hd;go_wp2
 go_end0
 exact ⟨rfl,HD.out⟩
end Go.Proofs.YtoefpglknaiaeaaGreat
