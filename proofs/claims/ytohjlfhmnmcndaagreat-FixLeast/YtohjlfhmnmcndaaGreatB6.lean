/- Together: Form, Q1, K4, K5, Y7, K6, J4, K7, ZF. -/
import Derived.Test.YtohjlfhmnmcndaaGreatB2
import Derived.Test.YtohjlfhmnmcndaaGreatB4
import Derived.Test.YtohjlfhmnmcndaaGreatB5
import Derived.Test.YtohjlfhmnmcndaaGreatB1
import Derived.Test.YtohjlfhmnmcndaaGreatB3
/- The walk of tidelaw2.ZsetsForm. -/
namespace Go.Proofs.YtohjlfhmnmcndaaGreat
open Go.RowKit Go.Lib Go.Shelf

theorem putL_mem (r:List Vl) (w:Int):∀ z:List Zp,∀ y ∈ putL z r w,y ∈ z∨y.1=bareL r
 | []=>by
  unfold putL
  split
  ·simp
  ·intro y hy; simp at hy; subst hy; exact .inr rfl
 | x :: t=>by
  have ih:=putL_mem r w t
  unfold putL
  split
  ·intro y hy
   rcases List.mem_cons.1 hy with rfl | hy
   ·exact .inl (by simp)
   ·rcases ih y hy with h | h
    ·exact .inl (by simp [h])
    ·exact .inr h
  ·split
   ·split
    ·intro y hy; exact .inl (by simp [hy])
    ·intro y hy
     rcases List.mem_cons.1 hy with rfl | hy
     ·exact .inr rfl
     ·exact .inl (by simp [hy])
   ·split
    ·intro y hy; exact .inl hy
    ·intro y hy
     rcases List.mem_cons.1 hy with rfl | hy
     ·exact .inr rfl
     ·exact .inl hy
theorem canonF_row (l:List Zp):∀ z:List Zp,∀ y ∈ l.foldl (fun z x=>putL z x.1 x.2) z,y ∈ z∨∃ x ∈ l,y.1=bareL x.1:=by
 induction l with
 | nil=>intro z y hy; exact .inl hy
 | cons x r ih =>
  intro z y hy
  rcases ih _ y hy with h | ⟨u,hu,e⟩
  ·rcases putL_mem _ _ _ y h with h | h
   ·exact .inl h
   ·exact .inr ⟨x,by simp,h⟩
  ·exact .inr ⟨u,by simp [hu],e⟩
theorem canon_row (l:List Zp):∀ y ∈ canon l,∃ x ∈ l,y.1=bareL x.1:=fun y hy=>by
 rcases canonF_row l [] y hy with h | h
 ·cases h
 ·exact h
theorem canon_congr {l t:List Zp} (h:∀ q,wt l q=wt t q):canon l=canon t :=
 set_unique _ _ (canon_set l) (canon_set t) fun q=>by rw [canon_wt,canon_wt,h]
theorem gather_ok {l:List Zp} (h:gatherE l=0):outW (canon l)=false∧(canon l).length≤400:=by
 unfold gatherE at h
 by_cases h1:outW (canon l)=true
 ·rw [if_pos h1] at h; omega
 ·rw [if_neg h1] at h
  by_cases h2:400<(canon l).length
  ·rw [if_pos h2] at h; omega
  ·exact ⟨by simpa using h1,by omega⟩
theorem outW_in {z:List Zp} (h:outW z=false):∀ x ∈ z,inW x.2=true:=by
 unfold outW at h
 rw [List.any_eq_false] at h
 intro x hx
 simpa using h x hx
theorem wrong_canon {l:List Zp} (hr:∀ x ∈ l,wrongRowF x.1=0) (h:gatherE l=0):wrongZ (canon l)=0:=by
 obtain ⟨h1,h2⟩:=gather_ok h
 refine (wrongZ_iff _).2 ⟨h2,fun y hy=>?_,(canon_set l).rise⟩
 obtain ⟨x,hx,e⟩:=canon_row l y hy
 refine ⟨?_,(canon_set l).ne y hy,outW_in h1 y hy⟩
 rw [e,wrongRow_bare]
 exact hr x hx
end Go.Proofs.YtohjlfhmnmcndaaGreat
/- What is done with sets, plainly: conditions, filters, lists, pairs; sums over sets. No program in sight. -/
namespace Go.Proofs.YtohjlfhmnmcndaaGreat

/-! ### What is wrong -/
def condE (cols:List Int) (x:Ex):Int:=if (typeTop cols x).2≠0 then (typeTop cols x).2 else if (typeTop cols x).1≠2∧(typeTop cols x).1≠1 then 9 else 0
def fitsZ (cols:List Int):List Zp→Int
 | []=>0
 | x :: r=>if fitsL cols x.1=0 then fitsZ cols r else fitsL cols x.1
def inpE (cols:List Int) (z:List Zp):Int:=if 8<cols.length then 5 else if wrongZ z≠0 then wrongZ z else fitsZ cols z
def typesE (cols:List Int):List Ex→Int
 | []=>0
 | x :: r=>if (typeTop cols x).2=0 then typesE cols r else (typeTop cols x).2
def listE (cols:List Int) (xs:List Ex):Int:=if 8<xs.length then 5 else typesE cols xs
theorem fitsZ_end (cols:List Int) (z:List Zp) (k:Nat) (h:z.length≤k):fitsZ cols (z.drop k)=0:=by rw [List.drop_eq_nil_of_le h]; rfl
theorem fitsZ_bad (cols:List Int) (z:List Zp) (k:Nat) (h:k<z.length) (e:¬ fitsL cols z[k].1=0):fitsZ cols (z.drop k)=fitsL cols z[k].1:=by
 rw [List.drop_eq_getElem_cons h,fitsZ,if_neg e]
theorem fitsZ_next (cols:List Int) (z:List Zp) (k:Nat) (h:k<z.length) (e:fitsL cols z[k].1=0):fitsZ cols (z.drop k)=fitsZ cols (z.drop (k+1)):=by
 rw [List.drop_eq_getElem_cons h,fitsZ,if_pos e]
theorem typesE_end (cols:List Int) (z:List Ex) (k:Nat) (h:z.length≤k):typesE cols (z.drop k)=0:=by rw [List.drop_eq_nil_of_le h]; rfl
theorem typesE_bad (cols:List Int) (z:List Ex) (k:Nat) (h:k<z.length) (e:¬ (typeTop cols z[k]).2=0):typesE cols (z.drop k)=(typeTop cols z[k]).2:=by
 rw [List.drop_eq_getElem_cons h,typesE,if_neg e]
theorem typesE_next (cols:List Int) (z:List Ex) (k:Nat) (h:k<z.length) (e:(typeTop cols z[k]).2=0):typesE cols (z.drop k)=typesE cols (z.drop (k+1)):=by
 rw [List.drop_eq_getElem_cons h,typesE,if_pos e]
theorem fitsZ_ok (cols:List Int):∀ z:List Zp,fitsZ cols z=0↔∀ x ∈ z,FitP cols x.1
 | []=>by simp [fitsZ]
 | x :: r=>by
  have ih:=fitsZ_ok cols r
  rw [fitsZ]
  by_cases h:fitsL cols x.1=0
  ·rw [if_pos h,ih]
   simp [(fitsL_ok cols x.1).1 h]
  ·rw [if_neg h]
   constructor
   ·intro e; exact absurd e h
   ·intro e; exact absurd ((fitsL_ok cols x.1).2 (e x (by simp))) h
theorem typesE_ok (cols:List Int):∀ z:List Ex,typesE cols z=0↔∀ x ∈ z,(typeTop cols x).2=0
 | []=>by simp [typesE]
 | x :: r=>by
  have ih:=typesE_ok cols r
  rw [typesE]
  by_cases h:(typeTop cols x).2=0
  ·rw [if_pos h,ih]
   simp [h]
  ·rw [if_neg h]
   simp [h]
structure InpOk (cols:List Int) (z:List Zp):Prop where
 cols8:cols.length≤8
 set:wrongZ z=0
 fit:∀ x ∈ z,FitP cols x.1
theorem inpE_ok (cols:List Int) (z:List Zp):inpE cols z=0↔InpOk cols z:=by
 unfold inpE
 by_cases h8:8<cols.length
 ·rw [if_pos h8]
  constructor
  ·intro h; omega
  ·rintro ⟨h,_,_⟩; omega
 ·rw [if_neg h8]
  by_cases hw:wrongZ z=0
  ·rw [if_neg (by simpa using hw),fitsZ_ok]
   exact ⟨fun h=>⟨by omega,hw,h⟩,fun h=>h.fit⟩
  ·rw [if_pos (by simpa using hw)]
   exact ⟨fun h=>absurd h hw,fun h=>h.set⟩
theorem condE_ok {cols:List Int} {x:Ex} (h:condE cols x=0):(typeTop cols x).2=0∧((typeTop cols x).1=1∨(typeTop cols x).1=2):=by
 unfold condE at h
 by_cases h1:(typeTop cols x).2=0
 ·rw [if_neg (by simpa using h1)] at h
  by_cases h2:(typeTop cols x).1≠2∧(typeTop cols x).1≠1
  ·rw [if_pos h2] at h; omega
  ·exact ⟨h1,by omega⟩
 ·rw [if_pos h1] at h
  exact absurd h h1
theorem typ_of {cols:List Int} {x:Ex} (h:(typeTop cols x).2=0):typP cols x=some (typeTop cols x).1:=((typeTop_ok cols x).1 h).ty

/-! ### What expressions come to hangs on bare rows alone -/
theorem getD_bare (row:List Vl) (i:Nat):bareP (row.getD i vl0)=(bareL row).getD i vl0:=by
 simp only [bareL,List.getD,List.getElem?_map]
 cases row[i]? <;> rfl
theorem valX_bare (row row':List Vl) (h:bareL row=bareL row'):∀ x,valX row x=valX row' x:=by
 refine Ex.ind fun k v c ks ih=>?_
 have e:valsX row ks=valsX row' ks:=by
  rw [valsX_map,valsX_map]
  exact List.map_congr_left ih
 rw [valX,valX,e]
 unfold nodeV
 rw [getD_bare,getD_bare,h]
theorem valX_same {row row':List Vl} (h:cmpL row row'=0) (x:Ex):valX row x=valX row' x:=valX_bare row row' (bareL_of h) x
def holdsP (x:Ex) (row:List Vl):Bool:=clsP (valX row x) == some true
def rowX (xs:List Ex) (row:List Vl):List Vl:=xs.map (valX row)
theorem holds_same {row row':List Vl} (h:cmpL row row'=0) (x:Ex):holdsP x row=holdsP x row':=by unfold holdsP; rw [valX_same h]
theorem rowX_same {row row':List Vl} (h:cmpL row row'=0) (xs:List Ex):rowX xs row=rowX xs row':=List.map_congr_left fun x _=>valX_same h x
theorem cmpL_append {a a' b b':List Vl} (h:cmpL a a'=0) (k:cmpL b b'=0):cmpL (a ++ b) (a' ++ b')=0:=by
 have e:bareL (a ++ b)=bareL (a' ++ b'):=by
  have h1:=bareL_of h
  have h2:=bareL_of k
  unfold bareL at *
  rw [List.map_append,List.map_append,h1,h2]
 rw [← cmpL_bare,← cmpL_bareR,e]
 exact cmpL_refl _

/-! ### Sums over sets -/
def tot (g:List Vl→Int):List Zp→Int
 | []=>0
 | x :: r=>g x.1*x.2+tot g r
def Resp {β:Type} (g:List Vl→β):Prop:=∀ a b,cmpL a b=0→g a=g b
theorem tot_append (g:List Vl→Int) (l t:List Zp):tot g (l ++ t)=tot g l+tot g t:=by
 induction l with
 | nil=>simp [tot]
 | cons x r ih=>rw [List.cons_append,tot,tot,ih]; omega
theorem tot_put {g:List Vl→Int} (hg:Resp g) (r:List Vl) (w:Int):∀ z:List Zp,tot g (putL z r w)=tot g z+g r*w
 | []=>by
  have e:g (bareL r)=g r:=hg _ _ (by rw [cmpL_bare]; exact cmpL_refl r)
  unfold putL
  split
  ·rename_i h; subst h; simp [tot]
  ·simp [tot,e]
 | x :: t=>by
  have ih:=tot_put hg r w t
  have e:g (bareL r)=g r:=hg _ _ (by rw [cmpL_bare]; exact cmpL_refl r)
  unfold putL
  split
  ·rw [tot,ih,tot]; omega
  ·split
   ·rename_i c
    have e2:g x.1=g r:=hg _ _ c
    split
    ·rename_i h0
     rw [tot,e2]
     have:g r*(w+x.2)=0:=by rw [h0,Int.mul_zero]
     rw [Int.mul_add] at this
     omega
    ·rw [tot,tot,e,e2,Int.mul_add]
     omega
   ·split
    ·rename_i h0; subst h0; simp
    ·simp only [tot,e]; omega
theorem tot_canonF {g:List Vl→Int} (hg:Resp g) (l:List Zp):∀ z:List Zp,tot g (l.foldl (fun z x=>putL z x.1 x.2) z)=tot g z+tot g l:=by
 induction l with
 | nil=>intro z; simp [tot]
 | cons x r ih=>intro z; rw [List.foldl_cons,ih,tot_put hg,tot]; omega
theorem tot_canon {g:List Vl→Int} (hg:Resp g) (l:List Zp):tot g (canon l)=tot g l:=by
 unfold canon
 rw [tot_canonF hg]
 simp [tot]
theorem tot_congr {g g':List Vl→Int} {l:List Zp} (h:∀ x ∈ l,g x.1=g' x.1):tot g l=tot g' l:=by
 induction l with
 | nil=>rfl
 | cons x r ih=>rw [tot,tot,h x (by simp),ih (fun y hy=>h y (by simp [hy]))]
theorem tot_set {a b:List Zp} (h:∀ q,wt a q=wt b q) {g:List Vl→Int} (hg:Resp g):tot g a=tot g b:=by
 rw [← tot_canon hg a,← tot_canon hg b,canon_congr h]

/-! ### Filters and maps -/
def filtL (x:Ex) (z:List Zp):List Zp:=z.filter fun p=>holdsP x p.1
def mapL (xs:List Ex) (z:List Zp):List Zp:=z.map fun p=>(rowX xs p.1,p.2)
theorem wt_filter (p:List Vl→Bool) (hp:Resp p) (q:List Vl) (l:List Zp):wt (l.filter fun x=>p x.1) q=if p q then wt l q else 0:=by
 induction l with
 | nil=>simp [wt]
 | cons x r ih =>
  rw [List.filter_cons]
  by_cases c:cmpL x.1 q=0
  ·have e:=hp _ _ c
   by_cases h:p x.1=true
   ·rw [if_pos h,wt,wt,ih]
    rw [e] at h
    rw [if_pos h,if_pos h]
   ·rw [if_neg h,ih]
    rw [e] at h
    rw [if_neg h,if_neg h]
  ·by_cases h:p x.1=true
   ·rw [if_pos h,wt,if_neg c,ih,wt,if_neg c]; simp
   ·rw [if_neg h,ih,wt,if_neg c]; simp
theorem resp_holds (x:Ex):Resp (holdsP x):=fun _ _ h=>holds_same h x
theorem wt_map (xs:List Ex) (q:List Vl) (l:List Zp):wt (mapL xs l) q=tot (fun r=>if cmpL (rowX xs r) q=0 then 1 else 0) l:=by
 induction l with
 | nil=>rfl
 | cons x r ih =>
  show wt ((rowX xs x.1,x.2) :: mapL xs r) q=_
  rw [wt,tot,ih]
  split <;> simp
theorem resp_map (xs:List Ex) (q:List Vl):Resp (fun r=>if cmpL (rowX xs r) q=0 then (1:Int) else 0):=fun a b h=>by simp only [rowX_same h]
theorem canon_rise {l:List Zp} (h:Rise l):canon l=weighL (fun w=>w) l :=
 (canon_of (weighL_set _ _ h) fun q=>weighL_wt (fun w=>w) rfl q l h).symm
/-- Some rows of a right set make a set. -/
theorem gather_sub {z l:List Zp} (hz:wrongZ z=0) (hl:l.Sublist z):gatherE l=0:=by
 obtain ⟨h1,h2,h3⟩:=(wrongZ_iff z).1 hz
 have hr:Rise l:=h3.sublist hl
 have e:=canon_rise hr
 have o:outW (canon l)=false:=by
  rw [e,outW_weigh]
  exact outW_ok fun j hj=>(h2 _ (hl.subset (List.getElem_mem hj))).2.2
 have n:(canon l).length≤400:=by
  rw [e]
  have:=weighL_len (fun w=>w) l
  have:=hl.length_le
  omega
 unfold gatherE
 rw [o,if_neg (by decide),if_neg (by omega)]
theorem filt_gather {z:List Zp} (hz:wrongZ z=0) (p:Zp→Bool):gatherE (z.filter p)=0:=gather_sub hz List.filter_sublist
def filtE (cols:List Int) (x:Ex) (z:List Zp):Int:=if condE cols x≠0 then condE cols x else if inpE cols z≠0 then inpE cols z else 0
def filtZ (cols:List Int) (x:Ex) (z:List Zp):List Zp:=if filtE cols x z=0 then canon (filtL x z) else []
def mapE (cols:List Int) (xs:List Ex) (z:List Zp):Int:=if listE cols xs≠0 then listE cols xs else if inpE cols z≠0 then inpE cols z else gatherE (mapL xs z)
def mapZ (cols:List Int) (xs:List Ex) (z:List Zp):List Zp:=if mapE cols xs z=0 then canon (mapL xs z) else []
theorem filtE_ok {cols:List Int} {x:Ex} {z:List Zp} (h:filtE cols x z=0):condE cols x=0∧InpOk cols z:=by
 unfold filtE at h
 by_cases h1:condE cols x=0
 ·rw [if_neg (by simpa using h1)] at h
  by_cases h2:inpE cols z=0
  ·exact ⟨h1,(inpE_ok _ _).1 h2⟩
  ·rw [if_pos h2] at h; exact absurd h h2
 ·rw [if_pos h1] at h; exact absurd h h1
theorem mapE_ok {cols:List Int} {xs:List Ex} {z:List Zp} (h:mapE cols xs z=0):listE cols xs=0∧InpOk cols z∧gatherE (mapL xs z)=0:=by
 unfold mapE at h
 by_cases h1:listE cols xs=0
 ·rw [if_neg (by simpa using h1)] at h
  by_cases h2:inpE cols z=0
  ·rw [if_neg (by simpa using h2)] at h
   exact ⟨h1,(inpE_ok _ _).1 h2,h⟩
  ·rw [if_pos h2] at h; exact absurd h h2
 ·rw [if_pos h1] at h; exact absurd h h1
theorem listE_ok {cols:List Int} {xs:List Ex} (h:listE cols xs=0):xs.length≤8∧∀ x ∈ xs,(typeTop cols x).2=0:=by
 unfold listE at h
 by_cases h8:8<xs.length
 ·rw [if_pos h8] at h; omega
 ·rw [if_neg h8,typesE_ok] at h
  exact ⟨by omega,h⟩
theorem filtZ_wt {cols:List Int} {x:Ex} {z:List Zp} (h:filtE cols x z=0) (q:List Vl):wt (filtZ cols x z) q=if holdsP x q then wt z q else 0:=by
 unfold filtZ filtL
 rw [if_pos h,canon_wt,wt_filter _ (resp_holds x)]
theorem mapZ_wt {cols:List Int} {xs:List Ex} {z:List Zp} (h:mapE cols xs z=0) (q:List Vl):wt (mapZ cols xs z) q=tot (fun r=>if cmpL (rowX xs r) q=0 then 1 else 0) z:=by
 unfold mapZ
 rw [if_pos h,canon_wt,wt_map]
end Go.Proofs.YtohjlfhmnmcndaaGreat
/- Ready, and conditions. -/
namespace Go.Proofs.YtohjlfhmnmcndaaGreat
open Go.RowKit

set_option maxHeartbeats 1000000 in
theorem readyOk_at (cols:List Int) (x:Ex) (ca:Option Addr) (ccap:Nat) (a:Option Addr) (cap:Nat) (w:World) (hk:KsAt w.heap.size w a x.ks) (hc:IsAt w.heap.size w ca cols) (h0:(typeTop cols x).2=0) :
  Calls Tryz.prog 148 #[.slice ca cols.length ccap,exV x.k x.v x.c a x.ks.length cap] w fun e w'=>∃ u,e = .returned (.tuple #[.int .i64 (typeTop cols x).1,u,.int .i64 0])∧Asks cols w.heap.size u (fun row=>valX row x) w'∧Below w.heap.size w w':=by
 have S0:=Six.new w x.k x.v x.c a x.ks.length cap 27
 have hal:Below w.heap.size w (w.alloc (.cells #[.int .i64 x.k,.int .i64 x.v.1,.int .i64 x.v.2.1,.string x.v.2.2,.int .i64 x.c,.slice a x.ks.length cap] 27)):=(Below.refl _ _).alloc (Nat.le_refl _) _
 have z1:(w.alloc (.cells #[.int .i64 x.k,.int .i64 x.v.1,.int .i64 x.v.2.1,.string x.v.2.2,.int .i64 x.c,.slice a x.ks.length cap] 27)).heap.size=w.heap.size+1:=by simp
 have con:=type_at cols x ca ccap a cap _ ((KsAt.next hal (Nat.le_refl _) hk).up hal.size) ((hc.next hal (Nat.le_refl _)).up hal.size)
 have ra:=ready_any cols x _ (typ_of h0)
 rw [h0] at con
 generalize (typeTop cols x).1=t at *
 go_enter Tryz.func148,Tryz.ntmps148
 go_wp2_with fail
 generalize w.alloc (.cells #[.int .i64 x.k,.int .i64 x.v.1,.int .i64 x.v.2.1,.string x.v.2.2,.int .i64 x.c,.slice a x.ks.length cap] 27)=w1 at *
 refine con.mono ?_
 rintro e w2 ⟨rfl,hb2⟩
 have hA:=chain hal hb2
 obtain ⟨s0,s1,s2,s3,s4,s5⟩:=S0.next hb2 (by omega)
 simp only [Nat.zero_add] at s1 s2 s3 s4 s5
 have con2:=ra w.heap.size a cap w2 (KsAt.next hA (Nat.le_refl _) hk) hA.size
 clear con ra S0
 go_wp2_with fail
 refine con2.mono ?_
 rintro e w3 ⟨u,rfl,hA3,hb3⟩
 clear s0 s1 s2 s3 s4 s5 con2
 obtain ⟨g,cb,rfl⟩:∃ g cb,u = .func (.func g) #[] cb:=by obtain ⟨g,cb,e,_⟩:=hA3; exact ⟨g,cb,e⟩
 go_wp2_with fail
 exact bodyPost_ret (v:=.tuple #[.int .i64 t,.func (.func g) #[] cb,.int .i64 0]) (by simp [results,Tryz.results148,go_sem]) rfl ⟨_,rfl,hA3.down hA.size,chain hA hb3⟩

set_option maxHeartbeats 1000000 in
theorem readyBad_at (cols:List Int) (x:Ex) (ca:Option Addr) (ccap:Nat) (a:Option Addr) (cap:Nat) (w:World) (hk:KsAt w.heap.size w a x.ks) (hc:IsAt w.heap.size w ca cols) (h0:¬ (typeTop cols x).2=0) :
  Calls Tryz.prog 148 #[.slice ca cols.length ccap,exV x.k x.v x.c a x.ks.length cap] w fun e w'=>e = .returned (.tuple #[.int .i64 0,.nilFunc,.int .i64 (typeTop cols x).2])∧Below w.heap.size w w':=by
 have hal:Below w.heap.size w (w.alloc (.cells #[.int .i64 x.k,.int .i64 x.v.1,.int .i64 x.v.2.1,.string x.v.2.2,.int .i64 x.c,.slice a x.ks.length cap] 27)):=(Below.refl _ _).alloc (Nat.le_refl _) _
 have con:=type_at cols x ca ccap a cap _ ((KsAt.next hal (Nat.le_refl _) hk).up hal.size) ((hc.next hal (Nat.le_refl _)).up hal.size)
 have q:((typeTop cols x).2 != 0)=true:=by simpa using h0
 generalize (typeTop cols x).1=t at *
 generalize (typeTop cols x).2=t2 at *
 go_enter Tryz.func148,Tryz.ntmps148
 go_wp2_with fail
 generalize w.alloc (.cells #[.int .i64 x.k,.int .i64 x.v.1,.int .i64 x.v.2.1,.string x.v.2.2,.int .i64 x.c,.slice a x.ks.length cap] 27)=w1 at *
 refine con.mono ?_
 rintro e w2 ⟨rfl,hb2⟩
 have hA:=chain hal hb2
 clear con
 go_wp2_with fail
 exact bodyPost_ret (v:=.tuple #[.int .i64 0,.nilFunc,.int .i64 t2]) (by simp [results,Tryz.results148,go_sem]) rfl ⟨rfl,hA⟩

/-- A function value tells whether x is true of each row that fits, as long as all from lo on is as it was. -/
def Conds (cols:List Int) (lo:Nat) (u:Value) (x:Ex) (w:World):Prop :=
 ∃ g cb,u = .func (.func g) #[] cb∧(∀ args w,(callFunc g args).run Tryz.prog w = .ok (.enter g args) w) ∧
  ∀ (row:List Vl) (a:Option Addr) (cap:Nat) (W:World),FitP cols row→SlAt W a row→Since lo w W →
   Calls Tryz.prog g (#[.slice a row.length cap] ++ cb) W fun e w'=>e = .returned (.bool (holdsP x row))∧Below W.heap.size W w'
theorem Conds.next {cols:List Int} {lo:Nat} {u:Value} {x:Ex} {w w1:World} (h:Conds cols lo u x w) (hb:Since lo w w1):Conds cols lo u x w1:=by
 obtain ⟨g,cb,e,eg,hd⟩:=h
 exact ⟨g,cb,e,eg,fun row a cap W hf hs hW=>hd row a cap W hf hs (hb.trans hW)⟩
theorem Conds.down {cols:List Int} {lo lo':Nat} {u:Value} {x:Ex} {w:World} (h:Conds cols lo u x w) (hl:lo'≤lo):Conds cols lo' u x w:=by
 obtain ⟨g,cb,e,eg,hd⟩:=h
 exact ⟨g,cb,e,eg,fun row a cap W hf hs hW=>hd row a cap W hf hs (hW.up hl)⟩

set_option maxHeartbeats 400000 in
theorem cond1_at (cols:List Int) (lo:Nat) (x:Ex) (u:Value) (b:Nat) (a:Option Addr) (row:List Vl) (cap:Nat) (W:World) (h0:W.cell? ⟨b,0,none⟩=some u) (hA:Asks cols lo u (fun row=>valX row x) W) (hf:FitP cols row) (hs:SlAt W a row) :
  Calls Tryz.prog 149 #[.slice a row.length cap,.pointer (some ⟨b,0,none⟩)] W fun e w'=>e = .returned (.bool (holdsP x row))∧Below W.heap.size W w':=by
 obtain ⟨g,cb,rfl,eg,d⟩:=hA
 have d:=d row a cap W hf hs (Since.refl _ _)
 dsimp only at d
 unfold holdsP
 generalize valX row x=v at *
 show Calls _ _ _ _ fun e w'=>e = .returned (.bool (cls v.1 v.2.1 == some true))∧_
 go_enter Tryz.func149,Tryz.ntmps149
 go_wp2_with (go_at_fn g; refine d.mono ?_; rintro e w1 ⟨rfl,hb1⟩)
 refine (true_any _ _ _ _).mono ?_
 rintro e w2 ⟨rfl,hb2⟩
 go_wp2_with fail
 go_ret
 exact ⟨rfl,chain hb1 hb2⟩

set_option maxHeartbeats 1000000 in
theorem condOk_at (cols:List Int) (x:Ex) (ca:Option Addr) (ccap:Nat) (a:Option Addr) (cap:Nat) (w:World) (hk:KsAt w.heap.size w a x.ks) (hc:IsAt w.heap.size w ca cols) (h:condE cols x=0) :
  Calls Tryz.prog 118 #[.slice ca cols.length ccap,exV x.k x.v x.c a x.ks.length cap] w fun e w'=>∃ u,e = .returned (.tuple #[u,.int .i64 0])∧Conds cols w.heap.size u x w'∧Below w.heap.size w w':=by
 obtain ⟨h0,ht⟩:=condE_ok h
 have S0:=Six.new w x.k x.v x.c a x.ks.length cap 27
 have hal:Below w.heap.size w (w.alloc (.cells #[.int .i64 x.k,.int .i64 x.v.1,.int .i64 x.v.2.1,.string x.v.2.2,.int .i64 x.c,.slice a x.ks.length cap] 27)):=(Below.refl _ _).alloc (Nat.le_refl _) _
 have con:=readyOk_at cols x ca ccap a cap _ ((KsAt.next hal (Nat.le_refl _) hk).up hal.size) ((hc.next hal (Nat.le_refl _)).up hal.size) h0
 clear h h0
 generalize (typeTop cols x).1=t at *
 go_enter Tryz.func118,Tryz.ntmps118
 go_wp2_with fail
 generalize w.alloc (.cells #[.int .i64 x.k,.int .i64 x.v.1,.int .i64 x.v.2.1,.string x.v.2.2,.int .i64 x.c,.slice a x.ks.length cap] 27)=w1 at *
 refine con.mono ?_
 rintro e w2 ⟨u,rfl,hA2,hb2⟩
 have hA:=chain hal hb2
 clear con S0
 have hA2:=hA2.down hal.size
 obtain ⟨g,cb,rfl⟩:∃ g cb,u = .func (.func g) #[] cb:=by obtain ⟨g,cb,e,_⟩:=hA2; exact ⟨g,cb,e⟩
 have hal3:Below w2.heap.size w2 (w2.alloc (.cells #[.func (.func g) #[] cb] 179)):=(Below.refl _ _).alloc (Nat.le_refl _) _
 have fin:∀ W,Since w.heap.size (w2.alloc (.cells #[.func (.func g) #[] cb] 179)) W→∀ (row:List Vl) (a:Option Addr) (cap:Nat),FitP cols row→SlAt W a row→Calls Tryz.prog 149 #[.slice a row.length cap,.pointer (some ⟨w2.heap.size,0,none⟩)] W fun e w'=>e = .returned (.bool (holdsP x row))∧Below W.heap.size W w':=fun W hW row a cap hf hs =>
  cond1_at cols w.heap.size x _ w2.heap.size a row cap W ((hW.cell (p:=⟨w2.heap.size,0,none⟩) hA.size (by simp)).trans (by simp)) ((hA2.next (Since.of hal3)).next hW) hf hs
 have HF:Hid _:=fin
 clear fin hA2
 rcases ht with rfl | rfl
 ·go_wp2_with fail
  exact bodyPost_ret (v:=.tuple #[.func (.func 149) #[] #[.pointer (some ⟨w2.heap.size,0,none⟩)],.int .i64 0]) (by simp [results,Tryz.results118,go_sem]) rfl ⟨_,rfl,⟨149,_,rfl,enters_of Tryz.func149 (by kernel_rfl) rfl,fun row a cap W hf hs hW=>HF.out W hW row a cap hf hs⟩,chain hA hal3⟩
 ·go_wp2_with fail
  exact bodyPost_ret (v:=.tuple #[.func (.func 149) #[] #[.pointer (some ⟨w2.heap.size,0,none⟩)],.int .i64 0]) (by simp [results,Tryz.results118,go_sem]) rfl ⟨_,rfl,⟨149,_,rfl,enters_of Tryz.func149 (by kernel_rfl) rfl,fun row a cap W hf hs hW=>HF.out W hW row a cap hf hs⟩,chain hA hal3⟩

set_option maxHeartbeats 1000000 in
theorem condBad_at (cols:List Int) (x:Ex) (ca:Option Addr) (ccap:Nat) (a:Option Addr) (cap:Nat) (w:World) (hk:KsAt w.heap.size w a x.ks) (hc:IsAt w.heap.size w ca cols) (h:¬ condE cols x=0) :
  Calls Tryz.prog 118 #[.slice ca cols.length ccap,exV x.k x.v x.c a x.ks.length cap] w fun e w'=>e = .returned (.tuple #[.nilFunc,.int .i64 (condE cols x)])∧Below w.heap.size w w':=by
 have hal:Below w.heap.size w (w.alloc (.cells #[.int .i64 x.k,.int .i64 x.v.1,.int .i64 x.v.2.1,.string x.v.2.2,.int .i64 x.c,.slice a x.ks.length cap] 27)):=(Below.refl _ _).alloc (Nat.le_refl _) _
 have hk':=(KsAt.next hal (Nat.le_refl _) hk).up hal.size
 have hc':=(hc.next hal (Nat.le_refl _)).up hal.size
 by_cases h0:(typeTop cols x).2=0
 ·have e:condE cols x=9:=by
   unfold condE at h ⊢
   rw [if_neg (by simpa using h0)] at h ⊢
   by_cases q:(typeTop cols x).1≠2∧(typeTop cols x).1≠1
   ·rw [if_pos q]
   ·rw [if_neg q] at h; exact absurd rfl h
  have ht:¬ (typeTop cols x).1=2∧¬ (typeTop cols x).1=1:=by
   unfold condE at h
   rw [if_neg (by simpa using h0)] at h
   by_cases q:(typeTop cols x).1≠2∧(typeTop cols x).1≠1
   ·exact q
   ·rw [if_neg q] at h; exact absurd rfl h
  rw [e]
  have con:=readyOk_at cols x ca ccap a cap _ hk' hc' h0
  clear h h0 e
  generalize (typeTop cols x).1=t at *
  have t2:(t != 2)=true:=by simpa using ht.1
  have t1:(t != 1)=true:=by simpa using ht.2
  go_enter Tryz.func118,Tryz.ntmps118
  go_wp2_with fail
  generalize w.alloc (.cells #[.int .i64 x.k,.int .i64 x.v.1,.int .i64 x.v.2.1,.string x.v.2.2,.int .i64 x.c,.slice a x.ks.length cap] 27)=w1 at *
  refine con.mono ?_
  rintro e w2 ⟨u,rfl,hA2,hb2⟩
  have hA:=chain hal hb2
  clear con
  obtain ⟨g,cb,rfl⟩:∃ g cb,u = .func (.func g) #[] cb:=by obtain ⟨g,cb,e,_⟩:=hA2; exact ⟨g,cb,e⟩
  have hal3:Below w2.heap.size w2 (w2.alloc (.cells #[.func (.func g) #[] cb] 179)):=(Below.refl _ _).alloc (Nat.le_refl _) _
  clear hA2
  go_wp2_with fail
  exact bodyPost_ret (v:=.tuple #[.nilFunc,.int .i64 9]) (by simp [results,Tryz.results118,go_sem]) rfl ⟨rfl,chain hA hal3⟩
 ·have e:condE cols x=(typeTop cols x).2:=by unfold condE; rw [if_pos h0]
  rw [e]
  have con:=readyBad_at cols x ca ccap a cap _ hk' hc' h0
  have q:((typeTop cols x).2 != 0)=true:=by simpa using h0
  clear h e h0
  generalize (typeTop cols x).2=t2 at *
  go_enter Tryz.func118,Tryz.ntmps118
  go_wp2_with fail
  generalize w.alloc (.cells #[.int .i64 x.k,.int .i64 x.v.1,.int .i64 x.v.2.1,.string x.v.2.2,.int .i64 x.c,.slice a x.ks.length cap] 27)=w1 at *
  refine con.mono ?_
  rintro e w2 ⟨rfl,hb2⟩
  have hA:=chain hal hb2
  have hal3:Below w2.heap.size w2 (w2.alloc (.cells #[.nilFunc] 179)):=(Below.refl _ _).alloc (Nat.le_refl _) _
  clear con
  go_wp2_with fail
  exact bodyPost_ret (v:=.tuple #[.nilFunc,.int .i64 t2]) (by simp [results,Tryz.results118,go_sem]) rfl ⟨rfl,chain hA hal3⟩
end Go.Proofs.YtohjlfhmnmcndaaGreat
/- Lists of expressions: what they come to, each time in new memory. -/
namespace Go.Proofs.YtohjlfhmnmcndaaGreat
open Go.RowKit

/-- What the making of values has come to: k of them are there. -/
def VTo (W:World) (B n:Nat) (f:Nat→Vl) (k:Nat):Prop:=∃ xs,W.ownsRow B 24 3 (.slice (some ⟨B,0,none⟩) n n) n xs∧∀ j:Nat,j<n→j<k→xs[j*3]? = some (.int .i64 (f j).1)∧xs[j*3+1]? = some (.int .i64 (f j).2.1)∧xs[j*3+2]? = some (.string (f j).2.2)
theorem VTo.step {W:World} {B n:Nat} {f:Nat→Vl} {k:Nat} (h:VTo W B n f k) (hk:k<n) :
  VTo (((W.setCell ⟨B,k*3,none⟩ (.int .i64 (f k).1)).setCell ⟨B,k*3+1,none⟩ (.int .i64 (f k).2.1)).setCell ⟨B,k*3+2,none⟩ (.string (f k).2.2)) B n f (k+1):=by
 obtain ⟨xs,h1,h2⟩:=h
 have lx:=h1.1
 refine ⟨_,((((h1.stored (k*3) _).1.stored (k*3+1) _).1).stored (k*3+2) _).1,?_⟩
 intro j hj hjk
 by_cases e:j=k
 ·subst e
  refine ⟨?_,?_,?_⟩ <;> simp [List.getElem?_set,lx] <;> omega
 ·obtain ⟨g0,g1,g2⟩:=h2 j hj (by omega)
  refine ⟨?_,?_,?_⟩
  ·rw [List.getElem?_set_ne (by omega),List.getElem?_set_ne (by omega),List.getElem?_set_ne (by omega)]; exact g0
  ·rw [List.getElem?_set_ne (by omega),List.getElem?_set_ne (by omega),List.getElem?_set_ne (by omega)]; exact g1
  ·rw [List.getElem?_set_ne (by omega),List.getElem?_set_ne (by omega),List.getElem?_set_ne (by omega)]; exact g2
theorem VTo.next {W w1:World} {B n:Nat} {f:Nat→Vl} {k:Nat} (h:VTo W B n f k) (hb:Below W.heap.size W w1):VTo w1 B n f k:=by
 obtain ⟨xs,h1,h2⟩:=h
 exact ⟨xs,own_next h1 hb,h2⟩
theorem VTo.cells {W:World} {B n:Nat} {f:Nat→Vl} {k:Nat} (h:VTo W B n f k) (hk:k<n):(∃ u0 u1 u2,W.cell? ⟨B,k*3,none⟩=some u0∧W.cell? ⟨B,k*3+1,none⟩=some u1∧W.cell? ⟨B,k*3+2,none⟩=some u2)∧W.frozen? ⟨B,k*3,none⟩=false∧W.frozen? ⟨B,k*3+1,none⟩=false∧W.frozen? ⟨B,k*3+2,none⟩=false∧B<W.heap.size:=by
 obtain ⟨xs,h1,h2⟩:=h
 have lx:=h1.1
 refine ⟨⟨xs[k*3]'(by omega),xs[k*3+1]'(by omega),xs[k*3+2]'(by omega),?_,?_,?_⟩,h1.frozenAt _,h1.frozenAt _,h1.frozenAt _,(h1.lt B rfl).2⟩
 ·rw [h1.cellAt _ (by omega)]; exact List.getElem?_eq_getElem (by omega)
 ·rw [h1.cellAt _ (by omega)]; exact List.getElem?_eq_getElem (by omega)
 ·rw [h1.cellAt _ (by omega)]; exact List.getElem?_eq_getElem (by omega)
theorem VTo.done {W:World} {B n:Nat} {f:Nat→Vl} (h:VTo W B n f n) (vs:List Vl) (hn:n=vs.length) (hv:∀ j (hj:j<vs.length),f j=vs[j]) (h8:vs.length≤100):SlAt W (some ⟨B,0,none⟩) vs∧TyAt W (some ⟨B,0,none⟩):=by
 obtain ⟨xs,h1,h2⟩:=h
 subst hn
 refine ⟨⟨by unfold maxLen; omega,.inr ⟨B,0,rfl,?_,(h1.lt B rfl).2⟩⟩,?_⟩
 ·intro i hi
  obtain ⟨g0,g1,g2⟩:=h2 i hi hi
  rw [hv i hi] at g0 g1 g2
  refine ⟨?_,?_,?_⟩
  ·rw [h1.cellAt _ (by omega),← g0]; congr 1; omega
  ·rw [h1.cellAt _ (by omega),← g1]; congr 1; omega
  ·rw [h1.cellAt _ (by omega),← g2]; congr 1; omega
 ·intro b off e
  obtain ⟨_,⟨e',_⟩ | ⟨g,cap,cur,e',_,hh,_⟩⟩:=h1
  ·cases e'
  ·simp only [Value.slice.injEq,Option.some.injEq,Addr.mk.injEq] at e e'
   obtain ⟨rfl,_⟩:=e
   rw [← e'.1.1] at hh
   exact ⟨_,_,hh⟩

/-- A slice of new memory holds these values. -/
def RowNew (B:Nat) (W:World) (l:List Vl):Prop:=SlAt W (some ⟨B,0,none⟩) l∧TyAt W (some ⟨B,0,none⟩)
/-- A function value makes rows of what xs come to, as long as all from lo on is as it was. -/
def ListF (cols:List Int) (lo:Nat) (u:Value) (xs:List Ex) (w:World):Prop :=
 ∃ g cb,u = .func (.func g) #[] cb∧(∀ args w,(callFunc g args).run Tryz.prog w = .ok (.enter g args) w) ∧
  ∀ (row:List Vl) (a:Option Addr) (cap:Nat) (W:World),FitP cols row→SlAt W a row→Since lo w W →
   Calls Tryz.prog g (#[.slice a row.length cap] ++ cb) W fun e w'=>e = .returned (.slice (some ⟨W.heap.size,0,none⟩) xs.length xs.length)∧RowNew W.heap.size w' (rowX xs row)∧Below W.heap.size W w'
theorem ListF.next {cols:List Int} {lo:Nat} {u:Value} {xs:List Ex} {w w1:World} (h:ListF cols lo u xs w) (hb:Since lo w w1):ListF cols lo u xs w1:=by
 obtain ⟨g,cb,e,eg,hd⟩:=h
 exact ⟨g,cb,e,eg,fun row a cap W hf hs hW=>hd row a cap W hf hs (hb.trans hW)⟩
theorem ListF.down {cols:List Int} {lo lo':Nat} {u:Value} {xs:List Ex} {w:World} (h:ListF cols lo u xs w) (hl:lo'≤lo):ListF cols lo' u xs w:=by
 obtain ⟨g,cb,e,eg,hd⟩:=h
 exact ⟨g,cb,e,eg,fun row a cap W hf hs hW=>hd row a cap W hf hs (hW.up hl)⟩

set_option maxHeartbeats 1000000 in
theorem list1_at (cols:List Int) (lo:Nat) (vb:Nat) (xs:List Ex) (a:Option Addr) (row:List Vl) (cap:Nat) (W:World) (hK:KidsF cols lo W vb xs) (h8:xs.length≤8) (hf:FitP cols row) (hs:SlAt W a row) :
  Calls Tryz.prog 151 #[.slice a row.length cap,.pointer (some ⟨vb,0,none⟩)] W fun e w'=>e = .returned (.slice (some ⟨W.heap.size,0,none⟩) xs.length xs.length)∧RowNew W.heap.size w' (rowX xs row)∧Below W.heap.size W w':=by
 obtain ⟨i0,hi,hz0,hz1,hz2⟩:=info_parts Tryz.info49
 obtain ⟨K,k1,k2,k3,k4,k5,k6⟩:=hK
 have HK:Hid (∀ (i:Nat) (h:i<xs.length),∃ u,W.cell? ⟨K,i,none⟩=some u∧Asks cols lo u (fun row=>valX row xs[i]) W):=k6
 go_enter Tryz.func151,Tryz.ntmps151
 go_wp2_with (first | (at_make; refine wpList_make_full _ rfl _ _ 56 rfl W.heap.size 24 i0 _ 3 Tryz.underlying56 hi hz0 hz1 .i64 .i64 xs.length xs.length xs.length rfl rfl rfl rfl (by rw [hz2]; omega) (by unfold maxLen; omega) (Nat.le_refl _) ?_))
 intro w1 hown hgrow
 have hb0:Below W.heap.size W w1:=(Below.refl _ _).grown hgrow (Nat.le_refl _) (by simp)
 have hB0:VTo w1 W.heap.size xs.length (fun j=>valX row (xs.getD j (.mk 0 vl0 0 []))) 0:=⟨_,hown,fun j _ hj=>absurd hj (Nat.not_lt_zero _)⟩
 have c1:=(hb0.cell (p:=⟨vb,0,none⟩) k2).trans k5
 clear hown hgrow k5 k6
 go_wp2_with fail
 clear c1
 go_loopw [12] (fun i wr=>∃ k:Nat,k≤xs.length∧i = .int .i64 k∧VTo wr W.heap.size xs.length (fun j=>valX row (xs.getD j (.mk 0 vl0 0 []))) k∧Below W.heap.size W wr) (fun i _=>xs.length - (intOf i).toNat)
 case atStart=>exact ⟨0,Nat.zero_le _,rfl,hB0,hb0⟩
 case round =>
  obtain ⟨k,hk,rfl,HB,hb⟩:=hrel
  have hz:=hb.size
  by_cases hlt:k<xs.length
  ·obtain ⟨u,cu,A⟩:=HK.out k hlt
   have cu:=(hb.cell (p:=⟨K,k,none⟩) k4).trans cu
   obtain ⟨g,cb,rfl,eg,d⟩:=A
   have d:=d row a cap wr hf (hs.next hb) (Since.of hb)
   dsimp only at d
   have ev:valX row xs[k]=(fun j=>valX row (xs.getD j (.mk 0 vl0 0 []))) k:=by simp [List.getD,hlt]
   rw [ev] at d
   generalize (fun j=>valX row (xs.getD j (.mk 0 vl0 0 [])))=f at *
   have i0:(0:Int)≤(k:Int):=by omega
   have i1:(k:Int)<(xs.length:Int):=by omega
   go_wp2_with (go_at_fn g; refine d.mono ?_; rintro e w2 ⟨rfl,hb2⟩; have HB2:=HB.next hb2; obtain ⟨⟨u0,u1,u2,d0,d1,d2⟩,f0,f1,f2,hlb⟩:=HB2.cells hlt; have zz:=hb2.size)
   go_roundw
   case rel =>
    refine ⟨k+1,by omega,by go_num,?_,?_⟩
    ·exact HB2.step hlt
    ·exact (((chain hb hb2).setCell (p:=⟨W.heap.size,k*3,none⟩) (Nat.le_refl _) _).setCell (p:=⟨W.heap.size,k*3+1,none⟩) (Nat.le_refl _) _).setCell (p:=⟨W.heap.size,k*3+2,none⟩) (Nat.le_refl _) _
   case measure=>simp [intOf]; omega
  ·have e:k=xs.length:=by omega
   subst e
   go_wp2_with fail
   go_ret
   exact ⟨rfl,HB.done (rowX xs row) (by simp [rowX]) (fun j hj=>by simp [rowX] at hj; simp [rowX,List.getD,hj]) (by simp [rowX]; omega),hb⟩

theorem FTo.new2 {cols:List Int} {w:World} {n:Nat} (ks:List Ex) (hn:n=ks.length) (T T':TypeId) :
  FTo cols w.heap.size (w.heap.size+1) (w.heap.size+2) ((w.alloc (.cells (Array.replicate n Value.nilFunc) T)).alloc (.cells #[.slice (some ⟨w.heap.size,0,none⟩) n n] T')) ks 0:=by
 subst hn
 refine ⟨⟨by omega,by omega,by omega,by simp⟩,?_,fun i hi=>⟨⟨Value.nilFunc,?_⟩,?_⟩,fun i _ h=>absurd h (Nat.not_lt_zero _)⟩
 ·rw [World.cell?_alloc_at _ _ _ _ (by simp)]; rfl
 ·rw [World.cell?_alloc_past _ _ _ (by simp),World.cell?_alloc_at _ _ _ _ rfl]
  simp [hi]
 ·rw [World.frozen?_alloc_past _ _ _ (by simp)]
  exact World.frozen?_alloc_at _ _ _ _ rfl

set_option maxHeartbeats 2000000 in
theorem list_at (cols:List Int) (xs:List Ex) (ca:Option Addr) (ccap:Nat) (xa:Option Addr) (xcap:Nat) (w:World) (hk:KsAt w.heap.size w xa xs) (hc:IsAt w.heap.size w ca cols) :
  Calls Tryz.prog 121 #[.slice ca cols.length ccap,.slice xa xs.length xcap] w fun e w'=>∃ u,e = .returned (.tuple #[u,.int .i64 (listE cols xs)])∧((listE cols xs=0∧ListF cols w.heap.size u xs w')∨(¬ listE cols xs=0∧u = .nilFunc))∧Below w.heap.size w w':=by
 by_cases h8:8<xs.length
 ·have e:listE cols xs=5:=by simp [listE,h8]
  rw [e]
  have hz:(8:Int)<(xs.length:Int):=by omega
  go_enter Tryz.func121,Tryz.ntmps121
  go_wp2_with fail
  exact bodyPost_ret (v:=.tuple #[.nilFunc,.int .i64 5]) (by simp [results,Tryz.results121,go_sem]) rfl ⟨_,rfl,.inr ⟨by decide,rfl⟩,Below.refl _ _⟩
 ·have e:listE cols xs=typesE cols xs:=by simp [listE,h8]
  have HE:Hid (listE cols xs=typesE cols xs):=e
  generalize listE cols xs=le at *
  clear e
  have hmk:=make_funcs (show xs.length≤8 by omega)
  have F0:FTo cols w.heap.size (w.heap.size+1) (w.heap.size+2) ((w.alloc (.cells (Array.replicate xs.length Value.nilFunc) 179)).alloc (.cells #[.slice (some ⟨w.heap.size,0,none⟩) xs.length xs.length] 183)) xs 0:=FTo.new2 xs rfl _ _
  have hA:Below w.heap.size w ((w.alloc (.cells (Array.replicate xs.length Value.nilFunc) 179)).alloc (.cells #[.slice (some ⟨w.heap.size,0,none⟩) xs.length xs.length] 183)):=((Below.refl _ _).alloc (Nat.le_refl _) _).alloc (by simp) _
  have hz:¬ (8:Int)<(xs.length:Int):=by omega
  go_enter Tryz.func121,Tryz.ntmps121
  go_wp2_with fail
  generalize (w.alloc (.cells (Array.replicate xs.length Value.nilFunc) 179)).alloc (.cells #[.slice (some ⟨w.heap.size,0,none⟩) xs.length xs.length] 183)=w2 at *
  clear hmk
  go_loopw [20] (fun i wr=>∃ j:Nat,j≤xs.length∧i = .int .i64 j∧FTo cols w.heap.size (w.heap.size+1) (w.heap.size+2) wr xs j∧Hid (typesE cols xs=typesE cols (xs.drop j))∧Below w.heap.size w wr) (fun i _=>xs.length - (intOf i).toNat)
  case atStart=>exact ⟨0,Nat.zero_le _,rfl,F0,rfl,hA⟩
  case round =>
   clear F0 hA
   obtain ⟨j,hj,rfl,F,HT,hb⟩:=hrel
   have hz:=hb.size
   have hzF:=F.lt.2.2.2
   by_cases hlt:j<xs.length
   ·obtain ⟨b,off,ai,ci,rfl,hbl,sx,kx⟩:=(KsAt.next hb (Nat.le_refl _) hk).elem hlt
    obtain ⟨x0,x1,x2,x3,x4,x5⟩:=sx
    have hal:Below wr.heap.size wr (wr.alloc (.cells #[.int .i64 xs[j].k,.int .i64 xs[j].v.1,.int .i64 xs[j].v.2.1,.string xs[j].v.2.2,.int .i64 xs[j].c,.slice ai xs[j].ks.length ci] 27)):=(Below.refl _ _).alloc (Nat.le_refl _) _
    have Fk:=F.next hal
    have Sk:=Six.new wr xs[j].k xs[j].v xs[j].c ai xs[j].ks.length ci 27
    have zk:(wr.alloc (.cells #[.int .i64 xs[j].k,.int .i64 xs[j].v.1,.int .i64 xs[j].v.2.1,.string xs[j].v.2.2,.int .i64 xs[j].c,.slice ai xs[j].ks.length ci] 27)).heap.size=wr.heap.size+1:=by simp
    have kk:=(KsAt.next hal hz kx).up (show w.heap.size≤(wr.alloc (.cells #[.int .i64 xs[j].k,.int .i64 xs[j].v.1,.int .i64 xs[j].v.2.1,.string xs[j].v.2.2,.int .i64 xs[j].c,.slice ai xs[j].ks.length ci] 27)).heap.size by omega)
    have cc:=((hc.next hb (Nat.le_refl _)).next hal hz).up (show w.heap.size≤(wr.alloc (.cells #[.int .i64 xs[j].k,.int .i64 xs[j].v.1,.int .i64 xs[j].v.2.1,.string xs[j].v.2.2,.int .i64 xs[j].c,.slice ai xs[j].ks.length ci] 27)).heap.size by omega)
    obtain ⟨k0,k1,k2,k3,k4,k5⟩:=Sk
    simp only [Nat.zero_add] at k1 k2 k3 k4 k5
    have hjz:(j:Int)<xs.length:=by omega
    by_cases h0:(typeTop cols xs[j]).2=0
    ·have con:=readyOk_at cols xs[j] ca ccap ai ci _ kk cc h0
     have H0:Hid ((typeTop cols xs[j]).2=0):=h0
     clear h0
     generalize (typeTop cols xs[j]).1=t at *
     go_wp2_with fail
     clear x0 x1 x2 x3 x4 x5 kx k0 k1 k2 k3 k4 k5 kk cc
     generalize wr.alloc (.cells #[.int .i64 xs[j].k,.int .i64 xs[j].v.1,.int .i64 xs[j].v.2.1,.string xs[j].v.2.2,.int .i64 xs[j].c,.slice ai xs[j].ks.length ci] 27)=wk at *
     refine con.mono ?_
     rintro e w3 ⟨u,rfl,hA3,hb3⟩
     clear con
     have F3:=Fk.next hb3
     have q1:=F3.box
     obtain ⟨⟨un,q2⟩,q3⟩:=F3.room j hlt
     obtain ⟨ug,ucb,rfl⟩:∃ g cb,u = .func (.func g) #[] cb:=by obtain ⟨g,cb,e,_⟩:=hA3; exact ⟨g,cb,e⟩
     go_wp2_with fail
     go_roundw
     case rel=>exact ⟨j+1,by omega,by go_num,F3.store hlt (hA3.down (by omega)),HT.out.trans (typesE_next cols xs j hlt H0.out),(chain (chain hb hal) hb3).setCell (p:=⟨w.heap.size,j,none⟩) (Nat.le_refl _) _⟩
     case measure=>simp [intOf]; omega
    ·have con:=readyBad_at cols xs[j] ca ccap ai ci _ kk cc h0
     have HN:Hid (le=(typeTop cols xs[j]).2):=HE.out.trans (HT.out.trans (typesE_bad cols xs j hlt h0))
     have q:((typeTop cols xs[j]).2 != 0)=true:=by simpa using h0
     generalize (typeTop cols xs[j]).2=t2 at *
     go_wp2_with fail
     clear x0 x1 x2 x3 x4 x5 kx k0 k1 k2 k3 k4 k5 kk cc
     generalize wr.alloc (.cells #[.int .i64 xs[j].k,.int .i64 xs[j].v.1,.int .i64 xs[j].v.2.1,.string xs[j].v.2.2,.int .i64 xs[j].c,.slice ai xs[j].ks.length ci] 27)=wk at *
     refine con.mono ?_
     rintro e w3 ⟨rfl,hb3⟩
     clear con
     go_wp2_with fail
     exact bodyPost_ret (v:=.tuple #[.nilFunc,.int .i64 t2]) (by simp [results,Tryz.results121,go_sem]) rfl ⟨_,by rw [HN.out],.inr ⟨by rw [HN.out]; exact h0,rfl⟩,chain (chain hb hal) hb3⟩
   ·have e:j=xs.length:=by omega
    subst e
    have HN:Hid (le=0):=HE.out.trans (HT.out.trans (typesE_end cols xs _ (Nat.le_refl _)))
    have KF:Hid (KidsF cols w.heap.size wr (w.heap.size+1) xs):=F.kids (Nat.le_refl _) (by omega)
    go_wp2_with fail
    refine bodyPost_ret (v:=.tuple #[.func (.func 151) #[] #[.pointer (some ⟨w.heap.size+1,0,none⟩)],.int .i64 0]) (by simp [results,Tryz.results121,go_sem]) rfl ⟨_,by rw [HN.out],.inl ⟨HN.out,151,_,rfl,enters_of Tryz.func151 (by kernel_rfl) rfl,fun row a cap W hf hs hW=>?_⟩,hb⟩
    exact list1_at cols w.heap.size (w.heap.size+1) xs a row cap W (KF.out.next hW) (by omega) hf hs
end Go.Proofs.YtohjlfhmnmcndaaGreat
/- The walk of exprs.Fits. -/
namespace Go.Proofs.YtohjlfhmnmcndaaGreat
open Go.RowKit

theorem fitsG_end (cols:List Int) (row:List Vl) (k:Nat) (h:row.length≤k):fitsG (cols.drop k) (row.drop k)=0:=by
 rw [List.drop_eq_nil_of_le h]; cases cols.drop k <;> rfl
theorem fitsG_wrong (cols:List Int) (row:List Vl) (k:Nat) (h:k<row.length) (h':k<cols.length) (e:¬ wrongP row[k]=0):fitsG (cols.drop k) (row.drop k)=wrongP row[k]:=by
 rw [List.drop_eq_getElem_cons h,List.drop_eq_getElem_cons h',fitsG,if_pos e]
theorem fitsG_type (cols:List Int) (row:List Vl) (k:Nat) (h:k<row.length) (h':k<cols.length) (e:wrongP row[k]=0) (e1:¬ row[k].1=1) (e2:¬ row[k].1=cols[k]):fitsG (cols.drop k) (row.drop k)=9:=by
 rw [List.drop_eq_getElem_cons h,List.drop_eq_getElem_cons h',fitsG,if_neg (by simp [e]),if_pos ⟨e1,e2⟩]
theorem fitsG_next (cols:List Int) (row:List Vl) (k:Nat) (h:k<row.length) (h':k<cols.length) (e:wrongP row[k]=0) (e1:row[k].1=1∨row[k].1=cols[k]):fitsG (cols.drop k) (row.drop k)=fitsG (cols.drop (k+1)) (row.drop (k+1)):=by
 rw [List.drop_eq_getElem_cons h,List.drop_eq_getElem_cons h',fitsG,if_neg (by simp [e]),if_neg (by omega)]

set_option maxHeartbeats 2000000 in
theorem fits_at (cols:List Int) (row:List Vl) (ca:Option Addr) (ccap:Nat) (ra:Option Addr) (rcap:Nat) (w:World) (hc:IsAt w.heap.size w ca cols) (hs:SlAt w ra row) :
  Calls Tryz.prog 90 #[.slice ca cols.length ccap,.slice ra row.length rcap] w fun e w'=>e = .returned (.int .i64 (fitsL cols row))∧Below w.heap.size w w':=by
 have hl:=hs.1
 unfold maxLen at hl
 generalize hr:fitsL cols row=r
 have HR:Hid (fitsL cols row=r):=hr
 clear hr
 by_cases hlen:row.length=cols.length
 ·have HG:Hid (fitsG cols row=r):=by show fitsG cols row=r; rw [← HR.out,fitsL,if_neg (by simp [hlen])]
  have HL:Hid (row.length=cols.length):=hlen
  have q:((row.length:Int) != (cols.length:Int))=false:=by simp; omega
  clear HR hlen
  go_enter Tryz.func90,Tryz.ntmps90
  go_wp2_with fail
  go_loopw [15] (fun i wr=>∃ j:Nat,j≤row.length∧i = .int .i64 j∧Hid (fitsG cols row=fitsG (cols.drop j) (row.drop j))∧Below w.heap.size w wr) (fun i _=>row.length - (intOf i).toNat)
  case atStart=>exact ⟨0,Nat.zero_le _,rfl,rfl,Below.refl _ _⟩
  case round =>
   obtain ⟨j,hj,rfl,HE,hb⟩:=hrel
   have hz:=hb.size
   by_cases hlt:j<row.length
   ·have hlt':j<cols.length:=by have:=HL.out; omega
    obtain ⟨b,off,rfl,hbl,r0,r1,r2⟩:=(hs.next hb).elem hlt
    obtain ⟨b',off',rfl,hbl',c0⟩:=(hc.next hb (Nat.le_refl _)).elem hlt'
    generalize hv:row[j]=v at *
    generalize hcj:cols[j]=cj at *
    have HV:Hid (row[j]=v):=hv
    have HC:Hid (cols[j]=cj):=hcj
    clear hv hcj
    obtain ⟨k,n,s⟩:=v
    have A0:=Box.new wr (.int .i64 k) (.int .i64 n) (.string s) 24
    have d0:(wr.alloc (.cells #[.int .i64 k,.int .i64 n,.string s] 24)).cell? ⟨b',off'+j,none⟩=some (.int .i64 cj):=by
     rw [World.cell?_alloc_lt _ _ _ (by show b'<wr.heap.size; omega)]; exact c0
    go_wp2_with fail
    refine (wrong_any _ _ _ _).mono ?_
    rintro e w1 ⟨rfl,hb1⟩
    have hb1':=hb.trans (below1 hb1 |>.mono hz)
    have A1:=A0.next hb1
    have c1:=(hb1.cell (p:=⟨b',off'+j,none⟩) (by simp; omega)).trans d0
    clear r0 r1 r2 c0 A0 d0
    by_cases hw:wrongF k n s=0
    ·rw [hw]
     have HW:Hid (wrongP row[j]=0):=by show wrongP row[j]=0; rw [HV.out]; exact hw
     clear hw
     have p0:=past_cell A1.c0
     have p1:=past_cell c1
     haveI:Nonempty (Past w1):=⟨⟨_,Below.refl _ _⟩⟩
     by_cases k1:k=1
     ·subst k1
      have HN:Hid (fitsG (cols.drop j) (row.drop j)=fitsG (cols.drop (j+1)) (row.drop (j+1))):=fitsG_next cols row j hlt hlt' HW.out (.inl (by rw [HV.out]))
      go_wp2_with fail
      refine wp_region_past (by kernel_rfl) (by kernel_rfl) ?_
      repeat (go_big_quiet_step (fail))
      refine wpQuiet_nil ?_
      rintro w2 ⟨⟨v2,hb2⟩,h2⟩
      obtain rfl:w2=v2:=h2
      clear p0 p1 A1 c1
      go_wp2_with fail
      go_roundw
      case rel=>exact ⟨j+1,by omega,by go_num,HE.out.trans HN.out,chain hb1' hb2⟩
      case measure=>simp [intOf]; omega
     have q1:(k != 1)=true:=by simpa using k1
     by_cases kc:k=cj
     ·subst kc
      have HN:Hid (fitsG (cols.drop j) (row.drop j)=fitsG (cols.drop (j+1)) (row.drop (j+1))):=fitsG_next cols row j hlt hlt' HW.out (.inr (by rw [HV.out,HC.out]))
      go_wp2_with fail
      refine wp_region_past (by kernel_rfl) (by kernel_rfl) ?_
      repeat (go_big_quiet_step (fail))
      refine wpQuiet_nil ?_
      rintro w2 ⟨⟨v2,hb2⟩,h2⟩
      obtain rfl:w2=v2:=h2
      clear p0 p1 A1 c1
      go_wp2_with fail
      go_roundw
      case rel=>exact ⟨j+1,by omega,by go_num,HE.out.trans HN.out,chain hb1' hb2⟩
      case measure=>simp [intOf]; omega
     have q2:(k != cj)=true:=by simpa using kc
     have er:r=9:=by rw [← HG.out,HE.out,fitsG_type cols row j hlt hlt' HW.out (by rw [HV.out]; exact k1) (by rw [HV.out,HC.out]; exact kc)]
     subst er
     clear HG HE
     go_wp2_with fail
     refine wp_region_past (by kernel_rfl) (by kernel_rfl) ?_
     repeat (go_big_quiet_step (fail))
     refine wpQuiet_nil ?_
     rintro w2 ⟨⟨v2,hb2⟩,h2⟩
     obtain rfl:w2=v2:=h2
     clear p0 p1 A1 c1
     go_wp2_with fail
     go_ret
     exact ⟨rfl,chain hb1' hb2⟩
    ·have er:r=wrongF k n s:=by rw [← HG.out,HE.out,fitsG_wrong cols row j hlt hlt' (by rw [HV.out]; exact hw),HV.out]; rfl
     subst er
     clear HG HE
     have q3:(wrongF k n s != 0)=true:=by simpa using hw
     go_wp2_with fail
     go_ret
     exact ⟨rfl,hb1'⟩
   ·have er:r=0:=by rw [← HG.out,HE.out,fitsG_end cols row j (by omega)]
    subst er
    clear HG HE
    go_wp2_with fail
    go_ret
    exact ⟨rfl,hb⟩
 ·have er:r=8:=by rw [← HR.out,fitsL,if_pos hlen]
  subst er
  have q:((row.length:Int) != (cols.length:Int))=true:=by simp; omega
  clear HR
  go_enter Tryz.func90,Tryz.ntmps90
  go_wp2_with fail
  go_ret
  exact ⟨rfl,Below.refl _ _⟩
end Go.Proofs.YtohjlfhmnmcndaaGreat
/- What is wrong with a set of rows of columns; the rows that are asked for. -/
namespace Go.Proofs.YtohjlfhmnmcndaaGreat
open Go.RowKit Go.Lib Go.Shelf

set_option maxHeartbeats 2000000 in
theorem wrongS_at (cols:List Int) (ca:Option Addr) (ccap:Nat) (a:Option Addr) (cap:Nat) (l:List Zp) (w:World) (hc:IsAt w.heap.size w ca cols) (h:ZsAt w a l) :
  Calls Tryz.prog 65 #[.slice ca cols.length ccap,.slice a l.length cap] w fun e w'=>e = .returned (.int .i64 (inpE cols l))∧Below w.heap.size w w':=by
 have hl:=h.1
 unfold maxLen at hl
 have hcl:=hc.1
 unfold maxLen at hcl
 by_cases h8:8<cols.length
 ·have e:inpE cols l=5:=by simp [inpE,h8]
  rw [e]
  have hz:(8:Int)<(cols.length:Int):=by omega
  go_enter Tryz.func65,Tryz.ntmps65
  go_wp2_with fail
  go_ret
  exact ⟨rfl,Below.refl _ _⟩
 have hz:¬ (8:Int)<(cols.length:Int):=by omega
 by_cases hw:wrongZ l=0
 ·have e:inpE cols l=fitsZ cols l:=by simp [inpE,h8,hw]
  rw [e]
  clear e
  have Hw:Hid (wrongZ l=0):=hw
  clear hw
  go_enter Tryz.func65,Tryz.ntmps65
  go_wp2_with fail
  refine (zWrong_at _ _ _ _ h).mono ?_
  rintro e w1 ⟨rfl,hb1⟩
  rw [Hw.out]
  go_wp2_with fail
  go_loopw [19] (fun i wr=>∃ k:Nat,k≤l.length∧i = .int .i64 k∧Hid (fitsZ cols l=fitsZ cols (l.drop k))∧Below w.heap.size w wr) (fun i _=>l.length - (intOf i).toNat)
  case atStart=>exact ⟨0,Nat.zero_le _,rfl,rfl,hb1⟩
  case round =>
   obtain ⟨k,hk,rfl,HC,hb⟩:=hrel
   have hz:=hb.size
   by_cases hlt:k<l.length
   ·obtain ⟨b,off,rfl,hbl,c1,ar,cr,c0,sr⟩:=(h.next hb).elem hlt
    have hA:=hb.alloc hz (.cells #[.slice ar l[k].1.length cr,.int .i64 l[k].2] 58)
    have hal:Below wr.heap.size wr (wr.alloc (.cells #[.slice ar l[k].1.length cr,.int .i64 l[k].2] 58)):=(Below.refl _ _).alloc (Nat.le_refl _) _
    have con:=fits_at cols l[k].1 ca ccap ar cr _ ((hc.next hA (Nat.le_refl _)).up hA.size) (sr.next hal)
    by_cases hw:fitsL cols l[k].1=0
    ·have Hw:Hid (fitsL cols l[k].1=0):=hw
     rw [hw] at con
     clear hw
     go_wp2_with fail
     refine con.mono ?_
     rintro e w2 ⟨rfl,hb2⟩
     go_wp2_with fail
     go_roundw
     case rel=>exact ⟨k+1,by omega,by go_num,HC.out.trans (fitsZ_next cols l k hlt Hw.out),chain2 hb hb2⟩
     case measure=>simp [intOf]; omega
    ·have HN:Hid (fitsZ cols l=fitsL cols l[k].1):=HC.out.trans (fitsZ_bad cols l k hlt hw)
     have hne:(fitsL cols l[k].1 != 0)=true:=by simpa using hw
     generalize fitsL cols l[k].1=t at *
     go_wp2_with fail
     refine con.mono ?_
     rintro e w2 ⟨rfl,hb2⟩
     go_wp2_with fail
     go_ret
     exact ⟨ret_int HN.out.symm,chain2 hb hb2⟩
   ·have HN:Hid (fitsZ cols l=0):=HC.out.trans (fitsZ_end cols l k (by omega))
    go_wp2_with fail
    go_ret
    exact ⟨ret_int HN.out.symm,hb⟩
 ·have e:inpE cols l=wrongZ l:=by simp [inpE,h8,hw]
  rw [e]
  have hne:(wrongZ l != 0)=true:=by simpa using hw
  go_enter Tryz.func65,Tryz.ntmps65
  go_wp2_with fail
  refine (zWrong_at _ _ _ _ h).mono ?_
  rintro e w1 ⟨rfl,hb1⟩
  go_wp2_with fail
  go_ret
  exact ⟨rfl,hb1⟩

/-- A slice of one's own, whose rows' values lie in w0. -/
def OwnB (w0:World) (base:Nat) (W:World) (v:Value) (l:List Zp):Prop:=∃ xs,W.ownsRow base 58 2 v l.length xs∧EncB w0 xs l
theorem OwnB.next {w0 W w1:World} {base:Nat} {v:Value} {l:List Zp} (h:OwnB w0 base W v l) (hb:Below W.heap.size W w1):OwnB w0 base w1 v l:=by
 obtain ⟨xs,h1,h2⟩:=h
 exact ⟨xs,own_next h1 hb,h2⟩
theorem OwnB.zs {w0 W:World} {base:Nat} {v:Value} {l:List Zp} (h:OwnB w0 base W v l) (hb:Below w0.heap.size w0 W):∃ a cap,v = .slice a l.length cap∧ZsAt W a l∧(a=none→cap=0):=by
 obtain ⟨xs,h1,h2⟩:=h
 have h1':=h1
 obtain ⟨hx,⟨rfl,h0⟩ | ⟨g,cap,cur,rfl,hg,hh,hn,hc,hs,ht⟩⟩:=h1
 ·have:l = []:=List.eq_nil_of_length_eq_zero h0
  subst this
  exact ⟨none,0,rfl,⟨by simp,.inl rfl⟩,fun _=>rfl⟩
 ·refine ⟨_,cap,rfl,⟨by omega,.inr ⟨g,0,rfl,(h1'.lt g rfl).2,fun i hi=>?_⟩⟩,fun e=>by cases e⟩
  obtain ⟨a,cp,e0,e1,e2⟩:=h2.2 i hi
  refine ⟨?_,a,cp,?_,e2.next hb⟩
  ·rw [h1'.cellAt _ (by omega),← e1]; congr 1; omega
  ·rw [h1'.cellAt _ (by omega),← e0]; congr 1; omega
theorem own_since {lo base e size n:Nat} {W w1:World} {v:Value} {xs:List Value} (h:W.ownsRow base e size v n xs) (hl:lo≤base) (hs:Since lo W w1):w1.ownsRow base e size v n xs:=by
 have h':=h
 obtain ⟨hx,h1 | ⟨g,cap,cur,rfl,hg,hh,rest⟩⟩:=h
 ·exact ⟨hx,.inl h1⟩
 ·exact ⟨hx,.inr ⟨g,cap,cur,rfl,hg,by rw [hs.2 g (by omega) (h'.lt g rfl).2]; exact hh,rest⟩⟩
theorem filter_take {l:List Zp} (p:Zp→Bool) {k:Nat} (h:k<l.length):(l.take (k+1)).filter p=(l.take k).filter p ++ (if p l[k]=true then [l[k]] else []):=by
 rw [List.take_succ_eq_append_getElem h,List.filter_append]
 congr 1
 rw [List.filter_cons]
 rfl

set_option maxHeartbeats 4000000 in
theorem picked_at (g:Nat) (cb:Array Value) (p:Zp→Bool) (a:Option Addr) (cap:Nat) (l:List Zp) (w0 w:World) (Inv:World→Prop) (h:ZsAt w0 a l) (hl:l.length≤100000)
  (eg:∀ args w,(callFunc g args).run Tryz.prog w = .ok (.enter g args) w) (hI0:Inv w) (hI1:∀ W,Inv W→Below w0.heap.size w0 W) (hI2:∀ W W',Inv W→Below w.heap.size W W'→Inv W')
  (hcall:∀ x ∈ l,∀ (ra:Option Addr) (rc:Nat) (W:World),Inv W→SlAt w0 ra x.1→w.heap.size≤W.heap.size→Calls Tryz.prog g (#[.agg #[.slice ra x.1.length rc,.int .i64 x.2]] ++ cb) W fun e w'=>e = .returned (.bool (p x))∧Inv w'∧Since w.heap.size W w') :
  Calls Tryz.prog 119 #[.slice a l.length cap,.func (.func g) #[] cb] w fun e w'=>∃ v,e = .returned v∧OwnB w0 w.heap.size w' v (l.filter p)∧Inv w'∧w.heap.size≤w'.heap.size:=by
 obtain ⟨i0,hi,hj0,hj1,hj2⟩:=info_parts Tryz.info42
 have HC:Hid (∀ x ∈ l,∀ (ra:Option Addr) (rc:Nat) (W:World),Inv W→SlAt w0 ra x.1→w.heap.size≤W.heap.size→Calls Tryz.prog g (#[.agg #[.slice ra x.1.length rc,.int .i64 x.2]] ++ cb) W fun e w'=>e = .returned (.bool (p x))∧Inv w'∧Since w.heap.size W w'):=hcall
 have H1:Hid (∀ W,Inv W→Below w0.heap.size w0 W):=hI1
 have H2:Hid (∀ W W',Inv W→Below w.heap.size W W'→Inv W'):=hI2
 clear hcall hI1 hI2
 go_enter Tryz.func119,Tryz.ntmps119
 go_wp2_with fail
 go_loopw [5,10] (fun v i wr=>∃ k:Nat,k≤l.length∧i = .int .i64 k∧OwnB w0 w.heap.size wr v ((l.take k).filter p)∧Hid (Inv wr)∧w.heap.size≤wr.heap.size) (fun _ i _=>l.length - (intOf i).toNat)
 case atStart=>exact ⟨0,Nat.zero_le _,rfl,⟨[],by simpa using World.ownsRow_nil _ _ _ _,by simp [EncB]⟩,hI0,Nat.le_refl _⟩
 case round =>
  clear hI0
  obtain ⟨k,hk,rfl,HO,HI,hz⟩:=hrel
  by_cases hlt:k<l.length
  ·obtain ⟨b,off,rfl,hbl,d1,ar,cr,d0,sr⟩:=h.elem hlt
   have hB:=H1.out _ HI.out
   have c1:=(hB.cell (p:=⟨b,_,none⟩) hbl).trans d1
   have c0:=(hB.cell (p:=⟨b,_,none⟩) hbl).trans d0
   have hbl':b<wr.heap.size:=Nat.lt_of_lt_of_le hbl hB.size
   have hlen:((l.take k).filter p).length≤k:=by have:=List.length_filter_le p (l.take k); simp only [List.length_take] at this; omega
   have hal:Below wr.heap.size wr (wr.alloc (.cells #[.slice ar l[k].1.length cr,.int .i64 l[k].2] 58)):=(Below.refl _ _).alloc (Nat.le_refl _) _
   have IA:Inv (wr.alloc (.cells #[.slice ar l[k].1.length cr,.int .i64 l[k].2] 58)):=H2.out _ _ HI.out (hal.mono hz)
   have con:=HC.out l[k] (List.getElem_mem hlt) ar cr _ IA sr (Nat.le_trans hz hal.size)
   have q0:(wr.alloc (.cells #[.slice ar l[k].1.length cr,.int .i64 l[k].2] 58)).cell? ⟨wr.heap.size,0,none⟩=some (.slice ar l[k].1.length cr):=by simp
   have q1:(wr.alloc (.cells #[.slice ar l[k].1.length cr,.int .i64 l[k].2] 58)).cell? ⟨wr.heap.size,1,none⟩=some (.int .i64 l[k].2):=by simp
   have za:(wr.alloc (.cells #[.slice ar l[k].1.length cr,.int .i64 l[k].2] 58)).heap.size=wr.heap.size+1:=by simp
   have HS:Hid (SlAt w0 ar l[k].1):=sr
   obtain ⟨xs,ho,he⟩:=HO
   have HE:Hid (EncB w0 xs ((l.take k).filter p)):=he
   have ho1:=own_next ho hal
   clear d0 d1 sr he ho IA
   by_cases hp:p l[k]=true
   ·rw [hp] at con
    have HP:Hid (p l[k]=true):=hp
    clear hp
    go_wp2_with (first | (go_at_fn g; refine con.mono ?_; rintro e w1 ⟨rfl,I1,s1⟩; have r0:=(s1.cell (p:=⟨wr.heap.size,0,none⟩) hz (by show wr.heap.size<_; omega)).trans q0; have r1:=(s1.cell (p:=⟨wr.heap.size,1,none⟩) hz (by show wr.heap.size<_; omega)).trans q1; have z1:=s1.1; have o1:=own_since ho1 (Nat.le_refl _) s1) | (at_builtin; refine wpList_append_own _ rfl _ _ 34 rfl w.heap.size 58 i0 _ 2 32 Tryz.underlying34 hi hj0 hj1 hj2 rfl (by decide) _ _ _ rfl (o1.alloc _) ⟨w1.heap.size,0,none⟩ 1 1 [.slice ar l[k].1.length cr,.int .i64 l[k].2] rfl rfl ?Ac1 ?Ac2 ?Ac3 ?Ac4 ?Ac5 ?_))
    case Ac1 =>
     intro j u hj
     match j,hj with
     | 0,hj=>simp at hj; subst hj; simp [Addr.add]
     | 1,hj=>simp at hj; subst hj; simp [Addr.add]
    case Ac2=>intro u hu; simp at hu; rcases hu with rfl | rfl <;> rfl
    case Ac3=>unfold maxLen; omega
    case Ac4=>omega
    case Ac5=>simp; omega
    intro v' w5 ho5 hg5 _
    have hb5:Below w.heap.size w1 w5:=((Below.refl w.heap.size w1).alloc (by omega) _).grown hg5 (by simp; omega) (fun q hq=>((o1.alloc (.cells #[.slice ar l[k].1.length cr,.int .i64 l[k].2] 58)).lt q hq).1)
    have HI1:Hid (Inv w5):=H2.out _ _ I1 hb5
    have z5:=hb5.size
    clear hg5 o1 I1 con q0 q1 ho1
    go_wp2_with fail
    go_roundw
    case rel=>exact ⟨k+1,by omega,by go_num,by rw [filter_take p hlt,if_pos HP.out]; exact ⟨_,by simpa using ho5,HE.out.push HS.out⟩,HI1,by omega⟩
    case measure=>simp [intOf]; omega
   ·have hp:p l[k]=false:=by simpa using hp
    rw [hp] at con
    have HP:Hid (p l[k]=false):=hp
    clear hp
    go_wp2_with (go_at_fn g; refine con.mono ?_; rintro e w1 ⟨rfl,I1,s1⟩)
    have o1:=own_since ho1 (Nat.le_refl _) s1
    have z1:=s1.1
    have HI1:Hid (Inv w1):=I1
    clear con q0 q1 ho1 I1
    go_roundw
    case rel=>exact ⟨k+1,by omega,by go_num,by rw [filter_take p hlt,HP.out,if_neg (by decide),List.append_nil]; exact ⟨_,o1,HE.out⟩,HI1,by omega⟩
    case measure=>simp [intOf]; omega
  ·have e:k=l.length:=by omega
   subst e
   rw [List.take_length] at HO
   obtain ⟨av,cv,rfl,_⟩:=HO.zs (H1.out _ HI.out)
   go_wp2_with fail
   go_ret
   exact ⟨_,rfl,HO,HI.out,hz⟩
end Go.Proofs.YtohjlfhmnmcndaaGreat
/- Pairs: two sets, and whether rows of them hold with each other; all pairs are laid into one room. -/
namespace Go.Proofs.YtohjlfhmnmcndaaGreat
open Go.RowKit Go.Lib Go.Shelf

/-- What all that asks of pairs leaves as it was: all but the room R and the variable rv that leads to it. -/
structure PInv (wp:World) (R rv:Nat) (W:World):Prop where
 os:W.os=wp.os
 tape:W.tape=wp.tape
 output:W.output=wp.output
 size:wp.heap.size≤W.heap.size
 block:∀ k,k<wp.heap.size→k≠R→k≠rv→W.heap[k]? = wp.heap[k]?
 var:∃ n,W.cell? ⟨rv,0,none⟩=some (.slice (some ⟨R,0,none⟩) n 8)
 warm:W.frozen? ⟨rv,0,none⟩=false
 room:∃ cur,W.heap[R]? = some (.cells cur 24 (0,0))∧cur.size=24
/-- The room and its variable are the newest. -/
structure PNew (wp:World) (R rv:Nat):Prop where
 r:R<rv
 v:rv<wp.heap.size
theorem PInv.below {wp W:World} {R rv:Nat} (h:PInv wp R rv W) (hn:PNew wp R rv):Below R wp W :=
 ⟨h.os,h.tape,h.output,h.size,fun k hk=>h.block k (by have:=hn.r; have:=hn.v; omega) (by omega) (by have:=hn.r; omega)⟩
theorem PInv.later {wp W W':World} {R rv:Nat} (h:PInv wp R rv W) (hn:PNew wp R rv) {B:Nat} (hB:wp.heap.size≤B) (hb:Below B W W'):PInv wp R rv W':=by
 have hr:=hn.r
 have hv:=hn.v
 obtain ⟨n,hc⟩:=h.var
 obtain ⟨cur,hh,hs⟩:=h.room
 refine ⟨hb.os.trans h.os,hb.tape.trans h.tape,hb.output.trans h.output,Nat.le_trans h.size hb.size,fun k hk h1 h2=>(hb.block k (by omega)).trans (h.block k hk h1 h2),⟨n,(hb.cell (p:=⟨rv,0,none⟩) (by show rv<B; omega)).trans hc⟩,(hb.frozen (p:=⟨rv,0,none⟩) (by show rv<B; omega)).trans h.warm,cur,(hb.block R (by omega)).trans hh,hs⟩
theorem PInv.sz {wp W:World} {R rv:Nat} (h:PInv wp R rv W) (hn:PNew wp R rv):rv<W.heap.size:=Nat.lt_of_lt_of_le hn.v h.size

set_option maxRecDepth 100000 in
set_option maxHeartbeats 2000000 in
theorem both1_at (cols:List Int) (lo:Nat) (x:Ex) (wc wp w0:World) (R rv hv:Nat) (u:Value) (hn:PNew wp R rv) (hv0:hv<R) (hc:wp.cell? ⟨hv,0,none⟩=some u) (hC:Conds cols lo u x wc) (hcR:wc.heap.size≤R) (hcp:Since lo wc wp) (h0:w0.heap.size≤R) (h0p:Below w0.heap.size w0 wp)
  (a b:Option Addr) (ca cb:Nat) (l r:List Vl) (W:World) (hI:PInv wp R rv W) (s1:SlAt w0 a l) (s2:SlAt w0 b r) (h8:l.length+r.length≤8) (hf:FitP cols (l ++ r)) :
  Calls Tryz.prog 219 #[.slice a l.length ca,.slice b r.length cb,.pointer (some ⟨rv,0,none⟩),.pointer (some ⟨hv,0,none⟩)] W fun e w'=>e = .returned (.bool (holdsP x (l ++ r)))∧PInv wp R rv w'∧Since (rv+1) W w':=by
 obtain ⟨i0,hi,hj0,hj1,hj2⟩:=info_parts Tryz.info49
 obtain ⟨g,cbs,rfl,eg,d⟩:=hC
 have HD:Hid _:=d
 clear d
 have hrR:=hn.r
 have hb0:=hI.below hn
 have d0:Below w0.heap.size w0 W:=h0p.trans (hb0.mono h0)
 have r1:=raw_vals (s1.next d0)
 have c3:W.cell? ⟨hv,0,none⟩=some (.func (.func g) #[] cbs):=(hb0.cell (p:=⟨hv,0,none⟩) hv0).trans hc
 obtain ⟨n,hc2⟩:=hI.var
 obtain ⟨cur,hh,hs⟩:=hI.room
 have hsz:=hI.sz hn
 have hfz:=hI.warm
 have own:W.ownsRow R 24 3 (.slice (some ⟨R,0,none⟩) 0 8) 0 []:=⟨rfl,.inr ⟨R,8,cur,rfl,Nat.le_refl _,hh,by omega,by unfold maxLen; omega,by omega,by simp⟩⟩
 generalize ht:holdsP x (l ++ r)=t
 have HT:Hid (holdsP x (l ++ r)=t):=ht
 clear ht
 go_enter Tryz.func219,Tryz.ntmps219
 go_wp2_with (at_builtin; refine wpList_append_in _ rfl _ _ 56 rfl R 24 i0 3 Tryz.underlying56 hi hj1 R 0 8 _ rfl own a l.length ca _ rfl r1 (by omega) ?_)
 intro w1 own1 g1
 have k1:∀ k,k<W.heap.size→k≠R→w1.heap[k]? = W.heap[k]?:=fun k hk hne=>g1.block k hk (by intro e; exact hne (Option.some.inj e))
 have z1:=g1.size
 have d1:Below w0.heap.size w0 w1:=⟨g1.os.trans d0.os,g1.tape.trans d0.tape,g1.output.trans d0.output,Nat.le_trans d0.size z1,fun k hk=>(k1 k (by have:=d0.size; omega) (by omega)).trans (d0.block k hk)⟩
 have r2:=raw_vals (s2.next d1)
 clear own r1
 go_wp2_with (at_builtin; refine wpList_append_in _ rfl _ _ 56 rfl R 24 i0 3 Tryz.underlying56 hi hj1 R l.length 8 _ rfl own1 b r.length cb _ rfl r2 (by omega) ?_)
 intro w2 own2 g2
 have k2:∀ k,k<W.heap.size→k≠R→w2.heap[k]? = W.heap[k]?:=fun k hk hne=>(g2.block k (by omega) (by intro e; exact hne (Option.some.inj e))).trans (k1 k hk hne)
 have z2:=g2.size
 have o2:w2.os=W.os∧w2.tape=W.tape∧w2.output=W.output:=⟨g2.os.trans g1.os,g2.tape.trans g1.tape,g2.output.trans g1.output⟩
 have cv:w2.cell? ⟨rv,0,none⟩=some (.slice (some ⟨R,0,none⟩) n 8):=(World.cell?_of_block (w:=W) (k2 rv hsz (by omega))).trans hc2
 have fv:w2.frozen? ⟨rv,0,none⟩=false:=(World.frozen?_of_block (w:=W) (k2 rv hsz (by omega))).trans hfz
 have ch:w2.cell? ⟨hv,0,none⟩=some (.func (.func g) #[] cbs):=(World.cell?_of_block (w:=W) (k2 hv (by omega) (by omega))).trans c3
 have k3:∀ k,k≠rv→(w2.setCell ⟨rv,0,none⟩ (.slice (some ⟨R,0,none⟩) (l.length+r.length) 8)).heap[k]? = w2.heap[k]?:=fun k hne=>Below.heap_setCell w2 ⟨rv,0,none⟩ _ k hne
 have cv3:(w2.setCell ⟨rv,0,none⟩ (.slice (some ⟨R,0,none⟩) (l.length+r.length) 8)).cell? ⟨rv,0,none⟩=some (.slice (some ⟨R,0,none⟩) (l.length+r.length) 8):=World.cell?_setCell_same' _ _ _ (by rw [cv]; rfl)
 have fv3:(w2.setCell ⟨rv,0,none⟩ (.slice (some ⟨R,0,none⟩) (l.length+r.length) 8)).frozen? ⟨rv,0,none⟩=false:=by rw [World.frozen?_setCell]; exact fv
 have ch3:(w2.setCell ⟨rv,0,none⟩ (.slice (some ⟨R,0,none⟩) (l.length+r.length) 8)).cell? ⟨hv,0,none⟩=some (.func (.func g) #[] cbs):=(World.cell?_of_block (w:=w2) (k3 hv (by omega))).trans ch
 have z3:(w2.setCell ⟨rv,0,none⟩ (.slice (some ⟨R,0,none⟩) (l.length+r.length) 8)).heap.size=w2.heap.size:=by simp
 have o3:(w2.setCell ⟨rv,0,none⟩ (.slice (some ⟨R,0,none⟩) (l.length+r.length) 8)).os=w2.os∧(w2.setCell ⟨rv,0,none⟩ (.slice (some ⟨R,0,none⟩) (l.length+r.length) 8)).tape=w2.tape∧(w2.setCell ⟨rv,0,none⟩ (.slice (some ⟨R,0,none⟩) (l.length+r.length) 8)).output=w2.output:=by
  have:=(Below.refl rv w2).setCell (p:=⟨rv,0,none⟩) (Nat.le_refl _) (.slice (some ⟨R,0,none⟩) (l.length+r.length) 8)
  exact ⟨this.os,this.tape,this.output⟩
 have HO2:Hid (w2.ownsRow R 24 3 (.slice (some ⟨R,0,none⟩) (l.length+r.length) 8) (l.length+r.length) (flatV l ++ flatV r)):=own2
 clear own2 own1
 go_wp2_with fail
 have own2:=HO2.out
 obtain ⟨hx2,⟨e2,_⟩ | ⟨gg,cap2,cur2,e2,hg2,hh2,hn2,hm2,hs2,ht2⟩⟩:=own2
 ·cases e2
 injection e2 with e2a e2b e2c
 have e2a:=Option.some.inj e2a
 injection e2a with e2a
 subst e2a e2c
 generalize w2.setCell ⟨rv,0,none⟩ (.slice (some ⟨R,0,none⟩) (l.length+r.length) 8)=w3 at *
 have hR3:w3.heap[R]? = some (.cells cur2 24 (0,0)):=(k3 R (by omega)).trans hh2
 have own3:w3.ownsRow R 24 3 (.slice (some ⟨R,0,none⟩) (l.length+r.length) 8) (l.length+r.length) (flatV (l ++ r)):=⟨by rw [flatV_append]; exact hx2,.inr ⟨R,8,cur2,rfl,Nat.le_refl _,hR3,hn2,hm2,hs2,by rw [flatV_append]; exact ht2⟩⟩
 obtain ⟨a3,c3',e3,sl3,_,_⟩:=own_vals own3 (by simp)
 injection e3 with e3a e3b e3c
 subst e3a e3c
 have kk:∀ k,k<W.heap.size→k≠R→k≠rv→w3.heap[k]? = W.heap[k]?:=fun k hk h1 h2=>(k3 k h2).trans (k2 k hk h1)
 have I3:PInv wp R rv w3:=⟨o3.1.trans (o2.1.trans hI.os),o3.2.1.trans (o2.2.1.trans hI.tape),o3.2.2.trans (o2.2.2.trans hI.output),by have:=hI.size; omega,fun k hk h1 h2=>(kk k (by have:=hI.size; omega) h1 h2).trans (hI.block k hk h1 h2),⟨_,cv3⟩,fv3,cur2,hR3,by omega⟩
 have S3:Since (rv+1) W w3:=⟨by omega,fun k h1 h2=>kk k h2 (by omega) (by omega)⟩
 have dc:Since lo wc w3:=⟨by have:=hcp.1; have:=hI.size; omega,fun k h1 h2=>by
  rw [(I3.below hn).block k (by omega)]
  exact hcp.2 k h1 h2⟩
 have d:=HD.out (l ++ r) (some ⟨R,0,none⟩) 8 w3 hf sl3 dc
 rw [List.length_append,HT.out] at d
 refine d.mono ?_
 rintro e w4 ⟨rfl,hb4⟩
 have FI:Hid (PInv wp R rv w4):=I3.later hn (by have:=I3.size; omega) hb4
 have FS:Hid (Since (rv+1) W w4):=S3.trans (Since.of hb4)
 clear g1 g2 r2 k1 k2 kk hh hI hx2 ht2 hR3 hh2 own3 d k3 e2b e3b o2 o3 sl3 dc z1 z2 z3 I3 S3 cv fv ch cv3 fv3 ch3 HO2 hn2 hm2 hs2 d0 d1 hb0 c3 hc2 hfz hj0 hj1 hj2 hi
 dsimp only
 go_wp2_with fail
 go_ret
 exact ⟨rfl,FI.out,FS.out⟩
end Go.Proofs.YtohjlfhmnmcndaaGreat
/- The walk of ops.Filter. -/
namespace Go.Proofs.YtohjlfhmnmcndaaGreat
open Go.RowKit Go.Lib Go.Shelf

set_option maxHeartbeats 400000 in
theorem filter1_at (cols:List Int) (lo:Nat) (x:Ex) (u:Value) (b:Nat) (ra:Option Addr) (rc:Nat) (row:List Vl) (n:Int) (W:World) (hb:b<W.heap.size) (h0:W.cell? ⟨b,0,none⟩=some u) (hA:Conds cols lo u x W) (hf:FitP cols row) (hs:SlAt W ra row) :
  Calls Tryz.prog 120 #[.agg #[.slice ra row.length rc,.int .i64 n],.pointer (some ⟨b,0,none⟩)] W fun e w'=>e = .returned (.bool (holdsP x row))∧Below W.heap.size W w':=by
 obtain ⟨g,cb,rfl,eg,d⟩:=hA
 have hal:Below W.heap.size W (W.alloc (.cells #[.slice ra row.length rc,.int .i64 n] 58)):=(Below.refl _ _).alloc (Nat.le_refl _) _
 have d:=d row ra rc _ hf (hs.next hal) (Since.of hal)
 have c0:=(hal.cell (p:=⟨b,0,none⟩) hb).trans h0
 generalize holdsP x row=t at *
 go_enter Tryz.func120,Tryz.ntmps120
 go_wp2_with (go_at_fn g; refine d.mono ?_; rintro e w1 ⟨rfl,hb1⟩)
 go_ret
 exact ⟨rfl,chain hal hb1⟩

theorem row8 {cols:List Int} {z:List Zp} (h:InpOk cols z):∀ x ∈ z,x.1.length≤8:=fun x hx=>by
 have:=(h.fit x hx).len
 have:=h.cols8
 omega
theorem set_in {cols:List Int} {z:List Zp} (h:InpOk cols z):∀ x ∈ z,inW x.2=true:=fun x hx=>(((wrongZ_iff z).1 h.set).2.1 x hx).2.2
theorem set_len {cols:List Int} {z:List Zp} (h:InpOk cols z):z.length≤400:=((wrongZ_iff z).1 h.set).1

set_option maxRecDepth 100000 in
set_option maxHeartbeats 4000000 in
theorem filter_at (cols:List Int) (x:Ex) (ca:Option Addr) (ccap:Nat) (xa:Option Addr) (xcap:Nat) (a:Option Addr) (cap:Nat) (l:List Zp) (w:World) (hc:IsAt w.heap.size w ca cols) (hk:KsAt w.heap.size w xa x.ks) (h:ZsAt w a l) :
  Calls Tryz.prog 94 #[.slice ca cols.length ccap,exV x.k x.v x.c xa x.ks.length xcap,.slice a l.length cap] w fun e w'=>∃ v,e = .returned (.tuple #[v,.int .i64 (filtE cols x l)])∧OwnZ w.heap.size w' v (filtZ cols x l)∧Below w.heap.size w w':=by
 have hal:Below w.heap.size w (w.alloc (.cells #[.int .i64 x.k,.int .i64 x.v.1,.int .i64 x.v.2.1,.string x.v.2.2,.int .i64 x.c,.slice xa x.ks.length xcap] 27)):=(Below.refl _ _).alloc (Nat.le_refl _) _
 have hk':=(KsAt.next hal (Nat.le_refl _) hk).up hal.size
 have hc':=(hc.next hal (Nat.le_refl _)).up hal.size
 by_cases h1:condE cols x=0
 ·have con:=condOk_at cols x ca ccap xa xcap _ hk' hc' h1
  have H1:Hid (condE cols x=0):=h1
  clear h1
  have HE:Hid (filtE cols x l=if inpE cols l≠0 then inpE cols l else 0):=by
   show filtE cols x l=_
   unfold filtE
   rw [H1.out,if_neg (by simp)]
  generalize hfz:filtZ cols x l=fz
  generalize hfe:filtE cols x l=fe
  have HZ:Hid (filtZ cols x l=fz):=hfz
  have HF:Hid (filtE cols x l=fe):=hfe
  clear hfz hfe
  go_enter Tryz.func94,Tryz.ntmps94
  go_wp2_with fail
  generalize w.alloc (.cells #[.int .i64 x.k,.int .i64 x.v.1,.int .i64 x.v.2.1,.string x.v.2.2,.int .i64 x.c,.slice xa x.ks.length xcap] 27)=w1 at *
  refine con.mono ?_
  rintro e w2 ⟨u,rfl,hC2,hb2⟩
  clear con
  have hA:=chain hal hb2
  have hC2:=hC2.down hal.size
  obtain ⟨ug,ucb,rfl⟩:∃ g cb,u = .func (.func g) #[] cb:=by obtain ⟨g,cb,e,_⟩:=hC2; exact ⟨g,cb,e⟩
  have hal3:Below w2.heap.size w2 (w2.alloc (.cells #[.func (.func ug) #[] ucb] 139)):=(Below.refl _ _).alloc (Nat.le_refl _) _
  have hA3:=chain hA hal3
  have con:=wrongS_at cols ca ccap a cap l _ ((hc.next hA3 (Nat.le_refl _)).up hA3.size) (h.next hA3)
  have c3:(w2.alloc (.cells #[.func (.func ug) #[] ucb] 139)).cell? ⟨w2.heap.size,0,none⟩=some (.func (.func ug) #[] ucb):=by simp
  have hC3:=hC2.next (Since.of hal3)
  have z3:(w2.alloc (.cells #[.func (.func ug) #[] ucb] 139)).heap.size=w2.heap.size+1:=by simp
  clear hk' hc'
  by_cases h2:inpE cols l=0
  ·have hz:=(inpE_ok cols l).1 h2
   rw [h2] at con
   have H2:Hid (inpE cols l=0):=h2
   clear h2
   have e0:fe=0:=by rw [← HF.out,HE.out,H2.out]; rfl
   have e1:fz=canon (filtL x l):=by rw [← HZ.out]; unfold filtZ; rw [if_pos (by rw [HE.out,H2.out]; rfl)]
   have HN:Hid (fe=0):=e0
   have HV:Hid (fz=canon (filtL x l)):=e1
   clear e0 e1
   go_wp2_with fail
   generalize w2.alloc (.cells #[.func (.func ug) #[] ucb] 139)=w3 at *
   refine con.mono ?_
   rintro e w4 ⟨rfl,hb4⟩
   clear con
   have hA4:=chain hA3 hb4
   have c4:=(hb4.cell (p:=⟨w2.heap.size,0,none⟩) (by show w2.heap.size<_; omega)).trans c3
   have hC4:=hC3.next (Since.of hb4)
   have zs4:=h.next hA4
   have z4:=hb4.size
   have hl4:=set_len hz
   go_wp2_with fail
   refine (picked_at 120 #[.pointer (some ⟨w2.heap.size,0,none⟩)] (fun p=>holdsP x p.1) a cap l w4 w4 (fun W=>Below w4.heap.size w4 W) zs4 (by omega) (enters_of Tryz.func120 (by kernel_rfl) rfl) (Below.refl _ _) (fun _ h=>h) (fun _ _ h k=>h.trans k) ?_).mono ?_
   ·intro y hy ra rc W hW hs _
    refine (filter1_at cols w.heap.size x _ w2.heap.size ra rc y.1 y.2 W (by have:=hW.size; omega) ((hW.cell (p:=⟨w2.heap.size,0,none⟩) (by show w2.heap.size<_; omega)).trans c4) (hC4.next (Since.of hW)) (hz.fit y hy) (hs.next hW)).mono ?_
    rintro e w' ⟨rfl,hb⟩
    exact ⟨rfl,chain hW hb,Since.of hb⟩
   rintro e w5 ⟨v5,rfl,O5,hb5,_⟩
   obtain ⟨a5,c5,rfl,zs5,_⟩:=O5.zs hb5
   have hA5:=chain hA4 hb5
   have hfl:l.filter (fun p=>holdsP x p.1)=filtL x l:=rfl
   rw [hfl] at zs5
   have hsub:∀ y ∈ filtL x l,y ∈ l:=fun y hy=>(List.mem_filter.1 hy).1
   have hfn:(filtL x l).length≤400:=Nat.le_trans (List.length_filter_le _ _) hl4
   have hg0:gatherE (filtL x l)=0:=filt_gather hz.set _
   have con:=gathered_at a5 c5 (filtL x l) w5 zs5 (by omega) (fun y hy=>inW_big (set_in hz y (hsub y hy))) (fun y hy=>row8 hz y (hsub y hy))
   have hgz:gatherZ (filtL x l)=fz:=by rw [HV.out]; unfold gatherZ; rw [if_pos hg0]
   rw [hg0,hgz] at con
   clear hg0 hgz hC2 hC3 hC4 c3 c4 O5
   rw [hfl]
   go_wp2_with fail
   refine con.mono ?_
   rintro e w6 ⟨v6,rfl,O6,hb6⟩
   have O6':=O6.mono hA5.size
   obtain ⟨a6,c6,rfl,_⟩:=O6.zs
   go_wp2_with fail
   exact bodyPost_ret (v:=.tuple #[.slice a6 fz.length c6,.int .i64 0]) (by simp [results,Tryz.results94,go_sem]) rfl ⟨_,by rw [HN.out],O6',chain hA5 hb6⟩
  ·have e0:fe=inpE cols l:=by rw [← HF.out,HE.out,if_pos h2]
   have e1:fz = []:=by rw [← HZ.out]; unfold filtZ; rw [HE.out,if_pos h2,if_neg h2]
   have HN:Hid (fe=inpE cols l):=e0
   have HV:Hid (fz = []):=e1
   have hne:(inpE cols l != 0)=true:=by simpa using h2
   clear e0 e1
   generalize inpE cols l=t at *
   go_wp2_with fail
   generalize w2.alloc (.cells #[.func (.func ug) #[] ucb] 139)=w3 at *
   refine con.mono ?_
   rintro e w4 ⟨rfl,hb4⟩
   clear con
   go_wp2_with fail
   exact bodyPost_ret (v:=.tuple #[.slice none 0 0,.int .i64 t]) (by simp [results,Tryz.results94,go_sem]) rfl ⟨_,by rw [HN.out],by rw [HV.out]; exact own_nil _ _,chain hA3 hb4⟩
 ·have con:=condBad_at cols x ca ccap xa xcap _ hk' hc' h1
  have e0:filtE cols x l=condE cols x:=by unfold filtE; rw [if_pos h1]
  have e1:filtZ cols x l = []:=by unfold filtZ; rw [e0,if_neg h1]
  rw [e0,e1]
  have hne:(condE cols x != 0)=true:=by simpa using h1
  generalize condE cols x=t at *
  clear e0 e1
  go_enter Tryz.func94,Tryz.ntmps94
  go_wp2_with fail
  generalize w.alloc (.cells #[.int .i64 x.k,.int .i64 x.v.1,.int .i64 x.v.2.1,.string x.v.2.2,.int .i64 x.c,.slice xa x.ks.length xcap] 27)=w1 at *
  refine con.mono ?_
  rintro e w2 ⟨rfl,hb2⟩
  have hA:=chain hal hb2
  have hal3:Below w2.heap.size w2 (w2.alloc (.cells #[.nilFunc] 139)):=(Below.refl _ _).alloc (Nat.le_refl _) _
  clear con
  go_wp2_with fail
  exact bodyPost_ret (v:=.tuple #[.slice none 0 0,.int .i64 t]) (by simp [results,Tryz.results94,go_sem]) rfl ⟨_,rfl,own_nil _ _,chain hA hal3⟩
end Go.Proofs.YtohjlfhmnmcndaaGreat
/- The walk of slices.Concat at two slices of rows. -/
namespace Go.Proofs.YtohjlfhmnmcndaaGreat
open Go.RowKit Go.Lib Go.Shelf

/-- What has been laid behind each other so far. -/
def catTo (l l':List Zp):Nat→List Zp
 | 0=>[]
 | 1=>l
 | _=>l ++ l'
structure Pair (w:World) (B:Nat) (l l':List Zp):Prop where
 lt:B<w.heap.size
 at_:∀ k,k<2→∃ a cap ls,w.cell? ⟨B,k,none⟩=some (.slice a ls.length cap)∧ZsAt w a ls∧(a=none→cap=0)∧catTo l l' (k+1)=catTo l l' k ++ ls
theorem Pair.next {w w1:World} {B:Nat} {l l':List Zp} (h:Pair w B l l') (hb:Below w.heap.size w w1):Pair w1 B l l' :=
 ⟨Nat.lt_of_lt_of_le h.lt hb.size,fun k hk=>by
  obtain ⟨a,cap,ls,h1,h2,h3,h4⟩:=h.at_ k hk
  exact ⟨a,cap,ls,(hb.cell (p:=⟨B,k,none⟩) h.lt).trans h1,h2.next hb,h3,h4⟩⟩
theorem catTo_len (l l':List Zp) (k:Nat):(catTo l l' k).length≤l.length+l'.length:=by
 match k with
 | 0=>simp [catTo]
 | 1=>simp [catTo]
 | n+2=>simp [catTo]

set_option maxRecDepth 100000 in
set_option maxHeartbeats 4000000 in
theorem concat_at (B:Nat) (l l':List Zp) (w:World) (h:Pair w B l l') (hl:l.length+l'.length≤200000) :
  Calls Tryz.prog 75 #[.slice (some ⟨B,0,none⟩) 2 2] w fun e w'=>∃ a cap,e = .returned (.slice a (l ++ l').length cap)∧ZsAt w' a (l ++ l')∧(a=none→cap=0)∧Below w.heap.size w w':=by
 obtain ⟨i0,hi,hj0,hj1,hj2⟩:=info_parts Tryz.info42
 go_enter Tryz.func75,Tryz.ntmps75
 go_wp2_with fail
 go_loopw [3,11] (fun sz i wr=>∃ k:Nat,k≤2∧i = .int .i64 k∧sz = .int .i64 ((catTo l l' k).length:Int)∧wr=w) (fun _ i _=>2 - (intOf i).toNat)
 case atStart=>exact ⟨0,by omega,rfl,rfl,rfl⟩
 case round =>
  obtain ⟨k,hk,rfl,rfl,rfl⟩:=hrel
  have hcl:=catTo_len l l' k
  by_cases hlt:k<2
  ·obtain ⟨a,cap,ls,c0,zs,hnil,hcat⟩:=h.at_ k hlt
   have hcl2:=catTo_len l l' (k+1)
   rw [hcat,List.length_append] at hcl2
   have HCat:Hid (catTo l l' (k+1)=catTo l l' k ++ ls):=hcat
   clear hcat
   generalize hq:catTo l l' k=q at *
   have HQ:Hid (catTo l l' k=q):=hq
   clear hq
   go_wp2_with fail
   go_roundw
   case rel=>exact ⟨k+1,by omega,by go_num,by rw [HCat.out,List.length_append]; go_num,by first | rfl | trivial⟩
   case measure=>simp [intOf]; omega
  ·have e:k=2:=by omega
   subst e
   have el:((catTo l l' 2).length:Int)=((l ++ l').length:Nat):=rfl
   have gc:=grow_at (l.length+l'.length) (by omega) wr
   rw [Int.natCast_add] at gc
   go_wp2_with fail
   refine gc.mono ?_
   clear gc el
   rintro e w1 ⟨v,rfl,ho,hb1⟩
   obtain ⟨a1,c1,rfl⟩:=own_shape ho
   have HS0:SumTo wr w1 (.slice a1 0 c1) (catTo l l' 0):=⟨[],ho,rfl,fun i hi=>by simp [catTo] at hi⟩
   clear ho
   go_wp2_with fail
   generalize hw0:wr=w0 at *
   have HW0:Hid (wr=w0):=hw0
   clear hw0
   go_loopw [6,27] (fun v i ws=>∃ k:Nat,k≤2∧i = .int .i64 k∧SumTo w0 ws v (catTo l l' k)∧Below w0.heap.size w0 ws) (fun _ i _=>2 - (intOf i).toNat)
   case atStart=>exact ⟨0,by omega,rfl,HS0,hb1⟩
   case round =>
    clear HS0
    obtain ⟨k,hk,rfl,HS,hb⟩:=hrel
    have hz:=hb.size
    obtain ⟨xs,ho,he⟩:=HS
    by_cases hlt:k<2
    ·obtain ⟨a,cap,ls,c0,zs,hnil,hcat⟩:=h.at_ k hlt
     have hcl2:=catTo_len l l' (k+1)
     rw [hcat,List.length_append] at hcl2
     have HCat:Hid (catTo l l' (k+1)=catTo l l' k ++ ls):=hcat
     clear hcat
     obtain ⟨news,en,e1,en0,ec⟩:=src_of zs
     have c0':=(hb.cell (p:=⟨B,k,none⟩) h.lt).trans c0
     clear c0
     generalize catTo l l' k=q at *
     obtain ⟨a3,c3,rfl⟩:=own_shape ho
     rcases a with _ | ad
     ·have hls:=en0 rfl
      have hcp:=hnil rfl
      subst hls hcp
      go_wp2_with (at_builtin; refine wpList_append_own_none rfl _ _ 34 rfl w0.heap.size 58 i0 2 Tryz.underlying34 hi _ _ _ rfl ho rfl ?_)
      go_roundw
      case rel=>exact ⟨k+1,by omega,by go_num,by rw [HCat.out,List.append_nil]; exact ⟨xs,ho,he⟩,hb⟩
      case measure=>simp [intOf]; omega
     ·have ec':∀ j u,news[j]? = some u→wr.cell? (ad.add j)=some u:=fun j u hj=>by
       have:=ec ad rfl j u hj
       rw [hb.cell (World.block_lt_of_cell? _ _ this)]
       exact this
      go_wp2_with (at_builtin; refine wpList_append_own _ rfl _ _ 34 rfl w0.heap.size 58 i0 _ 2 32 Tryz.underlying34 hi hj0 hj1 hj2 rfl (by decide) _ _ _ rfl ho ad ls.length cap news rfl en.1 ec' e1 (by unfold maxLen; omega) (by omega) (by omega) ?_)
      intro v' w5 ho5 hg5 _
      have hb5:Below w0.heap.size w0 w5:=hb.grown hg5 hz (fun q hq=>(ho.lt q hq).1)
      clear hg5 ho
      go_wp2_with fail
      go_roundw
      case rel=>exact ⟨k+1,by omega,by go_num,by rw [HCat.out]; exact ⟨_,by simpa using ho5,encB_append he en⟩,hb5⟩
      case measure=>simp [intOf]; omega
    ·have e:k=2:=by omega
     subst e
     obtain ⟨a3,c3,e3,z3⟩:=own_zsB ho rfl he hb
     have hn3:a3=none→c3=0:=by
      intro e
      subst e
      obtain ⟨_,⟨e4,_⟩ | ⟨g,c1,cur,e4,_⟩⟩:=ho
      ·rw [e3] at e4; injection e4
      ·rw [e3] at e4; injection e4 with e4; cases e4
     subst e3
     go_wp2_with fail
     go_ret
     exact ⟨a3,c3,rfl,z3,hn3,by rw [HW0.out]; exact hb⟩
end Go.Proofs.YtohjlfhmnmcndaaGreat
