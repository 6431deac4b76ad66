/- Together: H5, H6, H7, H8, H9, HT1, HW, Q4, HP1. -/
import Derived.Test.YtcnmpiahcnkndaaGreatMM9
import Derived.Test.YtcnmpiahcnkndaaGreatMM7
/- What begins to tell sums and what was ahead; tellerOf. -/
namespace Go.Proofs.YtcnmpiahcnkndaaGreat
open Go.RowKit

theorem numV_bd {v:Vl} (h:wrongP v=0) (hn:NumB v):-1000000000000000≤v.2.1∧v.2.1≤1000000000000000:=by
 unfold NumB bareN at hn
 unfold wrongP wrongF at h
 split at hn
 ·rename_i hk
  rcases hk with hk | hk
  ·simp [hk] at h; omega
  ·simp [hk] at h; omega
 ·omega
theorem smN_bd {cols:List Int} {f:List Vl→Vl} (hf:∀ row,FitP cols row→wrongP (f row)=0∧NumB (f row)):∀ h:List Lp,(∀ p ∈ h,FitP cols p.2.2) → -(1000000000000000*(h.length:Int))≤smN f h∧smN f h≤1000000000000000*(h.length:Int)
 | [],_=>by simp [smN]
 | p :: r,hp=>by
  have h1:=smN_bd hf r fun q hq=>hp q (by simp [hq])
  have h2:=numV_bd (hf _ (hp p (by simp))).1 (hf _ (hp p (by simp))).2
  unfold smN
  split <;> simp only [List.length_cons] <;> omega
def lagV (f:List Vl→Vl):List Lp→Vl
 | []=>nulV
 | q :: _=>f q.2.2
theorem tLag_eq (f:List Vl→Vl) (h:List Lp) (p:Lp):tLag f h p=lagV f h:=by cases h <;> rfl
def LgI (uv:Value) (f:List Vl→Vl) (a y:Nat) (h:List Lp) (W:World):Prop:=Bk W a #[uv] 99∧Bk W y #[.int .i64 (lagV f h).1,.int .i64 (lagV f h).2.1,.string (lagV f h).2.2] 38
theorem lags_tl (cols:List Int) (w1:World) (lo:Nat) (uv:Value) (f:List Vl→Vl) (hV:Asks cols lo uv f w1) (a y:Nat) (hay:a<y) (hwa:w1.heap.size≤a):Tl cols w1 (fun h p=>agV (tLag f h p)) 139 #[.pointer (some ⟨y,0,none⟩),.pointer (some ⟨a,0,none⟩)] a (y+1) (LgI uv f a y) where
 lo:=hwa
 lt:=fun h W ⟨_,h2⟩=>h2.lt
 next:=fun h W W' ⟨h1,h2⟩ _ hs=>⟨h1.same (hs _ (by omega) (by omega)),h2.same (hs _ (by omega) (by omega))⟩
 enter:=enters_of Tryz.func139 (by kernel_rfl) rfl
 call:=fun h p v W ⟨h1,h2⟩ hn hfh hfp hv hb=>by
  refine (lags1_at cols w1 W hb lo uv f hV v p (lagV f h) a y hay hwa hfp hv h1 h2).mono ?_
  rintro e w' ⟨rfl,k1,k2,k3⟩
  exact ⟨by simp only [tLag_eq],⟨k1,k2⟩,k3⟩
def SmI (uv:Value) (f:List Vl→Vl) (a:Nat) (h:List Lp) (W:World):Prop:=Bk W a #[uv] 99∧Bk W (a+1) #[.int .i64 (smN f h)] 2∧Bk W (a+2) #[.bool (smK f h)] 4
theorem sums_tl (cols:List Int) (w1:World) (lo:Nat) (uv:Value) (f:List Vl→Vl) (hV:Asks cols lo uv f w1) (hf:∀ row,FitP cols row→wrongP (f row)=0∧NumB (f row)) (a:Nat) (hwa:w1.heap.size≤a):Tl cols w1 (fun h p=>agV (tSum f h p)) 140 #[.pointer (some ⟨a,0,none⟩),.pointer (some ⟨a+1,0,none⟩),.pointer (some ⟨a+2,0,none⟩)] a (a+3) (SmI uv f a) where
 lo:=hwa
 lt:=fun h W ⟨_,_,h2⟩=>h2.lt
 next:=fun h W W' ⟨h1,h2,h3⟩ _ hs=>⟨h1.same (hs _ (by omega) (by omega)),h2.same (hs _ (by omega) (by omega)),h3.same (hs _ (by omega) (by omega))⟩
 enter:=enters_of Tryz.func140 (by kernel_rfl) rfl
 call:=fun h p v W ⟨h1,h2,h3⟩ hn hfh hfp hv hb=>by
  have bd:=smN_bd hf h hfh
  have bs:-1000000000000000000≤smN f h∧smN f h≤1000000000000000000:=by omega
  have bn:=numV_bd (hf _ hfp).1 (hf _ hfp).2
  by_cases hk:(f p.2.2).1=1
  ·have hq:((f p.2.2).1 != 1)=false:=by simpa using hk
   have eN:smN f (p :: h)=smN f h:=by simp [smN,hk]
   have eK:smK f (p :: h)=smK f h:=by simp [smK,hk]
   cases hkn:smK f h
   ·rw [hkn] at h3
    refine (sums1_a cols w1 W hb lo uv f hV v p (smN f h) false bs bn hq a hwa hfp hv h1 h2 h3).mono ?_
    rintro e w' ⟨rfl,k1,k2,k3,k4⟩
    exact ⟨by simp only [tSum,eK,hkn]; rfl,⟨k1,by rw [eN]; exact k2,by rw [eK,hkn]; exact k3⟩,k4⟩
   ·rw [hkn] at h3
    refine (sums1_b cols w1 W hb lo uv f hV v p (smN f h) false bs bn hq a hwa hfp hv h1 h2 h3).mono ?_
    rintro e w' ⟨rfl,k1,k2,k3,k4⟩
    exact ⟨by simp only [tSum,eK,hkn,eN]; rfl,⟨k1,by rw [eN]; exact k2,by rw [eK,hkn]; exact k3⟩,k4⟩
  ·have hq:((f p.2.2).1 != 1)=true:=by simpa using hk
   have eN:smN f (p :: h)=smN f h+(f p.2.2).2.1:=by simp [smN,hk]
   have eK:smK f (p :: h)=true:=by simp [smK,hk]
   refine (sums1_c cols w1 W hb lo uv f hV v p (smN f h) (smK f h) bs bn hq a hwa hfp hv h1 h2 h3).mono ?_
   rintro e w' ⟨rfl,k1,k2,k3,k4⟩
   exact ⟨by simp only [tSum,eK,eN]; rfl,⟨k1,by rw [eN]; exact k2,by rw [eK]; exact k3⟩,k4⟩

set_option maxRecDepth 100000 in
set_option maxHeartbeats 1000000 in
theorem lags_at (cols:List Int) (w1 W:World) (hb:Below w1.heap.size w1 W) (lo:Nat) (uv:Value) (f:List Vl→Vl) (hV:Asks cols lo uv f w1):Calls Tryz.prog 98 #[uv] W fun e W'=>∃ g' cb' a b I,e = .returned (.func (.func g') #[] cb')∧W.heap.size≤a∧Tl cols w1 (fun h p=>agV (tLag f h p)) g' cb' a b I∧I [] W'∧Below W.heap.size W W':=by
 have HV:Hid (Asks cols lo uv f w1):=hV
 obtain ⟨gv,cv,rfl,_,_⟩:=hV
 have hA:Below W.heap.size W (W.alloc (.cells #[.func (.func gv) #[] cv] 99)):=(Below.refl _ _).alloc (Nat.le_refl _) _
 have P:=Bk.new W #[.func (.func gv) #[] cv] 99
 go_enter Tryz.func98,Tryz.ntmps98
 go_wp2_with fail
 generalize W.alloc (.cells #[.func (.func gv) #[] cv] 99)=Wa at *
 refine (null_any _).mono ?_
 rintro e w2 ⟨rfl,hb2⟩
 have P:=P.next hb2
 have lp:=P.lt
 have hB:=chain hA hb2
 have hN:=(Below.refl w2.heap.size w2).alloc (Nat.le_refl _) (.cells #[.int .i64 1,.int .i64 0,.string ⟨#[]⟩] 38)
 have R:=Bk.new w2 #[.int .i64 1,.int .i64 0,.string ⟨#[]⟩] 38
 have P:=P.next hN
 have hB:=chain hB hN
 go_wp2_with fail
 generalize w2.alloc (.cells #[.int .i64 1,.int .i64 0,.string ⟨#[]⟩] 38)=w3 at *
 go_ret
 exact ⟨_,_,_,_,_,rfl,Nat.le_refl _,lags_tl cols w1 lo _ f HV.out W.heap.size w2.heap.size lp hb.size,⟨P,R⟩,hB⟩
set_option maxRecDepth 100000 in
set_option maxHeartbeats 1000000 in
theorem sums_at (cols:List Int) (w1 W:World) (hb:Below w1.heap.size w1 W) (lo:Nat) (uv:Value) (f:List Vl→Vl) (hV:Asks cols lo uv f w1) (hf:∀ row,FitP cols row→wrongP (f row)=0∧NumB (f row)):Calls Tryz.prog 100 #[uv] W fun e W'=>∃ g' cb' a b I,e = .returned (.func (.func g') #[] cb')∧W.heap.size≤a∧Tl cols w1 (fun h p=>agV (tSum f h p)) g' cb' a b I∧I [] W'∧Below W.heap.size W W':=by
 have HV:Hid (Asks cols lo uv f w1):=hV
 have HF:Hid (∀ row,FitP cols row→wrongP (f row)=0∧NumB (f row)):=hf
 obtain ⟨gv,cv,rfl,_,_⟩:=hV
 clear hf
 have hA:Below W.heap.size W (W.alloc (.cells #[.func (.func gv) #[] cv] 99)):=(Below.refl _ _).alloc (Nat.le_refl _) _
 have P:=Bk.new W #[.func (.func gv) #[] cv] 99
 have hz:(W.alloc (.cells #[.func (.func gv) #[] cv] 99)).heap.size=W.heap.size+1:=by simp
 go_enter Tryz.func100,Tryz.ntmps100
 go_upto_region 3 with fail
 generalize W.alloc (.cells #[.func (.func gv) #[] cv] 99)=Wa at *
 have hN:=(Below.refl Wa.heap.size Wa).alloc (Nat.le_refl _) (.cells #[.int .i64 0] 2)
 have R:=Bk.new Wa #[.int .i64 0] 2
 have hz2:(Wa.alloc (.cells #[.int .i64 0] 2)).heap.size=W.heap.size+2:=by simp [hz]
 have P:=P.next hN
 have hB:=chain hA hN
 rw [hz] at R
 generalize Wa.alloc (.cells #[.int .i64 0] 2)=Wb at *
 have hN:=(Below.refl Wb.heap.size Wb).alloc (Nat.le_refl _) (.cells #[.bool false] 4)
 have S:=Bk.new Wb #[.bool false] 4
 rw [hz2] at S
 have P:=P.next hN
 have R:=R.next hN
 have hB:=chain hB hN
 generalize Wb.alloc (.cells #[.bool false] 4)=Wc at *
 go_wp2_with fail
 go_ret
 exact ⟨_,_,_,_,_,rfl,Nat.le_refl _,sums_tl cols w1 lo _ f HV.out HF.out W.heap.size hb.size,⟨P,R,S⟩,hB⟩
set_option maxRecDepth 100000 in
set_option maxHeartbeats 1000000 in
theorem lags_begs (cols:List Int) (lo:Nat) (uv:Value) (f:List Vl→Vl) (w:World) (vb:Nat) (hV:Asks cols lo uv f w) (h1:Bk w vb #[uv] 99) (hl:lo≤vb):Begs cols lo (.func (.func 97) #[] #[.pointer (some ⟨vb,0,none⟩)]) (fun h p=>agV (tLag f h p)) w:=by
 refine ⟨97,_,rfl,enters_of Tryz.func97 (by kernel_rfl) rfl,fun w1 W hs hb=>?_⟩
 have b1:Bk W vb #[uv] 99:=(h1.same (hs.2 vb hl h1.lt)).next hb
 have con:=lags_at cols w1 W hb lo uv f (hV.next hs)
 obtain ⟨gv,cv,rfl,_,_⟩:=hV
 have c1:=b1.cell 0 rfl
 clear h1 b1
 go_enter Tryz.func97,Tryz.ntmps97
 go_wp2_with fail
 refine con.mono ?_
 rintro e w2 ⟨g',cb',a,b,I,rfl,k1,k2,k3,k4⟩
 clear con c1
 go_wp2_with fail
 go_ret
 exact ⟨_,_,_,_,_,rfl,k1,k2,k3,k4⟩
set_option maxRecDepth 100000 in
set_option maxHeartbeats 1000000 in
theorem sums_begs (cols:List Int) (lo:Nat) (uv:Value) (f:List Vl→Vl) (w:World) (vb:Nat) (hV:Asks cols lo uv f w) (h1:Bk w vb #[uv] 99) (hl:lo≤vb) (hf:∀ row,FitP cols row→wrongP (f row)=0∧NumB (f row)):Begs cols lo (.func (.func 99) #[] #[.pointer (some ⟨vb,0,none⟩)]) (fun h p=>agV (tSum f h p)) w:=by
 refine ⟨99,_,rfl,enters_of Tryz.func99 (by kernel_rfl) rfl,fun w1 W hs hb=>?_⟩
 have b1:Bk W vb #[uv] 99:=(h1.same (hs.2 vb hl h1.lt)).next hb
 have con:=sums_at cols w1 W hb lo uv f (hV.next hs) hf
 obtain ⟨gv,cv,rfl,_,_⟩:=hV
 have c1:=b1.cell 0 rfl
 clear h1 b1
 go_enter Tryz.func99,Tryz.ntmps99
 go_wp2_with fail
 refine con.mono ?_
 rintro e w2 ⟨g',cb',a,b,I,rfl,k1,k2,k3,k4⟩
 clear con c1
 go_wp2_with fail
 go_ret
 exact ⟨_,_,_,_,_,rfl,k1,k2,k3,k4⟩
end Go.Proofs.YtcnmpiahcnkndaaGreat
/- tellerOf. -/
namespace Go.Proofs.YtcnmpiahcnkndaaGreat
open Go.RowKit

/-- What is wrong with a win. -/
def winE (cols:List Int) (g:Ag):Int:=if g.1=1∨g.1=2∨g.1=3 then 0 else if g.1<1∨5<g.1 then 1 else if (typeTop cols g.2).2≠0 then (typeTop cols g.2).2 else if g.1=4∧(typeTop cols g.2).1≠3∧(typeTop cols g.2).1≠1 then 9 else 0
/-- What a win tells. -/
def winT (g:Ag):List Lp→Lp→Vl:=if g.1=1 then tRow else if g.1=2 then tRank else if g.1=3 then tDense else if g.1=4 then tSum (fun row=>valX row g.2) else tLag (fun row=>valX row g.2)
def winsE (cols:List Int):List Ag→Int
 | []=>0
 | g :: r=>if winE cols g=0 then winsE cols r else winE cols g
theorem winsE_next (cols:List Int) (gs:List Ag) (j:Nat) (h:j<gs.length) (h0:winE cols gs[j]=0):winsE cols (gs.drop j)=winsE cols (gs.drop (j+1)):=by
 rw [List.drop_eq_getElem_cons h,winsE,if_pos h0]
theorem winsE_bad (cols:List Int) (gs:List Ag) (j:Nat) (h:j<gs.length) (h0:¬ winE cols gs[j]=0):winsE cols (gs.drop j)=winE cols gs[j]:=by
 rw [List.drop_eq_getElem_cons h,winsE,if_neg h0]
theorem winsE_ok (cols:List Int):∀ gs:List Ag,winsE cols gs=0↔∀ g ∈ gs,winE cols g=0
 | []=>by simp [winsE]
 | g :: r=>by
  have ih:=winsE_ok cols r
  rw [winsE]
  by_cases h:winE cols g=0
  ·rw [if_pos h,ih]
   simp [h]
  ·rw [if_neg h]
   simp [h]
theorem valX_right {cols:List Int} {x:Ex} (h:(typeTop cols x).2=0):∀ row,FitP cols row→wrongP (valX row x)=0∧NumB (valX row x):=fun row hf=>⟨(valX_of hf x _ (typ_of h)).1,numB_valX row x⟩

set_option maxRecDepth 100000 in
set_option maxHeartbeats 1000000 in
theorem tellerOf_1 (cols:List Int) (x:Ex) (ca:Option Addr) (ccap:Nat) (a:Option Addr) (cap:Nat) (w:World) :
  Calls Tryz.prog 53 #[.slice ca cols.length ccap,.agg #[.int .i64 1,.int .i64 x.k,.int .i64 x.v.1,.int .i64 x.v.2.1,.string x.v.2.2,.int .i64 x.c,.slice a x.ks.length cap]] w fun e w'=>∃ u,e = .returned (.tuple #[u,.int .i64 0])∧Begs cols w.heap.size u (fun h p=>agV (winT (1,x) h p)) w'∧Below w.heap.size w w':=by
 have hal:Below w.heap.size w (w.alloc (.cells #[.int .i64 1,.int .i64 x.k,.int .i64 x.v.1,.int .i64 x.v.2.1,.string x.v.2.2,.int .i64 x.c,.slice a x.ks.length cap] 42)):=(Below.refl _ _).alloc (Nat.le_refl _) _
 have HF:Hid (winT (1,x)=tRow):=rfl
 generalize winT (1,x)=F at *
 go_enter Tryz.func53,Tryz.ntmps53
 go_wp2_with fail
 exact bodyPost_ret (v:=.tuple #[.func (.func 94) #[] #[],.int .i64 0]) (by simp [results,Tryz.results53,go_sem]) rfl ⟨_,rfl,by rw [HF.out]; exact numbers_begs _ _ _,hal⟩
set_option maxRecDepth 100000 in
set_option maxHeartbeats 1000000 in
theorem tellerOf_2 (cols:List Int) (x:Ex) (ca:Option Addr) (ccap:Nat) (a:Option Addr) (cap:Nat) (w:World) :
  Calls Tryz.prog 53 #[.slice ca cols.length ccap,.agg #[.int .i64 2,.int .i64 x.k,.int .i64 x.v.1,.int .i64 x.v.2.1,.string x.v.2.2,.int .i64 x.c,.slice a x.ks.length cap]] w fun e w'=>∃ u,e = .returned (.tuple #[u,.int .i64 0])∧Begs cols w.heap.size u (fun h p=>agV (winT (2,x) h p)) w'∧Below w.heap.size w w':=by
 have hal:Below w.heap.size w (w.alloc (.cells #[.int .i64 2,.int .i64 x.k,.int .i64 x.v.1,.int .i64 x.v.2.1,.string x.v.2.2,.int .i64 x.c,.slice a x.ks.length cap] 42)):=(Below.refl _ _).alloc (Nat.le_refl _) _
 have HF:Hid (winT (2,x)=tRank):=rfl
 generalize winT (2,x)=F at *
 go_enter Tryz.func53,Tryz.ntmps53
 go_wp2_with fail
 exact bodyPost_ret (v:=.tuple #[.func (.func 95) #[] #[],.int .i64 0]) (by simp [results,Tryz.results53,go_sem]) rfl ⟨_,rfl,by rw [HF.out]; exact ranks_begs _ _ _,hal⟩
set_option maxRecDepth 100000 in
set_option maxHeartbeats 1000000 in
theorem tellerOf_3 (cols:List Int) (x:Ex) (ca:Option Addr) (ccap:Nat) (a:Option Addr) (cap:Nat) (w:World) :
  Calls Tryz.prog 53 #[.slice ca cols.length ccap,.agg #[.int .i64 3,.int .i64 x.k,.int .i64 x.v.1,.int .i64 x.v.2.1,.string x.v.2.2,.int .i64 x.c,.slice a x.ks.length cap]] w fun e w'=>∃ u,e = .returned (.tuple #[u,.int .i64 0])∧Begs cols w.heap.size u (fun h p=>agV (winT (3,x) h p)) w'∧Below w.heap.size w w':=by
 have hal:Below w.heap.size w (w.alloc (.cells #[.int .i64 3,.int .i64 x.k,.int .i64 x.v.1,.int .i64 x.v.2.1,.string x.v.2.2,.int .i64 x.c,.slice a x.ks.length cap] 42)):=(Below.refl _ _).alloc (Nat.le_refl _) _
 have HF:Hid (winT (3,x)=tDense):=rfl
 generalize winT (3,x)=F at *
 go_enter Tryz.func53,Tryz.ntmps53
 go_wp2_with fail
 exact bodyPost_ret (v:=.tuple #[.func (.func 96) #[] #[],.int .i64 0]) (by simp [results,Tryz.results53,go_sem]) rfl ⟨_,rfl,by rw [HF.out]; exact dense_begs _ _ _,hal⟩
set_option maxRecDepth 100000 in
set_option maxHeartbeats 1000000 in
theorem tellerOf_4 (cols:List Int) (x:Ex) (ca:Option Addr) (ccap:Nat) (a:Option Addr) (cap:Nat) (w:World) (hk:KsAt w.heap.size w a x.ks) (hc:IsAt w.heap.size w ca cols) (h3:(typeTop cols x).2=0) (ht:(typeTop cols x).1=3∨(typeTop cols x).1=1) :
  Calls Tryz.prog 53 #[.slice ca cols.length ccap,.agg #[.int .i64 4,.int .i64 x.k,.int .i64 x.v.1,.int .i64 x.v.2.1,.string x.v.2.2,.int .i64 x.c,.slice a x.ks.length cap]] w fun e w'=>∃ u,e = .returned (.tuple #[u,.int .i64 0])∧Begs cols w.heap.size u (fun h p=>agV (winT (4,x) h p)) w'∧Below w.heap.size w w':=by
 have hal:Below w.heap.size w (w.alloc (.cells #[.int .i64 4,.int .i64 x.k,.int .i64 x.v.1,.int .i64 x.v.2.1,.string x.v.2.2,.int .i64 x.c,.slice a x.ks.length cap] 42)):=(Below.refl _ _).alloc (Nat.le_refl _) _
 have q0:=Bk.new w #[.int .i64 4,.int .i64 x.k,.int .i64 x.v.1,.int .i64 x.v.2.1,.string x.v.2.2,.int .i64 x.c,.slice a x.ks.length cap] 42
 have HF:Hid (winT (4,x)=tSum (fun row=>valX row x)):=rfl
 have HR:Hid (∀ row,FitP cols row→wrongP (valX row x)=0∧NumB (valX row x)):=valX_right h3
 have con:=readyOk_at cols x ca ccap a cap _ ((KsAt.next hal (Nat.le_refl _) hk).up hal.size) ((hc.next hal (Nat.le_refl _)).up hal.size) h3
 generalize winT (4,x)=F at *
 clear h3
 generalize (typeTop cols x).1=t at *
 unfold exV at con
 rcases ht with rfl | rfl
 all_goals (
  go_enter Tryz.func53,Tryz.ntmps53
  go_wp2_with fail
  generalize w.alloc (.cells #[.int .i64 4,.int .i64 x.k,.int .i64 x.v.1,.int .i64 x.v.2.1,.string x.v.2.2,.int .i64 x.c,.slice a x.ks.length cap] 42)=w1 at *
  refine con.mono ?_
  rintro e w2 ⟨u,rfl,hA2,hb2⟩
  clear con
  have hA:=chain hal hb2
  have hl:=hA.size
  have q2:=q0.next hb2
  have hA2:=hA2.down hal.size
  obtain ⟨g',cb,rfl⟩:∃ g' cb,u = .func (.func g') #[] cb:=by obtain ⟨g',cb,e,_⟩:=hA2; exact ⟨g',cb,e⟩
  have hN:=(Below.refl w2.heap.size w2).alloc (Nat.le_refl _) (.cells #[.func (.func g') #[] cb] 99)
  have V:=Bk.new w2 #[.func (.func g') #[] cb] 99
  have q2:=q2.next hN
  have c0:=q2.cell 0 rfl
  have hA:=chain hA hN
  have hA2:=hA2.next (Since.of hN)
  dsimp only
  go_wp2_with fail
  clear c0
  generalize w2.alloc (.cells #[.func (.func g') #[] cb] 99)=w3 at *
  exact bodyPost_ret (v:=.tuple #[.func (.func 99) #[] #[.pointer (some ⟨w2.heap.size,0,none⟩)],.int .i64 0]) (by simp [results,Tryz.results53,go_sem]) rfl ⟨_,rfl,by rw [HF.out]; exact sums_begs cols w.heap.size _ (fun row=>valX row x) w3 w2.heap.size hA2 V hl HR.out,hA⟩)
set_option maxRecDepth 100000 in
set_option maxHeartbeats 1000000 in
theorem tellerOf_5 (cols:List Int) (x:Ex) (ca:Option Addr) (ccap:Nat) (a:Option Addr) (cap:Nat) (w:World) (hk:KsAt w.heap.size w a x.ks) (hc:IsAt w.heap.size w ca cols) (h3:(typeTop cols x).2=0) :
  Calls Tryz.prog 53 #[.slice ca cols.length ccap,.agg #[.int .i64 5,.int .i64 x.k,.int .i64 x.v.1,.int .i64 x.v.2.1,.string x.v.2.2,.int .i64 x.c,.slice a x.ks.length cap]] w fun e w'=>∃ u,e = .returned (.tuple #[u,.int .i64 0])∧Begs cols w.heap.size u (fun h p=>agV (winT (5,x) h p)) w'∧Below w.heap.size w w':=by
 have hal:Below w.heap.size w (w.alloc (.cells #[.int .i64 5,.int .i64 x.k,.int .i64 x.v.1,.int .i64 x.v.2.1,.string x.v.2.2,.int .i64 x.c,.slice a x.ks.length cap] 42)):=(Below.refl _ _).alloc (Nat.le_refl _) _
 have q0:=Bk.new w #[.int .i64 5,.int .i64 x.k,.int .i64 x.v.1,.int .i64 x.v.2.1,.string x.v.2.2,.int .i64 x.c,.slice a x.ks.length cap] 42
 have HF:Hid (winT (5,x)=tLag (fun row=>valX row x)):=rfl
 have HR:Hid (∀ row,FitP cols row→wrongP (valX row x)=0∧NumB (valX row x)):=valX_right h3
 have con:=readyOk_at cols x ca ccap a cap _ ((KsAt.next hal (Nat.le_refl _) hk).up hal.size) ((hc.next hal (Nat.le_refl _)).up hal.size) h3
 generalize winT (5,x)=F at *
 clear h3
 generalize (typeTop cols x).1=t at *
 unfold exV at con
 all_goals (
  go_enter Tryz.func53,Tryz.ntmps53
  go_wp2_with fail
  generalize w.alloc (.cells #[.int .i64 5,.int .i64 x.k,.int .i64 x.v.1,.int .i64 x.v.2.1,.string x.v.2.2,.int .i64 x.c,.slice a x.ks.length cap] 42)=w1 at *
  refine con.mono ?_
  rintro e w2 ⟨u,rfl,hA2,hb2⟩
  clear con
  have hA:=chain hal hb2
  have hl:=hA.size
  have q2:=q0.next hb2
  have hA2:=hA2.down hal.size
  obtain ⟨g',cb,rfl⟩:∃ g' cb,u = .func (.func g') #[] cb:=by obtain ⟨g',cb,e,_⟩:=hA2; exact ⟨g',cb,e⟩
  have hN:=(Below.refl w2.heap.size w2).alloc (Nat.le_refl _) (.cells #[.func (.func g') #[] cb] 99)
  have V:=Bk.new w2 #[.func (.func g') #[] cb] 99
  have q2:=q2.next hN
  have c0:=q2.cell 0 rfl
  have hA:=chain hA hN
  have hA2:=hA2.next (Since.of hN)
  dsimp only
  go_wp2_with fail
  clear c0
  generalize w2.alloc (.cells #[.func (.func g') #[] cb] 99)=w3 at *
  exact bodyPost_ret (v:=.tuple #[.func (.func 97) #[] #[.pointer (some ⟨w2.heap.size,0,none⟩)],.int .i64 0]) (by simp [results,Tryz.results53,go_sem]) rfl ⟨_,rfl,by rw [HF.out]; exact lags_begs cols w.heap.size _ (fun row=>valX row x) w3 w2.heap.size hA2 V hl,hA⟩)
set_option maxRecDepth 100000 in
set_option maxHeartbeats 2000000 in
theorem tellerBad_at (cols:List Int) (kd:Int) (x:Ex) (ca:Option Addr) (ccap:Nat) (a:Option Addr) (cap:Nat) (w:World) (hk:KsAt w.heap.size w a x.ks) (hc:IsAt w.heap.size w ca cols) (h:¬ winE cols (kd,x)=0) :
  Calls Tryz.prog 53 #[.slice ca cols.length ccap,.agg #[.int .i64 kd,.int .i64 x.k,.int .i64 x.v.1,.int .i64 x.v.2.1,.string x.v.2.2,.int .i64 x.c,.slice a x.ks.length cap]] w fun e w'=>e = .returned (.tuple #[.nilFunc,.int .i64 (winE cols (kd,x))])∧Below w.heap.size w w':=by
 have hal:Below w.heap.size w (w.alloc (.cells #[.int .i64 kd,.int .i64 x.k,.int .i64 x.v.1,.int .i64 x.v.2.1,.string x.v.2.2,.int .i64 x.c,.slice a x.ks.length cap] 42)):=(Below.refl _ _).alloc (Nat.le_refl _) _
 have q0:=Bk.new w #[.int .i64 kd,.int .i64 x.k,.int .i64 x.v.1,.int .i64 x.v.2.1,.string x.v.2.2,.int .i64 x.c,.slice a x.ks.length cap] 42
 have h1:¬ (kd=1∨kd=2∨kd=3):=fun h1=>h (by unfold winE; rw [if_pos h1])
 generalize hme:winE cols (kd,x)=me at *
 have HM:Hid (winE cols (kd,x)=me):=hme
 clear hme
 by_cases h2:kd<1∨5<kd
 ·have e:me=1:=by rw [← HM.out]; unfold winE; rw [if_neg h1,if_pos h2]
  subst e
  have n1:(kd == 1)=false:=by simp; omega
  have n2:(kd == 2)=false:=by simp; omega
  have n3:(kd == 3)=false:=by simp; omega
  have n4:(kd == 4)=false:=by simp; omega
  have n5:(kd == 5)=false:=by simp; omega
  clear h h1 h2
  go_enter Tryz.func53,Tryz.ntmps53
  go_wp2_with fail
  exact bodyPost_ret (v:=.tuple #[.nilFunc,.int .i64 1]) (by simp [results,Tryz.results53,go_sem]) rfl ⟨rfl,hal⟩
 ·have hk4:kd=4∨kd=5:=by omega
  by_cases h3:(typeTop cols x).2=0
  ·have e3:kd=4∧(typeTop cols x).1≠3∧(typeTop cols x).1≠1:=Classical.byContradiction fun hn=>by
    have:=HM.out
    unfold winE at this
    rw [if_neg h1,if_neg h2,if_neg (by simpa using h3),if_neg hn] at this
    exact h this.symm
   have e9:me=9:=by rw [← HM.out]; unfold winE; rw [if_neg h1,if_neg h2,if_neg (by simpa using h3),if_pos e3]
   subst e9
   have con:=readyOk_at cols x ca ccap a cap _ ((KsAt.next hal (Nat.le_refl _) hk).up hal.size) ((hc.next hal (Nat.le_refl _)).up hal.size) h3
   obtain ⟨rfl,e32,e33⟩:=e3
   clear h h1 h2 h3 hk4 HM
   generalize (typeTop cols x).1=t at *
   have t3:(t != 3)=true:=by simpa using e32
   have t1:(t != 1)=true:=by simpa using e33
   clear e32 e33
   unfold exV at con
   go_enter Tryz.func53,Tryz.ntmps53
   go_wp2_with fail
   generalize w.alloc (.cells #[.int .i64 4,.int .i64 x.k,.int .i64 x.v.1,.int .i64 x.v.2.1,.string x.v.2.2,.int .i64 x.c,.slice a x.ks.length cap] 42)=w1 at *
   refine con.mono ?_
   rintro e w2 ⟨u,rfl,hA2,hb2⟩
   clear con
   have hA:=chain hal hb2
   have q2:=q0.next hb2
   obtain ⟨g',cb,rfl⟩:∃ g' cb,u = .func (.func g') #[] cb:=by obtain ⟨g',cb,e,_⟩:=hA2; exact ⟨g',cb,e⟩
   have hN:=(Below.refl w2.heap.size w2).alloc (Nat.le_refl _) (.cells #[.func (.func g') #[] cb] 99)
   have q2:=q2.next hN
   have c0:=q2.cell 0 rfl
   have hA:=chain hA hN
   dsimp only
   go_wp2_with fail
   exact bodyPost_ret (v:=.tuple #[.nilFunc,.int .i64 9]) (by simp [results,Tryz.results53,go_sem]) rfl ⟨rfl,hA⟩
  ·have con:=readyBad_at cols x ca ccap a cap _ ((KsAt.next hal (Nat.le_refl _) hk).up hal.size) ((hc.next hal (Nat.le_refl _)).up hal.size) h3
   have em:me=(typeTop cols x).2:=by rw [← HM.out]; unfold winE; rw [if_neg h1,if_neg h2,if_pos h3]
   have hne:(me != 0)=true:=by simpa using h
   rw [← em] at con
   unfold exV at con
   clear h h1 h2 h3 em HM
   rcases hk4 with rfl | rfl
   all_goals (
    go_enter Tryz.func53,Tryz.ntmps53
    go_wp2_with fail
    generalize w.alloc (.cells #[_,.int .i64 x.k,.int .i64 x.v.1,.int .i64 x.v.2.1,.string x.v.2.2,.int .i64 x.c,.slice a x.ks.length cap] 42)=w1 at *
    refine con.mono ?_
    rintro e w2 ⟨rfl,hb2⟩
    have hA:=chain hal hb2
    have hN:=(Below.refl w2.heap.size w2).alloc (Nat.le_refl _) (.cells #[.nilFunc] 99)
    have hA:=chain hA hN
    clear con
    dsimp only
    go_wp2_with fail
    exact bodyPost_ret (v:=.tuple #[.nilFunc,.int .i64 me]) (by simp [results,Tryz.results53,go_sem]) rfl ⟨rfl,hA⟩)
theorem tellerOk_at (cols:List Int) (kd:Int) (x:Ex) (ca:Option Addr) (ccap:Nat) (a:Option Addr) (cap:Nat) (w:World) (hk:KsAt w.heap.size w a x.ks) (hc:IsAt w.heap.size w ca cols) (h:winE cols (kd,x)=0) :
  Calls Tryz.prog 53 #[.slice ca cols.length ccap,.agg #[.int .i64 kd,.int .i64 x.k,.int .i64 x.v.1,.int .i64 x.v.2.1,.string x.v.2.2,.int .i64 x.c,.slice a x.ks.length cap]] w fun e w'=>∃ u,e = .returned (.tuple #[u,.int .i64 0])∧Begs cols w.heap.size u (fun h p=>agV (winT (kd,x) h p)) w'∧Below w.heap.size w w':=by
 by_cases h1:kd=1∨kd=2∨kd=3
 ·rcases h1 with rfl | rfl | rfl
  ·exact tellerOf_1 cols x ca ccap a cap w
  ·exact tellerOf_2 cols x ca ccap a cap w
  ·exact tellerOf_3 cols x ca ccap a cap w
 ·have h2:¬ (kd<1∨5<kd):=fun h2=>by unfold winE at h; rw [if_neg h1,if_pos h2] at h; cases h
  have h3:(typeTop cols x).2=0:=Classical.byContradiction fun h3=>by unfold winE at h; rw [if_neg h1,if_neg h2,if_pos h3] at h; exact h3 h
  have hk4:kd=4∨kd=5:=by omega
  rcases hk4 with rfl | rfl
  ·refine tellerOf_4 cols x ca ccap a cap w hk hc h3 ?_
   unfold winE at h
   rw [if_neg h1,if_neg h2,if_neg (by simpa using h3)] at h
   by_cases h5:(typeTop cols x).1=3
   ·exact .inl h5
   ·by_cases h6:(typeTop cols x).1=1
    ·exact .inr h6
    ·rw [if_pos ⟨rfl,h5,h6⟩] at h; cases h
  ·exact tellerOf_5 cols x ca ccap a cap w hk hc h3
end Go.Proofs.YtcnmpiahcnkndaaGreat
/- Tellers side by side: what is told of a row. -/
namespace Go.Proofs.YtcnmpiahcnkndaaGreat
open Go.RowKit Go.Lib Go.Shelf

def ag0:Ag:=(0,.mk 0 vl0 0 [])
/-- Tellers in the cells of a block K; each keeps blocks of its own between M and hi. -/
structure TsK (cols:List Int) (w1 W:World) (K M hi n:Nat) (Fs:Nat→List Lp→Lp→Vl) (H:Nat→List Lp) (g:Nat→Nat) (cb:Nat→Array Value) (a b:Nat→Nat) (I:Nat→List Lp→World→Prop):Prop where
 kk:K<M∧hi≤W.heap.size∧K<W.heap.size
 cell:∀ i,i<n→W.cell? ⟨K,i,none⟩=some (.func (.func (g i)) #[] (cb i))
 tl:∀ i,i<n→Tl cols w1 (fun h p=>agV (Fs i h p)) (g i) (cb i) (a i) (b i) (I i)
 inv:∀ i,i<n→I i (H i) W
 lo:∀ i,i<n→M≤a i∧b i≤hi
 apart:∀ i j,i<j→j<n→b i≤a j
theorem TsK.same {cols:List Int} {w1 W W':World} {K M hi n:Nat} {Fs:Nat→List Lp→Lp→Vl} {H:Nat→List Lp} {g:Nat→Nat} {cb:Nat→Array Value} {a b:Nat→Nat} {I:Nat→List Lp→World→Prop} (t:TsK cols w1 W K M hi n Fs H g cb a b I) (hz:W.heap.size≤W'.heap.size) (hs:∀ k,((M≤k∧k<hi)∨k=K)→W'.heap[k]? = W.heap[k]?):TsK cols w1 W' K M hi n Fs H g cb a b I where
 kk:=⟨t.kk.1,by have:=t.kk.2.1; omega,by have:=t.kk.2.2; omega⟩
 cell:=fun i h=>(World.cell?_of_block (w:=W) (a:=⟨K,i,none⟩) (hs K (.inr rfl))).trans (t.cell i h)
 tl:=t.tl
 inv:=fun i h=>(t.tl i h).next _ _ _ (t.inv i h) hz fun k k1 k2=>hs k (.inl (by have:=t.lo i h; omega))
 lo:=t.lo
 apart:=t.apart
theorem TsK.next {cols:List Int} {w1 W W':World} {K M hi n:Nat} {Fs:Nat→List Lp→Lp→Vl} {H:Nat→List Lp} {g:Nat→Nat} {cb:Nat→Array Value} {a b:Nat→Nat} {I:Nat→List Lp→World→Prop} (t:TsK cols w1 W K M hi n Fs H g cb a b I) (hb:Below W.heap.size W W'):TsK cols w1 W' K M hi n Fs H g cb a b I :=
 t.same hb.size fun k hk=>hb.block k (by have:=t.kk; omega)
/-- One of them is asked. -/
theorem TsK.step {cols:List Int} {w1 W W':World} {K M hi n:Nat} {Fs:Nat→List Lp→Lp→Vl} {h:List Lp} {p:Lp} {k:Nat} {g:Nat→Nat} {cb:Nat→Array Value} {a b:Nat→Nat} {I:Nat→List Lp→World→Prop} (t:TsK cols w1 W K M hi n Fs (fun i=>if i<k then p :: h else h) g cb a b I) (hk:k<n) (hi':I k (p :: h) W') (hb:KeepO (a k) (b k) W W'):TsK cols w1 W' K M hi n Fs (fun i=>if i<k+1 then p :: h else h) g cb a b I where
 kk:=⟨t.kk.1,by have:=t.kk.2.1; have:=hb.size; omega,by have:=t.kk.2.2; have:=hb.size; omega⟩
 cell:=fun i h=>(World.cell?_of_block (w:=W) (a:=⟨K,i,none⟩) (hb.block K t.kk.2.2 (.inl (by have:=t.kk.1; have:=(t.lo k hk).1; omega)))).trans (t.cell i h)
 tl:=t.tl
 inv:=fun i h=>by
  by_cases e:i=k
  ·subst e
   rw [if_pos (by omega)]; exact hi'
  ·have h1:=t.inv i h
   have e1:(if i<k+1 then p :: ‹List Lp› else ‹List Lp›)=if i<k then p :: ‹List Lp› else ‹List Lp›:=by
    by_cases c:i<k
    ·rw [if_pos c,if_pos (by omega)]
    ·rw [if_neg c,if_neg (by omega)]
   rw [e1]
   refine (t.tl i h).apart h1 hb ?_
   rcases Nat.lt_or_ge i k with c | c
   ·exact .inl (t.apart i k c hk)
   ·exact .inr (t.apart k i (by omega) h)
 lo:=t.lo
 apart:=t.apart
theorem VTo.same {W W':World} {B n:Nat} {f:Nat→Vl} {k:Nat} (h:VTo W B n f k) (hs:W'.heap[B]? = W.heap[B]?):VTo W' B n f k:=by
 obtain ⟨xs,⟨l,hh⟩,h2⟩:=h
 refine ⟨xs,⟨l,?_⟩,h2⟩
 rcases hh with ⟨hh,_⟩ | ⟨g,cap,cur,e,h1,hc,r⟩
 ·cases hh
 ·refine .inr ⟨g,cap,cur,e,h1,?_,r⟩
  have e2:B=g:=by injection e with e; injection e with e; injection e
  subst e2
  exact hs.trans hc

set_option maxRecDepth 100000 in
set_option maxHeartbeats 2000000 in
theorem tell1_at (cols:List Int) (w1 W:World) (hb:Below w1.heap.size w1 W) (gs:List Ag) (h8:gs.length≤8) (h:List Lp) (hn:h.length<1000) (hfh:∀ q ∈ h,FitP cols q.2.2) (v:Value) (p:Lp) (hfp:FitP cols p.2.2) (hv:PlaceV w1 v p) (tv K M hi:Nat)
  (htv:Bk W tv #[.slice (some ⟨K,0,none⟩) gs.length gs.length] 107) (htM:tv<M) (hwM:w1.heap.size≤M) (g:Nat→Nat) (cb:Nat→Array Value) (a b:Nat→Nat) (I:Nat→List Lp→World→Prop) (t:TsK cols w1 W K M hi gs.length (fun i=>winT (gs.getD i ag0)) (fun _=>h) g cb a b I) :
  Calls Tryz.prog 55 #[v,.pointer (some ⟨tv,0,none⟩)] W fun e W'=>∃ B,e = .returned (.slice (some ⟨B,0,none⟩) gs.length gs.length)∧W.heap.size≤B∧SlAt W' (some ⟨B,0,none⟩) (gs.map fun g=>winT g h p)∧Bk W' tv #[.slice (some ⟨K,0,none⟩) gs.length gs.length] 107∧TsK cols w1 W' K M hi gs.length (fun i=>winT (gs.getD i ag0)) (fun _=>p :: h) g cb a b I∧KeepO M hi W W':=by
 obtain ⟨i0,hinf,hz0,hz1,hz2⟩:=info_parts Tryz.info49
 obtain ⟨pa,pc,oa,oc,ra,rc,rfl,sp,so,sr⟩:=hv
 have hpv:PlaceV w1 (.agg #[.slice pa p.1.length pc,.slice oa p.2.1.length oc,.slice ra p.2.2.length rc]) p:=⟨pa,pc,oa,oc,ra,rc,rfl,sp,so,sr⟩
 have HPV:Hid (PlaceV w1 (.agg #[.slice pa p.1.length pc,.slice oa p.2.1.length oc,.slice ra p.2.2.length rc]) p):=hpv
 have hhi:=t.kk.2.1
 have hKM:=t.kk.1
 have hKz:=t.kk.2.2
 have hA:Below W.heap.size W (W.alloc (.cells #[.slice pa p.1.length pc,.slice oa p.2.1.length oc,.slice ra p.2.2.length rc] 66)):=(Below.refl _ _).alloc (Nat.le_refl _) _
 have P:=Bk.new W #[.slice pa p.1.length pc,.slice oa p.2.1.length oc,.slice ra p.2.2.length rc] 66
 have hz:(W.alloc (.cells #[.slice pa p.1.length pc,.slice oa p.2.1.length oc,.slice ra p.2.2.length rc] 66)).heap.size=W.heap.size+1:=by simp
 have HT:Hid (TsK cols w1 W K M hi gs.length (fun i=>winT (gs.getD i ag0)) (fun _=>h) g cb a b I):=t
 clear t hpv sp so sr
 generalize hFF:(fun j=>winT (gs.getD j ag0) h p)=F
 have HFF:Hid ((fun j=>winT (gs.getD j ag0) h p)=F):=hFF
 clear hFF
 have ltv:=htv.lt
 go_enter Tryz.func55,Tryz.ntmps55
 go_upto_region 1 with fail
 generalize W.alloc (.cells #[.slice pa p.1.length pc,.slice oa p.2.1.length oc,.slice ra p.2.2.length rc] 66)=Wa at *
 have T1:=htv.next hA
 have ct:=T1.cell 0 rfl
 go_wp2_with (first | (at_make; refine wpList_make_full _ rfl _ _ 31 rfl Wa.heap.size 38 i0 _ 3 Tryz.underlying31 hinf hz0 hz1 .i64 .i64 gs.length gs.length gs.length rfl rfl rfl rfl (by rw [hz2]; omega) (by unfold maxLen; omega) (Nat.le_refl _) ?_))
 intro w2 hown hgrow
 have hb0:Below Wa.heap.size Wa w2:=(Below.refl _ _).grown hgrow (Nat.le_refl _) (by simp)
 have V0:VTo w2 (W.heap.size+1) gs.length F 0:=⟨_,hown,fun j _ hj=>absurd hj (Nat.not_lt_zero _)⟩
 have hA2:=chain hA hb0
 have P2:=P.next hb0
 have T2:=T1.next hb0
 have H2:Hid (TsK cols w1 w2 K M hi gs.length (fun i=>winT (gs.getD i ag0)) (fun i=>if i<0 then p :: h else h) g cb a b I):=by
  show TsK cols w1 w2 K M hi gs.length (fun i=>winT (gs.getD i ag0)) (fun i=>if i<0 then p :: h else h) g cb a b I
  have:=HT.out.next hA2
  simpa using this
 clear ct T1 hown hgrow P htv HT
 have ct:=T2.cell 0 rfl
 go_wp2_with fail
 clear ct
 go_loopw [12] (fun i wr=>∃ k:Nat,k≤gs.length∧i = .int .i64 k∧VTo wr (W.heap.size+1) gs.length F k∧Hid (TsK cols w1 wr K M hi gs.length (fun i=>winT (gs.getD i ag0)) (fun i=>if i<k then p :: h else h) g cb a b I)∧Bk wr W.heap.size #[.slice pa p.1.length pc,.slice oa p.2.1.length oc,.slice ra p.2.2.length rc] 66∧Bk wr tv #[.slice (some ⟨K,0,none⟩) gs.length gs.length] 107∧KeepO M hi W wr) (fun i _=>gs.length - (intOf i).toNat)
 case atStart=>exact ⟨0,Nat.zero_le _,rfl,V0,H2,P2,T2,KeepO.of hA2⟩
 case round =>
  clear V0 H2 P2 T2 hA2 hb0
  obtain ⟨k,hk,rfl,HB,HT,P,T,kp⟩:=hrel
  have hzr:=kp.size
  by_cases hlt:k<gs.length
  ·have cu:=HT.out.cell k hlt
   have lo1:=HT.out.lo k hlt
   have eg:=(HT.out.tl k hlt).enter
   have bw:=hb.trans (kp.below (B:=w1.heap.size) hwM hb.size)
   have hin:=HT.out.inv k hlt
   rw [if_neg (Nat.lt_irrefl k)] at hin
   have d:=(HT.out.tl k hlt).call h p (.agg #[.slice pa p.1.length pc,.slice oa p.2.1.length oc,.slice ra p.2.2.length rc]) wr hin hn hfh hfp HPV.out bw
   have ev:winT (gs.getD k ag0) h p=F k:=by rw [← HFF.out]
   rw [ev] at d
   clear ev hin
   have i0:(0:Int)≤(k:Int):=by omega
   have i1:(k:Int)<(gs.length:Int):=by omega
   have cP0:=P.cell 0 rfl
   have cP1:=P.cell 1 rfl
   have cP2:=P.cell 2 rfl
   generalize g k=gk at *
   generalize cb k=ck at *
   go_wp2_with fail
   first | (refine d.mono ?_) | (go_at_fn gk; refine d.mono ?_)
   rintro e w3 ⟨rfl,hI3,k3⟩
   clear d cP0 cP1 cP2 cu eg
   have HB3:=HB.same (k3.block (W.heap.size+1) (by obtain ⟨xs,h1,_⟩:=HB; exact (h1.lt (W.heap.size+1) rfl).2) (.inr (by omega)))
   have P3:=P.keep k3 (.inr (by omega))
   have T3:=T.keep k3 (.inl (by omega))
   have H3:Hid (TsK cols w1 w3 K M hi gs.length (fun i=>winT (gs.getD i ag0)) (fun i=>if i<k+1 then p :: h else h) g cb a b I):=HT.out.step hlt hI3 k3
   have kp3:=kp.trans (k3.wide (a':=M) (b':=hi) (by omega) (by omega))
   obtain ⟨⟨u0,u1,u2,d0,d1,d2⟩,f0,f1,f2,hlb⟩:=HB3.cells hlt
   have zz:=kp3.size
   clear HB HT P T kp hI3 k3
   unfold agV
   go_wp2_with fail
   go_roundw
   case rel =>
    refine ⟨k+1,by omega,by go_num,HB3.step hlt,?_,?_,?_,?_⟩
    ·refine H3.out.same (by simp [World.setCell]) fun j hj=>?_
     rw [Below.heap_setCell _ _ _ j (show j≠W.heap.size+1 by omega),Below.heap_setCell _ _ _ j (show j≠W.heap.size+1 by omega),Below.heap_setCell _ _ _ j (show j≠W.heap.size+1 by omega)]
    ·exact ((P3.far (p:=⟨W.heap.size+1,k*3,none⟩) (show W.heap.size≠W.heap.size+1 by omega) _).far (p:=⟨W.heap.size+1,k*3+1,none⟩) (show W.heap.size≠W.heap.size+1 by omega) _).far (p:=⟨W.heap.size+1,k*3+2,none⟩) (show W.heap.size≠W.heap.size+1 by omega) _
    ·exact ((T3.far (p:=⟨W.heap.size+1,k*3,none⟩) (show tv≠W.heap.size+1 by omega) _).far (p:=⟨W.heap.size+1,k*3+1,none⟩) (show tv≠W.heap.size+1 by omega) _).far (p:=⟨W.heap.size+1,k*3+2,none⟩) (show tv≠W.heap.size+1 by omega) _
    ·exact ((kp3.put (p:=⟨W.heap.size+1,k*3,none⟩) (.inr (Nat.le_succ _)) _).put (p:=⟨W.heap.size+1,k*3+1,none⟩) (.inr (Nat.le_succ _)) _).put (p:=⟨W.heap.size+1,k*3+2,none⟩) (.inr (Nat.le_succ _)) _
   case measure=>simp [intOf]; omega
  ·have e:k=gs.length:=by omega
   subst e
   have HT':Hid (TsK cols w1 wr K M hi gs.length (fun i=>winT (gs.getD i ag0)) (fun _=>p :: h) g cb a b I):=⟨HT.out.kk,HT.out.cell,HT.out.tl,fun i hi=>by have:=HT.out.inv i hi; rwa [if_pos hi] at this,HT.out.lo,HT.out.apart⟩
   have hS:=(HB.done (gs.map fun g=>winT g h p) (by simp) (fun j hj=>by rw [← HFF.out]; simp at hj; simp [List.getD,hj]) (by simp; omega)).1
   go_wp2_with fail
   go_ret
   exact ⟨_,rfl,Nat.le_succ _,hS,T,HT'.out,kp⟩
end Go.Proofs.YtcnmpiahcnkndaaGreat
/- What begins with a part: all tellers side by side. -/
namespace Go.Proofs.YtcnmpiahcnkndaaGreat
open Go.RowKit Go.Lib Go.Shelf

/-- A function value that tells all wins of the rows of a part. -/
structure TlL (cols:List Int) (w1:World) (gs:List Ag) (g:Nat) (cb:Array Value) (a b:Nat) (I:List Lp→World→Prop):Prop where
 lo:w1.heap.size≤a
 lt:∀ h W,I h W→b≤W.heap.size
 next:∀ h W W',I h W→W.heap.size≤W'.heap.size→(∀ k,a≤k→k<b→W'.heap[k]? = W.heap[k]?)→I h W'
 enter:∀ args w,(callFunc g args).run Tryz.prog w = .ok (.enter g args) w
 call:∀ (h:List Lp) (p:Lp) (v:Value) (W:World),I h W→h.length<1000→(∀ q ∈ h,FitP cols q.2.2)→FitP cols p.2.2→PlaceV w1 v p→Below w1.heap.size w1 W →
  Calls Tryz.prog g (#[v] ++ cb) W fun e W'=>∃ B,e = .returned (.slice (some ⟨B,0,none⟩) gs.length gs.length)∧W.heap.size≤B∧SlAt W' (some ⟨B,0,none⟩) (gs.map fun g=>winT g h p)∧I (p :: h) W'∧KeepO a b W W'
def AllI (cols:List Int) (w1:World) (gs:List Ag) (tv K M hi:Nat) (g:Nat→Nat) (cb:Nat→Array Value) (a b:Nat→Nat) (I:Nat→List Lp→World→Prop) (h:List Lp) (W:World):Prop :=
 Bk W tv #[.slice (some ⟨K,0,none⟩) gs.length gs.length] 107∧TsK cols w1 W K M hi gs.length (fun i=>winT (gs.getD i ag0)) (fun _=>h) g cb a b I
theorem all_tl (cols:List Int) (w1:World) (gs:List Ag) (h8:gs.length≤8) (tv K M hi:Nat) (g:Nat→Nat) (cb:Nat→Array Value) (a b:Nat→Nat) (I:Nat→List Lp→World→Prop) (hK:w1.heap.size≤K) (hKt:K≤tv) (htM:tv<M) (hM:M≤hi) :
  TlL cols w1 gs 55 #[.pointer (some ⟨tv,0,none⟩)] K hi (AllI cols w1 gs tv K M hi g cb a b I) where
 lo:=hK
 lt:=fun h W ⟨_,t⟩=>t.kk.2.1
 next:=fun h W W' ⟨h1,t⟩ hz hs=>⟨h1.same (hs _ hKt (by omega)),t.same hz fun k hk=>hs k (by have:=t.kk; omega) (by have:=t.kk; omega)⟩
 enter:=enters_of Tryz.func55 (by kernel_rfl) rfl
 call:=fun h p v W ⟨h1,t⟩ hn hfh hfp hv hb=>by
  refine (tell1_at cols w1 W hb gs h8 h hn hfh v p hfp hv tv K M hi h1 htM (by omega) g cb a b I t).mono ?_
  rintro e w' ⟨B,rfl,k1,k2,k3,k4,k5⟩
  exact ⟨B,rfl,k1,k2,⟨k3,k4⟩,k5.wide (by omega) (Nat.le_refl _)⟩

/-- The first tellers have begun. -/
def TsE (cols:List Int) (w1 W:World) (K M:Nat) (gs:List Ag) (n:Nat):Prop:=∃ g cb a b I,TsK cols w1 W K M W.heap.size n (fun i=>winT (gs.getD i ag0)) (fun _=>[]) g cb a b I
theorem TsK.up {cols:List Int} {w1 W:World} {K M hi hi' n:Nat} {Fs:Nat→List Lp→Lp→Vl} {H:Nat→List Lp} {g:Nat→Nat} {cb:Nat→Array Value} {a b:Nat→Nat} {I:Nat→List Lp→World→Prop} (t:TsK cols w1 W K M hi n Fs H g cb a b I) (h1:hi≤hi') (h2:hi'≤W.heap.size):TsK cols w1 W K M hi' n Fs H g cb a b I :=
 ⟨⟨t.kk.1,h2,t.kk.2.2⟩,t.cell,t.tl,t.inv,fun i h=>⟨(t.lo i h).1,Nat.le_trans (t.lo i h).2 h1⟩,t.apart⟩
theorem TsE.next {cols:List Int} {w1 W W':World} {K M:Nat} {gs:List Ag} {n:Nat} (h:TsE cols w1 W K M gs n) (hb:Below W.heap.size W W'):TsE cols w1 W' K M gs n:=by
 obtain ⟨g,cb,a,b,I,t⟩:=h
 exact ⟨g,cb,a,b,I,(t.next hb).up hb.size (Nat.le_refl _)⟩
theorem TsE.push {cols:List Int} {w1 W W':World} {K M:Nat} {gs:List Ag} {n:Nat} (h:TsE cols w1 W K M gs n) (hb:Below W.heap.size W W') {g':Nat} {cb':Array Value} {a' b':Nat} {I':List Lp→World→Prop} (hM:M≤W.heap.size) (ha:W.heap.size≤a') (t':Tl cols w1 (fun h p=>agV (winT (gs.getD n ag0) h p)) g' cb' a' b' I') (hi:I' [] W') (hc:∃ u,W'.cell? ⟨K,n,none⟩=some u) :
  TsE cols w1 (W'.setCell ⟨K,n,none⟩ (.func (.func g') #[] cb')) K M gs (n+1):=by
 obtain ⟨g,cb,a,b,I,t⟩:=h
 have z:=hb.size
 have kk:=t.kk
 have t2:=t.next hb
 have hsz:(W'.setCell ⟨K,n,none⟩ (.func (.func g') #[] cb')).heap.size=W'.heap.size:=by simp [World.setCell]
 have far:∀ k,k≠K→(W'.setCell ⟨K,n,none⟩ (.func (.func g') #[] cb')).heap[k]? = W'.heap[k]?:=fun k hk=>Below.heap_setCell _ _ _ _ hk
 have lt':=t'.lt _ _ hi
 refine ⟨fun i=>if i=n then g' else g i,fun i=>if i=n then cb' else cb i,fun i=>if i=n then a' else a i,fun i=>if i=n then b' else b i,fun i=>if i=n then I' else I i,?_⟩
 refine ⟨⟨kk.1,by omega,by omega⟩,fun i hi=>?_,fun i hi=>?_,fun i h=>?_,fun i hi=>?_,fun i j hij hj=>?_⟩
 ·by_cases e:i=n
  ·subst e
   simp only [if_true]
   obtain ⟨u,hu⟩:=hc
   exact World.cell?_setCell_same' _ _ _ (by rw [hu]; rfl)
  ·simp only [e,if_false]
   rw [World.cell?_setCell_other _ _ _ _ (by intro h; injection h with _ h; omega)]
   exact t2.cell i (by omega)
 ·by_cases e:i=n
  ·subst e; simp only [if_true]; exact t'
  ·simp only [e,if_false]; exact t.tl i (by omega)
 ·by_cases e:i=n
  ·subst e; simp only [if_true]
   exact t'.next _ _ _ hi (by omega) fun k k1 k2=>far k (by omega)
  ·simp only [e,if_false]
   have hi2:i<n:=by omega
   exact (t.tl i hi2).next _ _ _ (t2.inv i hi2) (by omega) fun k k1 k2=>far k (by have:=t.lo i hi2; omega)
 ·by_cases e:i=n
  ·subst e; simp only [if_true]; omega
  ·simp only [e,if_false]
   have:=t.lo i (by omega)
   omega
 ·have ei:¬ i=n:=by omega
  simp only [ei,if_false]
  by_cases e:j=n
  ·subst e; simp only [if_true]
   have:=t.lo i (by omega)
   omega
  ·simp only [e,if_false]; exact t.apart i j hij (by omega)

theorem make_tells {n:Nat} (h:n≤8) (w:World):(Instr.makeSlice 107 (.int .i64 n) (.int .i64 n)).run Tryz.prog w = .ok (.slice (some ⟨w.heap.size,0,none⟩) n n) (w.alloc (.cells (Array.replicate n Value.nilFunc) 108)):=by
 obtain rfl | rfl | rfl | rfl | rfl | rfl | rfl | rfl | rfl:n=0∨n=1∨n=2∨n=3∨n=4∨n=5∨n=6∨n=7∨n=8:=by omega
 all_goals kernel_rfl
theorem make_begs {n:Nat} (h:n≤8) (w:World):(Instr.makeSlice 102 (.int .i64 n) (.int .i64 n)).run Tryz.prog w = .ok (.slice (some ⟨w.heap.size,0,none⟩) n n) (w.alloc (.cells (Array.replicate n Value.nilFunc) 103)):=by
 obtain rfl | rfl | rfl | rfl | rfl | rfl | rfl | rfl | rfl:n=0∨n=1∨n=2∨n=3∨n=4∨n=5∨n=6∨n=7∨n=8:=by omega
 all_goals kernel_rfl
def Room (W:World) (K n:Nat):Prop:=∀ i,i<n→(∃ u,W.cell? ⟨K,i,none⟩=some u)∧W.frozen? ⟨K,i,none⟩=false
theorem Room.next {W W':World} {K n:Nat} (h:Room W K n) (hb:Below W.heap.size W W'):Room W' K n:=fun i hi=>by
 obtain ⟨⟨u,hu⟩,hf⟩:=h i hi
 have hl:K<W.heap.size:=World.block_lt_of_cell? _ _ hu
 exact ⟨⟨u,(hb.cell (p:=⟨K,i,none⟩) hl).trans hu⟩,(hb.frozen (p:=⟨K,i,none⟩) hl).trans hf⟩
theorem Room.set {W:World} {K n:Nat} (h:Room W K n) (j:Nat) (v:Value):Room (W.setCell ⟨K,j,none⟩ v) K n:=fun i hi=>by
 obtain ⟨⟨u,hu⟩,hf⟩:=h i hi
 refine ⟨?_,by rw [World.frozen?_setCell]; exact hf⟩
 by_cases e:i=j
 ·subst e; exact ⟨v,World.cell?_setCell_same' _ _ _ (by rw [hu]; rfl)⟩
 ·exact ⟨u,by rw [World.cell?_setCell_other _ _ _ _ (by intro e; injection e with _ e; omega)]; exact hu⟩
theorem Room.new (w:World) (n:Nat) (T T':TypeId) (v:Value):Room ((w.alloc (.cells (Array.replicate n Value.nilFunc) T)).alloc (.cells #[v] T')) w.heap.size n:=fun i hi=>by
 refine ⟨⟨Value.nilFunc,?_⟩,?_⟩
 ·rw [World.cell?_alloc_past _ _ _ (by simp),World.cell?_alloc_at _ _ _ _ rfl]
  simp [hi]
 ·rw [World.frozen?_alloc_past _ _ _ (by simp)]
  exact World.frozen?_alloc_at _ _ _ _ rfl

set_option maxRecDepth 100000 in
set_option maxHeartbeats 4000000 in
theorem begin1_at (cols:List Int) (gs:List Ag) (h8:gs.length≤8) (lo:Nat) (w1 W:World) (hb:Below w1.heap.size w1 W) (vb Kb:Nat) (hvb:W.cell? ⟨vb,0,none⟩=some (.slice (some ⟨Kb,0,none⟩) gs.length gs.length)) (hk:∀ i (hi:i<gs.length),∃ u,W.cell? ⟨Kb,i,none⟩=some u∧Begs cols lo u (fun h p=>agV (winT gs[i] h p)) w1) :
  Calls Tryz.prog 54 #[.pointer (some ⟨vb,0,none⟩)] W fun e W'=>∃ g cb a b I,e = .returned (.func (.func g) #[] cb)∧W.heap.size≤a∧TlL cols w1 gs g cb a b I∧I [] W'∧Below W.heap.size W W':=by
 have hmk:=make_tells h8
 have HK:Hid (∀ i (hi:i<gs.length),∃ u,W.cell? ⟨Kb,i,none⟩=some u∧Begs cols lo u (fun h p=>agV (winT gs[i] h p)) w1):=hk
 have lvb:=World.block_lt_of_cell? _ _ hvb
 have hA:Below W.heap.size W ((W.alloc (.cells (Array.replicate gs.length Value.nilFunc) 108)).alloc (.cells #[.slice (some ⟨W.heap.size,0,none⟩) gs.length gs.length] 107)):=((Below.refl _ _).alloc (Nat.le_refl _) _).alloc (by simp) _
 have hN:Below W.heap.size W (W.alloc (.cells (Array.replicate gs.length Value.nilFunc) 108)):=(Below.refl _ _).alloc (Nat.le_refl _) _
 have R0:=Room.new W gs.length 108 107 (.slice (some ⟨W.heap.size,0,none⟩) gs.length gs.length)
 have B0:=Bk.new (W.alloc (.cells (Array.replicate gs.length Value.nilFunc) 108)) #[.slice (some ⟨W.heap.size,0,none⟩) gs.length gs.length] 107
 have c0:=(hN.cell (p:=⟨vb,0,none⟩) lvb).trans hvb
 have c1:=(hA.cell (p:=⟨vb,0,none⟩) lvb).trans hvb
 have hz:(W.alloc (.cells (Array.replicate gs.length Value.nilFunc) 108)).heap.size=W.heap.size+1:=by simp
 have hz2:((W.alloc (.cells (Array.replicate gs.length Value.nilFunc) 108)).alloc (.cells #[.slice (some ⟨W.heap.size,0,none⟩) gs.length gs.length] 107)).heap.size=W.heap.size+2:=by simp
 rw [hz] at B0
 clear hk hN hz
 go_enter Tryz.func54,Tryz.ntmps54
 go_wp2_with fail
 generalize (W.alloc (.cells (Array.replicate gs.length Value.nilFunc) 108)).alloc (.cells #[.slice (some ⟨W.heap.size,0,none⟩) gs.length gs.length] 107)=W2 at *
 clear hmk c0 c1
 have E0:TsE cols w1 W2 W.heap.size (W.heap.size+2) gs 0:=⟨fun _=>0,fun _=>#[],fun _=>0,fun _=>0,fun _ _ _=>True,⟨⟨by omega,Nat.le_refl _,by omega⟩,fun i h=>absurd h (Nat.not_lt_zero _),fun i h=>absurd h (Nat.not_lt_zero _),fun i h=>absurd h (Nat.not_lt_zero _),fun i h=>absurd h (Nat.not_lt_zero _),fun i j _ h=>absurd h (Nat.not_lt_zero _)⟩⟩
 go_loopw [10] (fun i wr=>∃ j:Nat,j≤gs.length∧i = .int .i64 j∧Room wr W.heap.size gs.length∧Bk wr (W.heap.size+1) #[.slice (some ⟨W.heap.size,0,none⟩) gs.length gs.length] 107∧TsE cols w1 wr W.heap.size (W.heap.size+2) gs j∧Below W.heap.size W wr∧W.heap.size+2≤wr.heap.size) (fun i _=>gs.length - (intOf i).toNat)
 case atStart=>exact ⟨0,Nat.zero_le _,rfl,R0,B0,E0,hA,by omega⟩
 case round =>
  clear R0 B0 E0 hA hz2
  obtain ⟨j,hj,rfl,R,T,E,hbr,hsz⟩:=hrel
  by_cases hlt:j<gs.length
  ·obtain ⟨u,cu,A⟩:=HK.out j hlt
   have cu:=(hbr.cell (p:=⟨Kb,j,none⟩) (World.block_lt_of_cell? _ _ cu)).trans cu
   obtain ⟨g0,cb0,rfl,eg,d⟩:=A
   have hjz:(j:Int)<gs.length:=by omega
   have hj0:(0:Int)≤(j:Int):=by omega
   have eW:winT gs[j]=winT (gs.getD j ag0):=by simp [List.getD,hlt]
   have HD:Hid (∀ (w1' W':World),Since lo w1 w1'→Below w1'.heap.size w1' W'→Calls Tryz.prog g0 cb0 W' fun e W''=>∃ g' cb' a b I,e = .returned (.func (.func g') #[] cb')∧W'.heap.size≤a∧Tl cols w1' (fun h p=>agV (winT (gs.getD j ag0) h p)) g' cb' a b I∧I [] W''∧Below W'.heap.size W' W''):=by
    rw [← eW]; exact d
   clear d eW
   go_upto_region 5 with fail
   clear cu
   have hdr:Below wr.heap.size wr wr.drew:=(Below.refl _ _).drew
   have hCC:∀ X X':World,X.cell? ⟨W.heap.size+1,0,none⟩=some (.slice (some ⟨W.heap.size,0,none⟩) gs.length gs.length)→Below X.heap.size X X'→X'.cell? ⟨W.heap.size+1,0,none⟩=some (.slice (some ⟨W.heap.size,0,none⟩) gs.length gs.length):=fun X X' h hb=>(hb.cell (World.block_lt_of_cell? _ _ h)).trans h
   have CW:wr.drew.cell? ⟨W.heap.size+1,0,none⟩=some (.slice (some ⟨W.heap.size,0,none⟩) gs.length gs.length):=hCC _ _ (T.cell 0 rfl) hdr
   refine wp_region_cls (fun X=>X.cell? ⟨W.heap.size+1,0,none⟩=some (.slice (some ⟨W.heap.size,0,none⟩) gs.length gs.length)) (by kernel_rfl) ?_
   refine wpY_take hCC (some 15) (i:=0) (v:=.slice (some ⟨W.heap.size,0,none⟩) gs.length gs.length) rfl rfl (by kernel_rfl) (by kernel_rfl) (by kernel_rfl) (fun _ _ _ h=>h) (Or.inl ⟨rfl,fun n hn=>?_⟩) CW ?_
   ·go_simp
   simp only [Act.put,pA,pB,pC]
   refine wpY_take hCC (some 16) (i:=1) (v:=.int .i64 j) rfl rfl (by kernel_rfl) (by kernel_rfl) (by kernel_rfl) (fun _ _ _ h=>h) (Or.inl ⟨rfl,fun n hn=>?_⟩) CW ?_
   ·go_simp
   simp only [Act.put,pA,pB,pC]
   refine wpY_take hCC (some 17) (i:=2) (v:=.func (.func g0) #[] cb0) rfl rfl (by kernel_rfl) (by kernel_rfl) (by kernel_rfl) (fun _ _ _ h=>h) (Or.inl ⟨rfl,fun n hn=>?_⟩) CW ?_
   ·go_simp
   simp only [Act.put,pA,pB,pC]
   refine wpY_step (rs:=[3]) (by kernel_rfl) (by simp) ?_
   intro w3 hb3 jj hj'
   obtain rfl:jj=3:=by simpa using hj'
   clear hj'
   have D3:=chain hdr hb3
   have con:=HD.out w1 w3 (Since.refl _ _) (chain (chain hb hbr) D3)
   have CW3:=hCC _ _ CW hb3
   refine wpOp_step rfl (fun K hK=>?_)
   go_simp
   first | (refine con.mono ?_) | (go_at_fn g0; refine con.mono ?_)
   rintro e w4 ⟨g',cb',a',b',I',rfl,ha',t',hI',hb4⟩
   have CW4:=hCC _ _ CW3 hb4
   refine hK _ _ ⟨CW4,?_⟩
   clear hK K con CW3 CW
   refine wpY_take hCC (some 19) (i:=4) (v:=.pointer (some ⟨W.heap.size,j,none⟩)) rfl rfl (by kernel_rfl) (by kernel_rfl) (by kernel_rfl) (fun _ _ _ h=>h) (Or.inl ⟨rfl,fun n hn=>?_⟩) CW4 ?_
   ·go_simp
   simp only [Act.put,pA,pB,pC]
   refine wpY_step (rs:=[5]) (by kernel_rfl) (by simp) ?_
   intro w5 hb5 jj hj'
   obtain rfl:jj=5:=by simpa using hj'
   clear hj'
   have D4:=chain D3 hb4
   have D5:=chain D4 hb5
   have R5:=R.next D5
   have T5:=T.next D5
   obtain ⟨⟨un,r2⟩,r3⟩:=R5 j hlt
   have E5:=(E.next D3).push (chain hb4 hb5) (by have:=D3.size; omega) ha' t' (t'.keep hI' hb5) ⟨un,r2⟩
   have R6:=R5.set j (.func (.func g') #[] cb')
   have T6:=T5.far (p:=⟨W.heap.size,j,none⟩) (show W.heap.size+1≠W.heap.size by omega) (.func (.func g') #[] cb')
   have B6:=(chain hbr D5).setCell (p:=⟨W.heap.size,j,none⟩) (Nat.le_refl _) (.func (.func g') #[] cb')
   have Z6:W.heap.size+2≤(w5.setCell ⟨W.heap.size,j,none⟩ (.func (.func g') #[] cb')).heap.size:=by have:=D5.size; simp [World.setCell]; omega
   refine wpOp_step rfl (fun K hK=>?_)
   go_simp
   refine hK _ _ ⟨T6.cell 0 rfl,?_⟩
   clear hK K CW4 R5 T5 r2 r3 E R T hI'
   generalize w5.setCell ⟨W.heap.size,j,none⟩ (.func (.func g') #[] cb')=w6 at *
   refine wpY_done (by kernel_rfl) ?_
   intro w7 hb7
   have R7:=R6.next hb7
   have T7:=T6.next hb7
   have E7:=E5.next hb7
   have B7:=chain B6 hb7
   have Z7:W.heap.size+2≤w7.heap.size:=Nat.le_trans Z6 hb7.size
   clear R6 T6 E5 B6 Z6 D5 D4 D3 hbr
   go_wp2_with fail
   go_roundw
   case rel=>exact ⟨j+1,by omega,by go_num,R7,T7,E7,B7,Z7⟩
   case measure=>simp [intOf]; omega
  ·have e:j=gs.length:=by omega
   subst e
   obtain ⟨g,cb,a,b,I,t⟩:=E
   have hzz:=hb.size
   go_wp2_with fail
   go_ret
   exact ⟨_,_,W.heap.size,wr.heap.size,AllI cols w1 gs (W.heap.size+1) W.heap.size (W.heap.size+2) wr.heap.size g cb a b I,rfl,Nat.le_refl _,all_tl cols w1 gs h8 _ _ _ _ g cb a b I hzz (by omega) (by omega) hsz,⟨T,t⟩,hbr⟩
end Go.Proofs.YtcnmpiahcnkndaaGreat
/- window.tellers. -/
namespace Go.Proofs.YtcnmpiahcnkndaaGreat
open Go.RowKit Go.Lib Go.Shelf

def KidsB (cols:List Int) (lo:Nat) (W:World) (kb:Nat) (Fs:List (List Lp→Lp→Vl)):Prop :=
 ∃ K,lo≤kb∧kb<W.heap.size∧lo≤K∧K<W.heap.size∧W.cell? ⟨kb,0,none⟩=some (.slice (some ⟨K,0,none⟩) Fs.length Fs.length) ∧
  ∀ (i:Nat) (h:i<Fs.length),∃ u,W.cell? ⟨K,i,none⟩=some u∧Begs cols lo u (fun h p=>agV (Fs[i] h p)) W
theorem KidsB.next {cols:List Int} {lo:Nat} {W w1:World} {kb:Nat} {Fs:List (List Lp→Lp→Vl)} (h:KidsB cols lo W kb Fs) (hb:Since lo W w1):KidsB cols lo w1 kb Fs:=by
 obtain ⟨K,h1,h2,h3,h4,h5,h6⟩:=h
 refine ⟨K,h1,Nat.lt_of_lt_of_le h2 hb.1,h3,Nat.lt_of_lt_of_le h4 hb.1,(hb.cell (p:=⟨kb,0,none⟩) h1 h2).trans h5,fun i hi=>?_⟩
 obtain ⟨u,c,a⟩:=h6 i hi
 exact ⟨u,(hb.cell (p:=⟨K,i,none⟩) h3 h4).trans c,a.next hb⟩
/-- What begins in a slice in a variable, the first j of them made. -/
structure BTo (cols:List Int) (K kb M:Nat) (W:World) (Fs:List (List Lp→Lp→Vl)) (j:Nat):Prop where
 lt:K<M∧kb<M∧K≠kb∧M≤W.heap.size
 box:W.cell? ⟨kb,0,none⟩=some (.slice (some ⟨K,0,none⟩) Fs.length Fs.length)
 room:∀ i,i<Fs.length→(∃ u,W.cell? ⟨K,i,none⟩=some u)∧W.frozen? ⟨K,i,none⟩=false
 done:∀ i (h:i<Fs.length),i<j→∃ u,W.cell? ⟨K,i,none⟩=some u∧Begs cols M u (fun h p=>agV (Fs[i] h p)) W
theorem BTo.next {cols:List Int} {K kb M:Nat} {W w1:World} {Fs:List (List Lp→Lp→Vl)} {j:Nat} (h:BTo cols K kb M W Fs j) (hb:Below W.heap.size W w1):BTo cols K kb M w1 Fs j:=by
 obtain ⟨h1,h2,h3,h4⟩:=h
 have z:=hb.size
 refine ⟨⟨h1.1,h1.2.1,h1.2.2.1,by omega⟩,(hb.cell (p:=⟨kb,0,none⟩) (by show kb<_; omega)).trans h2,fun i hi=>?_,fun i hi hj=>?_⟩
 ·obtain ⟨⟨u,hu⟩,hf⟩:=h3 i hi
  exact ⟨⟨u,(hb.cell (p:=⟨K,i,none⟩) (by show K<_; omega)).trans hu⟩,(hb.frozen (p:=⟨K,i,none⟩) (by show K<_; omega)).trans hf⟩
 ·obtain ⟨u,hu,ha⟩:=h4 i hi hj
  exact ⟨u,(hb.cell (p:=⟨K,i,none⟩) (by show K<_; omega)).trans hu,ha.next (Since.of hb)⟩
theorem BTo.store {cols:List Int} {K kb M:Nat} {W:World} {Fs:List (List Lp→Lp→Vl)} {j:Nat} (h:BTo cols K kb M W Fs j) (hj:j<Fs.length) {u:Value} (ha:Begs cols M u (fun h p=>agV (Fs[j] h p)) W):BTo cols K kb M (W.setCell ⟨K,j,none⟩ u) Fs (j+1):=by
 obtain ⟨h1,h2,h3,h4⟩:=h
 have hS:Since M W (W.setCell ⟨K,j,none⟩ u):=(Since.refl M W).set K j u (by omega)
 have same:(W.setCell ⟨K,j,none⟩ u).cell? ⟨K,j,none⟩=some u:=World.cell?_setCell_same' _ _ _ (by obtain ⟨⟨u',hu⟩,_⟩:=h3 j hj; rw [hu]; rfl)
 refine ⟨⟨h1.1,h1.2.1,h1.2.2.1,by simpa using h1.2.2.2⟩,?_,fun i hi=>?_,fun i hi hij=>?_⟩
 ·rw [World.cell?_setCell_other _ _ _ _ (by intro e; injection e with e; omega)]; exact h2
 ·obtain ⟨⟨u',hu⟩,hf⟩:=h3 i hi
  refine ⟨?_,by rw [World.frozen?_setCell]; exact hf⟩
  by_cases e:i=j
  ·subst e; exact ⟨_,same⟩
  ·exact ⟨u',by rw [World.cell?_setCell_other _ _ _ _ (by intro e; injection e with _ e; omega)]; exact hu⟩
 ·by_cases e:i=j
  ·subst e; exact ⟨u,same,ha.next hS⟩
  ·obtain ⟨u',hu,ha'⟩:=h4 i hi (by omega)
   exact ⟨u',by rw [World.cell?_setCell_other _ _ _ _ (by intro e; injection e with _ e; omega)]; exact hu,ha'.next hS⟩
theorem BTo.kids {cols:List Int} {K kb M lo:Nat} {W:World} {Fs:List (List Lp→Lp→Vl)} (h:BTo cols K kb M W Fs Fs.length) (h1:lo≤K) (h2:lo≤kb):KidsB cols lo W kb Fs:=by
 obtain ⟨l1,l2,_,l4⟩:=h
 refine ⟨K,h2,by omega,h1,by omega,l2,fun i hi=>?_⟩
 obtain ⟨u,hu,ha⟩:=l4 i hi hi
 exact ⟨u,hu,ha.down (by omega)⟩
theorem BTo.new {cols:List Int} {w:World} {n:Nat} (Fs:List (List Lp→Lp→Vl)) (hn:n=Fs.length) (T T':TypeId) :
  BTo cols w.heap.size (w.heap.size+1) (w.heap.size+2) ((w.alloc (.cells (Array.replicate n Value.nilFunc) T)).alloc (.cells #[.slice (some ⟨w.heap.size,0,none⟩) n n] T')) Fs 0:=by
 subst hn
 refine ⟨⟨by omega,by omega,by omega,by simp⟩,?_,fun i hi=>⟨⟨Value.nilFunc,?_⟩,?_⟩,fun i _ h=>absurd h (Nat.not_lt_zero _)⟩
 ·rw [World.cell?_alloc_at _ _ _ _ (by simp)]; rfl
 ·rw [World.cell?_alloc_past _ _ _ (by simp),World.cell?_alloc_at _ _ _ _ rfl]
  simp [hi]
 ·rw [World.frozen?_alloc_past _ _ _ (by simp)]
  exact World.frozen?_alloc_at _ _ _ _ rfl
/-- A function value begins with a part: all wins. -/
def BegL (cols:List Int) (lo:Nat) (u:Value) (gs:List Ag) (w:World):Prop :=
 ∃ g cb,u = .func (.func g) #[] cb∧(∀ args w,(callFunc g args).run Tryz.prog w = .ok (.enter g args) w) ∧
  ∀ (w1 W:World),Since lo w w1→Below w1.heap.size w1 W→Calls Tryz.prog g cb W fun e W'=>∃ g' cb' a b I,e = .returned (.func (.func g') #[] cb')∧W.heap.size≤a∧TlL cols w1 gs g' cb' a b I∧I [] W'∧Below W.heap.size W W'
theorem BegL.next {cols:List Int} {lo:Nat} {u:Value} {gs:List Ag} {w w':World} (h:BegL cols lo u gs w) (hb:Since lo w w'):BegL cols lo u gs w':=by
 obtain ⟨g,cb,e,eg,hd⟩:=h
 exact ⟨g,cb,e,eg,fun w1 W h1 h2=>hd w1 W (hb.trans h1) h2⟩
theorem win_get {gs:List Ag} {j:Nat} (h:j<gs.length):(gs.map fun g=>winT g)[j]'(by simpa using h)=winT gs[j]:=by simp

set_option maxRecDepth 100000 in
set_option maxHeartbeats 4000000 in
theorem tellers_at (cols:List Int) (gs:List Ag) (ca:Option Addr) (ccap:Nat) (xa:Option Addr) (xcap:Nat) (w:World) (hk:AgAt w.heap.size w xa gs) (hc:IsAt w.heap.size w ca cols) (h8:gs.length≤8) :
  Calls Tryz.prog 21 #[.slice ca cols.length ccap,.slice xa gs.length xcap] w fun e w'=>∃ u,e = .returned (.tuple #[u,.int .i64 (winsE cols gs)])∧((winsE cols gs=0∧BegL cols w.heap.size u gs w')∨(¬ winsE cols gs=0∧u = .nilFunc))∧Below w.heap.size w w':=by
 obtain ⟨Fs,eFs⟩:∃ Fs:List (List Lp→Lp→Vl),Fs=gs.map fun g=>winT g:=⟨_,rfl⟩
 have HFs:Hid (Fs=gs.map fun g=>winT g):=eFs
 have lFs:Fs.length=gs.length:=by rw [eFs]; simp
 generalize hle:winsE cols gs=le
 have HE:Hid (winsE cols gs=le):=hle
 clear eFs hle
 have hmk:=make_begs h8
 have F0:BTo cols w.heap.size (w.heap.size+1) (w.heap.size+2) ((w.alloc (.cells (Array.replicate gs.length Value.nilFunc) 103)).alloc (.cells #[.slice (some ⟨w.heap.size,0,none⟩) gs.length gs.length] 102)) Fs 0:=BTo.new Fs lFs.symm _ _
 have hA:Below w.heap.size w ((w.alloc (.cells (Array.replicate gs.length Value.nilFunc) 103)).alloc (.cells #[.slice (some ⟨w.heap.size,0,none⟩) gs.length gs.length] 102)):=((Below.refl _ _).alloc (Nat.le_refl _) _).alloc (by simp) _
 go_enter Tryz.func21,Tryz.ntmps21
 go_wp2_with fail
 generalize (w.alloc (.cells (Array.replicate gs.length Value.nilFunc) 103)).alloc (.cells #[.slice (some ⟨w.heap.size,0,none⟩) gs.length gs.length] 102)=w2 at *
 clear hmk
 go_loopw [16] (fun i wr=>∃ j:Nat,j≤gs.length∧i = .int .i64 j∧BTo cols w.heap.size (w.heap.size+1) (w.heap.size+2) wr Fs j∧Hid (le=winsE cols (gs.drop j))∧Below w.heap.size w wr) (fun i _=>gs.length - (intOf i).toNat)
 case atStart=>exact ⟨0,Nat.zero_le _,rfl,F0,HE.out.symm,hA⟩
 case round =>
  clear F0 hA
  obtain ⟨j,hj,rfl,F,HT,hb⟩:=hrel
  have hz:=hb.size
  have hzF:=F.lt.2.2.2
  by_cases hlt:j<gs.length
  ·obtain ⟨b,off,ai,ci,rfl,hbl,x0,sx,kx⟩:=(AgAt.next hb (Nat.le_refl _) hk).elem hlt
   obtain ⟨x1,x2,x3,x4,x5,x6⟩:=sx
   have hal:Below wr.heap.size wr (wr.alloc (.cells #[.int .i64 gs[j].1,.int .i64 gs[j].2.k,.int .i64 gs[j].2.v.1,.int .i64 gs[j].2.v.2.1,.string gs[j].2.v.2.2,.int .i64 gs[j].2.c,.slice ai gs[j].2.ks.length ci] 42)):=(Below.refl _ _).alloc (Nat.le_refl _) _
   have q0:=Bk.new wr #[.int .i64 gs[j].1,.int .i64 gs[j].2.k,.int .i64 gs[j].2.v.1,.int .i64 gs[j].2.v.2.1,.string gs[j].2.v.2.2,.int .i64 gs[j].2.c,.slice ai gs[j].2.ks.length ci] 42
   have Fk:=F.next hal
   have zk:(wr.alloc (.cells #[.int .i64 gs[j].1,.int .i64 gs[j].2.k,.int .i64 gs[j].2.v.1,.int .i64 gs[j].2.v.2.1,.string gs[j].2.v.2.2,.int .i64 gs[j].2.c,.slice ai gs[j].2.ks.length ci] 42)).heap.size=wr.heap.size+1:=by simp
   have kk:=(KsAt.next hal hz kx).up (show w.heap.size≤(wr.alloc (.cells #[.int .i64 gs[j].1,.int .i64 gs[j].2.k,.int .i64 gs[j].2.v.1,.int .i64 gs[j].2.v.2.1,.string gs[j].2.v.2.2,.int .i64 gs[j].2.c,.slice ai gs[j].2.ks.length ci] 42)).heap.size by omega)
   have cc:=((hc.next hb (Nat.le_refl _)).next hal hz).up (show w.heap.size≤(wr.alloc (.cells #[.int .i64 gs[j].1,.int .i64 gs[j].2.k,.int .i64 gs[j].2.v.1,.int .i64 gs[j].2.v.2.1,.string gs[j].2.v.2.2,.int .i64 gs[j].2.c,.slice ai gs[j].2.ks.length ci] 42)).heap.size by omega)
   have hjz:(j:Int)<gs.length:=by omega
   by_cases h0:winE cols gs[j]=0
   ·have con:=tellerOk_at cols gs[j].1 gs[j].2 ca ccap ai ci _ kk cc h0
    have HN:Hid (le=winsE cols (gs.drop (j+1))):=HT.out.trans (winsE_next cols gs j hlt h0)
    clear h0 HT
    go_upto_region 5 with fail
    clear x0 x1 x2 x3 x4 x5 x6 kx kk cc
    generalize wr.alloc (.cells #[.int .i64 gs[j].1,.int .i64 gs[j].2.k,.int .i64 gs[j].2.v.1,.int .i64 gs[j].2.v.2.1,.string gs[j].2.v.2.2,.int .i64 gs[j].2.c,.slice ai gs[j].2.ks.length ci] 42)=wk at *
    have p0:=q0.cell 0 rfl
    have p1:=q0.cell 1 rfl
    have p2:=q0.cell 2 rfl
    have p3:=q0.cell 3 rfl
    have p4:=q0.cell 4 rfl
    have p5:=q0.cell 5 rfl
    have p6:=q0.cell 6 rfl
    go_wp2_with fail
    refine con.mono ?_
    rintro e w3 ⟨u,rfl,hA3,hb3⟩
    clear con p0 p1 p2 p3 p4 p5 p6
    obtain ⟨ug,ucb,rfl⟩:∃ g cb,u = .func (.func g) #[] cb:=by obtain ⟨g,cb,e,_⟩:=hA3; exact ⟨g,cb,e⟩
    have z3:=hb3.size
    have hV:Begs cols (w.heap.size+2) (.func (.func ug) #[] ucb) (fun h p=>agV (winT gs[j] h p)) w3:=hA3.down (by omega)
    have F4:=Fk.next hb3
    have hA4:=chain (chain hb hal) hb3
    have HRF:Hid (Begs cols (w.heap.size+2) (.func (.func ug) #[] ucb) (fun h p=>agV ((Fs[j]'(by omega)) h p)) w3):=by
     show Begs _ _ _ _ _
     have e:Fs[j]'(by omega)=winT gs[j]:=by simp only [HFs.out]; exact win_get hlt
     rw [e]; exact hV
    have b6:=F4.box
    obtain ⟨⟨un,r2⟩,r3⟩:=F4.room j (by omega)
    rw [lFs] at b6
    clear hV hA3
    dsimp only
    go_wp2_with fail
    go_roundw
    case rel=>exact ⟨j+1,by omega,by go_num,F4.store (by omega) HRF.out,HN,hA4.setCell (p:=⟨w.heap.size,j,none⟩) (Nat.le_refl _) _⟩
    case measure=>simp [intOf]; omega
   ·have con:=tellerBad_at cols gs[j].1 gs[j].2 ca ccap ai ci _ kk cc h0
    have HN:Hid (le=winE cols gs[j]):=HT.out.trans (winsE_bad cols gs j hlt h0)
    have hne:(winE cols gs[j] != 0)=true:=by simpa using h0
    have HN0:Hid (¬ le=0):=by show ¬ _; rw [HN.out]; exact h0
    have e2:winE cols (gs[j].1,gs[j].2)=le:=HN.out.symm
    rw [e2] at con
    rw [← HN.out] at hne
    clear h0 HT e2
    go_upto_region 5 with fail
    clear x0 x1 x2 x3 x4 x5 x6 kx kk cc
    generalize wr.alloc (.cells #[.int .i64 gs[j].1,.int .i64 gs[j].2.k,.int .i64 gs[j].2.v.1,.int .i64 gs[j].2.v.2.1,.string gs[j].2.v.2.2,.int .i64 gs[j].2.c,.slice ai gs[j].2.ks.length ci] 42)=wk at *
    have p0:=q0.cell 0 rfl
    have p1:=q0.cell 1 rfl
    have p2:=q0.cell 2 rfl
    have p3:=q0.cell 3 rfl
    have p4:=q0.cell 4 rfl
    have p5:=q0.cell 5 rfl
    have p6:=q0.cell 6 rfl
    go_wp2_with fail
    refine con.mono ?_
    rintro e w3 ⟨rfl,hb3⟩
    clear con p0 p1 p2 p3 p4 p5 p6
    dsimp only
    go_wp2_with fail
    exact bodyPost_ret (v:=.tuple #[.nilFunc,.int .i64 le]) (by simp [results,Tryz.results21,go_sem]) rfl ⟨_,rfl,.inr ⟨HN0.out,rfl⟩,chain (chain hb hal) hb3⟩
  ·have e:j=gs.length:=by omega
   subst e
   have e0:le=0:=by rw [HT.out,List.drop_length]; rfl
   subst e0
   have KF:Hid (KidsB cols w.heap.size wr (w.heap.size+1) Fs):=by rw [← lFs] at F; exact F.kids (Nat.le_refl _) (by omega)
   have AF:Hid (BegL cols w.heap.size (.func (.func 54) #[] #[.pointer (some ⟨w.heap.size+1,0,none⟩)]) gs wr):=⟨54,_,rfl,enters_of Tryz.func54 (by kernel_rfl) rfl,fun w1 W hs hbW=>by
    obtain ⟨Kb,k1,k2,k3,k4,k5,k6⟩:=KF.out.next hs
    rw [lFs] at k5
    exact begin1_at cols gs h8 w.heap.size w1 W hbW (w.heap.size+1) Kb ((hbW.cell (p:=⟨w.heap.size+1,0,none⟩) k2).trans k5) fun i hi=>by
     obtain ⟨u,c,a⟩:=k6 i (by omega)
     refine ⟨u,(hbW.cell (p:=⟨Kb,i,none⟩) k4).trans c,?_⟩
     have e:Fs[i]'(by omega)=winT gs[i]:=by simp only [HFs.out]; exact win_get hi
     rw [e] at a
     exact a⟩
   go_wp2_with fail
   first
    | exact bodyPost_ret (v:=.tuple #[.func (.func 54) #[] #[.pointer (some ⟨w.heap.size+1,0,none⟩)],.int .i64 0]) (by simp [results,Tryz.results21,go_sem]) rfl ⟨_,rfl,.inl ⟨rfl,AF.out⟩,hb⟩
    | exact bodyPost_ret (v:=.tuple #[.func (.func 54) #[] #[.pointer (some ⟨w.heap.size+1,0,none⟩)],.int .i64 0]) (by simp [results,Tryz.results21,go_sem]) rfl ⟨_,rfl,AF.out,hb⟩
end Go.Proofs.YtcnmpiahcnkndaaGreat
/- The rows in line, each with what is told of it. -/
namespace Go.Proofs.YtcnmpiahcnkndaaGreat
open Go.RowKit Go.Lib Go.Shelf

def lp0:Lp:=([],[],[])
/-- The rows ahead in its part, the nearest one first. -/
def aheadL (l:List Lp):Nat→List Lp
 | 0=>[]
 | k+1=>if cmpL (l.getD k lp0).1 (l.getD (k+1) lp0).1=0 then l.getD k lp0 :: aheadL l k else []
def toldF (gs:List Ag) (l:List Lp) (k:Nat):Zp:=((l.getD k lp0).2.2 ++ gs.map (fun g=>winT g (aheadL l k) (l.getD k lp0)),1)
/-- The rows with what is told of them. -/
def toldL (gs:List Ag) (l:List Lp):List Zp:=(List.range l.length).map (toldF gs l)
theorem toldL_len (gs:List Ag) (l:List Lp):(toldL gs l).length=l.length:=by simp [toldL]
theorem aheadL_len (l:List Lp):∀ k,(aheadL l k).length≤k
 | 0=>by simp [aheadL]
 | k+1=>by
  unfold aheadL
  split
  ·have:=aheadL_len l k; simp; omega
  ·simp
theorem aheadL_mem (l:List Lp):∀ k,k<l.length→∀ q ∈ aheadL l k,q ∈ l
 | 0,_,q,h=>by simp [aheadL] at h
 | k+1,hk,q,h=>by
  unfold aheadL at h
  split at h
  ·rcases List.mem_cons.1 h with rfl | h
   ·have:l.getD k lp0=l[k]'(by omega):=by simp [List.getD,show k<l.length by omega]
    rw [this]; exact List.getElem_mem _
   ·exact aheadL_mem l k (by omega) q h
  ·cases h

/-- A slice that lies apart from the blocks from lo up to hi. -/
def Apt (lo hi:Nat) (a:Option Addr):Prop:=∀ g off,a=some ⟨g,off,none⟩→g<lo∨hi≤g
theorem SlAt.keepA {W W':World} {a:Option Addr} {l:List Vl} {lo hi:Nat} (h:SlAt W a l) (hk:KeepO lo hi W W') (ha:Apt lo hi a):SlAt W' a l:=by
 rcases h.2 with e | ⟨b,o,rfl,hr,hlt⟩
 ·exact ⟨h.1,.inl e⟩
 ·exact h.same (hk.block b hlt (ha b o rfl)) hk.size
theorem TyAt.keepA {W W':World} {a:Option Addr} {lo hi:Nat} (h:TyAt W a) (hk:KeepO lo hi W W') (ha:Apt lo hi a):TyAt W' a:=fun b off e=>by
 obtain ⟨c,z,k⟩:=h b off e
 exact ⟨c,z,(hk.block b (lt_of_heap k) (ha b off e)).trans k⟩
theorem own_same {W W':World} {B e s n m:Nat} {xs:List Value} (h:W.ownsRow B e s (.slice (some ⟨B,0,none⟩) n n) m xs) (hs:W'.heap[B]? = W.heap[B]?):W'.ownsRow B e s (.slice (some ⟨B,0,none⟩) n n) m xs:=by
 obtain ⟨l,hh⟩:=h
 refine ⟨l,?_⟩
 rcases hh with ⟨hh,_⟩ | ⟨g,cap,cur,e',h1,hc,r⟩
 ·cases hh
 ·refine .inr ⟨g,cap,cur,e',h1,?_,r⟩
  have e2:B=g:=by injection e' with e'; injection e' with e'; injection e'
  subst e2
  exact hs.trans hc
def NTo (W:World) (B n:Nat) (f:Nat→Zp) (k lo hi:Nat):Prop:=∃ xs,W.ownsRow B 33 2 (.slice (some ⟨B,0,none⟩) n n) n xs∧∀ j:Nat,j<n→j<k→∃ a cap,xs[j*2]? = some (.slice a (f j).1.length cap)∧xs[j*2+1]? = some (.int .i64 (f j).2)∧SlAt W a (f j).1∧TyAt W a∧Apt lo hi a
theorem NTo.mto {W:World} {B n:Nat} {f:Nat→Zp} {k lo hi:Nat} (h:NTo W B n f k lo hi):MTo W B n f k:=by
 obtain ⟨xs,h1,h2⟩:=h
 refine ⟨xs,h1,fun j hj hk=>?_⟩
 obtain ⟨a,cap,e0,e1,e2,e3,_⟩:=h2 j hj hk
 exact ⟨a,cap,e0,e1,e2,e3⟩
theorem NTo.next {W w1:World} {B n:Nat} {f:Nat→Zp} {k lo hi:Nat} (h:NTo W B n f k lo hi) (hb:Below W.heap.size W w1):NTo w1 B n f k lo hi:=by
 obtain ⟨xs,h1,h2⟩:=h
 refine ⟨xs,own_next h1 hb,fun j hj hk=>?_⟩
 obtain ⟨a,cap,e0,e1,e2,e3,e4⟩:=h2 j hj hk
 exact ⟨a,cap,e0,e1,e2.next hb,e3.next hb,e4⟩
theorem NTo.lt {W:World} {B n:Nat} {f:Nat→Zp} {k lo hi:Nat} (h:NTo W B n f k lo hi):B<W.heap.size:=by
 obtain ⟨xs,h1,h2⟩:=h
 exact (h1.lt B rfl).2
theorem NTo.keep {W w1:World} {B n:Nat} {f:Nat→Zp} {k lo hi:Nat} (h:NTo W B n f k lo hi) (hb:KeepO lo hi W w1) (hB:B<lo):NTo w1 B n f k lo hi:=by
 have hl:=h.lt
 obtain ⟨xs,h1,h2⟩:=h
 refine ⟨xs,own_same h1 (hb.block B hl (.inl hB)),fun j hj hk=>?_⟩
 obtain ⟨a,cap,e0,e1,e2,e3,e4⟩:=h2 j hj hk
 exact ⟨a,cap,e0,e1,e2.keepA hb e4,e3.keepA hb e4,e4⟩
theorem NTo.move {W:World} {B n:Nat} {f:Nat→Zp} {k lo hi:Nat} (h:NTo W B n f k lo hi) (lo' hi':Nat) (hl:W.heap.size≤lo'):NTo W B n f k lo' hi':=by
 obtain ⟨xs,h1,h2⟩:=h
 refine ⟨xs,h1,fun j hj hk=>?_⟩
 obtain ⟨a,cap,e0,e1,e2,e3,e4⟩:=h2 j hj hk
 refine ⟨a,cap,e0,e1,e2,e3,fun g off e=>?_⟩
 obtain ⟨c,z,kk⟩:=e3 g off e
 have:=lt_of_heap kk
 exact .inl (by omega)
theorem NTo.step {W:World} {B n:Nat} {f:Nat→Zp} {k lo hi:Nat} (h:NTo W B n f k lo hi) (hk:k<n) {a:Option Addr} {cap:Nat} (hs:SlAt W a (f k).1) (ht:TyAt W a) (ha:Apt lo hi a) :
  NTo ((W.setCell ⟨B,k*2,none⟩ (.slice a (f k).1.length cap)).setCell ⟨B,k*2+1,none⟩ (.int .i64 (f k).2)) B n f (k+1) lo hi:=by
 obtain ⟨xs,h1,h2⟩:=h
 have lx:=h1.1
 obtain ⟨o1,g1⟩:=h1.stored (k*2) (.slice a (f k).1.length cap)
 obtain ⟨o2,g2⟩:=o1.stored (k*2+1) (.int .i64 (f k).2)
 have go:∀ {b:Option Addr} {r:List Vl},SlAt W b r→TyAt W b→SlAt ((W.setCell ⟨B,k*2,none⟩ (.slice a (f k).1.length cap)).setCell ⟨B,k*2+1,none⟩ (.int .i64 (f k).2)) b r∧TyAt ((W.setCell ⟨B,k*2,none⟩ (.slice a (f k).1.length cap)).setCell ⟨B,k*2+1,none⟩ (.int .i64 (f k).2)) b:=fun hs ht=>by
  obtain ⟨s1,t1⟩:=sl_grown hs ht h1 g1
  exact sl_grown s1 t1 o1 g2
 refine ⟨_,o2,?_⟩
 intro j hj hjk
 by_cases e:j=k
 ·subst e
  refine ⟨a,cap,?_,?_,(go hs ht).1,(go hs ht).2,ha⟩
  ·rw [List.getElem?_set_ne (by omega)]; simp [List.getElem?_set,lx]; omega
  ·simp [List.getElem?_set,lx]; omega
 ·obtain ⟨b,c,e0,e1,e2,e3,e4⟩:=h2 j hj (by omega)
  refine ⟨b,c,?_,?_,(go e2 e3).1,(go e2 e3).2,e4⟩
  ·rw [List.getElem?_set_ne (by omega),List.getElem?_set_ne (by omega)]; exact e0
  ·rw [List.getElem?_set_ne (by omega),List.getElem?_set_ne (by omega)]; exact e1

/-- How far it has come: the rows told, and the teller of the part. -/
def TellE (cols:List Int) (w:World) (gs:List Ag) (B n:Nat) (f:Nat→Zp) (k:Nat) (v:Value) (h:List Lp) (W:World):Prop :=
 ∃ lo hi,NTo W B n f k lo hi∧((k=0∧v = .nilFunc)∨(B<lo∧∃ g cb I,v = .func (.func g) #[] cb∧TlL cols w gs g cb lo hi I∧I h W))

set_option maxRecDepth 100000 in
set_option maxHeartbeats 16000000 in
theorem told_at (cols:List Int) (gs:List Ag) (u:Value) (lo0:Nat) (a:Option Addr) (cap:Nat) (l:List Lp) (w:World) (hu:BegL cols lo0 u gs w) (hl:l.length≤400) (h8:cols.length+gs.length≤8) (hfit:∀ p ∈ l,FitP cols p.2.2) (h:LnAt w a l) :
  Calls Tryz.prog 27 #[.slice a l.length cap,u] w fun e w'=>∃ a',e = .returned (.slice a' l.length l.length)∧ZsAt w' a' (toldL gs l)∧Below w.heap.size w w':=by
 obtain ⟨i0,hi,hz0,hz1,hz2⟩:=info_parts Tryz.info42
 obtain ⟨ug,ucb,rfl,eg,hd⟩:=hu
 have HD:Hid (∀ (w1 W:World),Since lo0 w w1→Below w1.heap.size w1 W→Calls Tryz.prog ug ucb W fun e W'=>∃ g' cb' a b I,e = .returned (.func (.func g') #[] cb')∧W.heap.size≤a∧TlL cols w1 gs g' cb' a b I∧I [] W'∧Below W.heap.size W W'):=hd
 have HFt:Hid (∀ p ∈ l,FitP cols p.2.2):=hfit
 clear hd hfit
 obtain ⟨F,hF⟩:∃ F:Nat→Zp,F=toldF gs l:=⟨_,rfl⟩
 have HF:Hid (F=toldF gs l):=hF
 clear hF
 go_enter Tryz.func27,Tryz.ntmps27
 go_wp2_with (first | (at_make; refine wpList_make_full _ rfl _ _ 25 rfl w.heap.size 33 i0 _ 2 Tryz.underlying25 hi hz0 hz1 .i64 .i64 l.length l.length l.length rfl rfl rfl rfl (by rw [hz2]; omega) (by unfold maxLen; omega) (Nat.le_refl _) ?_))
 intro w1 hown hgrow
 have hb1:Below w.heap.size w w1:=(Below.refl _ _).grown hgrow (Nat.le_refl _) (by simp)
 have N0:NTo w1 w.heap.size l.length F 0 0 0:=⟨_,hown,fun j _ hj=>absurd hj (Nat.not_lt_zero _)⟩
 clear hown hgrow
 go_wp2_with fail
 go_loopw [6,14] (fun v i wr=>∃ k:Nat,k≤l.length∧i = .int .i64 k∧TellE cols w gs w.heap.size l.length F k v ((l.getD (k - 1) lp0) :: aheadL l (k - 1)) wr∧Below w.heap.size w wr) (fun _ i _=>l.length - (intOf i).toNat)
 case atStart=>exact ⟨0,Nat.zero_le _,rfl,⟨0,0,N0,.inl ⟨rfl,rfl⟩⟩,hb1⟩
 case round =>
  clear N0 hb1
  obtain ⟨k,hk,rfl,HK,hb⟩:=hrel
  have hzr:=hb.size
  by_cases hlt:k<l.length
  ·obtain ⟨b,off,rfl,hbl,⟨pa,pc,d0,sp⟩,⟨oa,oc,d1,so⟩,ra,rc,d2,sr⟩:=h.elem hlt
   have hpv:PlaceV w (.agg #[.slice pa l[k].1.length pc,.slice oa l[k].2.1.length oc,.slice ra l[k].2.2.length rc]) l[k]:=⟨pa,pc,oa,oc,ra,rc,rfl,sp,so,sr⟩
   have HPV:Hid (PlaceV w (.agg #[.slice pa l[k].1.length pc,.slice oa l[k].2.1.length oc,.slice ra l[k].2.2.length rc]) l[k]):=hpv
   have HSr:Hid (SlAt w ra l[k].2.2):=sr
   have HSp:Hid (SlAt w pa l[k].1):=sp
   have c0:=(hb.cell (p:=⟨b,_,none⟩) hbl).trans d0
   have c1:=(hb.cell (p:=⟨b,_,none⟩) hbl).trans d1
   have c2:=(hb.cell (p:=⟨b,_,none⟩) hbl).trans d2
   have hal:Below wr.heap.size wr (wr.alloc (.cells #[.slice pa l[k].1.length pc,.slice oa l[k].2.1.length oc,.slice ra l[k].2.2.length rc] 66)):=(Below.refl _ _).alloc (Nat.le_refl _) _
   have P:=Bk.new wr #[.slice pa l[k].1.length pc,.slice oa l[k].2.1.length oc,.slice ra l[k].2.2.length rc] 66
   have hgk:l.getD k lp0=l[k]:=by simp [List.getD,hlt]
   have hfk:=HFt.out l[k] (List.getElem_mem hlt)
   have HFk:Hid (FitP cols l[k].2.2):=hfk
   have hrl:l[k].2.2.length+gs.length≤8:=by have:=hfk.len; omega
   have hfh:∀ q ∈ aheadL l k,FitP cols q.2.2:=fun q hq=>HFt.out q (aheadL_mem l k hlt q hq)
   have HFh:Hid (∀ q ∈ aheadL l k,FitP cols q.2.2):=hfh
   have hal':=aheadL_len l k
   have EF:Hid (F k=(l[k].2.2 ++ gs.map (fun g=>winT g (aheadL l k) l[k]),1)):=by
    show F k=_
    rw [HF.out]; unfold toldF; rw [hgk]
   have HG:Hid (l.getD k lp0=l[k]):=hgk
   have i0':(0:Int)≤(k:Int):=by omega
   have i1:(k:Int)<(l.length:Int):=by omega
   clear hpv sp so sr d0 d1 d2 hfk hfh hgk
   go_upto_region 6 with fail
   clear c0 c1 c2
   have b0:=chain hb hal
   have ltP:=P.lt
   generalize wr.alloc (.cells #[.slice pa l[k].1.length pc,.slice oa l[k].2.1.length oc,.slice ra l[k].2.2.length rc] 66)=wa at *
   have p0:=past_cell (P.cell 0 rfl)
   haveI:Nonempty (Past wa):=⟨⟨wa,Below.refl _ _⟩⟩
   by_cases hnew:k=0∨(0<k∧¬ cmpL (l.getD (k - 1) lp0).1 l[k].1=0)
   ·have hah:aheadL l k = []:=by
     rcases hnew with rfl | ⟨h1,h2⟩
     ·rfl
     ·obtain ⟨j,rfl⟩:∃ j,k=j+1:=⟨k - 1,by omega⟩
      unfold aheadL
      rw [HG.out]
      rw [if_neg]
      exact h2
    have HAh:Hid (aheadL l k = []):=hah
    clear hah
    rcases hnew with hk0 | ⟨hk0,hc⟩
    rotate_left
    ·-- another part
     obtain ⟨b2,off2,e2,hbl2,⟨qa,qc,e3,sq⟩,_,_⟩:=h.elem (show k - 1<l.length by omega)
     have e2':=Option.some.inj e2
     injection e2' with e4 e5
     subst e4 e5
     have hgq:l.getD (k - 1) lp0=l[k - 1]'(by omega):=by simp [List.getD,show k - 1<l.length by omega]
     have cq:=past_cell ((b0.cell (p:=⟨b,_,none⟩) hbl).trans e3)
     have hkz:((k:Int) == 0)=false:=by simp; omega
     have hk1:IntKind.i64.wrap ((k:Int) - 1)=((k - 1:Nat):Int):=by rw [IntKind.wrap_i64]; omega
     have hk2:(0:Int)≤((k - 1:Nat):Int):=by omega
     have hk3:((k - 1:Nat):Int)<(l.length:Int):=by omega
     have sq1:=sq.next b0
     have sp1:=HSp.out.next b0
     clear e3 sq e2
     have hc':(cmpL l[k - 1].1 l[k].1 != 0)=true:=by rw [← hgq]; simpa using hc
     clear hc hgq
     refine wp_region_past (by kernel_rfl) (by kernel_rfl) ?_
     repeat (go_big_quiet_step (first | (go_at_call 62; exact in_past (rows_at _ _ _ _ _ _ _ (sq1.next (Past.ok _)) (sp1.next (Past.ok _))))))
     refine wpQuiet_nil ?_
     rintro w3 ⟨⟨v3,hb3⟩,h3⟩
     obtain rfl:w3=v3:=h3
     clear cq p0 hc' sq1 sp1
     have P:=P.next hb3
     have b3:=chain b0 hb3
     obtain ⟨lo9,hi9,N,_⟩:=HK
     have hwr:w.heap.size<wr.heap.size:=N.lt
     have N:=(N.next hal).next hb3
     have con:=HD.out w w3 (Since.refl _ _) b3
     go_upto_region 8 with (first | (refine con.mono ?_; rintro e wx ⟨tg,tcb,lo,hi',I,rfl,hlo,tl,hI,hb4⟩) | (go_at_fn ug; refine con.mono ?_; rintro e wx ⟨tg,tcb,lo,hi',I,rfl,hlo,tl,hI,hb4⟩))
     clear con
     have P:=P.next hb4
     have bx:=chain b3 hb4
     have hBlo:w.heap.size<lo:=by have:=b3.size; have:=N.lt; omega
     have N:=(N.move lo hi' hlo).next hb4
     have hpb:wr.heap.size<lo∨hi'≤wr.heap.size:=.inl (by have:=P.lt; have:=hb3.size; have:=hb4.size; omega)
     rw [← HAh.out] at hI
     have hCC:∀ X X':World,Bk X wr.heap.size #[.slice pa l[k].1.length pc,.slice oa l[k].2.1.length oc,.slice ra l[k].2.2.length rc] 66→Below X.heap.size X X'→Bk X' wr.heap.size #[.slice pa l[k].1.length pc,.slice oa l[k].2.1.length oc,.slice ra l[k].2.2.length rc] 66:=fun X X' h hb=>h.next hb
     have hdr:Below wx.heap.size wx wx.drew:=(Below.refl _ _).drew
     have CW:=hCC _ _ P hdr
     refine wp_region_cls (fun X=>Bk X wr.heap.size #[.slice pa l[k].1.length pc,.slice oa l[k].2.1.length oc,.slice ra l[k].2.2.length rc] 66) (by kernel_rfl) ?_
     refine wpY_take hCC (some 35) (i:=0) (v:=.slice (some ⟨w.heap.size,0,none⟩) l.length l.length) rfl rfl (by kernel_rfl) (by kernel_rfl) (by kernel_rfl) (fun _ _ _ h=>h) (Or.inl ⟨rfl,fun nn hn=>?_⟩) CW ?_
     ·go_simp
     simp only [Act.put,pA,pB,pC]
     refine wpY_take hCC (some 36) (i:=1) (v:=.int .i64 k) rfl rfl (by kernel_rfl) (by kernel_rfl) (by kernel_rfl) (fun _ _ _ h=>h) (Or.inl ⟨rfl,fun nn hn=>?_⟩) CW ?_
     ·go_simp
     simp only [Act.put,pA,pB,pC]
     refine wpY_take hCC (some 37) (i:=2) (v:=.pointer (some ⟨wr.heap.size,2,none⟩)) rfl rfl (by kernel_rfl) (by kernel_rfl) (by kernel_rfl) (fun _ _ _ h=>h) (Or.inl ⟨rfl,fun nn hn=>?_⟩) CW ?_
     ·go_simp
     simp only [Act.put,pA,pB,pC]
     refine wpY_take hCC (some 38) (i:=3) (v:=.slice ra l[k].2.2.length rc) rfl rfl (by kernel_rfl) (by kernel_rfl) (by kernel_rfl) (fun _ _ _ h=>h) (Or.inl ⟨rfl,fun nn hn=>?_⟩) CW ?_
     ·have c2:=hn.cell 2 rfl
      go_simp
     simp only [Act.put,pA,pB,pC]
     refine wpY_take hCC (some 39) (i:=4) (v:=.func (.func tg) #[] tcb) rfl rfl (by kernel_rfl) (by kernel_rfl) (by kernel_rfl) (fun _ _ _ h=>h) (Or.inl ⟨rfl,fun nn hn=>?_⟩) CW ?_
     ·go_simp
     simp only [Act.put,pA,pB,pC]
     refine wpY_take hCC (some 40) (i:=5) (v:=.agg #[.slice pa l[k].1.length pc,.slice oa l[k].2.1.length oc,.slice ra l[k].2.2.length rc]) rfl rfl (by kernel_rfl) (by kernel_rfl) (by kernel_rfl) (fun _ _ _ h=>h) (Or.inl ⟨rfl,fun nn hn=>?_⟩) CW ?_
     ·have c0:=hn.cell 0 rfl
      have c1:=hn.cell 1 rfl
      have c2:=hn.cell 2 rfl
      go_simp
     simp only [Act.put,pA,pB,pC]
     refine wpY_step (rs:=[6]) (by kernel_rfl) (by simp) ?_
     intro w7 hb7 jj hj
     obtain rfl:jj=6:=by simpa using hj
     clear hj
     have D7:=chain hdr hb7
     have CW7:=hCC _ _ CW hb7
     have B7:=chain bx D7
     have hI7:=tl.next _ _ _ hI D7.size (fun j _ hj=>D7.block j (Nat.lt_of_lt_of_le hj (tl.lt _ _ hI)))
     have con:=tl.call (aheadL l k) l[k] (.agg #[.slice pa l[k].1.length pc,.slice oa l[k].2.1.length oc,.slice ra l[k].2.2.length rc]) w7 hI7 (by omega) HFh.out HFk.out HPV.out B7
     have ent:=tl.enter
     refine wpOp_step rfl (fun K hK=>?_)
     go_simp
     first | (refine con.mono ?_) | (go_at_fn tg; refine con.mono ?_)
     rintro e w8 ⟨Bn,rfl,hBn,S8,hI8,k8⟩
     have N8:=(N.next D7).keep k8 hBlo
     have CW8:=CW7.keep k8 hpb
     have B8:Below w.heap.size w w8:=B7.trans (k8.below tl.lo B7.size)
     have lt8:=tl.lt _ _ hI8
     refine hK _ _ ⟨CW8,?_⟩
     clear hK K con ent hI7 CW7 CW N
     refine wpY_step (rs:=[7]) (by kernel_rfl) (by simp) ?_
     intro w9 hb9 jj hj
     obtain rfl:jj=7:=by simpa using hj
     clear hj
     refine wpOp_step rfl (fun K hK=>?_)
     go_simp
     have CW9:=hCC _ _ CW8 hb9
     have B9:=chain B8 hb9
     have R2:=raw_vals (S8.next hb9)
     have hgm:(gs.map fun g=>winT g (aheadL l k) l[k]).length=gs.length:=by simp
     rw [hgm] at R2
     have PC:=PairC.new rc gs.length (raw_vals (HSr.out.next B9)) R2 31
     have halA:Below w9.heap.size w9 (w9.alloc (.cells #[.slice ra l[k].2.2.length rc,.slice (some ⟨Bn,0,none⟩) gs.length gs.length] 31)):=(Below.refl _ _).alloc (Nat.le_refl _) _
     have CWA:=hCC _ _ CW9 halA
     have DA:=chain hb9 halA
     refine hK _ _ ⟨CWA,?_⟩
     clear hK K R2 hgm CW9 CW8
     generalize w9.alloc (.cells #[.slice ra l[k].2.2.length rc,.slice (some ⟨Bn,0,none⟩) gs.length gs.length] 31)=wA at *
     (try simp only [Act.put,pA,pB,pC])
     refine wpY_step (rs:=[8]) (by kernel_rfl) (by simp) ?_
     intro wB hbB jj hj
     obtain rfl:jj=8:=by simpa using hj
     clear hj
     refine wpOp_step rfl (fun K hK=>?_)
     have CWB:=hCC _ _ CWA hbB
     have DB:=chain DA hbB
     have con:=concatV_at w9.heap.size _ _ _ _ wB (PC.next hbB) (by omega)
     go_simp
     refine con.mono ?_
     rintro e wC ⟨vC,rfl,OC,hbC⟩
     rw [← flatV_append] at OC
     have hown:=OC
     obtain ⟨aC,cC,rfl,SC,TC,_⟩:=own_vals OC (by simp)
     have aptC:Apt lo hi' aC:=fun g off e=>by
      subst e
      have hge:wB.heap.size≤g:=(hown.lt g rfl).1
      have z1:=hb9.size
      have z2:=DB.size
      exact .inr (by omega)
     have CWC:=hCC _ _ CWB hbC
     have DC:=chain DB hbC
     refine hK _ _ ⟨CWC,?_⟩
     clear hK K OC PC CWA CWB con hown
     obtain ⟨rr,err⟩:∃ rr,rr=l[k].2.2 ++ gs.map fun g=>winT g (aheadL l k) l[k]:=⟨_,rfl⟩
     rw [← err] at SC ⊢
     have EFr:Hid (F k=(rr,1)):=by show _=_; rw [err]; exact EF.out
     clear err EF
     (try simp only [Act.put,pA,pB,pC])
     refine wpY_take hCC (some 44) (i:=9) (v:=.agg #[.slice aC rr.length cC,.int .i64 1]) rfl rfl (by kernel_rfl) (by kernel_rfl) (by kernel_rfl) (fun _ _ _ h=>h) (Or.inl ⟨rfl,fun nn hn=>?_⟩) CWC ?_
     ·go_simp
     simp only [Act.put,pA,pB,pC]
     refine wpY_take hCC (some 45) (i:=10) (v:=.pointer (some ⟨w.heap.size,k*2,none⟩)) rfl rfl (by kernel_rfl) (by kernel_rfl) (by kernel_rfl) (fun _ _ _ h=>h) (Or.inl ⟨rfl,fun nn hn=>?_⟩) CWC ?_
     ·go_simp
     simp only [Act.put,pA,pB,pC]
     refine wpY_step (rs:=[11]) (by kernel_rfl) (by simp) ?_
     intro wD hbD jj hj
     obtain rfl:jj=11:=by simpa using hj
     clear hj
     have CWD:=hCC _ _ CWC hbD
     have DD:=chain DC hbD
     have ND:=N8.next DD
     obtain ⟨⟨u0,u1,d0,d1⟩,f0,f1,hlb⟩:=ND.mto.cells hlt
     have MS:=ND.step hlt (a:=aC) (cap:=cC) (by rw [EFr.out]; exact SC.next hbD) (TC.next hbD) aptC
     rw [EFr.out] at MS
     have hne:wr.heap.size≠w.heap.size:=by omega
     have CWE:Bk ((wD.setCell ⟨w.heap.size,k*2,none⟩ (.slice aC rr.length cC)).setCell ⟨w.heap.size,k*2+1,none⟩ (.int .i64 1)) wr.heap.size #[.slice pa l[k].1.length pc,.slice oa l[k].2.1.length oc,.slice ra l[k].2.2.length rc] 66:=(Below.heap_setCell _ _ _ _ hne).trans ((Below.heap_setCell _ _ _ _ hne).trans CWD)
     have BE:Below w.heap.size w ((wD.setCell ⟨w.heap.size,k*2,none⟩ (.slice aC rr.length cC)).setCell ⟨w.heap.size,k*2+1,none⟩ (.int .i64 1)):=((chain B8 DD).setCell (p:=⟨w.heap.size,k*2,none⟩) (Nat.le_refl _) _).setCell (p:=⟨w.heap.size,k*2+1,none⟩) (Nat.le_refl _) _
     have hID:=tl.next _ _ _ hI8 DD.size (fun j _ hj=>DD.block j (Nat.lt_of_lt_of_le hj lt8))
     have hIE:=tl.next _ _ ((wD.setCell ⟨w.heap.size,k*2,none⟩ (.slice aC rr.length cC)).setCell ⟨w.heap.size,k*2+1,none⟩ (.int .i64 1)) hID (by simp [World.setCell]) (fun j hj _=>(Below.heap_setCell _ _ _ _ (show j≠w.heap.size by omega)).trans (Below.heap_setCell _ _ _ _ (show j≠w.heap.size by omega)))
     refine wpOp_step rfl (fun K hK=>?_)
     go_simp
     refine hK _ _ ⟨CWE,?_⟩
     clear hK K CWD CWC d0 d1 f0 f1 ND SC TC hI8 hID hlb
     generalize (wD.setCell ⟨w.heap.size,k*2,none⟩ (.slice aC rr.length cC)).setCell ⟨w.heap.size,k*2+1,none⟩ (.int .i64 1)=wE at *
     refine wpY_done (by kernel_rfl) ?_
     intro wF hbF
     have MF:=MS.next hbF
     have BF:=chain BE hbF
     have hIF:=tl.next _ _ _ hIE hbF.size (fun j _ hj=>hbF.block j (Nat.lt_of_lt_of_le hj (tl.lt _ _ hIE)))
     have HE:Hid (TellE cols w gs w.heap.size l.length F (k+1) (.func (.func tg) #[] tcb) ((l.getD (k+1 - 1) lp0) :: aheadL l (k+1 - 1)) wF):=by
      refine ⟨lo,hi',MF,.inr ⟨hBlo,tg,tcb,I,rfl,tl,?_⟩⟩
      rw [Nat.add_sub_cancel,HG.out]; exact hIF
     clear MS BE CWE hCC hIE MF hIF
     go_wp2_with fail
     go_roundw
     case rel=>exact ⟨k+1,by omega,by go_num,HE.out,BF⟩
     case measure=>simp [intOf]; omega
    ·-- the first row
     have hkz:((k:Int) == 0)=true:=by simp [hk0]
     clear hk0
     refine wp_region_past (by kernel_rfl) (by kernel_rfl) ?_
     repeat (go_big_quiet_step (fail))
     refine wpQuiet_nil ?_
     rintro w3 ⟨⟨v3,hb3⟩,h3⟩
     obtain rfl:w3=v3:=h3
     clear p0
     have P:=P.next hb3
     have b3:=chain b0 hb3
     obtain ⟨lo9,hi9,N,_⟩:=HK
     have hwr:w.heap.size<wr.heap.size:=N.lt
     have N:=(N.next hal).next hb3
     have con:=HD.out w w3 (Since.refl _ _) b3
     go_upto_region 8 with (first | (refine con.mono ?_; rintro e wx ⟨tg,tcb,lo,hi',I,rfl,hlo,tl,hI,hb4⟩) | (go_at_fn ug; refine con.mono ?_; rintro e wx ⟨tg,tcb,lo,hi',I,rfl,hlo,tl,hI,hb4⟩))
     clear con
     have P:=P.next hb4
     have bx:=chain b3 hb4
     have hBlo:w.heap.size<lo:=by have:=b3.size; have:=N.lt; omega
     have N:=(N.move lo hi' hlo).next hb4
     have hpb:wr.heap.size<lo∨hi'≤wr.heap.size:=.inl (by have:=P.lt; have:=hb3.size; have:=hb4.size; omega)
     rw [← HAh.out] at hI
     have hCC:∀ X X':World,Bk X wr.heap.size #[.slice pa l[k].1.length pc,.slice oa l[k].2.1.length oc,.slice ra l[k].2.2.length rc] 66→Below X.heap.size X X'→Bk X' wr.heap.size #[.slice pa l[k].1.length pc,.slice oa l[k].2.1.length oc,.slice ra l[k].2.2.length rc] 66:=fun X X' h hb=>h.next hb
     have hdr:Below wx.heap.size wx wx.drew:=(Below.refl _ _).drew
     have CW:=hCC _ _ P hdr
     refine wp_region_cls (fun X=>Bk X wr.heap.size #[.slice pa l[k].1.length pc,.slice oa l[k].2.1.length oc,.slice ra l[k].2.2.length rc] 66) (by kernel_rfl) ?_
     refine wpY_take hCC (some 35) (i:=0) (v:=.slice (some ⟨w.heap.size,0,none⟩) l.length l.length) rfl rfl (by kernel_rfl) (by kernel_rfl) (by kernel_rfl) (fun _ _ _ h=>h) (Or.inl ⟨rfl,fun nn hn=>?_⟩) CW ?_
     ·go_simp
     simp only [Act.put,pA,pB,pC]
     refine wpY_take hCC (some 36) (i:=1) (v:=.int .i64 k) rfl rfl (by kernel_rfl) (by kernel_rfl) (by kernel_rfl) (fun _ _ _ h=>h) (Or.inl ⟨rfl,fun nn hn=>?_⟩) CW ?_
     ·go_simp
     simp only [Act.put,pA,pB,pC]
     refine wpY_take hCC (some 37) (i:=2) (v:=.pointer (some ⟨wr.heap.size,2,none⟩)) rfl rfl (by kernel_rfl) (by kernel_rfl) (by kernel_rfl) (fun _ _ _ h=>h) (Or.inl ⟨rfl,fun nn hn=>?_⟩) CW ?_
     ·go_simp
     simp only [Act.put,pA,pB,pC]
     refine wpY_take hCC (some 38) (i:=3) (v:=.slice ra l[k].2.2.length rc) rfl rfl (by kernel_rfl) (by kernel_rfl) (by kernel_rfl) (fun _ _ _ h=>h) (Or.inl ⟨rfl,fun nn hn=>?_⟩) CW ?_
     ·have c2:=hn.cell 2 rfl
      go_simp
     simp only [Act.put,pA,pB,pC]
     refine wpY_take hCC (some 39) (i:=4) (v:=.func (.func tg) #[] tcb) rfl rfl (by kernel_rfl) (by kernel_rfl) (by kernel_rfl) (fun _ _ _ h=>h) (Or.inl ⟨rfl,fun nn hn=>?_⟩) CW ?_
     ·go_simp
     simp only [Act.put,pA,pB,pC]
     refine wpY_take hCC (some 40) (i:=5) (v:=.agg #[.slice pa l[k].1.length pc,.slice oa l[k].2.1.length oc,.slice ra l[k].2.2.length rc]) rfl rfl (by kernel_rfl) (by kernel_rfl) (by kernel_rfl) (fun _ _ _ h=>h) (Or.inl ⟨rfl,fun nn hn=>?_⟩) CW ?_
     ·have c0:=hn.cell 0 rfl
      have c1:=hn.cell 1 rfl
      have c2:=hn.cell 2 rfl
      go_simp
     simp only [Act.put,pA,pB,pC]
     refine wpY_step (rs:=[6]) (by kernel_rfl) (by simp) ?_
     intro w7 hb7 jj hj
     obtain rfl:jj=6:=by simpa using hj
     clear hj
     have D7:=chain hdr hb7
     have CW7:=hCC _ _ CW hb7
     have B7:=chain bx D7
     have hI7:=tl.next _ _ _ hI D7.size (fun j _ hj=>D7.block j (Nat.lt_of_lt_of_le hj (tl.lt _ _ hI)))
     have con:=tl.call (aheadL l k) l[k] (.agg #[.slice pa l[k].1.length pc,.slice oa l[k].2.1.length oc,.slice ra l[k].2.2.length rc]) w7 hI7 (by omega) HFh.out HFk.out HPV.out B7
     have ent:=tl.enter
     refine wpOp_step rfl (fun K hK=>?_)
     go_simp
     first | (refine con.mono ?_) | (go_at_fn tg; refine con.mono ?_)
     rintro e w8 ⟨Bn,rfl,hBn,S8,hI8,k8⟩
     have N8:=(N.next D7).keep k8 hBlo
     have CW8:=CW7.keep k8 hpb
     have B8:Below w.heap.size w w8:=B7.trans (k8.below tl.lo B7.size)
     have lt8:=tl.lt _ _ hI8
     refine hK _ _ ⟨CW8,?_⟩
     clear hK K con ent hI7 CW7 CW N
     refine wpY_step (rs:=[7]) (by kernel_rfl) (by simp) ?_
     intro w9 hb9 jj hj
     obtain rfl:jj=7:=by simpa using hj
     clear hj
     refine wpOp_step rfl (fun K hK=>?_)
     go_simp
     have CW9:=hCC _ _ CW8 hb9
     have B9:=chain B8 hb9
     have R2:=raw_vals (S8.next hb9)
     have hgm:(gs.map fun g=>winT g (aheadL l k) l[k]).length=gs.length:=by simp
     rw [hgm] at R2
     have PC:=PairC.new rc gs.length (raw_vals (HSr.out.next B9)) R2 31
     have halA:Below w9.heap.size w9 (w9.alloc (.cells #[.slice ra l[k].2.2.length rc,.slice (some ⟨Bn,0,none⟩) gs.length gs.length] 31)):=(Below.refl _ _).alloc (Nat.le_refl _) _
     have CWA:=hCC _ _ CW9 halA
     have DA:=chain hb9 halA
     refine hK _ _ ⟨CWA,?_⟩
     clear hK K R2 hgm CW9 CW8
     generalize w9.alloc (.cells #[.slice ra l[k].2.2.length rc,.slice (some ⟨Bn,0,none⟩) gs.length gs.length] 31)=wA at *
     (try simp only [Act.put,pA,pB,pC])
     refine wpY_step (rs:=[8]) (by kernel_rfl) (by simp) ?_
     intro wB hbB jj hj
     obtain rfl:jj=8:=by simpa using hj
     clear hj
     refine wpOp_step rfl (fun K hK=>?_)
     have CWB:=hCC _ _ CWA hbB
     have DB:=chain DA hbB
     have con:=concatV_at w9.heap.size _ _ _ _ wB (PC.next hbB) (by omega)
     go_simp
     refine con.mono ?_
     rintro e wC ⟨vC,rfl,OC,hbC⟩
     rw [← flatV_append] at OC
     have hown:=OC
     obtain ⟨aC,cC,rfl,SC,TC,_⟩:=own_vals OC (by simp)
     have aptC:Apt lo hi' aC:=fun g off e=>by
      subst e
      have hge:wB.heap.size≤g:=(hown.lt g rfl).1
      have z1:=hb9.size
      have z2:=DB.size
      exact .inr (by omega)
     have CWC:=hCC _ _ CWB hbC
     have DC:=chain DB hbC
     refine hK _ _ ⟨CWC,?_⟩
     clear hK K OC PC CWA CWB con hown
     obtain ⟨rr,err⟩:∃ rr,rr=l[k].2.2 ++ gs.map fun g=>winT g (aheadL l k) l[k]:=⟨_,rfl⟩
     rw [← err] at SC ⊢
     have EFr:Hid (F k=(rr,1)):=by show _=_; rw [err]; exact EF.out
     clear err EF
     (try simp only [Act.put,pA,pB,pC])
     refine wpY_take hCC (some 44) (i:=9) (v:=.agg #[.slice aC rr.length cC,.int .i64 1]) rfl rfl (by kernel_rfl) (by kernel_rfl) (by kernel_rfl) (fun _ _ _ h=>h) (Or.inl ⟨rfl,fun nn hn=>?_⟩) CWC ?_
     ·go_simp
     simp only [Act.put,pA,pB,pC]
     refine wpY_take hCC (some 45) (i:=10) (v:=.pointer (some ⟨w.heap.size,k*2,none⟩)) rfl rfl (by kernel_rfl) (by kernel_rfl) (by kernel_rfl) (fun _ _ _ h=>h) (Or.inl ⟨rfl,fun nn hn=>?_⟩) CWC ?_
     ·go_simp
     simp only [Act.put,pA,pB,pC]
     refine wpY_step (rs:=[11]) (by kernel_rfl) (by simp) ?_
     intro wD hbD jj hj
     obtain rfl:jj=11:=by simpa using hj
     clear hj
     have CWD:=hCC _ _ CWC hbD
     have DD:=chain DC hbD
     have ND:=N8.next DD
     obtain ⟨⟨u0,u1,d0,d1⟩,f0,f1,hlb⟩:=ND.mto.cells hlt
     have MS:=ND.step hlt (a:=aC) (cap:=cC) (by rw [EFr.out]; exact SC.next hbD) (TC.next hbD) aptC
     rw [EFr.out] at MS
     have hne:wr.heap.size≠w.heap.size:=by omega
     have CWE:Bk ((wD.setCell ⟨w.heap.size,k*2,none⟩ (.slice aC rr.length cC)).setCell ⟨w.heap.size,k*2+1,none⟩ (.int .i64 1)) wr.heap.size #[.slice pa l[k].1.length pc,.slice oa l[k].2.1.length oc,.slice ra l[k].2.2.length rc] 66:=(Below.heap_setCell _ _ _ _ hne).trans ((Below.heap_setCell _ _ _ _ hne).trans CWD)
     have BE:Below w.heap.size w ((wD.setCell ⟨w.heap.size,k*2,none⟩ (.slice aC rr.length cC)).setCell ⟨w.heap.size,k*2+1,none⟩ (.int .i64 1)):=((chain B8 DD).setCell (p:=⟨w.heap.size,k*2,none⟩) (Nat.le_refl _) _).setCell (p:=⟨w.heap.size,k*2+1,none⟩) (Nat.le_refl _) _
     have hID:=tl.next _ _ _ hI8 DD.size (fun j _ hj=>DD.block j (Nat.lt_of_lt_of_le hj lt8))
     have hIE:=tl.next _ _ ((wD.setCell ⟨w.heap.size,k*2,none⟩ (.slice aC rr.length cC)).setCell ⟨w.heap.size,k*2+1,none⟩ (.int .i64 1)) hID (by simp [World.setCell]) (fun j hj _=>(Below.heap_setCell _ _ _ _ (show j≠w.heap.size by omega)).trans (Below.heap_setCell _ _ _ _ (show j≠w.heap.size by omega)))
     refine wpOp_step rfl (fun K hK=>?_)
     go_simp
     refine hK _ _ ⟨CWE,?_⟩
     clear hK K CWD CWC d0 d1 f0 f1 ND SC TC hI8 hID hlb
     generalize (wD.setCell ⟨w.heap.size,k*2,none⟩ (.slice aC rr.length cC)).setCell ⟨w.heap.size,k*2+1,none⟩ (.int .i64 1)=wE at *
     refine wpY_done (by kernel_rfl) ?_
     intro wF hbF
     have MF:=MS.next hbF
     have BF:=chain BE hbF
     have hIF:=tl.next _ _ _ hIE hbF.size (fun j _ hj=>hbF.block j (Nat.lt_of_lt_of_le hj (tl.lt _ _ hIE)))
     have HE:Hid (TellE cols w gs w.heap.size l.length F (k+1) (.func (.func tg) #[] tcb) ((l.getD (k+1 - 1) lp0) :: aheadL l (k+1 - 1)) wF):=by
      refine ⟨lo,hi',MF,.inr ⟨hBlo,tg,tcb,I,rfl,tl,?_⟩⟩
      rw [Nat.add_sub_cancel,HG.out]; exact hIF
     clear MS BE CWE hCC hIE MF hIF
     go_wp2_with fail
     go_roundw
     case rel=>exact ⟨k+1,by omega,by go_num,HE.out,BF⟩
     case measure=>simp [intOf]; omega
   ·have hk0:0<k:=by omega
    have hc:cmpL (l.getD (k - 1) lp0).1 l[k].1=0:=by
     by_cases e:cmpL (l.getD (k - 1) lp0).1 l[k].1=0
     ·exact e
     ·exact absurd (.inr ⟨hk0,e⟩) hnew
    have hah:aheadL l k=(l.getD (k - 1) lp0) :: aheadL l (k - 1):=by
     obtain ⟨j,rfl⟩:∃ j,k=j+1:=⟨k - 1,by omega⟩
     rw [aheadL,HG.out,Nat.add_sub_cancel,if_pos]
     simpa using hc
    have HAh:Hid (aheadL l k=(l.getD (k - 1) lp0) :: aheadL l (k - 1)):=hah
    clear hah hnew
    obtain ⟨lo,hi',N,⟨hz,_⟩ | ⟨hBlo,tg,tcb,I,rfl,tl,hI⟩⟩:=HK
    ·omega
    ·rw [← HAh.out] at hI
     have lt0:=tl.lt _ _ hI
     obtain ⟨b2,off2,e2,hbl2,⟨qa,qc,e3,sq⟩,_,_⟩:=h.elem (show k - 1<l.length by omega)
     have e2':=Option.some.inj e2
     injection e2' with e4 e5
     subst e4 e5
     have hgq:l.getD (k - 1) lp0=l[k - 1]'(by omega):=by simp [List.getD,show k - 1<l.length by omega]
     have cq:=past_cell ((b0.cell (p:=⟨b,_,none⟩) hbl).trans e3)
     have hkz:((k:Int) == 0)=false:=by simp; omega
     have hk1:IntKind.i64.wrap ((k:Int) - 1)=((k - 1:Nat):Int):=by rw [IntKind.wrap_i64]; omega
     have hk2:(0:Int)≤((k - 1:Nat):Int):=by omega
     have hk3:((k - 1:Nat):Int)<(l.length:Int):=by omega
     have sq1:=sq.next b0
     have sp1:=HSp.out.next b0
     clear e3 sq e2
     have hc':(cmpL l[k - 1].1 l[k].1 != 0)=false:=by rw [← hgq]; simpa using hc
     clear hc hgq
     refine wp_region_past (by kernel_rfl) (by kernel_rfl) ?_
     repeat (go_big_quiet_step (first | (go_at_call 62; exact in_past (rows_at _ _ _ _ _ _ _ (sq1.next (Past.ok _)) (sp1.next (Past.ok _))))))
     refine wpQuiet_nil ?_
     rintro w3 ⟨⟨v3,hb3⟩,h3⟩
     obtain rfl:w3=v3:=h3
     clear cq p0 hc' sq1 sp1
     have DD0:=chain hal hb3
     have P:=P.next hb3
     have bx:=chain b0 hb3
     have hwr:w.heap.size<wr.heap.size:=N.lt
     have N:=N.next DD0
     have hI:=tl.next _ _ _ hI DD0.size (fun j _ hj=>DD0.block j (Nat.lt_of_lt_of_le hj lt0))
     have hpb:wr.heap.size<lo∨hi'≤wr.heap.size:=.inr lt0
     obtain ⟨wx,hwx⟩:∃ wx,wx=w3:=⟨_,rfl⟩
     subst hwx
     go_upto_region 8 with fail
     have hCC:∀ X X':World,Bk X wr.heap.size #[.slice pa l[k].1.length pc,.slice oa l[k].2.1.length oc,.slice ra l[k].2.2.length rc] 66→Below X.heap.size X X'→Bk X' wr.heap.size #[.slice pa l[k].1.length pc,.slice oa l[k].2.1.length oc,.slice ra l[k].2.2.length rc] 66:=fun X X' h hb=>h.next hb
     have hdr:Below wx.heap.size wx wx.drew:=(Below.refl _ _).drew
     have CW:=hCC _ _ P hdr
     refine wp_region_cls (fun X=>Bk X wr.heap.size #[.slice pa l[k].1.length pc,.slice oa l[k].2.1.length oc,.slice ra l[k].2.2.length rc] 66) (by kernel_rfl) ?_
     refine wpY_take hCC (some 35) (i:=0) (v:=.slice (some ⟨w.heap.size,0,none⟩) l.length l.length) rfl rfl (by kernel_rfl) (by kernel_rfl) (by kernel_rfl) (fun _ _ _ h=>h) (Or.inl ⟨rfl,fun nn hn=>?_⟩) CW ?_
     ·go_simp
     simp only [Act.put,pA,pB,pC]
     refine wpY_take hCC (some 36) (i:=1) (v:=.int .i64 k) rfl rfl (by kernel_rfl) (by kernel_rfl) (by kernel_rfl) (fun _ _ _ h=>h) (Or.inl ⟨rfl,fun nn hn=>?_⟩) CW ?_
     ·go_simp
     simp only [Act.put,pA,pB,pC]
     refine wpY_take hCC (some 37) (i:=2) (v:=.pointer (some ⟨wr.heap.size,2,none⟩)) rfl rfl (by kernel_rfl) (by kernel_rfl) (by kernel_rfl) (fun _ _ _ h=>h) (Or.inl ⟨rfl,fun nn hn=>?_⟩) CW ?_
     ·go_simp
     simp only [Act.put,pA,pB,pC]
     refine wpY_take hCC (some 38) (i:=3) (v:=.slice ra l[k].2.2.length rc) rfl rfl (by kernel_rfl) (by kernel_rfl) (by kernel_rfl) (fun _ _ _ h=>h) (Or.inl ⟨rfl,fun nn hn=>?_⟩) CW ?_
     ·have c2:=hn.cell 2 rfl
      go_simp
     simp only [Act.put,pA,pB,pC]
     refine wpY_take hCC (some 39) (i:=4) (v:=.func (.func tg) #[] tcb) rfl rfl (by kernel_rfl) (by kernel_rfl) (by kernel_rfl) (fun _ _ _ h=>h) (Or.inl ⟨rfl,fun nn hn=>?_⟩) CW ?_
     ·go_simp
     simp only [Act.put,pA,pB,pC]
     refine wpY_take hCC (some 40) (i:=5) (v:=.agg #[.slice pa l[k].1.length pc,.slice oa l[k].2.1.length oc,.slice ra l[k].2.2.length rc]) rfl rfl (by kernel_rfl) (by kernel_rfl) (by kernel_rfl) (fun _ _ _ h=>h) (Or.inl ⟨rfl,fun nn hn=>?_⟩) CW ?_
     ·have c0:=hn.cell 0 rfl
      have c1:=hn.cell 1 rfl
      have c2:=hn.cell 2 rfl
      go_simp
     simp only [Act.put,pA,pB,pC]
     refine wpY_step (rs:=[6]) (by kernel_rfl) (by simp) ?_
     intro w7 hb7 jj hj
     obtain rfl:jj=6:=by simpa using hj
     clear hj
     have D7:=chain hdr hb7
     have CW7:=hCC _ _ CW hb7
     have B7:=chain bx D7
     have hI7:=tl.next _ _ _ hI D7.size (fun j _ hj=>D7.block j (Nat.lt_of_lt_of_le hj (tl.lt _ _ hI)))
     have con:=tl.call (aheadL l k) l[k] (.agg #[.slice pa l[k].1.length pc,.slice oa l[k].2.1.length oc,.slice ra l[k].2.2.length rc]) w7 hI7 (by omega) HFh.out HFk.out HPV.out B7
     have ent:=tl.enter
     refine wpOp_step rfl (fun K hK=>?_)
     go_simp
     first | (refine con.mono ?_) | (go_at_fn tg; refine con.mono ?_)
     rintro e w8 ⟨Bn,rfl,hBn,S8,hI8,k8⟩
     have N8:=(N.next D7).keep k8 hBlo
     have CW8:=CW7.keep k8 hpb
     have B8:Below w.heap.size w w8:=B7.trans (k8.below tl.lo B7.size)
     have lt8:=tl.lt _ _ hI8
     refine hK _ _ ⟨CW8,?_⟩
     clear hK K con ent hI7 CW7 CW N
     refine wpY_step (rs:=[7]) (by kernel_rfl) (by simp) ?_
     intro w9 hb9 jj hj
     obtain rfl:jj=7:=by simpa using hj
     clear hj
     refine wpOp_step rfl (fun K hK=>?_)
     go_simp
     have CW9:=hCC _ _ CW8 hb9
     have B9:=chain B8 hb9
     have R2:=raw_vals (S8.next hb9)
     have hgm:(gs.map fun g=>winT g (aheadL l k) l[k]).length=gs.length:=by simp
     rw [hgm] at R2
     have PC:=PairC.new rc gs.length (raw_vals (HSr.out.next B9)) R2 31
     have halA:Below w9.heap.size w9 (w9.alloc (.cells #[.slice ra l[k].2.2.length rc,.slice (some ⟨Bn,0,none⟩) gs.length gs.length] 31)):=(Below.refl _ _).alloc (Nat.le_refl _) _
     have CWA:=hCC _ _ CW9 halA
     have DA:=chain hb9 halA
     refine hK _ _ ⟨CWA,?_⟩
     clear hK K R2 hgm CW9 CW8
     generalize w9.alloc (.cells #[.slice ra l[k].2.2.length rc,.slice (some ⟨Bn,0,none⟩) gs.length gs.length] 31)=wA at *
     (try simp only [Act.put,pA,pB,pC])
     refine wpY_step (rs:=[8]) (by kernel_rfl) (by simp) ?_
     intro wB hbB jj hj
     obtain rfl:jj=8:=by simpa using hj
     clear hj
     refine wpOp_step rfl (fun K hK=>?_)
     have CWB:=hCC _ _ CWA hbB
     have DB:=chain DA hbB
     have con:=concatV_at w9.heap.size _ _ _ _ wB (PC.next hbB) (by omega)
     go_simp
     refine con.mono ?_
     rintro e wC ⟨vC,rfl,OC,hbC⟩
     rw [← flatV_append] at OC
     have hown:=OC
     obtain ⟨aC,cC,rfl,SC,TC,_⟩:=own_vals OC (by simp)
     have aptC:Apt lo hi' aC:=fun g off e=>by
      subst e
      have hge:wB.heap.size≤g:=(hown.lt g rfl).1
      have z1:=hb9.size
      have z2:=DB.size
      exact .inr (by omega)
     have CWC:=hCC _ _ CWB hbC
     have DC:=chain DB hbC
     refine hK _ _ ⟨CWC,?_⟩
     clear hK K OC PC CWA CWB con hown
     obtain ⟨rr,err⟩:∃ rr,rr=l[k].2.2 ++ gs.map fun g=>winT g (aheadL l k) l[k]:=⟨_,rfl⟩
     rw [← err] at SC ⊢
     have EFr:Hid (F k=(rr,1)):=by show _=_; rw [err]; exact EF.out
     clear err EF
     (try simp only [Act.put,pA,pB,pC])
     refine wpY_take hCC (some 44) (i:=9) (v:=.agg #[.slice aC rr.length cC,.int .i64 1]) rfl rfl (by kernel_rfl) (by kernel_rfl) (by kernel_rfl) (fun _ _ _ h=>h) (Or.inl ⟨rfl,fun nn hn=>?_⟩) CWC ?_
     ·go_simp
     simp only [Act.put,pA,pB,pC]
     refine wpY_take hCC (some 45) (i:=10) (v:=.pointer (some ⟨w.heap.size,k*2,none⟩)) rfl rfl (by kernel_rfl) (by kernel_rfl) (by kernel_rfl) (fun _ _ _ h=>h) (Or.inl ⟨rfl,fun nn hn=>?_⟩) CWC ?_
     ·go_simp
     simp only [Act.put,pA,pB,pC]
     refine wpY_step (rs:=[11]) (by kernel_rfl) (by simp) ?_
     intro wD hbD jj hj
     obtain rfl:jj=11:=by simpa using hj
     clear hj
     have CWD:=hCC _ _ CWC hbD
     have DD:=chain DC hbD
     have ND:=N8.next DD
     obtain ⟨⟨u0,u1,d0,d1⟩,f0,f1,hlb⟩:=ND.mto.cells hlt
     have MS:=ND.step hlt (a:=aC) (cap:=cC) (by rw [EFr.out]; exact SC.next hbD) (TC.next hbD) aptC
     rw [EFr.out] at MS
     have hne:wr.heap.size≠w.heap.size:=by omega
     have CWE:Bk ((wD.setCell ⟨w.heap.size,k*2,none⟩ (.slice aC rr.length cC)).setCell ⟨w.heap.size,k*2+1,none⟩ (.int .i64 1)) wr.heap.size #[.slice pa l[k].1.length pc,.slice oa l[k].2.1.length oc,.slice ra l[k].2.2.length rc] 66:=(Below.heap_setCell _ _ _ _ hne).trans ((Below.heap_setCell _ _ _ _ hne).trans CWD)
     have BE:Below w.heap.size w ((wD.setCell ⟨w.heap.size,k*2,none⟩ (.slice aC rr.length cC)).setCell ⟨w.heap.size,k*2+1,none⟩ (.int .i64 1)):=((chain B8 DD).setCell (p:=⟨w.heap.size,k*2,none⟩) (Nat.le_refl _) _).setCell (p:=⟨w.heap.size,k*2+1,none⟩) (Nat.le_refl _) _
     have hID:=tl.next _ _ _ hI8 DD.size (fun j _ hj=>DD.block j (Nat.lt_of_lt_of_le hj lt8))
     have hIE:=tl.next _ _ ((wD.setCell ⟨w.heap.size,k*2,none⟩ (.slice aC rr.length cC)).setCell ⟨w.heap.size,k*2+1,none⟩ (.int .i64 1)) hID (by simp [World.setCell]) (fun j hj _=>(Below.heap_setCell _ _ _ _ (show j≠w.heap.size by omega)).trans (Below.heap_setCell _ _ _ _ (show j≠w.heap.size by omega)))
     refine wpOp_step rfl (fun K hK=>?_)
     go_simp
     refine hK _ _ ⟨CWE,?_⟩
     clear hK K CWD CWC d0 d1 f0 f1 ND SC TC hI8 hID hlb
     generalize (wD.setCell ⟨w.heap.size,k*2,none⟩ (.slice aC rr.length cC)).setCell ⟨w.heap.size,k*2+1,none⟩ (.int .i64 1)=wE at *
     refine wpY_done (by kernel_rfl) ?_
     intro wF hbF
     have MF:=MS.next hbF
     have BF:=chain BE hbF
     have hIF:=tl.next _ _ _ hIE hbF.size (fun j _ hj=>hbF.block j (Nat.lt_of_lt_of_le hj (tl.lt _ _ hIE)))
     have HE:Hid (TellE cols w gs w.heap.size l.length F (k+1) (.func (.func tg) #[] tcb) ((l.getD (k+1 - 1) lp0) :: aheadL l (k+1 - 1)) wF):=by
      refine ⟨lo,hi',MF,.inr ⟨hBlo,tg,tcb,I,rfl,tl,?_⟩⟩
      rw [Nat.add_sub_cancel,HG.out]; exact hIF
     clear MS BE CWE hCC hIE MF hIF
     go_wp2_with fail
     go_roundw
     case rel=>exact ⟨k+1,by omega,by go_num,HE.out,BF⟩
     case measure=>simp [intOf]; omega
  ·have e:k=l.length:=by omega
   subst e
   obtain ⟨lo,hi',N,_⟩:=HK
   have zsm:=N.mto.done (toldL gs l) (toldL_len gs l).symm (fun j hj=>by rw [HF.out]; simp [toldL]) (by rw [toldL_len]; omega)
   go_wp2_with fail
   go_ret
   exact ⟨_,rfl,zsm,hb⟩
end Go.Proofs.YtcnmpiahcnkndaaGreat
/- window.Window. -/
namespace Go.Proofs.YtcnmpiahcnkndaaGreat
open Go.RowKit Go.Lib Go.Shelf

set_option maxRecDepth 100000 in
set_option maxHeartbeats 1000000 in
theorem countW_at (a:Option Addr) (cap:Nat) (l:List Zp) (w:World) (h:ZsAt w a l) (hl:l.length≤400) (hw:∀ x ∈ l,inW x.2=true) :
  Calls Tryz.prog 23 #[.slice a l.length cap] w fun e w'=>e = .returned (.int .i64 (cntP l:Int))∧Below w.heap.size w w':=by
 have HW:Hid (∀ x ∈ l,inW x.2=true):=hw
 generalize hc:cntP l=c
 have HC:Hid (cntP l=c):=hc
 clear hw hc
 go_enter Tryz.func23,Tryz.ntmps23
 go_wp2_with fail
 go_loopw [3,8] (fun s i wr=>∃ (k:Nat) (n:Nat),k≤l.length∧i = .int .i64 k∧s = .int .i64 n∧n≤k*1000000∧Hid (c=n+cntP (l.drop k))∧Below w.heap.size w wr) (fun _ i _=>l.length - (intOf i).toNat)
 case atStart=>exact ⟨0,0,Nat.zero_le _,rfl,rfl,Nat.zero_le _,by show c=_; rw [List.drop_zero,HC.out,Nat.zero_add],Below.refl _ _⟩
 case round =>
  obtain ⟨k,n,hk,rfl,rfl,hn,HN,hb⟩:=hrel
  by_cases hlt:k<l.length
  ·obtain ⟨b,off,rfl,hbl,d1,ra,rc,d0,sr⟩:=h.elem hlt
   have c1':=(hb.cell (p:=⟨b,_,none⟩) hbl).trans d1
   have c0':=(hb.cell (p:=⟨b,_,none⟩) hbl).trans d0
   have hal:Below wr.heap.size wr (wr.alloc (.cells #[.slice ra l[k].1.length rc,.int .i64 l[k].2] 33)):=(Below.refl _ _).alloc (Nat.le_refl _) _
   have P:=Bk.new wr #[.slice ra l[k].1.length rc,.int .i64 l[k].2] 33
   have hin:=(inW_iff _).1 (HW.out l[k] (List.getElem_mem hlt))
   have HD:Hid (cntP (l.drop k)=l[k].2.toNat+cntP (l.drop (k+1))):=by
    show cntP _=_
    rw [List.drop_eq_getElem_cons hlt,cntP]
   have hlz:(k:Int)<(l.length:Int):=by omega
   obtain ⟨x,hx⟩:∃ x,x=l[k].2:=⟨_,rfl⟩
   have HX:Hid (x=l[k].2):=hx
   rw [← hx] at c1' hal P hin
   clear d0 d1 sr hx
   go_upto_region 5 with fail
   clear c0' c1'
   generalize wr.alloc (.cells #[.slice ra l[k].1.length rc,.int .i64 x] 33)=wa at *
   have cP:=P.cell 1 rfl
   have hwr:IntKind.i64.wrap ((n:Int)+max x 0)=((n+x.toNat:Nat):Int):=by rw [IntKind.wrap_i64]; omega
   have HNN:Hid (c=n+x.toNat+cntP (l.drop (k+1))):=by show c=_; rw [HN.out,HD.out,HX.out]; omega
   go_wp2_with fail
   go_roundw
   case rel=>exact ⟨k+1,n+x.toNat,by omega,by go_num,by congr 1; omega,by omega,HNN,chain hb hal⟩
   case measure=>simp [intOf]; omega
  ·have e:k=l.length:=by omega
   subst e
   have hcn:c=n:=by rw [HN.out,List.drop_length]; simp [cntP]
   subst hcn
   go_wp2_with fail
   go_ret
   exact ⟨rfl,hb⟩

def windowE (cols:List Int) (ps os:List Ex) (gs:List Ag) (z:List Zp):Int:=if 8<cols.length+gs.length then 5 else if listE cols ps≠0 then listE cols ps else if listE cols os≠0 then listE cols os else if winsE cols gs≠0 then winsE cols gs else if inpE cols z≠0 then inpE cols z else if 400<cntP z then 5 else gatherE (toldL gs (lineL ps os z))
def windowZ (cols:List Int) (ps os:List Ex) (gs:List Ag) (z:List Zp):List Zp:=if windowE cols ps os gs z=0 then canon (toldL gs (lineL ps os z)) else []
theorem lineL_mem {ps os:List Ex} {z:List Zp} {x:Lp} (h:x ∈ lineL ps os z):∃ p ∈ z,0<p.2∧x=(rowX ps p.1,rowX os p.1,p.1):=withL_mem ((ordL_perm _).mem_iff.1 h)

set_option maxRecDepth 100000 in
set_option maxHeartbeats 16000000 in
theorem window_at (cols:List Int) (ps os:List Ex) (gs:List Ag) (hsum:cols.length+gs.length≤9223372036854775807) (ca:Option Addr) (ccap:Nat) (pa:Option Addr) (pcap:Nat) (oa:Option Addr) (ocap:Nat) (ga:Option Addr) (gcap:Nat) (a:Option Addr) (cap:Nat) (l:List Zp) (w:World) (hc:IsAt w.heap.size w ca cols) (hp:KsAt w.heap.size w pa ps) (ho:KsAt w.heap.size w oa os) (hg:AgAt w.heap.size w ga gs) (h:ZsAt w a l) :
  Calls Tryz.prog 9 #[.slice ca cols.length ccap,.slice pa ps.length pcap,.slice oa os.length ocap,.slice ga gs.length gcap,.slice a l.length cap] w fun e w'=>∃ v,e = .returned (.tuple #[v,.int .i64 (windowE cols ps os gs l)])∧OwnZ w.heap.size w' v (windowZ cols ps os gs l)∧Below w.heap.size w w':=by
 have con:=list_at cols ps ca ccap pa pcap w hp hc
 generalize hfz:windowZ cols ps os gs l=fz
 generalize hfe:windowE cols ps os gs l=fe
 have HZ:Hid (windowZ cols ps os gs l=fz):=hfz
 have HF:Hid (windowE cols ps os gs l=fe):=hfe
 clear hfz hfe
 have hW:IntKind.i64.wrap ((cols.length:Int)+(gs.length:Int))=(cols.length:Int)+(gs.length:Int):=IntWalk.i64_in _ ⟨by omega,by omega⟩
 by_cases h8:8<cols.length+gs.length
 ·have e0:fe=5:=by rw [← HF.out]; unfold windowE; rw [if_pos h8]
  have e1:fz = []:=by rw [← HZ.out]; unfold windowZ; rw [HF.out,e0,if_neg (by decide)]
  subst e0 e1
  have hz:(8:Int)<(cols.length:Int)+(gs.length:Int):=by omega
  clear con
  go_enter Tryz.func9,Tryz.ntmps9
  go_wp2_with fail
  exact bodyPost_ret (v:=.tuple #[.slice none 0 0,.int .i64 5]) (by simp [results,Tryz.results9,go_sem]) rfl ⟨_,rfl,own_nil _ _,Below.refl _ _⟩
 have hz:¬ (8:Int)<(cols.length:Int)+(gs.length:Int):=by omega
 have HN8:Hid (¬ 8<cols.length+gs.length):=h8
 have h88:cols.length+gs.length≤8:=by omega
 clear h8
 have nilOf:∀ {x:Int},fe=x→¬ x=0→Hid (fz = []):=fun e h=>by
  show fz = []
  rw [← HZ.out]; unfold windowZ; rw [HF.out,e,if_neg h]
 by_cases h1:listE cols ps=0
 ·have H1:Hid (listE cols ps=0):=h1
  rw [h1] at con
  clear h1
  go_enter Tryz.func9,Tryz.ntmps9
  go_wp2_with fail
  refine con.mono ?_
  rintro e w1 ⟨u,rfl,hL,hb1⟩
  clear con
  have hL:ListF cols w.heap.size u ps w1:=by
   rcases hL with ⟨_,hL⟩ | ⟨hL,_⟩
   ·exact hL
   ·exact absurd (by trivial) hL
  have HL:Hid (ListF cols w.heap.size u ps w1):=hL
  obtain ⟨ug,ucb,rfl⟩:∃ g cb,u = .func (.func g) #[] cb:=by obtain ⟨g,cb,e,_⟩:=hL; exact ⟨g,cb,e⟩
  clear hL
  have n1:=(Below.refl w1.heap.size w1).alloc (Nat.le_refl _) (.cells #[.func (.func ug) #[] ucb] 55)
  have V1:=Bk.new w1 #[.func (.func ug) #[] ucb] 55
  have A1:=chain hb1 n1
  have con:=list_at cols os ca ccap oa ocap _ ((KsAt.next A1 (Nat.le_refl _) ho).up A1.size) ((hc.next A1 (Nat.le_refl _)).up A1.size)
  dsimp only
  by_cases h2:listE cols os=0
  ·have H2:Hid (listE cols os=0):=h2
   rw [h2] at con
   clear h2
   go_wp2_with fail
   generalize w1.alloc (.cells #[.func (.func ug) #[] ucb] 55)=wa at *
   refine con.mono ?_
   rintro e w2 ⟨u2,rfl,hL,hb2⟩
   clear con
   have hL:ListF cols wa.heap.size u2 os w2:=by
    rcases hL with ⟨_,hL⟩ | ⟨hL,_⟩
    ·exact hL
    ·exact absurd (by trivial) hL
   have HL2:Hid (ListF cols w.heap.size u2 os w2):=hL.down A1.size
   obtain ⟨og,ocb,rfl⟩:∃ g cb,u2 = .func (.func g) #[] cb:=by obtain ⟨g,cb,e,_⟩:=hL; exact ⟨g,cb,e⟩
   clear hL
   have n2:=(Below.refl w2.heap.size w2).alloc (Nat.le_refl _) (.cells #[.func (.func og) #[] ocb] 55)
   have V2:=Bk.new w2 #[.func (.func og) #[] ocb] 55
   have B1:=chain hb2 n2
   have A2:=chain A1 B1
   have V1:=V1.next B1
   have con:=tellers_at cols gs ca ccap ga gcap _ ((AgAt.next A2 (Nat.le_refl _) hg).up A2.size) ((hc.next A2 (Nat.le_refl _)).up A2.size) (by omega)
   dsimp only
   by_cases h3:winsE cols gs=0
   ·have H3:Hid (winsE cols gs=0):=h3
    rw [h3] at con
    clear h3
    go_wp2_with fail
    generalize w2.alloc (.cells #[.func (.func og) #[] ocb] 55)=wb at *
    refine con.mono ?_
    rintro e w3 ⟨u3,rfl,hG,hb3⟩
    clear con
    have hG:BegL cols wb.heap.size u3 gs w3:=by
     rcases hG with ⟨_,hG⟩ | ⟨hG,_⟩
     ·exact hG
     ·exact absurd (by trivial) hG
    have HB:Hid (BegL cols wb.heap.size u3 gs w3):=hG
    obtain ⟨tg,tcb,rfl⟩:∃ g cb,u3 = .func (.func g) #[] cb:=by obtain ⟨g,cb,e,_⟩:=hG; exact ⟨g,cb,e⟩
    clear hG
    have A3:=chain A2 hb3
    have V1:=V1.next hb3
    have V2:=V2.next hb3
    have con:=wrongS_at cols ca ccap a cap l w3 ((hc.next A3 (Nat.le_refl _)).up A3.size) (h.next A3)
    dsimp only
    by_cases h4:inpE cols l=0
    ·have HO:Hid (InpOk cols l):=(inpE_ok cols l).1 h4
     rw [h4] at con
     have H4:Hid (inpE cols l=0):=h4
     clear h4
     have hl4:=set_len HO.out
     go_wp2_with fail
     refine con.mono ?_
     rintro e w4 ⟨rfl,hb4⟩
     clear con
     have A4:=chain A3 hb4
     have V1:=V1.next hb4
     have V2:=V2.next hb4
     have con:=countW_at a cap l w4 (h.next A4) hl4 (set_in HO.out)
     dsimp only
     go_wp2_with fail
     refine con.mono ?_
     rintro e w5 ⟨rfl,hb5⟩
     clear con
     have A5:=chain A4 hb5
     have V1:=V1.next hb5
     have V2:=V2.next hb5
     by_cases h5:400<cntP l
     ·have e0:fe=5:=by rw [← HF.out]; unfold windowE; rw [if_neg HN8.out,H1.out,H2.out,H3.out,H4.out,if_neg (by simp),if_neg (by simp),if_neg (by simp),if_neg (by simp),if_pos h5]
      have HV:Hid (fz = []):=nilOf e0 (by decide)
      have h5z:(400:Int)<(cntP l:Int):=by omega
      clear nilOf
      subst e0
      dsimp only
      go_wp2_with fail
      exact bodyPost_ret (v:=.tuple #[.slice none 0 0,.int .i64 5]) (by simp [results,Tryz.results9,go_sem]) rfl ⟨_,rfl,by rw [HV.out]; exact own_nil _ _,A5⟩
     ·have h5z:¬ (400:Int)<(cntP l:Int):=by omega
      have HC:Hid (cntP l≤400):=by show _≤_; omega
      have HE:Hid (fe=gatherE (toldL gs (lineL ps os l))):=by
       show fe=_
       rw [← HF.out]; unfold windowE; rw [if_neg HN8.out,H1.out,H2.out,H3.out,H4.out,if_neg (by simp),if_neg (by simp),if_neg (by simp),if_neg (by simp),if_neg h5]
      have HV:Hid (fz=gatherZ (toldL gs (lineL ps os l))):=by
       show fz=_
       rw [← HZ.out]; unfold windowZ gatherZ; rw [HF.out,HE.out]
      clear h5 nilOf
      have c1:=V1.cell 0 rfl
      have c2:=V2.cell 0 rfl
      have s15:Since w.heap.size w1 w5:=Since.of (chain n1 (chain B1 (chain hb3 (chain hb4 hb5))))
      have s25:Since w.heap.size w2 w5:=Since.of (chain n2 (chain hb3 (chain hb4 hb5)))
      have z1:=hb1.size
      have z2:=chain A1 hb2
      have PF:PlaceF cols w.heap.size (.func (.func 25) #[] #[.pointer (some ⟨w1.heap.size,0,none⟩),.pointer (some ⟨w2.heap.size,0,none⟩)]) ps os w5:=⟨25,_,rfl,enters_of Tryz.func25 (by kernel_rfl) rfl,fun row ar capr W hf hs hW =>
       place1_at cols w.heap.size _ _ ps os w1.heap.size w2.heap.size row ar capr W hf hs ((hW.cell (p:=⟨w1.heap.size,0,none⟩) z1 V1.lt).trans c1) ((hW.cell (p:=⟨w2.heap.size,0,none⟩) z2.size V2.lt).trans c2) ((HL.out.next s15).next hW) ((HL2.out.next s25).next hW)⟩
      have con:=inLine_at cols ps os _ w.heap.size a cap l w5 PF HO.out HC.out (h.next A5)
      clear c1 c2 PF
      dsimp only
      go_wp2_with fail
      refine con.mono ?_
      rintro e w6 ⟨a6,c6,rfl,ln,hb6⟩
      clear con
      have A6:=chain A5 hb6
      have hll:(lineL ps os l).length≤400:=by rw [lineL_len]; exact HC.out
      have hfit:∀ p ∈ lineL ps os l,FitP cols p.2.2:=fun p hp=>by
       obtain ⟨q,hq,_,rfl⟩:=lineL_mem hp
       exact HO.out.fit q hq
      have HFt:Hid (∀ p ∈ lineL ps os l,FitP cols p.2.2):=hfit
      have con:=told_at cols gs _ wb.heap.size a6 c6 (lineL ps os l) w6 (HB.out.next (Since.of (chain hb4 (chain hb5 hb6)))) hll h88 hfit ln
      clear hfit
      have HTL:Hid ((toldL gs (lineL ps os l)).length=(lineL ps os l).length):=toldL_len _ _
      dsimp only
      go_wp2_with fail
      refine con.mono ?_
      rintro e w7 ⟨a7,rfl,zs7,hb7⟩
      clear con
      have A7:=chain A6 hb7
      have hmem:∀ y ∈ toldL gs (lineL ps os l),y.2=1∧y.1.length≤8:=fun y hy=>by
       unfold toldL at hy
       obtain ⟨j,hj,rfl⟩:=List.mem_map.1 hy
       have hj':=List.mem_range.1 hj
       refine ⟨rfl,?_⟩
       have hgd:(lineL ps os l).getD j lp0=(lineL ps os l)[j]:=by simp [List.getD,hj']
       have:=(HFt.out _ (List.getElem_mem hj')).len
       simp only [toldF,List.length_append,List.length_map,hgd]
       omega
      have con:=gathered_at a7 (lineL ps os l).length (toldL gs (lineL ps os l)) w7 zs7 (by rw [HTL.out]; omega) (fun y hy=>by rw [(hmem y hy).1]; rfl) (fun y hy=>(hmem y hy).2)
      rw [HTL.out,← HE.out,← HV.out] at con
      clear zs7 hmem ln
      dsimp only
      go_wp2_with fail
      refine con.mono ?_
      rintro e w9 ⟨v9,rfl,O9,hb9⟩
      have O9':=O9.mono A7.size
      obtain ⟨a9,c9,rfl,_⟩:=O9.zs
      clear con O9
      dsimp only
      go_wp2_with fail
      exact bodyPost_ret (v:=.tuple #[.slice a9 fz.length c9,.int .i64 fe]) (by simp [results,Tryz.results9,go_sem]) rfl ⟨_,rfl,O9',chain A7 hb9⟩
    ·have e0:fe=inpE cols l:=by rw [← HF.out]; unfold windowE; rw [if_neg HN8.out,H1.out,H2.out,H3.out,if_neg (by simp),if_neg (by simp),if_neg (by simp),if_pos h4]
     have HV:=nilOf e0 h4
     have hne:(inpE cols l != 0)=true:=by simpa using h4
     rw [← e0] at con hne
     clear e0 h4 nilOf
     go_wp2_with fail
     refine con.mono ?_
     rintro e w4 ⟨rfl,hb4⟩
     clear con
     dsimp only
     go_wp2_with fail
     exact bodyPost_ret (v:=.tuple #[.slice none 0 0,.int .i64 fe]) (by simp [results,Tryz.results9,go_sem]) rfl ⟨_,rfl,by rw [HV.out]; exact own_nil _ _,chain A3 hb4⟩
   ·have e0:fe=winsE cols gs:=by rw [← HF.out]; unfold windowE; rw [if_neg HN8.out,H1.out,H2.out,if_neg (by simp),if_neg (by simp),if_pos h3]
    have HV:=nilOf e0 h3
    have hne:(winsE cols gs != 0)=true:=by simpa using h3
    have HL3:Hid (¬ winsE cols gs=0):=h3
    rw [← e0] at hne
    have HN:Hid (fe=winsE cols gs):=e0
    clear e0 h3 nilOf
    go_wp2_with fail
    generalize w2.alloc (.cells #[.func (.func og) #[] ocb] 55)=wb at *
    refine con.mono ?_
    rintro e w3 ⟨u3,rfl,hG,hb3⟩
    obtain ⟨_,rfl⟩:¬ winsE cols gs=0∧u3 = .nilFunc:=by
     rcases hG with ⟨hG,_⟩ | hG
     ·exact absurd hG HL3.out
     ·exact hG
    rw [← HN.out]
    clear con
    dsimp only
    go_wp2_with fail
    exact bodyPost_ret (v:=.tuple #[.slice none 0 0,.int .i64 fe]) (by simp [results,Tryz.results9,go_sem]) rfl ⟨_,rfl,by rw [HV.out]; exact own_nil _ _,chain A2 hb3⟩
  ·have e0:fe=listE cols os:=by rw [← HF.out]; unfold windowE; rw [if_neg HN8.out,H1.out,if_neg (by simp),if_pos h2]
   have HV:=nilOf e0 h2
   have hne:(listE cols os != 0)=true:=by simpa using h2
   have HL3:Hid (¬ listE cols os=0):=h2
   rw [← e0] at hne
   have HN:Hid (fe=listE cols os):=e0
   clear e0 h2 nilOf
   go_wp2_with fail
   generalize w1.alloc (.cells #[.func (.func ug) #[] ucb] 55)=wa at *
   refine con.mono ?_
   rintro e w2 ⟨u2,rfl,hL,hb2⟩
   obtain ⟨_,rfl⟩:¬ listE cols os=0∧u2 = .nilFunc:=by
    rcases hL with ⟨hL,_⟩ | hL
    ·exact absurd hL HL3.out
    ·exact hL
   rw [← HN.out]
   clear con
   have n2:=(Below.refl w2.heap.size w2).alloc (Nat.le_refl _) (.cells #[.nilFunc] 55)
   dsimp only
   go_wp2_with fail
   exact bodyPost_ret (v:=.tuple #[.slice none 0 0,.int .i64 fe]) (by simp [results,Tryz.results9,go_sem]) rfl ⟨_,rfl,by rw [HV.out]; exact own_nil _ _,chain (chain A1 hb2) n2⟩
 ·have e0:fe=listE cols ps:=by rw [← HF.out]; unfold windowE; rw [if_neg HN8.out,if_pos h1]
  have HV:=nilOf e0 h1
  have hne:(listE cols ps != 0)=true:=by simpa using h1
  have HL:Hid (¬ listE cols ps=0):=h1
  rw [← e0] at hne
  have HN:Hid (fe=listE cols ps):=e0
  clear e0 h1 nilOf
  go_enter Tryz.func9,Tryz.ntmps9
  go_wp2_with fail
  refine con.mono ?_
  rintro e w1 ⟨u,rfl,hL,hb1⟩
  obtain ⟨_,rfl⟩:¬ listE cols ps=0∧u = .nilFunc:=by
   rcases hL with ⟨hL,_⟩ | hL
   ·exact absurd hL HL.out
   ·exact hL
  rw [← HN.out]
  clear con
  have n1:=(Below.refl w1.heap.size w1).alloc (Nat.le_refl _) (.cells #[.nilFunc] 55)
  go_wp2_with fail
  exact bodyPost_ret (v:=.tuple #[.slice none 0 0,.int .i64 fe]) (by simp [results,Tryz.results9,go_sem]) rfl ⟨_,rfl,by rw [HV.out]; exact own_nil _ _,chain hb1 n1⟩
end Go.Proofs.YtcnmpiahcnkndaaGreat
/- With a partner, or without: plain facts. -/
namespace Go.Proofs.YtcnmpiahcnkndaaGreat
open Go.RowKit

theorem right_append {a b:List Vl} (h:rightB a=true) (k:rightB b=true):rightB (a ++ b)=true:=by
 unfold rightB at h k ⊢
 rw [List.all_append,h,k]; rfl
end Go.Proofs.YtcnmpiahcnkndaaGreat
/- What is known of windows, plainly. -/
namespace Go.Proofs.YtcnmpiahcnkndaaGreat
open Go.RowKit Go.Lib Go.Shelf

structure WinOk (cols:List Int) (ps os:List Ex) (gs:List Ag) (z:List Zp):Prop where
 h8:cols.length+gs.length≤8
 hp:listE cols ps=0
 ho:listE cols os=0
 hg:winsE cols gs=0
 hz:InpOk cols z
 hc:cntP z≤400
 he:gatherE (toldL gs (lineL ps os z))=0
theorem windowE_ok {cols:List Int} {ps os:List Ex} {gs:List Ag} {z:List Zp} (h:windowE cols ps os gs z=0):WinOk cols ps os gs z:=by
 unfold windowE at h
 by_cases h1:8<cols.length+gs.length
 ·rw [if_pos h1] at h; cases h
 rw [if_neg h1] at h
 by_cases h2:listE cols ps=0
 ·by_cases h3:listE cols os=0
  ·by_cases h4:winsE cols gs=0
   ·by_cases h5:inpE cols z=0
    ·rw [if_neg (by simpa using h2),if_neg (by simpa using h3),if_neg (by simpa using h4),if_neg (by simpa using h5)] at h
     by_cases h6:400<cntP z
     ·rw [if_pos h6] at h; cases h
     ·rw [if_neg h6] at h
      exact ⟨by omega,h2,h3,h4,(inpE_ok cols z).1 h5,by omega,h⟩
    ·rw [if_neg (by simpa using h2),if_neg (by simpa using h3),if_neg (by simpa using h4),if_pos h5] at h; exact absurd h h5
   ·rw [if_neg (by simpa using h2),if_neg (by simpa using h3),if_pos h4] at h; exact absurd h h4
  ·rw [if_neg (by simpa using h2),if_pos h3] at h; exact absurd h h3
 ·rw [if_pos h2] at h; exact absurd h h2
theorem intV_right (n:Int):wrongP (intV n)=0:=by
 unfold intV intK intN wrongP wrongF
 by_cases h:inB n=true
 ·have h2:=h
  simp only [inB,Bool.and_eq_true,decide_eq_true_eq] at h2
  simp [h]; omega
 ·simp [h]
theorem nulV_right:wrongP nulV=0:=by decide
theorem winT_right {cols:List Int} {g:Ag} (hg:winE cols g=0) {h:List Lp} {p:Lp} (hh:∀ q ∈ h,FitP cols q.2.2):wrongP (winT g h p)=0:=by
 unfold winT
 split
 ·exact intV_right _
 split
 ·exact intV_right _
 split
 ·exact intV_right _
 split
 ·unfold tSum
  split
  ·exact intV_right _
  ·exact nulV_right
 ·rename_i h1 h2 h3 h4
  have ht:(typeTop cols g.2).2=0:=Classical.byContradiction fun hn=>by
   unfold winE at hg
   rw [if_neg (by omega)] at hg
   by_cases h5:g.1<1∨5<g.1
   ·rw [if_pos h5] at hg; cases hg
   ·rw [if_neg h5,if_pos hn] at hg; exact hn hg
  cases h with
  | nil=>exact nulV_right
  | cons q r=>exact (valX_right ht _ (hh q (by simp))).1
theorem fit_rowsL {cols:List Int} {ps os:List Ex} {z:List Zp} (hz:InpOk cols z):∀ p ∈ lineL ps os z,FitP cols p.2.2:=fun p hp=>by
 obtain ⟨q,hq,_,rfl⟩:=lineL_mem hp
 exact hz.fit q hq
theorem getD_mem {l:List Lp} {k:Nat} (h:k<l.length):l.getD k lp0 ∈ l:=by
 have:l.getD k lp0=l[k]:=by simp [List.getD,h]
 rw [this]; exact List.getElem_mem h
theorem told_mem {gs:List Ag} {l:List Lp} {y:Zp} (h:y ∈ toldL gs l):∃ k,k<l.length∧y=toldF gs l k:=by
 unfold toldL at h
 obtain ⟨k,hk,rfl⟩:=List.mem_map.1 h
 exact ⟨k,List.mem_range.1 hk,rfl⟩
theorem rightB_map {α:Type} {f:α→Vl}:∀ {l:List α},(∀ x ∈ l,wrongP (f x)=0)→rightB (l.map f)=true
 | [],_=>rfl
 | x :: r,h=>by
  have h1:=h x (by simp)
  have h2:=rightB_map (f:=f) (l:=r) fun y hy=>h y (by simp [hy])
  have:=right_append (a:=[f x]) (b:=r.map f) (by simp only [rightB,List.all_cons,List.all_nil,Bool.and_true]; simpa [wrongP] using h1) h2
  simpa using this
theorem told_right {cols:List Int} {ps os:List Ex} {gs:List Ag} {z:List Zp} (h:WinOk cols ps os gs z):∀ y ∈ toldL gs (lineL ps os z),y.2=1∧y.1.length=cols.length+gs.length∧wrongRowF y.1=0:=fun y hy=>by
 obtain ⟨k,hk,rfl⟩:=told_mem hy
 have hf:=fit_rowsL (ps:=ps) (os:=os) h.hz _ (getD_mem hk)
 have hfh:∀ q ∈ aheadL (lineL ps os z) k,FitP cols q.2.2:=fun q hq=>fit_rowsL h.hz q (aheadL_mem _ k hk q hq)
 have hl:(toldF gs (lineL ps os z) k).1.length=cols.length+gs.length:=by
  have:=hf.len
  simp only [toldF,List.length_append,List.length_map]
  omega
 have hw:=(winsE_ok cols gs).1 h.hg
 have h8:=h.h8
 refine ⟨rfl,hl,(wrongRowF_zero _).2 ⟨by omega,?_⟩⟩
 exact right_append (fit_right hf) (rightB_map fun g hg=>winT_right (hw g hg) hfh)
theorem windowZ_eq {cols:List Int} {ps os:List Ex} {gs:List Ag} {z:List Zp} (h:windowE cols ps os gs z=0):windowZ cols ps os gs z=canon (toldL gs (lineL ps os z)):=by unfold windowZ; rw [if_pos h]
theorem window_rows {cols:List Int} {ps os:List Ex} {gs:List Ag} {z:List Zp} (h:windowE cols ps os gs z=0):∀ y ∈ windowZ cols ps os gs z,y.1.length=cols.length+gs.length∧wrongRowF y.1=0:=fun y hy=>by
 rw [windowZ_eq h] at hy
 obtain ⟨x,hx,e⟩:=canon_row _ y hy
 obtain ⟨_,h2,h3⟩:=told_right (windowE_ok h) x hx
 rw [e,bareL_length]
 exact ⟨h2,(wrongRow_bare _).2 h3⟩
theorem window_wrong {cols:List Int} {ps os:List Ex} {gs:List Ag} {z:List Zp} (h:windowE cols ps os gs z=0):wrongZ (windowZ cols ps os gs z)=0:=by
 rw [windowZ_eq h]
 exact wrong_canon (fun x hx=>(told_right (windowE_ok h) x hx).2.2) (windowE_ok h).he
/-- How many rows there are of which something is true. -/
def cntL (f:Lp→Int):List Lp→Int
 | []=>0
 | x :: r=>f x+cntL f r
theorem cntL_append (f:Lp→Int) (a b:List Lp):cntL f (a ++ b)=cntL f a+cntL f b:=by
 induction a with
 | nil=>simp [cntL]
 | cons x r ih=>rw [List.cons_append,cntL,cntL,ih]; omega
theorem cntL_perm {f:Lp→Int} {a b:List Lp} (h:a.Perm b):cntL f a=cntL f b:=by
 induction h with
 | nil=>rfl
 | cons x _ ih=>rw [cntL,cntL,ih]
 | swap x y l=>rw [cntL,cntL,cntL,cntL]; omega
 | trans _ _ h1 h2=>exact h1.trans h2
theorem cntL_rep (f:Lp→Int) (x:Lp):∀ n:Nat,cntL f (List.replicate n x)=n*f x
 | 0=>by simp [cntL]
 | n+1=>by rw [List.replicate_succ,cntL,cntL_rep f x n,Int.natCast_add,Int.add_mul]; simp; omega
theorem cntL_with (ps os:List Ex) (g:List Vl→Int):∀ z:List Zp,cntL (fun x=>g x.2.2) (withL ps os z)=tot g (z.map fun p=>(p.1,(p.2.toNat:Int)))
 | []=>rfl
 | p :: r=>by
  have ih:=cntL_with ps os g r
  unfold withL at *
  rw [List.flatMap_cons,cntL_append,ih,cntL_rep,List.map_cons,tot]
  simp [Int.mul_comm]
end Go.Proofs.YtcnmpiahcnkndaaGreat
