/- Together: Y9, X2, K1, Ext, K2, Y3a, Y3b, Y3c, Y3. -/
import Derived.OrdersHeld
import Derived.RegionTactic
import Derived.Test.YtohjlfhmnmcndaaGreatD4
import Derived.Test.YtohjlfhmnmcndaaGreatD0
import Derived.Test.YtohjlfhmnmcndaaGreatD1
import Derived.Test.YtohjlfhmnmcndaaGreatD2
/- denied, turned, reckoned as function values. -/
namespace Go.Proofs.YtohjlfhmnmcndaaGreat
open Go.RowKit

set_option maxHeartbeats 1000000 in
theorem denied1_at (g:Nat) (cb:Array Value) (f:Vl→Vl→Vl) (b:Nat) (p q:Vl) (W:World) (hb:b<W.heap.size) (hc:W.cell? ⟨b,0,none⟩=some (.func (.func g) #[] cb))
  (eg:∀ args w,(callFunc g args).run Tryz.prog w = .ok (.enter g args) w) (hd:∀ W',Below W.heap.size W W'→Calls Tryz.prog g (#[agV p,agV q] ++ cb) W' fun e w'=>e = .returned (agV (f p q))∧Below W'.heap.size W' w') :
  Calls Tryz.prog 245 #[agV p,agV q,.pointer (some ⟨b,0,none⟩)] W fun e w'=>e = .returned (agV (notP (f p q)))∧Below W.heap.size W w':=by
 have e:notP (f p q)=(tk (not3 (cls (f p q).1 (f p q).2.1)),tn (not3 (cls (f p q).1 (f p q).2.1)),⟨#[]⟩):=rfl;rw [e];clear e;generalize f p q=r at *;have con:=hd _ (below3 (Below.refl _ (((W.alloc (.cells #[.int .i64 p.1,.int .i64 p.2.1,.string p.2.2] 24)).alloc (.cells #[.int .i64 q.1,.int .i64 q.2.1,.string q.2.2] 24)).alloc (.cells #[.int .i64 0,.int .i64 0,.string ⟨#[]⟩] 24))));have A0:=((Box.new W (.int .i64 p.1) (.int .i64 p.2.1) (.string p.2.2) 24).alloc (.cells #[.int .i64 q.1,.int .i64 q.2.1,.string q.2.2] 24)).alloc (.cells #[.int .i64 0,.int .i64 0,.string ⟨#[]⟩] 24)
 have B0:=(Box.new (W.alloc (.cells #[.int .i64 p.1,.int .i64 p.2.1,.string p.2.2] 24)) (.int .i64 q.1) (.int .i64 q.2.1) (.string q.2.2) 24).alloc (.cells #[.int .i64 0,.int .i64 0,.string ⟨#[]⟩] 24);have R0:=Box.new ((W.alloc (.cells #[.int .i64 p.1,.int .i64 p.2.1,.string p.2.2] 24)).alloc (.cells #[.int .i64 q.1,.int .i64 q.2.1,.string q.2.2] 24)) (.int .i64 0) (.int .i64 0) (.string ⟨#[]⟩) 24
 have hA:Below W.heap.size W (((W.alloc (.cells #[.int .i64 p.1,.int .i64 p.2.1,.string p.2.2] 24)).alloc (.cells #[.int .i64 q.1,.int .i64 q.2.1,.string q.2.2] 24)).alloc (.cells #[.int .i64 0,.int .i64 0,.string ⟨#[]⟩] 24)):=below3 (Below.refl _ _);have c3:=(hA.cell (p:=⟨b,0,none⟩) hb).trans hc;simp only [World.size_alloc] at B0 R0;clear hd A0 B0;go_enter Tryz.func245,Tryz.ntmps245;go_wp2_with (go_at_fn g; refine con.mono ?_)
 rintro e w1 ⟨rfl,hb1⟩;have R1:=R0.next hb1;have hb1':=chain hA hb1;have z1:=hb1.size;simp at z1;go_wp2_with fail
 refine (not_any _ _ _ _).mono ?_;rintro e w2 ⟨rfl,hb2⟩;have ⟨r0,r1,r2,r3,r4,r5,r6⟩:=R1.next hb2;have hb2':=chain hb1' hb2;clear con R0 R1;go_wp2
 exact bodyPost_ret (v:=.agg #[.int .i64 (tk (not3 (cls r.1 r.2.1))),.int .i64 (tn (not3 (cls r.1 r.2.1))),.string ⟨#[]⟩]) (by simp [results,Tryz.results245,go_sem,r1,r2,r3]) rfl ⟨rfl,below_set3 hb2' (by omega)⟩
set_option maxHeartbeats 1000000 in
theorem turned1_at (g:Nat) (cb:Array Value) (f:Vl→Vl→Vl) (b:Nat) (p q:Vl) (W:World) (hb:b<W.heap.size) (hc:W.cell? ⟨b,0,none⟩=some (.func (.func g) #[] cb))
  (eg:∀ args w,(callFunc g args).run Tryz.prog w = .ok (.enter g args) w) (hd:∀ W',Below W.heap.size W W'→Calls Tryz.prog g (#[agV q,agV p] ++ cb) W' fun e w'=>e = .returned (agV (f q p))∧Below W'.heap.size W' w') :
  Calls Tryz.prog 246 #[agV p,agV q,.pointer (some ⟨b,0,none⟩)] W fun e w'=>e = .returned (agV (f q p))∧Below W.heap.size W w':=by
 generalize f q p=r at *;have con:=hd _ (below3 (Below.refl _ (((W.alloc (.cells #[.int .i64 p.1,.int .i64 p.2.1,.string p.2.2] 24)).alloc (.cells #[.int .i64 q.1,.int .i64 q.2.1,.string q.2.2] 24)).alloc (.cells #[.int .i64 0,.int .i64 0,.string ⟨#[]⟩] 24))));have A0:=((Box.new W (.int .i64 p.1) (.int .i64 p.2.1) (.string p.2.2) 24).alloc (.cells #[.int .i64 q.1,.int .i64 q.2.1,.string q.2.2] 24)).alloc (.cells #[.int .i64 0,.int .i64 0,.string ⟨#[]⟩] 24)
 have B0:=(Box.new (W.alloc (.cells #[.int .i64 p.1,.int .i64 p.2.1,.string p.2.2] 24)) (.int .i64 q.1) (.int .i64 q.2.1) (.string q.2.2) 24).alloc (.cells #[.int .i64 0,.int .i64 0,.string ⟨#[]⟩] 24);have R0:=Box.new ((W.alloc (.cells #[.int .i64 p.1,.int .i64 p.2.1,.string p.2.2] 24)).alloc (.cells #[.int .i64 q.1,.int .i64 q.2.1,.string q.2.2] 24)) (.int .i64 0) (.int .i64 0) (.string ⟨#[]⟩) 24
 have hA:Below W.heap.size W (((W.alloc (.cells #[.int .i64 p.1,.int .i64 p.2.1,.string p.2.2] 24)).alloc (.cells #[.int .i64 q.1,.int .i64 q.2.1,.string q.2.2] 24)).alloc (.cells #[.int .i64 0,.int .i64 0,.string ⟨#[]⟩] 24)):=below3 (Below.refl _ _);have c3:=(hA.cell (p:=⟨b,0,none⟩) hb).trans hc;simp only [World.size_alloc] at B0 R0;clear hd A0 B0;go_enter Tryz.func246,Tryz.ntmps246;go_wp2_with (go_at_fn g; refine con.mono ?_)
 rintro e w1 ⟨rfl,hb1⟩;have ⟨r0,r1,r2,r3,r4,r5,r6⟩:=R0.next hb1;have hb1':=chain hA hb1;have z1:=hb1.size;simp at z1;clear con R0;go_wp2
 exact bodyPost_ret (v:=agV r) (by simp [results,Tryz.results246,go_sem,r1,r2,r3]) rfl ⟨rfl,below_set3 hb1' (by omega)⟩
set_option maxHeartbeats 1000000 in
theorem reckoned1_at (c:Int) (b:Nat) (p q:Vl) (W:World) (hb:b<W.heap.size) (hc:W.cell? ⟨b,0,none⟩=some (.int .i32 c)) :
  Calls Tryz.prog 247 #[agV p,agV q,.pointer (some ⟨b,0,none⟩)] W fun e w'=>e = .returned (agV (recP c p q))∧Below W.heap.size W w':=by
 have e:recP c p q=(optK (recO c p.1 p.2.1 q.1 q.2.1),optN (recO c p.1 p.2.1 q.1 q.2.1),⟨#[]⟩):=rfl;rw [e];clear e;have A0:=((Box.new W (.int .i64 p.1) (.int .i64 p.2.1) (.string p.2.2) 24).alloc (.cells #[.int .i64 q.1,.int .i64 q.2.1,.string q.2.2] 24)).alloc (.cells #[.int .i64 0,.int .i64 0,.string ⟨#[]⟩] 24);have B0:=(Box.new (W.alloc (.cells #[.int .i64 p.1,.int .i64 p.2.1,.string p.2.2] 24)) (.int .i64 q.1) (.int .i64 q.2.1) (.string q.2.2) 24).alloc (.cells #[.int .i64 0,.int .i64 0,.string ⟨#[]⟩] 24)
 have R0:=Box.new ((W.alloc (.cells #[.int .i64 p.1,.int .i64 p.2.1,.string p.2.2] 24)).alloc (.cells #[.int .i64 q.1,.int .i64 q.2.1,.string q.2.2] 24)) (.int .i64 0) (.int .i64 0) (.string ⟨#[]⟩) 24;have hA:Below W.heap.size W (((W.alloc (.cells #[.int .i64 p.1,.int .i64 p.2.1,.string p.2.2] 24)).alloc (.cells #[.int .i64 q.1,.int .i64 q.2.1,.string q.2.2] 24)).alloc (.cells #[.int .i64 0,.int .i64 0,.string ⟨#[]⟩] 24)):=below3 (Below.refl _ _);have c3:=(hA.cell (p:=⟨b,0,none⟩) hb).trans hc;simp only [World.size_alloc] at B0 R0;clear A0 B0;go_enter Tryz.func247,Tryz.ntmps247;go_wp2_with fail
 refine (reckon_any _ _ _ _ _ _ _ _).mono ?_;rintro e w1 ⟨rfl,hb1⟩;have ⟨r0,r1,r2,r3,r4,r5,r6⟩:=R0.next hb1;have hb1':=chain hA hb1;have z1:=hb1.size;simp at z1;clear R0;go_wp2
 exact bodyPost_ret (v:=.agg #[.int .i64 (optK (recO c p.1 p.2.1 q.1 q.2.1)),.int .i64 (optN (recO c p.1 p.2.1 q.1 q.2.1)),.string ⟨#[]⟩]) (by simp [results,Tryz.results247,go_sem,r1,r2,r3]) rfl ⟨rfl,below_set3 hb1' (by omega)⟩
theorem denied_at (u:Value) (f:Vl→Vl→Vl) (w:World) (lo:Nat) (hlo:lo≤w.heap.size) (h:Fn2 lo u f w) :
  Calls Tryz.prog 235 #[u] w fun e w'=>∃ v,e = .returned v∧Fn2 lo v (fun a b=>notP (f a b)) w'∧Below w.heap.size w w':=by
 obtain ⟨g,cb,rfl,eg,hd⟩:=h;have hal:Below w.heap.size w (w.alloc (.cells #[.func (.func g) #[] cb] 240)):=(Below.refl _ _).alloc (Nat.le_refl _) _;have hF:Fn2 lo (.func (.func 245) #[] #[.pointer (some ⟨w.heap.size,0,none⟩)]) (fun a b=>notP (f a b)) (w.alloc (.cells #[.func (.func g) #[] cb] 240)) :=
  ⟨245,_,rfl,enters_of Tryz.func245 (by kernel_rfl) rfl,fun p q W hp hq hW =>
   denied1_at g cb f w.heap.size p q W (Nat.lt_of_lt_of_le (by simp) hW.1) ((hW.cell (p:=⟨w.heap.size,0,none⟩) hlo (by simp)).trans (by simp)) eg (fun W' hW'=>hd p q W' hp hq (((Since.of hal).trans hW).trans (Since.of hW')))⟩
 clear hd;go_enter Tryz.func235,Tryz.ntmps235;go_wp2
 go_ret;exact ⟨_,rfl,hF,hal⟩
theorem turned_at (u:Value) (f:Vl→Vl→Vl) (w:World) (lo:Nat) (hlo:lo≤w.heap.size) (h:Fn2 lo u f w) :
  Calls Tryz.prog 237 #[u] w fun e w'=>∃ v,e = .returned v∧Fn2 lo v (fun a b=>f b a) w'∧Below w.heap.size w w':=by
 obtain ⟨g,cb,rfl,eg,hd⟩:=h;have hal:Below w.heap.size w (w.alloc (.cells #[.func (.func g) #[] cb] 240)):=(Below.refl _ _).alloc (Nat.le_refl _) _;have hF:Fn2 lo (.func (.func 246) #[] #[.pointer (some ⟨w.heap.size,0,none⟩)]) (fun a b=>f b a) (w.alloc (.cells #[.func (.func g) #[] cb] 240)) :=
  ⟨246,_,rfl,enters_of Tryz.func246 (by kernel_rfl) rfl,fun p q W hp hq hW =>
   turned1_at g cb f w.heap.size p q W (Nat.lt_of_lt_of_le (by simp) hW.1) ((hW.cell (p:=⟨w.heap.size,0,none⟩) hlo (by simp)).trans (by simp)) eg (fun W' hW'=>hd q p W' hq hp (((Since.of hal).trans hW).trans (Since.of hW')))⟩
 clear hd;go_enter Tryz.func237,Tryz.ntmps237;go_wp2
 go_ret;exact ⟨_,rfl,hF,hal⟩
theorem reckoned_at (c:Int) (w:World) (lo:Nat) (hlo:lo≤w.heap.size) :
  Calls Tryz.prog 238 #[.int .i32 c] w fun e w'=>∃ v,e = .returned v∧Fn2 lo v (recP c) w'∧Below w.heap.size w w':=by
 have hal:Below w.heap.size w (w.alloc (.cells #[.int .i32 c] 21)):=(Below.refl _ _).alloc (Nat.le_refl _) _;have hF:Fn2 lo (.func (.func 247) #[] #[.pointer (some ⟨w.heap.size,0,none⟩)]) (recP c) (w.alloc (.cells #[.int .i32 c] 21)) :=
  ⟨247,_,rfl,enters_of Tryz.func247 (by kernel_rfl) rfl,fun p q W hp hq hW =>
   reckoned1_at c w.heap.size p q W (Nat.lt_of_lt_of_le (by simp) hW.1) ((hW.cell (p:=⟨w.heap.size,0,none⟩) hlo (by simp)).trans (by simp))⟩
 go_enter Tryz.func238,Tryz.ntmps238;go_wp2
 go_ret;exact ⟨_,rfl,hF,hal⟩
def OfTwo (k:Int):Prop:=∀ w:World,Calls Tryz.prog 210 #[.int .i64 k] w fun e w'=>∃ u,e = .returned u∧Fn2 w.heap.size u (twoP k) w'∧Below w.heap.size w w'
theorem ofTwo_4:OfTwo 4:=by
 intro w;go_enter Tryz.func210,Tryz.ntmps210;go_wp2
 go_ret;exact ⟨_,rfl,fn_and _ w,Below.refl _ _⟩
theorem ofTwo_5:OfTwo 5:=by
 intro w;go_enter Tryz.func210,Tryz.ntmps210;go_wp2
 go_ret;exact ⟨_,rfl,fn_or _ w,Below.refl _ _⟩
theorem ofTwo_6:OfTwo 6:=by
 intro w;go_enter Tryz.func210,Tryz.ntmps210;go_wp2
 go_ret;exact ⟨_,rfl,fn_eq _ w,Below.refl _ _⟩
theorem ofTwo_8:OfTwo 8:=by
 intro w;go_enter Tryz.func210,Tryz.ntmps210;go_wp2
 go_ret;exact ⟨_,rfl,fn_lt _ w,Below.refl _ _⟩
theorem ofTwo_15:OfTwo 15:=by
 intro w;go_enter Tryz.func210,Tryz.ntmps210;go_wp2
 go_ret;exact ⟨_,rfl,fn_join _ w,Below.refl _ _⟩
theorem ofTwo_18:OfTwo 18:=by
 intro w;go_enter Tryz.func210,Tryz.ntmps210;go_wp2
 go_ret;exact ⟨_,rfl,fn_coal _ w,Below.refl _ _⟩
theorem ofTwo_7:OfTwo 7:=by
 intro w;go_enter Tryz.func210,Tryz.ntmps210;go_wp2_with fail
 refine (denied_at _ _ w _ (Nat.le_refl _) (fn_eq _ w)).mono ?_;rintro e w1 ⟨v,rfl,hF,hb1⟩;go_wp2
 go_ret;exact ⟨_,rfl,hF,hb1⟩
theorem ofTwo_11:OfTwo 11:=by
 intro w;go_enter Tryz.func210,Tryz.ntmps210;go_wp2_with fail
 refine (denied_at _ _ w _ (Nat.le_refl _) (fn_lt _ w)).mono ?_;rintro e w1 ⟨v,rfl,hF,hb1⟩;go_wp2
 go_ret;exact ⟨_,rfl,hF,hb1⟩
theorem ofTwo_10:OfTwo 10:=by
 intro w;go_enter Tryz.func210,Tryz.ntmps210;go_wp2_with fail
 refine (turned_at _ _ w _ (Nat.le_refl _) (fn_lt _ w)).mono ?_;rintro e w1 ⟨v,rfl,hF,hb1⟩;go_wp2
 go_ret;exact ⟨_,rfl,hF,hb1⟩
theorem ofTwo_12:OfTwo 12:=by
 intro w;go_enter Tryz.func210,Tryz.ntmps210;go_wp2_with fail
 refine (reckoned_at 43 w _ (Nat.le_refl _)).mono ?_;rintro e w1 ⟨v,rfl,hF,hb1⟩;go_wp2
 go_ret;exact ⟨_,rfl,hF,hb1⟩
theorem ofTwo_13:OfTwo 13:=by
 intro w;go_enter Tryz.func210,Tryz.ntmps210;go_wp2_with fail
 refine (reckoned_at 45 w _ (Nat.le_refl _)).mono ?_;rintro e w1 ⟨v,rfl,hF,hb1⟩;go_wp2
 go_ret;exact ⟨_,rfl,hF,hb1⟩
theorem ofTwo_14:OfTwo 14:=by
 intro w;go_enter Tryz.func210,Tryz.ntmps210;go_wp2_with fail
 refine (reckoned_at 42 w _ (Nat.le_refl _)).mono ?_;rintro e w1 ⟨v,rfl,hF,hb1⟩;go_wp2
 go_ret;exact ⟨_,rfl,hF,hb1⟩
theorem ofTwo_9:OfTwo 9:=by
 intro w;go_enter Tryz.func210,Tryz.ntmps210;go_wp2_with fail
 refine (turned_at _ _ w _ (Nat.le_refl _) (fn_lt _ w)).mono ?_;rintro e w1 ⟨v,rfl,hF,hb1⟩;go_wp2_with fail
 refine (denied_at _ _ w1 _ hb1.size hF).mono ?_;rintro e w2 ⟨v2,rfl,hF2,hb2⟩;go_wp2
 go_ret;exact ⟨_,rfl,hF2,chain hb1 hb2⟩
theorem ofTwo_at (k:Int) (h4:4≤k) (h18:k≤15∨k=18):OfTwo k:=by
 obtain rfl | rfl | rfl | rfl | rfl | rfl | rfl | rfl | rfl | rfl | rfl | rfl | rfl:k=4∨k=5∨k=6∨k=7∨k=8∨k=9∨k=10∨k=11∨k=12∨k=13∨k=14∨k=15∨k=18:=by omega
 ·exact ofTwo_4
 ·exact ofTwo_5
 ·exact ofTwo_6
 ·exact ofTwo_7
 ·exact ofTwo_8
 ·exact ofTwo_9
 ·exact ofTwo_10
 ·exact ofTwo_11
 ·exact ofTwo_12
 ·exact ofTwo_13
 ·exact ofTwo_14
 ·exact ofTwo_15
 ·exact ofTwo_18
end Go.Proofs.YtohjlfhmnmcndaaGreat
namespace Go.Proofs.YtohjlfhmnmcndaaGreat

/-! The whole answers. -/
def colsB (cols:List Int):Bool:=cols.all fun c=>decide (1≤c) && decide (c≤4)
def typeTop (cols:List Int) (x:Ex):Int × Int :=
 if 16<cols.length then (0,5) else if colsB cols=false then (0,1) else if (typeX cols x 0 1).2.1=0 then ((typeX cols x 0 1).1,0) else (0,(typeX cols x 0 1).2.1)
def evalX (cols:List Int) (x:Ex) (row:List Vl):Vl × Int :=
 if (typeTop cols x).2≠0 then (vl0,(typeTop cols x).2) else if fitsL cols row≠0 then (vl0,fitsL cols row) else (valX row x,0)
/-- What Type says yes to. -/
structure GoodX (cols:List Int) (x:Ex) (t:Int):Prop where
 few:cols.length≤16
 fit:colsB cols=true
 ty:typP cols x=some t
 size:sizeX x≤200
 deep:deepX x≤20
theorem typeTop_ok (cols:List Int) (x:Ex):(typeTop cols x).2=0↔GoodX cols x (typeTop cols x).1:=by
 unfold typeTop;by_cases h1:16<cols.length
 ·rw [if_pos h1];simp only [show ¬ (5:Int)=0 by decide,false_iff];exact fun h=>absurd h.few (by omega)
 rw [if_neg h1];by_cases h2:colsB cols=false
 ·rw [if_pos h2];simp only [show ¬ (1:Int)=0 by decide,false_iff];exact fun h=>absurd h.fit (by simp [h2])
 rw [if_neg h2];by_cases h3:(typeX cols x 0 1).2.1=0
 ·rw [if_pos h3];simp only [true_iff];obtain ⟨q1,q2,q3,q4⟩:=(typeX_ok cols x 0 1 (typeX cols x 0 1).1 (typeX cols x 0 1).2.2).1 (Prod.ext rfl (Prod.ext h3 rfl));exact ⟨by omega,by simpa using h2,q1,by omega,by omega⟩
 ·rw [if_neg h3];simp only [h3,false_iff];intro h;have:=(typeX_ok cols x 0 1 0 (0+sizeX x)).2 ⟨h.ty,rfl,by have:=h.size; omega,by have:=h.deep; omega⟩;rw [this] at h3;simp at h3
theorem GoodX.top {cols:List Int} {x:Ex} {t:Int} (h:GoodX cols x t):typeTop cols x=(t,0):=by
 have:=(typeX_ok cols x 0 1 t (0+sizeX x)).2 ⟨h.ty,rfl,by have:=h.size; omega,by have:=h.deep; omega⟩;unfold typeTop;rw [if_neg (by have:=h.few; omega),if_neg (by simp [h.fit]),this];simp
theorem GoodX.eval {cols:List Int} {x:Ex} {t:Int} (h:GoodX cols x t) (row:List Vl):evalX cols x row=if fitsL cols row≠0 then (vl0,fitsL cols row) else (valX row x,0):=by
 unfold evalX;rw [h.top];simp
/-- Not known, or the same. -/
def Le (a b:Vl):Prop:=a.1=1∨a=b
theorem Le.refl (a:Vl):Le a a:=.inr rfl
theorem tell_le {a b c d:Vl} (h:Le a c) (h':Le b d):tellB a.1 b.1=false∨(a=c∧b=d):=by
 unfold tellB;rcases h with h | rfl
 ·left; simp [h]
 ·rcases h' with h' | rfl
  ·left;by_cases q:a.1=1 <;> simp [h',q]
  ·right; exact ⟨rfl,rfl⟩
theorem lt_le {a b c d:Vl} (h:Le a c) (h':Le b d):ltT a.1 a.2.1 a.2.2 b.1 b.2.1 b.2.2=none∨ltT a.1 a.2.1 a.2.2 b.1 b.2.1 b.2.2=ltT c.1 c.2.1 c.2.2 d.1 d.2.1 d.2.2:=by
 rcases tell_le h h' with q | ⟨rfl,rfl⟩
 ·left; simp [ltT,q]
 ·right; rfl
end Go.Proofs.YtohjlfhmnmcndaaGreat
namespace Go.Proofs.YtohjlfhmnmcndaaGreat
open Go.RowKit

/-- A function value comes to f of each row that fits, as long as all from lo on is as it was. -/
def Asks (cols:List Int) (lo:Nat) (u:Value) (f:List Vl→Vl) (w:World):Prop :=
 ∃ g cb,u = .func (.func g) #[] cb∧(∀ args w,(callFunc g args).run Tryz.prog w = .ok (.enter g args) w) ∧
  ∀ (row:List Vl) (a:Option Addr) (cap:Nat) (W:World),FitP cols row→SlAt W a row→Since lo w W →
   Calls Tryz.prog g (#[.slice a row.length cap] ++ cb) W fun e w'=>e = .returned (agV (f row))∧Below W.heap.size W w'
theorem Asks.next {cols:List Int} {lo:Nat} {u:Value} {f:List Vl→Vl} {w w1:World} (h:Asks cols lo u f w) (hb:Since lo w w1):Asks cols lo u f w1:=by
 obtain ⟨g,cb,e,eg,hd⟩:=h;exact ⟨g,cb,e,eg,fun row a cap W hf hs hW=>hd row a cap W hf hs (hb.trans hW)⟩
theorem Asks.down {cols:List Int} {lo lo':Nat} {u:Value} {f:List Vl→Vl} {w:World} (h:Asks cols lo u f w) (hl:lo'≤lo):Asks cols lo' u f w:=by
 obtain ⟨g,cb,e,eg,hd⟩:=h;exact ⟨g,cb,e,eg,fun row a cap W hf hs hW=>hd row a cap W hf hs (hW.up hl)⟩
/-- Three values stored into a box. -/
theorem Box.put3 {W:World} {b:Nat} {x y z:Value} (h:Box W b x y z) (x' y' z':Value):Box (((W.setCell ⟨b,0,none⟩ x').setCell ⟨b,1,none⟩ y').setCell ⟨b,2,none⟩ z') b x' y' z':=by
 obtain ⟨lt,c0,c1,c2,f0,f1,f2⟩:=h;refine ⟨by simpa using lt,?_,?_,?_,by simpa using f0,by simpa using f1,by simpa using f2⟩
 ·rw [World.cell?_setCell_other _ _ _ _ (by simp),World.cell?_setCell_other _ _ _ _ (by simp)];exact World.cell?_setCell_same' _ _ _ (by rw [c0]; rfl)
 ·rw [World.cell?_setCell_other _ _ _ _ (by simp)];exact World.cell?_setCell_same' _ _ _ (by rw [World.cell?_setCell_other _ _ _ _ (by simp),c1]; rfl)
 ·exact World.cell?_setCell_same' _ _ _ (by rw [World.cell?_setCell_other _ _ _ _ (by simp),World.cell?_setCell_other _ _ _ _ (by simp),c2]; rfl)
set_option maxHeartbeats 400000 in
theorem always1_at (v:Vl) (b:Nat) (a:Option Addr) (n cap:Nat) (W:World) (hb:b<W.heap.size) (h0:W.cell? ⟨b,0,none⟩=some (.int .i64 v.1)) (h1:W.cell? ⟨b,1,none⟩=some (.int .i64 v.2.1)) (h2:W.cell? ⟨b,2,none⟩=some (.string v.2.2)) :
  Calls Tryz.prog 228 #[.slice a n cap,.pointer (some ⟨b,0,none⟩)] W fun e w'=>e = .returned (agV v)∧Below W.heap.size W w':=by
 have hal:Below W.heap.size W (W.alloc (.cells #[.int .i64 0,.int .i64 0,.string ⟨#[]⟩] 24)):=(Below.refl _ _).alloc (Nat.le_refl _) _;have c0:=(hal.cell (p:=⟨b,0,none⟩) hb).trans h0;have c1:=(hal.cell (p:=⟨b,1,none⟩) hb).trans h1;have c2:=(hal.cell (p:=⟨b,2,none⟩) hb).trans h2;go_enter Tryz.func228,Tryz.ntmps228;go_wp2
 exact bodyPost_ret (v:=agV v) (by simp [results,Tryz.results228,go_sem]) rfl ⟨rfl,(Below.refl _ _).alloc (Nat.le_refl _) _⟩
set_option maxHeartbeats 400000 in
theorem always_at (cols:List Int) (v:Vl) (w:World) :
  Calls Tryz.prog 203 #[agV v] w fun e w'=>∃ u,e = .returned u∧Asks cols w.heap.size u (fun _=>bareP v) w'∧Below w.heap.size w w':=by
 have hal:Below w.heap.size w (w.alloc (.cells #[.int .i64 v.1,.int .i64 v.2.1,.string v.2.2] 24)):=(Below.refl _ _).alloc (Nat.le_refl _) _;have R:=Box.new w (.int .i64 v.1) (.int .i64 v.2.1) (.string v.2.2) 24;go_enter Tryz.func203,Tryz.ntmps203;go_wp2_with fail
 refine (bare_any _ _ _ _).mono ?_;rintro e w1 ⟨rfl,hb1⟩;have R1:=R.next hb1;have P1:=R1.put3 (.int .i64 v.1) (.int .i64 (bareN v.1 v.2.1)) (.string (bareS v.1 v.2.2));have hb:=chain hal hb1;have ⟨r0,r1,r2,r3,r4,r5,r6⟩:=R1;go_wp2
 go_ret;refine ⟨_,rfl,⟨228,_,rfl,enters_of Tryz.func228 (by kernel_rfl) rfl,?_⟩,below_set3 hb (Nat.le_refl _)⟩;intro row a cap W _ _ hW;obtain ⟨p0,p1,p2,p3,_,_,_⟩:=P1;exact always1_at (bareP v) w.heap.size a row.length cap W (Nat.lt_of_lt_of_le p0 hW.1) ((hW.cell (p:=⟨w.heap.size,0,none⟩) (Nat.le_refl _) p0).trans p1) ((hW.cell (p:=⟨w.heap.size,1,none⟩) (Nat.le_refl _) p0).trans p2) ((hW.cell (p:=⟨w.heap.size,2,none⟩) (Nat.le_refl _) p0).trans p3)
set_option maxHeartbeats 400000 in
theorem column1_at (j:Nat) (b:Nat) (a:Option Addr) (row:List Vl) (cap:Nat) (W:World) (hb:b<W.heap.size) (h0:W.cell? ⟨b,0,none⟩=some (.int .i64 j)) (hj:j<row.length) (hs:SlAt W a row) :
  Calls Tryz.prog 229 #[.slice a row.length cap,.pointer (some ⟨b,0,none⟩)] W fun e w'=>e = .returned (agV (bareP row[j]))∧Below W.heap.size W w':=by
 have hal:Below W.heap.size W (W.alloc (.cells #[.int .i64 0,.int .i64 0,.string ⟨#[]⟩] 24)):=(Below.refl _ _).alloc (Nat.le_refl _) _;have R:=Box.new W (.int .i64 0) (.int .i64 0) (.string ⟨#[]⟩) 24;have c0:=(hal.cell (p:=⟨b,0,none⟩) hb).trans h0;have hl:=hs.1;unfold maxLen at hl;obtain ⟨b',off,rfl,hbl,x0,x1,x2⟩:=(hs.next hal).elem hj;generalize row[j]=v at *;go_enter Tryz.func229,Tryz.ntmps229;go_wp2_with fail
 refine (bare_any _ _ _ _).mono ?_;rintro e w1 ⟨rfl,hb1⟩;have ⟨r0,r1,r2,r3,r4,r5,r6⟩:=R.next hb1;have hb:=chain hal hb1;clear x0 x1 x2 c0;go_wp2
 exact bodyPost_ret (v:=agV (bareP v)) (by simp [results,Tryz.results229,go_sem,r1,r2,r3,bareP]) rfl ⟨rfl,below_set3 hb (Nat.le_refl _)⟩
theorem column_at (cols:List Int) (c:Int) (w:World) (h0:0≤c) (h1:c.toNat<cols.length) :
  Calls Tryz.prog 204 #[.int .i64 c] w fun e w'=>∃ u,e = .returned u∧Asks cols w.heap.size u (fun row=>bareP (row.getD c.toNat vl0)) w'∧Below w.heap.size w w':=by
 have hal:Below w.heap.size w (w.alloc (.cells #[.int .i64 c] 3)):=(Below.refl _ _).alloc (Nat.le_refl _) _;obtain ⟨j,rfl⟩:∃ j:Nat,c=j:=⟨c.toNat,by omega⟩
 go_enter Tryz.func204,Tryz.ntmps204;go_wp2
 go_ret;refine ⟨_,rfl,⟨229,_,rfl,enters_of Tryz.func229 (by kernel_rfl) rfl,?_⟩,hal⟩;intro row a cap W hf hs hW;have hj:j<row.length:=by have:=hf.len; simp at h1; omega
 have e:row.getD (j:Int).toNat vl0=row[j]:=by simp [List.getD,hj]
 show Calls _ _ _ _ fun e w'=>e = .returned (agV (bareP (row.getD (j:Int).toNat vl0)))∧_
 rw [e];exact column1_at j w.heap.size a row cap W (Nat.lt_of_lt_of_le (by simp) hW.1) ((hW.cell (p:=⟨w.heap.size,0,none⟩) (Nat.le_refl _) (by simp)).trans (by simp)) hj hs
set_option maxHeartbeats 1000000 in
theorem either1_at (cols:List Int) (lo:Nat) (f1 f2 f3:List Vl→Vl) (u1 u2 u3:Value) (b:Nat) (a:Option Addr) (row:List Vl) (cap:Nat) (W:World) (hb:b+2<W.heap.size)
  (h0:W.cell? ⟨b,0,none⟩=some u1) (h1:W.cell? ⟨b+1,0,none⟩=some u2) (h2:W.cell? ⟨b+2,0,none⟩=some u3) (a1:Asks cols lo u1 f1 W) (a2:Asks cols lo u2 f2 W) (a3:Asks cols lo u3 f3 W) (hf:FitP cols row) (hs:SlAt W a row) :
  Calls Tryz.prog 231 #[.slice a row.length cap,.pointer (some ⟨b,0,none⟩),.pointer (some ⟨b+1,0,none⟩),.pointer (some ⟨b+2,0,none⟩)] W fun e w'=>e = .returned (agV (if clsP (f1 row) == some true then f2 row else f3 row))∧Below W.heap.size W w':=by
 obtain ⟨g1,cb1,rfl,eg1,d1⟩:=a1;obtain ⟨g2,cb2,rfl,eg2,d2⟩:=a2;obtain ⟨g3,cb3,rfl,eg3,d3⟩:=a3;have hal:Below W.heap.size W (W.alloc (.cells #[.int .i64 0,.int .i64 0,.string ⟨#[]⟩] 24)):=(Below.refl _ _).alloc (Nat.le_refl _) _;have R:=Box.new W (.int .i64 0) (.int .i64 0) (.string ⟨#[]⟩) 24;have c1:=(hal.cell (p:=⟨b,0,none⟩) (by show b<_; omega)).trans h0;have d1:=d1 row a cap _ hf (hs.next hal) (Since.of hal);have d2:=fun W' (h:Below W.heap.size W W')=>d2 row a cap W' hf (hs.next h) (Since.of h)
 have d3:=fun W' (h:Below W.heap.size W W')=>d3 row a cap W' hf (hs.next h) (Since.of h)
 generalize f1 row=v1 at *;generalize f2 row=v2 at *;generalize f3 row=v3 at *;by_cases q:(clsP v1 == some true)=true
 ·rw [if_pos q];go_enter Tryz.func231,Tryz.ntmps231;go_wp2_with (go_at_fn g1; refine d1.mono ?_)
  rintro e w1 ⟨rfl,hb1⟩;have hA:=chain hal hb1;have R:=R.next hb1;have q':(cls v1.1 v1.2.1 == some true)=true:=q;go_wp2_with fail
  refine (true_any _ _ _ _).mono ?_;rintro e w2 ⟨rfl,hb2⟩;rw [q'];have hA:=chain hA hb2;have R:=R.next hb2;have c2:=(hA.cell (p:=⟨b+1,0,none⟩) (by show b+1<_; omega)).trans h1;have d2:=d2 _ hA;clear d1 c1 d3;go_wp2_with (go_at_fn g2; refine d2.mono ?_)
  rintro e w3 ⟨rfl,hb3⟩;have hA:=chain hA hb3;have ⟨r0,r1,r2,r3,r4,r5,r6⟩:=R.next hb3;clear d2 c2;go_wp2
  exact bodyPost_ret (v:=agV v2) (by simp [results,Tryz.results231,go_sem,r1,r2,r3]) rfl ⟨rfl,below_set3 hA (Nat.le_refl _)⟩
 ·rw [if_neg q];go_enter Tryz.func231,Tryz.ntmps231;go_wp2_with (go_at_fn g1; refine d1.mono ?_)
  rintro e w1 ⟨rfl,hb1⟩;have hA:=chain hal hb1;have R:=R.next hb1;have q':(cls v1.1 v1.2.1 == some true)=false:=Bool.eq_false_iff.mpr q;go_wp2_with fail
  refine (true_any _ _ _ _).mono ?_;rintro e w2 ⟨rfl,hb2⟩;rw [q'];have hA:=chain hA hb2;have R:=R.next hb2;have c3:=(hA.cell (p:=⟨b+2,0,none⟩) (by show b+2<_; omega)).trans h2;have d3:=d3 _ hA;clear d1 c1 d2;go_wp2_with (go_at_fn g3; refine d3.mono ?_)
  rintro e w3 ⟨rfl,hb3⟩;have hA:=chain hA hb3;have ⟨r0,r1,r2,r3,r4,r5,r6⟩:=R.next hb3;clear d3 c3;go_wp2
  exact bodyPost_ret (v:=agV v3) (by simp [results,Tryz.results231,go_sem,r1,r2,r3]) rfl ⟨rfl,below_set3 hA (Nat.le_refl _)⟩
theorem cell_old {w:World} {o:Obj} {p:Addr} (h:p.block<w.heap.size):(w.alloc o).cell? p=w.cell? p:=((Below.refl w.heap.size w).alloc (Nat.le_refl _) o).cell h
theorem either_at (cols:List Int) (lo:Nat) (f1 f2 f3:List Vl→Vl) (u1 u2 u3:Value) (w:World) (hlo:lo≤w.heap.size) (a1:Asks cols lo u1 f1 w) (a2:Asks cols lo u2 f2 w) (a3:Asks cols lo u3 f3 w) :
  Calls Tryz.prog 209 #[u1,u2,u3] w fun e w'=>∃ u,e = .returned u∧Asks cols lo u (fun row=>if clsP (f1 row) == some true then f2 row else f3 row) w'∧Below w.heap.size w w':=by
 obtain ⟨x1,y1,rfl⟩:∃ x y,u1 = .func (.func x) #[] y:=by obtain ⟨x,y,e,_⟩:=a1; exact ⟨x,y,e⟩
 obtain ⟨x2,y2,rfl⟩:∃ x y,u2 = .func (.func x) #[] y:=by obtain ⟨x,y,e,_⟩:=a2; exact ⟨x,y,e⟩
 obtain ⟨x3,y3,rfl⟩:∃ x y,u3 = .func (.func x) #[] y:=by obtain ⟨x,y,e,_⟩:=a3; exact ⟨x,y,e⟩
 have h1:Below w.heap.size w (w.alloc (.cells #[.func (.func x1) #[] y1] 179)):=(Below.refl _ _).alloc (Nat.le_refl _) _;have h2:=h1.alloc h1.size (.cells #[.func (.func x2) #[] y2] 179);have h3:=h2.alloc h2.size (.cells #[.func (.func x3) #[] y3] 179);have q1:(((w.alloc (.cells #[.func (.func x1) #[] y1] 179)).alloc (.cells #[.func (.func x2) #[] y2] 179)).alloc (.cells #[.func (.func x3) #[] y3] 179)).cell? ⟨w.heap.size,0,none⟩=some (.func (.func x1) #[] y1):=by
  rw [cell_old (by simp only [World.size_alloc]; omega),cell_old (by simp)]; simp
 have q2:(((w.alloc (.cells #[.func (.func x1) #[] y1] 179)).alloc (.cells #[.func (.func x2) #[] y2] 179)).alloc (.cells #[.func (.func x3) #[] y3] 179)).cell? ⟨w.heap.size+1,0,none⟩=some (.func (.func x2) #[] y2):=by
  rw [cell_old (by simp),World.cell?_alloc_at _ _ _ _ (by simp)]; rfl
 have q3:(((w.alloc (.cells #[.func (.func x1) #[] y1] 179)).alloc (.cells #[.func (.func x2) #[] y2] 179)).alloc (.cells #[.func (.func x3) #[] y3] 179)).cell? ⟨w.heap.size+2,0,none⟩=some (.func (.func x3) #[] y3):=by
  rw [World.cell?_alloc_at _ _ _ _ (by simp)]; rfl
 have z3:(((w.alloc (.cells #[.func (.func x1) #[] y1] 179)).alloc (.cells #[.func (.func x2) #[] y2] 179)).alloc (.cells #[.func (.func x3) #[] y3] 179)).heap.size=w.heap.size+3:=by simp
 have n1:=a1.next (Since.of h3);have n2:=a2.next (Since.of h3);have n3:=a3.next (Since.of h3);clear a1 a2 a3;go_enter Tryz.func209,Tryz.ntmps209;go_wp2
 go_ret;generalize ((w.alloc (.cells #[.func (.func x1) #[] y1] 179)).alloc (.cells #[.func (.func x2) #[] y2] 179)).alloc (.cells #[.func (.func x3) #[] y3] 179)=w3 at *;refine ⟨_,rfl,⟨231,_,rfl,enters_of Tryz.func231 (by kernel_rfl) rfl,?_⟩,h3⟩;intro row a cap W hf hs hW
 exact either1_at cols lo f1 f2 f3 _ _ _ w.heap.size a row cap W (by have:=hW.1; omega) ((hW.cell (p:=⟨w.heap.size,0,none⟩) hlo (by show w.heap.size<_; omega)).trans q1) ((hW.cell (p:=⟨w.heap.size+1,0,none⟩) (by show lo≤w.heap.size+1; omega) (by show w.heap.size+1<_; omega)).trans q2) ((hW.cell (p:=⟨w.heap.size+2,0,none⟩) (by show lo≤w.heap.size+2; omega) (by show w.heap.size+2<_; omega)).trans q3) (n1.next hW) (n2.next hW) (n3.next hW) hf hs

section
variable {P:Program} {ops:Array Oper} {Q:Exit→Act→World→Prop} {md:Region.Mode} {W0:World}

/-- In every world that has grown out of W0 the operation leaves v in its temporary, and a world that has grown out of that one. -/
def Grows (P:Program) (ops:Array Oper) (W0:World) (o:Oper) (v:Value) (a:Act):Prop :=
 (Region.wanted o (yielded ops a.tmps)=true∧∀ n:Past W0,Oper.quietUpon P (fun w'=>Below n.now.heap.size n.now w') n.now v ((execOp a.eval o).run P n.now)) ∨
 (Region.wanted o (yielded ops a.tmps)=false∧v=undef)

theorem Grows.of_same {o:Oper} {v:Value} {a a':Act} (hy:Grows P ops W0 o v a) (he:execOp a'.eval o=execOp a.eval o)
  (hw:Region.wanted o (yielded ops a'.tmps)=Region.wanted o (yielded ops a.tmps)):Grows P ops W0 o v a':=by
 unfold Grows at *;rw [he,hw];exact hy
theorem Grows.wpOp {i:Nat} {o:Oper} {v:Value} {a:Act} (hi:ops[i]? = some o) (hy:Grows P ops W0 o v a)
  {K:Act→World→Prop} {w:World} (hB:Below W0.heap.size W0 w) (h:∀ w',Below w.heap.size w w'→K (a.put o.dst v) w'):wpOp P ops Q i K a w:=by
 unfold Go.wpOp;simp only [hi];rcases hy with ⟨hw,hv⟩ | ⟨hw,rfl⟩
 ·simp only [hw,if_true];left;have h3:=hv ⟨w,hB⟩;unfold Oper.wp;simp only at h3;generalize (execOp a.eval o).run P w=r at *;cases r with
  | ok n w' =>
   cases n <;> simp only [Oper.quietUpon] at h3 <;> simp only [Oper.upon]
   case value u =>
    obtain ⟨e1,e2⟩:=h3;rw [e1,e2];exact h _ (Below.refl _ _)
   case skip =>
    obtain ⟨e1,e2⟩:=h3;rw [e1,← e2];exact h _ (Below.refl _ _)
   case enter f args =>
    obtain ⟨e1,hc⟩:=h3;rw [e1];exact hc.mono fun e w'' ⟨he,hw''⟩=>by subst he; exact h _ hw''
  | halt x w'=>simp only [Oper.quietUpon] at h3
 ·simp only [hw,Bool.false_eq_true,if_false];exact h _ (Below.refl _ _)
/-- One operation, apart from another one: whether that one's value is there already makes no difference to it. -/
theorem wpOp_putG {Φ:Act→Prop} {j:Nat} {oi oj:Oper} {v:Value} (hj:ops[j]? = some oj) (hap:oi.apart ops oj=true)
  (hsj:∀ cs b,oj.op ≠ .select cs b) (hQ:∀ c a w,Q (.panic c) (a.put oi.dst v) w→Q (.panic c) a w)
  (keep:∀ (a:Act),Φ a→∀ u,Φ (a.put oj.dst u)) (keepD:∀ (a:Act) (d:Deferred),Φ a→Φ { a with defers:=d :: a.defers })
  {K:Act→World→Prop} {a:Act} {w:World} (hy:Φ a) (h:wpOp P ops Q j K (a.put oi.dst v) w) :
  wpOp P ops Q j (fun a' w'=>Φ a'∧K (a'.put oi.dst v) w') a w:=by
 obtain ⟨h1,h2,_⟩:=Oper.apart_spec hap;unfold wpOp at *;simp only [hj] at *;rw [wanted_put oj a oi.dst v h1] at h
 split
 ·rename_i hw
  simp only [hw,if_true] at h;rcases h with h | ⟨hasks,hlets⟩
  case inr=>exact .inr ⟨by unfold Oper.asks at *; rw [execOp_put oj hsj a oi.dst v h1] at hasks; exact hasks,hlets⟩
  refine .inl ?_;unfold Oper.wp at *;rw [execOp_put oj hsj a oi.dst v h1] at h;generalize (execOp a.eval oj).run P w=r at *;cases r with
  | ok n w' =>
   cases n <;> simp only [Oper.upon] at h ⊢
   case value u=>exact ⟨keep a hy u,by rw [← Act.put_comm a v u h2]; exact h⟩
   case skip=>exact ⟨keep a hy _,by rw [← Act.put_comm a v undef h2]; exact h⟩
   case defer d =>
    refine ⟨keep _ (keepD a d hy) _,?_⟩;rw [← Act.put_comm _ v undef h2,← Act.put_defers];exact h
   case enter f args =>
    refine Calls.mono h fun e w'' he=>?_
    cases e with
    | returned u=>exact ⟨keep a hy u,by rw [← Act.put_comm a v u h2]; exact he⟩
    | panicked c=>exact hQ _ _ _ he
    | outgrown=>exact he
   case row row args=>exact Rows.mono h fun u w'' he=>⟨keep a hy u,by rw [← Act.put_comm a v u h2]; exact he⟩
  | halt x w' =>
   cases x <;> simp only [Oper.upon] at h ⊢
   case panic u=>exact hQ _ _ _ h
 ·rename_i hw
  simp only [hw] at h;exact ⟨keep a hy _,by rw [← Act.put_comm a v undef h2]; exact h⟩
/-- Whatever order is picked from here on, and however the world grows ahead of each operation. -/
def wpX (P:Program) (md:Region.Mode) (ops:Array Oper) (Q:Exit→Act→World→Prop) (W0:World):Nat→Array Bool→Act→World→Prop
 | 0,listed,a,w=>Region.ready md ops listed = []∧∀ w',Below w.heap.size w w'→Q .normal a w'
 | fuel+1,listed,a,w=>∀ w',Below w.heap.size w w'→(Region.ready md ops listed = []→Q .normal a w') ∧
  ∀ i ∈ Region.ready md ops listed,wpOp P ops Q i (fun a' w''=>Below W0.heap.size W0 w''∧wpX P md ops Q W0 fuel (listed.setIfInBounds i true) a' w'') a w'

theorem wpX.later:∀ (fuel:Nat) {listed:Array Bool} {a:Act} {w w1:World},wpX P md ops Q W0 fuel listed a w→Below w.heap.size w w1→wpX P md ops Q W0 fuel listed a w1
 | 0,_,_,_,_,h,hb=>⟨h.1,fun w' hw'=>h.2 w' (chain hb hw')⟩
 | _+1,_,_,_,_,h,hb=>fun w' hw'=>h w' (chain hb hw')

theorem wpAny_of_wpX:∀ (fuel:Nat) (listed:Array Bool) (a:Act) (w:World),wpX P md ops Q W0 fuel listed a w→wpAny P md ops Q fuel listed a w
 | 0,_,_,_,h=>⟨h.1,h.2 _ (Below.refl _ _)⟩
 | fuel+1,_,_,w,h=>⟨(h w (Below.refl _ _)).1,fun i hi=>wpOp_mono (fun a' w' h'=>wpAny_of_wpX fuel _ a' w' h'.2) ((h w (Below.refl _ _)).2 i hi)⟩

theorem wpX_first {i:Nat} {oi:Oper} {v:Value} (hi:ops[i]? = some oi) (hsel:∀ (j:Nat) (o:Oper) cs b,ops[j]? = some o→o.op ≠ .select cs b)
  (hQ:∀ c a w,Q (.panic c) (a.put oi.dst v) w→Q (.panic c) a w) :
  ∀ (fuel:Nat) (listed:Array Bool) (a:Act) (w:World),
   (∀ j oj,ops[j]? = some oj→j≠i→listed.getD j true=false→(∀ e ∈ oj.after,Region.binds md e=true→e.on≠i)→oi.apart ops oj=true) →
   i ∈ Region.ready md ops listed→Grows P ops W0 oi v a→Below W0.heap.size W0 w →
   wpX P md ops Q W0 fuel (listed.setIfInBounds i true) (a.put oi.dst v) w→wpX P md ops Q W0 (fuel+1) listed a w:=by
 intro fuel
 induction fuel with
 | zero =>
  intro listed a w _ hr hy hB H w' hw';refine ⟨fun h=>(by rw [h] at hr; cases hr),fun j hj=>?_⟩;by_cases hji:j=i
  ·subst hji;exact hy.wpOp hi (chain hB hw') fun w'' hw''=>⟨chain (chain hB hw') hw'',H.later 0 (chain hw' hw'')⟩
  ·have:=ready_mono hj hji;rw [H.1] at this;cases this
 | succ fuel ih =>
  intro listed a w hfree hr hy hB H w' hw';refine ⟨fun h=>(by rw [h] at hr; cases hr),fun j hj=>?_⟩;by_cases hji:j=i
  ·subst hji;exact hy.wpOp hi (chain hB hw') fun w'' hw''=>⟨chain (chain hB hw') hw'',H.later (fuel+1) (chain hw' hw'')⟩
  ·have h1:=(H w' hw').2 j (ready_mono hj hji);obtain ⟨hjun,oj,hoj,hall⟩:=mem_ready.1 hj;have hnot:∀ e ∈ oj.after,Region.binds md e=true→e.on≠i:=fun e he hb heq=>by
    have h1:=hall e he hb;have h0:=(mem_ready.1 hr).1;rw [heq] at h1;rcases Nat.lt_or_ge i listed.size with h' | h'
    ·simp [h'] at h0 h1; rw [h0] at h1; cases h1
    ·simp [Array.getElem?_eq_none h'] at h1
   have hap:=hfree j oj hoj hji hjun hnot;obtain ⟨_,_,h3⟩:=Oper.apart_spec hap;have h2:=wpOp_putG (Φ:=Grows P ops W0 oi v) hoj hap (fun cs b=>hsel j oj cs b hoj) hQ
    (fun a hy u=>hy.of_same (execOp_put oi (fun cs b=>hsel i oi cs b hi) a oj.dst u h3) (wanted_put oi a oj.dst u h3)) (fun a d hy=>hy.of_same rfl rfl) hy h1
   have hfree':∀ k ok,ops[k]? = some ok→k≠i→(listed.setIfInBounds j true).getD k true=false →
     (∀ e ∈ ok.after,Region.binds md e=true→e.on≠i)→oi.apart ops ok=true:=fun k ok hk hki hun hno=>by
    refine hfree k ok hk hki ?_ hno;by_cases hjk:j=k
    ·subst hjk; exact hjun
    ·rw [getD_set_ne true hjk] at hun; exact hun
   refine wpOp_mono (fun a' w'' h4=>⟨h4.2.1,ih (listed.setIfInBounds j true) a' w'' hfree' (ready_mono hr (Ne.symm hji)) h4.1 h4.2.1 ?_⟩) h2;rw [Array.setIfInBounds_comm _ _ hji];exact h4.2.2
theorem wpX_take {i:Nat} {oi:Oper} {v:Value} {fuel:Nat} {listed:Array Bool} {a:Act} {w:World} (d:Option Tmp) (hi:ops[i]? = some oi) (hd:oi.dst=d)
  (hs:Region.noSelect ops=true) (hf:Region.free md ops listed i=true) (hr:(Region.ready md ops listed).contains i=true)
  (hQ:∀ c a w,Q (.panic c) (a.put oi.dst v) w→Q (.panic c) a w) (hy:Grows P ops W0 oi v a) (hB:Below W0.heap.size W0 w)
  (h:wpX P md ops Q W0 fuel (listed.setIfInBounds i true) (a.put d v) w):wpX P md ops Q W0 (fuel+1) listed a w:=by
 subst hd;exact wpX_first hi (Region.noSelect_spec hs) hQ fuel listed a w (Region.free_spec hi hf) (by simpa using hr) hy hB h
theorem wpX_step {rs:List Nat} {fuel:Nat} {listed:Array Bool} {a:Act} {w:World} (hr:Region.ready md ops listed=rs) (hne:rs ≠ [])
  (h:∀ w',Below w.heap.size w w'→∀ i ∈ rs,wpOp P ops Q i (fun a' w''=>Below W0.heap.size W0 w''∧wpX P md ops Q W0 fuel (listed.setIfInBounds i true) a' w'') a w'):wpX P md ops Q W0 (fuel+1) listed a w :=
 fun w' hw'=>⟨fun h0=>absurd (hr ▸ h0) hne,hr ▸ h w' hw'⟩
theorem wpX_done {listed:Array Bool} {a:Act} {w:World} (hr:Region.ready md ops listed = []) (h:∀ w',Below w.heap.size w w'→Q .normal a w'):wpX P md ops Q W0 0 listed a w:=⟨hr,h⟩

theorem wp_region_ext0 {id:Nat} {a:Act} {w:World} (W0:World) (hm:P.follows .mixedOrders=true)
  (h:wpX P .any ops Q W0 ops.size (Array.replicate ops.size false) a w.drew):(Code.region id ops true).wp P Q a w :=
 wp_region_any hm (wpAny_of_wpX _ _ _ _ h)
theorem wp_region_ext {id:Nat} {a:Act} {w:World} (hm:P.follows .mixedOrders=true)
  (h:wpX P .any ops Q w ops.size (Array.replicate ops.size false) a w.drew):(Code.region id ops true).wp P Q a w :=
 wp_region_any hm (wpAny_of_wpX _ _ _ _ h)
end

/-- What kids come to, as function values, in a slice that lies in a variable. -/
def KidsF (cols:List Int) (lo:Nat) (W:World) (kb:Nat) (ks:List Ex):Prop :=
 ∃ K,lo≤kb∧kb<W.heap.size∧lo≤K∧K<W.heap.size∧W.cell? ⟨kb,0,none⟩=some (.slice (some ⟨K,0,none⟩) ks.length ks.length) ∧
  ∀ (i:Nat) (h:i<ks.length),∃ u,W.cell? ⟨K,i,none⟩=some u∧Asks cols lo u (fun row=>valX row ks[i]) W
theorem KidsF.next {cols:List Int} {lo:Nat} {W w1:World} {kb:Nat} {ks:List Ex} (h:KidsF cols lo W kb ks) (hb:Since lo W w1):KidsF cols lo w1 kb ks:=by
 obtain ⟨K,h1,h2,h3,h4,h5,h6⟩:=h;refine ⟨K,h1,Nat.lt_of_lt_of_le h2 hb.1,h3,Nat.lt_of_lt_of_le h4 hb.1,(hb.cell (p:=⟨kb,0,none⟩) h1 h2).trans h5,fun i hi=>?_⟩;obtain ⟨u,c,a⟩:=h6 i hi;exact ⟨u,(hb.cell (p:=⟨K,i,none⟩) h3 h4).trans c,a.next hb⟩
set_option maxHeartbeats 600000 in
theorem ready1_at (cols:List Int) (lo:Nat) (kb:Nat) (ks:List Ex) (a:Option Addr) (row:List Vl) (cap:Nat) (W:World) (hK:KidsF cols lo W kb ks) (hn:0<ks.length) (hf:FitP cols row) (hs:SlAt W a row) :
  Calls Tryz.prog 205 #[.slice a row.length cap,.pointer (some ⟨kb,0,none⟩)] W fun e w'=>e = .returned (agV (notP (valX row ks[0])))∧Below W.heap.size W w':=by
 have hal:Below W.heap.size W (W.alloc (.cells #[.int .i64 0,.int .i64 0,.string ⟨#[]⟩] 24)):=(Below.refl _ _).alloc (Nat.le_refl _) _;have R:=Box.new W (.int .i64 0) (.int .i64 0) (.string ⟨#[]⟩) 24;obtain ⟨K,k1,k2,k3,k4,k5,k6⟩:=hK.next (Since.of hal);obtain ⟨u0,c0,a0⟩:=k6 0 hn;obtain ⟨g,cb,rfl,eg,d⟩:=a0;have d:=d row a cap _ hf (hs.next hal) (Since.refl _ _);dsimp only at d;have hn':(0:Int)<(ks.length:Int):=by omega
 have e:notP (valX row ks[0])=(tk (not3 (cls (valX row ks[0]).1 (valX row ks[0]).2.1)),tn (not3 (cls (valX row ks[0]).1 (valX row ks[0]).2.1)),⟨#[]⟩):=rfl;rw [e];clear e k6 hK;generalize valX row ks[0]=v0 at *;go_enter Tryz.func205,Tryz.ntmps205;go_wp2_with (go_at_fn g; refine d.mono ?_; rintro e w1 ⟨rfl,hb1⟩)
 have hA:=chain hal hb1;have R:=R.next hb1;clear d c0 k5;go_wp2_with fail
 refine (not_any _ _ _ _).mono ?_;rintro e w2 ⟨rfl,hb2⟩;have hA:=chain hA hb2;have ⟨r0,r1,r2,r3,r4,r5,r6⟩:=R.next hb2;go_wp2
 exact bodyPost_ret (v:=.agg #[.int .i64 (tk (not3 (cls v0.1 v0.2.1))),.int .i64 (tn (not3 (cls v0.1 v0.2.1))),.string ⟨#[]⟩]) (by simp [results,Tryz.results205,go_sem,r1,r2,r3]) rfl ⟨rfl,below_set3 hA (Nat.le_refl _)⟩
set_option maxHeartbeats 600000 in
theorem ready2_at (cols:List Int) (lo:Nat) (kb:Nat) (ks:List Ex) (a:Option Addr) (row:List Vl) (cap:Nat) (W:World) (hK:KidsF cols lo W kb ks) (hn:0<ks.length) (hf:FitP cols row) (hs:SlAt W a row) :
  Calls Tryz.prog 207 #[.slice a row.length cap,.pointer (some ⟨kb,0,none⟩)] W fun e w'=>e = .returned (agV (tri (some ((valX row ks[0]).1 == 1))))∧Below W.heap.size W w':=by
 have hal:Below W.heap.size W (W.alloc (.cells #[.int .i64 0,.int .i64 0,.string ⟨#[]⟩] 24)):=(Below.refl _ _).alloc (Nat.le_refl _) _;have R:=Box.new W (.int .i64 0) (.int .i64 0) (.string ⟨#[]⟩) 24;obtain ⟨K,k1,k2,k3,k4,k5,k6⟩:=hK.next (Since.of hal);obtain ⟨u0,c0,a0⟩:=k6 0 hn;obtain ⟨g,cb,rfl,eg,d⟩:=a0;have d:=d row a cap _ hf (hs.next hal) (Since.refl _ _);dsimp only at d;have hn':(0:Int)<(ks.length:Int):=by omega
 have e:tri (some ((valX row ks[0]).1 == 1))=(2,tn (some ((valX row ks[0]).1 == 1)),⟨#[]⟩):=rfl;rw [e];clear e k6 hK;generalize valX row ks[0]=v0 at *;go_enter Tryz.func207,Tryz.ntmps207;go_wp2_with (go_at_fn g; refine d.mono ?_; rintro e w1 ⟨rfl,hb1⟩)
 have hA:=chain hal hb1;have R:=R.next hb1;clear d c0 k5;go_wp2_with fail
 refine (isNull_at _ _ _ _).mono ?_;rintro e w2 ⟨rfl,hb2⟩;have hA:=chain hA hb2;have R:=R.next hb2;go_wp2_with fail
 refine (bool_any _ _).mono ?_;rintro e w3 ⟨rfl,hb3⟩;have hA:=chain hA hb3;have ⟨r0,r1,r2,r3,r4,r5,r6⟩:=R.next hb3;go_wp2
 exact bodyPost_ret (v:=.agg #[.int .i64 2,.int .i64 (tn (some (v0.1 == 1))),.string ⟨#[]⟩]) (by simp [results,Tryz.results207,go_sem,r1,r2,r3]) rfl ⟨rfl,below_set3 hA (Nat.le_refl _)⟩
set_option maxHeartbeats 2000000 in
theorem ready3_at (cols:List Int) (lo:Nat) (kb db:Nat) (k:Int) (ks:List Ex) (a:Option Addr) (row:List Vl) (cap:Nat) (W:World) (ud:Value) (cd:W.cell? ⟨db,0,none⟩=some ud) (F:Fn2 lo ud (twoP k) W)
  (hK:KidsF cols lo W kb ks) (hn:1<ks.length) (hf:FitP cols row) (hs:SlAt W a row) (g0:wrongP (valX row ks[0])=0) (g1:wrongP (valX row ks[1])=0) :
  Calls Tryz.prog 211 #[.slice a row.length cap,.pointer (some ⟨db,0,none⟩),.pointer (some ⟨kb,0,none⟩)] W fun e w'=>e = .returned (agV (twoP k (valX row ks[0]) (valX row ks[1])))∧Below W.heap.size W w':=by
 have hal:Below W.heap.size W (W.alloc (.cells #[.int .i64 0,.int .i64 0,.string ⟨#[]⟩] 24)):=(Below.refl _ _).alloc (Nat.le_refl _) _;have R:=Box.new W (.int .i64 0) (.int .i64 0) (.string ⟨#[]⟩) 24;obtain ⟨K,k1,k2,k3,k4,k5,k6⟩:=hK;obtain ⟨u0,c0,a0⟩:=k6 0 (by omega);obtain ⟨u1,c1,a1⟩:=k6 1 hn;obtain ⟨h0,cb0,rfl,eg0,d0⟩:=a0;obtain ⟨h1,cb1,rfl,eg1,d1⟩:=a1;obtain ⟨h2,cb2,rfl,eg2,d2⟩:=F;have d0:=fun n:Past W=>d0 row a cap n.now hf (hs.next n.ok) (Since.of n.ok)
 have d1:=fun n:Past W=>d1 row a cap n.now hf (hs.next n.ok) (Since.of n.ok)
 dsimp only at d0 d1;have d2:=fun n:Past W=>d2 (valX row ks[0]) (valX row ks[1]) n.now g0 g1 (Since.of n.ok)
 have n0:0<ks.length:=by omega
 have l0:(0:Int)<(ks.length:Int):=by omega
 have l1:(1:Int)<(ks.length:Int):=by omega
 have p0:=past_cell cd;have p1:=past_cell k5;have p2:=past_cell c0;have p3:=past_cell c1;generalize hr:twoP k (valX row ks[0]) (valX row ks[1])=r at *;generalize valX row ks[0]=v0 at *;generalize valX row ks[1]=v1 at *;clear k6 hr;go_enter Tryz.func211,Tryz.ntmps211;go_wp2_with fail
 generalize W.alloc (.cells #[.int .i64 0,.int .i64 0,.string ⟨#[]⟩] 24)=w0 at *;have hB0:Below W.heap.size W w0.drew:=hal.drew;refine wp_region_ext0 W (by kernel_rfl) ?_;refine wpX_take (some 5) (i:=0) (v:=.func (.func h2) #[] cb2) rfl rfl (by kernel_rfl) (by kernel_rfl) (by kernel_rfl) (fun _ _ _ h=>h) (Or.inl ⟨rfl,fun n=>?_⟩) hB0 ?_
 ·go_simp
 simp only [Act.put,pA,pB,pC];refine wpX_take (some 6) (i:=1) (v:=.slice (some ⟨K,0,none⟩) ks.length ks.length) rfl rfl (by kernel_rfl) (by kernel_rfl) (by kernel_rfl) (fun _ _ _ h=>h) (Or.inl ⟨rfl,fun n=>?_⟩) hB0 ?_
 ·go_simp
 simp only [Act.put,pA,pB,pC];refine wpX_take (some 7) (i:=2) (v:=.pointer (some ⟨K,0,none⟩)) rfl rfl (by kernel_rfl) (by kernel_rfl) (by kernel_rfl) (fun _ _ _ h=>h) (Or.inl ⟨rfl,fun n=>?_⟩) hB0 ?_
 ·go_simp
 simp only [Act.put,pA,pB,pC];refine wpX_take (some 8) (i:=3) (v:=.func (.func h0) #[] cb0) rfl rfl (by kernel_rfl) (by kernel_rfl) (by kernel_rfl) (fun _ _ _ h=>h) (Or.inl ⟨rfl,fun n=>?_⟩) hB0 ?_
 ·go_simp
 simp only [Act.put,pA,pB,pC];refine wpX_take (some 9) (i:=4) (v:=.slice a row.length cap) rfl rfl (by kernel_rfl) (by kernel_rfl) (by kernel_rfl) (fun _ _ _ h=>h) (Or.inl ⟨rfl,fun n=>?_⟩) hB0 ?_
 ·go_simp
 simp only [Act.put,pA,pB,pC];refine wpX_take (some 11) (i:=6) (v:=.slice (some ⟨K,0,none⟩) ks.length ks.length) rfl rfl (by kernel_rfl) (by kernel_rfl) (by kernel_rfl) (fun _ _ _ h=>h) (Or.inl ⟨rfl,fun n=>?_⟩) hB0 ?_
 ·go_simp
 simp only [Act.put,pA,pB,pC];refine wpX_take (some 12) (i:=7) (v:=.pointer (some ⟨K,1,none⟩)) rfl rfl (by kernel_rfl) (by kernel_rfl) (by kernel_rfl) (fun _ _ _ h=>h) (Or.inl ⟨rfl,fun n=>?_⟩) hB0 ?_
 ·go_simp
 simp only [Act.put,pA,pB,pC];refine wpX_take (some 13) (i:=8) (v:=.func (.func h1) #[] cb1) rfl rfl (by kernel_rfl) (by kernel_rfl) (by kernel_rfl) (fun _ _ _ h=>h) (Or.inl ⟨rfl,fun n=>?_⟩) hB0 ?_
 ·go_simp
 simp only [Act.put,pA,pB,pC];refine wpX_take (some 14) (i:=9) (v:=.slice a row.length cap) rfl rfl (by kernel_rfl) (by kernel_rfl) (by kernel_rfl) (fun _ _ _ h=>h) (Or.inl ⟨rfl,fun n=>?_⟩) hB0 ?_
 ·go_simp
 simp only [Act.put,pA,pB,pC];refine wpX_take (some 10) (i:=5) (v:=agV v0) rfl rfl (by kernel_rfl) (by kernel_rfl) (by kernel_rfl) (fun _ _ _ h=>h) (Or.inl ⟨rfl,fun n=>?_⟩) hB0 ?_
 ·go_simp
 simp only [Act.put,pA,pB,pC];refine wpX_take (some 15) (i:=10) (v:=agV v1) rfl rfl (by kernel_rfl) (by kernel_rfl) (by kernel_rfl) (fun _ _ _ h=>h) (Or.inl ⟨rfl,fun n=>?_⟩) hB0 ?_
 ·go_simp
 simp only [Act.put,pA,pB,pC];refine wpX_take (some 16) (i:=11) (v:=agV r) rfl rfl (by kernel_rfl) (by kernel_rfl) (by kernel_rfl) (fun _ _ _ h=>h) (Or.inl ⟨rfl,fun n=>?_⟩) hB0 ?_
 ·go_simp
 simp only [Act.put,pA,pB,pC];clear p0 p1 p2 p3 d0 d1 d2;refine wpX_step (rs:=[12]) (by kernel_rfl) (by simp) ?_;intro w12 hb12 j hj;obtain rfl:j=12:=by simpa using hj
 clear hj;have D12:=hB0.trans (hb12.mono hB0.size);have R12:=(R.next ((Below.refl _ _).drew)).next hb12;have P12:=R12.put3 (.int .i64 r.1) (.int .i64 r.2.1) (.string r.2.2);have ⟨b0,b1,b2,b3,b4,b5,b6⟩:=R12;refine wpOp_step rfl (fun K hK=>?_);go_simp;refine hK _ _ ⟨below_set3 D12 (Nat.le_refl _),?_⟩;clear hK K;refine wpX_done (by kernel_rfl) ?_;intro w13 hb13;have D13:=(below_set3 D12 (Nat.le_refl _) (x:=.int .i64 r.1) (y:=.int .i64 r.2.1) (z:=.string r.2.2)).trans (hb13.mono (below_set3 D12 (Nat.le_refl _)).size);have ⟨g0,g1,g2,g3,g4,g5,g6⟩:=P12.next hb13;clear b0 b1 b2 b3 b4 b5 b6
 go_wp2
 exact bodyPost_ret (v:=agV r) (by simp [results,Tryz.results211,go_sem,g1,g2,g3]) rfl ⟨rfl,D13⟩

set_option maxHeartbeats 400000 in
theorem kidsType_3 (B:Nat) (a:Option Addr) (cap:Nat) (ts:List Int) (w:World) (hB:B≤w.heap.size) (h:IsAt B w a ts) :
  Calls Tryz.prog 226 #[.int .i64 3,.slice a ts.length cap] w fun e w'=>e = .returned (.tuple #[.int .i64 (resT (allO 2 ts)).1,.int .i64 (resT (allO 2 ts)).2])∧Below w.heap.size w w':=by
 have con:=allOf_at 2 B a cap ts w hB h;generalize resT (allO 2 ts)=r at *;generalize ts.length=n at *;clear h;go_enter Tryz.func226,Tryz.ntmps226;go_wp2_with fail
 refine con.mono ?_;rintro e w1 ⟨rfl,hb1⟩;go_wp2
 exact bodyPost_ret (v:=.tuple #[.int .i64 r.1,.int .i64 r.2]) (by simp [results,Tryz.results226,go_sem]) rfl ⟨rfl,hb1⟩
set_option maxHeartbeats 400000 in
theorem kidsType_4 (B:Nat) (a:Option Addr) (cap:Nat) (ts:List Int) (w:World) (hB:B≤w.heap.size) (h:IsAt B w a ts) :
  Calls Tryz.prog 226 #[.int .i64 4,.slice a ts.length cap] w fun e w'=>e = .returned (.tuple #[.int .i64 (resT (allO 2 ts)).1,.int .i64 (resT (allO 2 ts)).2])∧Below w.heap.size w w':=by
 have con:=allOf_at 2 B a cap ts w hB h;generalize resT (allO 2 ts)=r at *;generalize ts.length=n at *;clear h;go_enter Tryz.func226,Tryz.ntmps226;go_wp2_with fail
 refine con.mono ?_;rintro e w1 ⟨rfl,hb1⟩;go_wp2
 exact bodyPost_ret (v:=.tuple #[.int .i64 r.1,.int .i64 r.2]) (by simp [results,Tryz.results226,go_sem]) rfl ⟨rfl,hb1⟩
set_option maxHeartbeats 400000 in
theorem kidsType_5 (B:Nat) (a:Option Addr) (cap:Nat) (ts:List Int) (w:World) (hB:B≤w.heap.size) (h:IsAt B w a ts) :
  Calls Tryz.prog 226 #[.int .i64 5,.slice a ts.length cap] w fun e w'=>e = .returned (.tuple #[.int .i64 (resT (allO 2 ts)).1,.int .i64 (resT (allO 2 ts)).2])∧Below w.heap.size w w':=by
 have con:=allOf_at 2 B a cap ts w hB h;generalize resT (allO 2 ts)=r at *;generalize ts.length=n at *;clear h;go_enter Tryz.func226,Tryz.ntmps226;go_wp2_with fail
 refine con.mono ?_;rintro e w1 ⟨rfl,hb1⟩;go_wp2
 exact bodyPost_ret (v:=.tuple #[.int .i64 r.1,.int .i64 r.2]) (by simp [results,Tryz.results226,go_sem]) rfl ⟨rfl,hb1⟩
set_option maxHeartbeats 400000 in
theorem kidsType_12 (B:Nat) (a:Option Addr) (cap:Nat) (ts:List Int) (w:World) (hB:B≤w.heap.size) (h:IsAt B w a ts) :
  Calls Tryz.prog 226 #[.int .i64 12,.slice a ts.length cap] w fun e w'=>e = .returned (.tuple #[.int .i64 (resT (allO 3 ts)).1,.int .i64 (resT (allO 3 ts)).2])∧Below w.heap.size w w':=by
 have con:=allOf_at 3 B a cap ts w hB h;generalize resT (allO 3 ts)=r at *;generalize ts.length=n at *;clear h;go_enter Tryz.func226,Tryz.ntmps226;go_wp2_with fail
 refine con.mono ?_;rintro e w1 ⟨rfl,hb1⟩;go_wp2
 exact bodyPost_ret (v:=.tuple #[.int .i64 r.1,.int .i64 r.2]) (by simp [results,Tryz.results226,go_sem]) rfl ⟨rfl,hb1⟩
set_option maxHeartbeats 400000 in
theorem kidsType_13 (B:Nat) (a:Option Addr) (cap:Nat) (ts:List Int) (w:World) (hB:B≤w.heap.size) (h:IsAt B w a ts) :
  Calls Tryz.prog 226 #[.int .i64 13,.slice a ts.length cap] w fun e w'=>e = .returned (.tuple #[.int .i64 (resT (allO 3 ts)).1,.int .i64 (resT (allO 3 ts)).2])∧Below w.heap.size w w':=by
 have con:=allOf_at 3 B a cap ts w hB h;generalize resT (allO 3 ts)=r at *;generalize ts.length=n at *;clear h;go_enter Tryz.func226,Tryz.ntmps226;go_wp2_with fail
 refine con.mono ?_;rintro e w1 ⟨rfl,hb1⟩;go_wp2
 exact bodyPost_ret (v:=.tuple #[.int .i64 r.1,.int .i64 r.2]) (by simp [results,Tryz.results226,go_sem]) rfl ⟨rfl,hb1⟩
set_option maxHeartbeats 400000 in
theorem kidsType_14 (B:Nat) (a:Option Addr) (cap:Nat) (ts:List Int) (w:World) (hB:B≤w.heap.size) (h:IsAt B w a ts) :
  Calls Tryz.prog 226 #[.int .i64 14,.slice a ts.length cap] w fun e w'=>e = .returned (.tuple #[.int .i64 (resT (allO 3 ts)).1,.int .i64 (resT (allO 3 ts)).2])∧Below w.heap.size w w':=by
 have con:=allOf_at 3 B a cap ts w hB h;generalize resT (allO 3 ts)=r at *;generalize ts.length=n at *;clear h;go_enter Tryz.func226,Tryz.ntmps226;go_wp2_with fail
 refine con.mono ?_;rintro e w1 ⟨rfl,hb1⟩;go_wp2
 exact bodyPost_ret (v:=.tuple #[.int .i64 r.1,.int .i64 r.2]) (by simp [results,Tryz.results226,go_sem]) rfl ⟨rfl,hb1⟩
set_option maxHeartbeats 400000 in
theorem kidsType_15 (B:Nat) (a:Option Addr) (cap:Nat) (ts:List Int) (w:World) (hB:B≤w.heap.size) (h:IsAt B w a ts) :
  Calls Tryz.prog 226 #[.int .i64 15,.slice a ts.length cap] w fun e w'=>e = .returned (.tuple #[.int .i64 (resT (allO 4 ts)).1,.int .i64 (resT (allO 4 ts)).2])∧Below w.heap.size w w':=by
 have con:=allOf_at 4 B a cap ts w hB h;generalize resT (allO 4 ts)=r at *;generalize ts.length=n at *;clear h;go_enter Tryz.func226,Tryz.ntmps226;go_wp2_with fail
 refine con.mono ?_;rintro e w1 ⟨rfl,hb1⟩;go_wp2
 exact bodyPost_ret (v:=.tuple #[.int .i64 r.1,.int .i64 r.2]) (by simp [results,Tryz.results226,go_sem]) rfl ⟨rfl,hb1⟩
theorem kidsType_16 (a:Option Addr) (n cap:Nat) (w:World) :
  Calls Tryz.prog 226 #[.int .i64 16,.slice a n cap] w fun e w'=>e = .returned (.tuple #[.int .i64 2,.int .i64 0])∧Below w.heap.size w w':=by
 go_enter Tryz.func226,Tryz.ntmps226;go_wp2
 exact bodyPost_ret (v:=.tuple #[.int .i64 2,.int .i64 0]) (by simp [results,Tryz.results226,go_sem]) rfl ⟨rfl,Below.refl _ _⟩

set_option maxHeartbeats 400000 in
theorem kidsType_6 (b off cap:Nat) (x y:Int) (w:World) (c0:w.cell? ⟨b,off,none⟩=some (.int .i64 x)) (c1:w.cell? ⟨b,off+1,none⟩=some (.int .i64 y)) (r:Int × Int) (er:r=if (togR x y).2=0 then (2,0) else (0,(togR x y).2)) :
  Calls Tryz.prog 226 #[.int .i64 6,.slice (some ⟨b,off,none⟩) 2 cap] w fun e w'=>e = .returned (.tuple #[.int .i64 r.1,.int .i64 r.2])∧Below w.heap.size w w':=by
 have p0:=past_cell c0;have p1:=past_cell c1;haveI:Nonempty (Past w):=⟨⟨_,Below.refl _ _⟩⟩
 go_enter Tryz.func226,Tryz.ntmps226;go_wp2_with fail
 refine wp_region_past (by kernel_rfl) (by kernel_rfl) ?_
 repeat (go_big_quiet_step (first | (go_at_call 173; exact in_past (together_at x y _))))
 refine wpQuiet_nil ?_;rintro w3 ⟨⟨v3,hb3⟩,h3⟩;obtain rfl:w3=v3:=h3;clear p0 p1 c0 c1;generalize togR x y=t at *;obtain ⟨t1,t2⟩:=t;by_cases h0:t2=0
 ·subst h0;simp only [if_true] at er;subst er;go_wp2
  exact bodyPost_ret (v:=.tuple #[.int .i64 2,.int .i64 0]) (by simp [results,Tryz.results226,go_sem]) rfl ⟨rfl,hb3⟩
 ·simp only [h0,if_false] at er;subst er;have q:(t2 != 0)=true:=by simpa using h0
  go_wp2
  exact bodyPost_ret (v:=.tuple #[.int .i64 0,.int .i64 t2]) (by simp [results,Tryz.results226,go_sem]) rfl ⟨rfl,hb3⟩
set_option maxHeartbeats 400000 in
theorem kidsType_7 (b off cap:Nat) (x y:Int) (w:World) (c0:w.cell? ⟨b,off,none⟩=some (.int .i64 x)) (c1:w.cell? ⟨b,off+1,none⟩=some (.int .i64 y)) (r:Int × Int) (er:r=if (togR x y).2=0 then (2,0) else (0,(togR x y).2)) :
  Calls Tryz.prog 226 #[.int .i64 7,.slice (some ⟨b,off,none⟩) 2 cap] w fun e w'=>e = .returned (.tuple #[.int .i64 r.1,.int .i64 r.2])∧Below w.heap.size w w':=by
 have p0:=past_cell c0;have p1:=past_cell c1;haveI:Nonempty (Past w):=⟨⟨_,Below.refl _ _⟩⟩
 go_enter Tryz.func226,Tryz.ntmps226;go_wp2_with fail
 refine wp_region_past (by kernel_rfl) (by kernel_rfl) ?_
 repeat (go_big_quiet_step (first | (go_at_call 173; exact in_past (together_at x y _))))
 refine wpQuiet_nil ?_;rintro w3 ⟨⟨v3,hb3⟩,h3⟩;obtain rfl:w3=v3:=h3;clear p0 p1 c0 c1;generalize togR x y=t at *;obtain ⟨t1,t2⟩:=t;by_cases h0:t2=0
 ·subst h0;simp only [if_true] at er;subst er;go_wp2
  exact bodyPost_ret (v:=.tuple #[.int .i64 2,.int .i64 0]) (by simp [results,Tryz.results226,go_sem]) rfl ⟨rfl,hb3⟩
 ·simp only [h0,if_false] at er;subst er;have q:(t2 != 0)=true:=by simpa using h0
  go_wp2
  exact bodyPost_ret (v:=.tuple #[.int .i64 0,.int .i64 t2]) (by simp [results,Tryz.results226,go_sem]) rfl ⟨rfl,hb3⟩
set_option maxHeartbeats 400000 in
theorem kidsType_8 (b off cap:Nat) (x y:Int) (w:World) (c0:w.cell? ⟨b,off,none⟩=some (.int .i64 x)) (c1:w.cell? ⟨b,off+1,none⟩=some (.int .i64 y)) (r:Int × Int) (er:r=if (togR x y).2=0 then (2,0) else (0,(togR x y).2)) :
  Calls Tryz.prog 226 #[.int .i64 8,.slice (some ⟨b,off,none⟩) 2 cap] w fun e w'=>e = .returned (.tuple #[.int .i64 r.1,.int .i64 r.2])∧Below w.heap.size w w':=by
 have p0:=past_cell c0;have p1:=past_cell c1;haveI:Nonempty (Past w):=⟨⟨_,Below.refl _ _⟩⟩
 go_enter Tryz.func226,Tryz.ntmps226;go_wp2_with fail
 refine wp_region_past (by kernel_rfl) (by kernel_rfl) ?_
 repeat (go_big_quiet_step (first | (go_at_call 173; exact in_past (together_at x y _))))
 refine wpQuiet_nil ?_;rintro w3 ⟨⟨v3,hb3⟩,h3⟩;obtain rfl:w3=v3:=h3;clear p0 p1 c0 c1;generalize togR x y=t at *;obtain ⟨t1,t2⟩:=t;by_cases h0:t2=0
 ·subst h0;simp only [if_true] at er;subst er;go_wp2
  exact bodyPost_ret (v:=.tuple #[.int .i64 2,.int .i64 0]) (by simp [results,Tryz.results226,go_sem]) rfl ⟨rfl,hb3⟩
 ·simp only [h0,if_false] at er;subst er;have q:(t2 != 0)=true:=by simpa using h0
  go_wp2
  exact bodyPost_ret (v:=.tuple #[.int .i64 0,.int .i64 t2]) (by simp [results,Tryz.results226,go_sem]) rfl ⟨rfl,hb3⟩
set_option maxHeartbeats 400000 in
theorem kidsType_9 (b off cap:Nat) (x y:Int) (w:World) (c0:w.cell? ⟨b,off,none⟩=some (.int .i64 x)) (c1:w.cell? ⟨b,off+1,none⟩=some (.int .i64 y)) (r:Int × Int) (er:r=if (togR x y).2=0 then (2,0) else (0,(togR x y).2)) :
  Calls Tryz.prog 226 #[.int .i64 9,.slice (some ⟨b,off,none⟩) 2 cap] w fun e w'=>e = .returned (.tuple #[.int .i64 r.1,.int .i64 r.2])∧Below w.heap.size w w':=by
 have p0:=past_cell c0;have p1:=past_cell c1;haveI:Nonempty (Past w):=⟨⟨_,Below.refl _ _⟩⟩
 go_enter Tryz.func226,Tryz.ntmps226;go_wp2_with fail
 refine wp_region_past (by kernel_rfl) (by kernel_rfl) ?_
 repeat (go_big_quiet_step (first | (go_at_call 173; exact in_past (together_at x y _))))
 refine wpQuiet_nil ?_;rintro w3 ⟨⟨v3,hb3⟩,h3⟩;obtain rfl:w3=v3:=h3;clear p0 p1 c0 c1;generalize togR x y=t at *;obtain ⟨t1,t2⟩:=t;by_cases h0:t2=0
 ·subst h0;simp only [if_true] at er;subst er;go_wp2
  exact bodyPost_ret (v:=.tuple #[.int .i64 2,.int .i64 0]) (by simp [results,Tryz.results226,go_sem]) rfl ⟨rfl,hb3⟩
 ·simp only [h0,if_false] at er;subst er;have q:(t2 != 0)=true:=by simpa using h0
  go_wp2
  exact bodyPost_ret (v:=.tuple #[.int .i64 0,.int .i64 t2]) (by simp [results,Tryz.results226,go_sem]) rfl ⟨rfl,hb3⟩
set_option maxHeartbeats 400000 in
theorem kidsType_10 (b off cap:Nat) (x y:Int) (w:World) (c0:w.cell? ⟨b,off,none⟩=some (.int .i64 x)) (c1:w.cell? ⟨b,off+1,none⟩=some (.int .i64 y)) (r:Int × Int) (er:r=if (togR x y).2=0 then (2,0) else (0,(togR x y).2)) :
  Calls Tryz.prog 226 #[.int .i64 10,.slice (some ⟨b,off,none⟩) 2 cap] w fun e w'=>e = .returned (.tuple #[.int .i64 r.1,.int .i64 r.2])∧Below w.heap.size w w':=by
 have p0:=past_cell c0;have p1:=past_cell c1;haveI:Nonempty (Past w):=⟨⟨_,Below.refl _ _⟩⟩
 go_enter Tryz.func226,Tryz.ntmps226;go_wp2_with fail
 refine wp_region_past (by kernel_rfl) (by kernel_rfl) ?_
 repeat (go_big_quiet_step (first | (go_at_call 173; exact in_past (together_at x y _))))
 refine wpQuiet_nil ?_;rintro w3 ⟨⟨v3,hb3⟩,h3⟩;obtain rfl:w3=v3:=h3;clear p0 p1 c0 c1;generalize togR x y=t at *;obtain ⟨t1,t2⟩:=t;by_cases h0:t2=0
 ·subst h0;simp only [if_true] at er;subst er;go_wp2
  exact bodyPost_ret (v:=.tuple #[.int .i64 2,.int .i64 0]) (by simp [results,Tryz.results226,go_sem]) rfl ⟨rfl,hb3⟩
 ·simp only [h0,if_false] at er;subst er;have q:(t2 != 0)=true:=by simpa using h0
  go_wp2
  exact bodyPost_ret (v:=.tuple #[.int .i64 0,.int .i64 t2]) (by simp [results,Tryz.results226,go_sem]) rfl ⟨rfl,hb3⟩
set_option maxHeartbeats 400000 in
theorem kidsType_11 (b off cap:Nat) (x y:Int) (w:World) (c0:w.cell? ⟨b,off,none⟩=some (.int .i64 x)) (c1:w.cell? ⟨b,off+1,none⟩=some (.int .i64 y)) (r:Int × Int) (er:r=if (togR x y).2=0 then (2,0) else (0,(togR x y).2)) :
  Calls Tryz.prog 226 #[.int .i64 11,.slice (some ⟨b,off,none⟩) 2 cap] w fun e w'=>e = .returned (.tuple #[.int .i64 r.1,.int .i64 r.2])∧Below w.heap.size w w':=by
 have p0:=past_cell c0;have p1:=past_cell c1;haveI:Nonempty (Past w):=⟨⟨_,Below.refl _ _⟩⟩
 go_enter Tryz.func226,Tryz.ntmps226;go_wp2_with fail
 refine wp_region_past (by kernel_rfl) (by kernel_rfl) ?_
 repeat (go_big_quiet_step (first | (go_at_call 173; exact in_past (together_at x y _))))
 refine wpQuiet_nil ?_;rintro w3 ⟨⟨v3,hb3⟩,h3⟩;obtain rfl:w3=v3:=h3;clear p0 p1 c0 c1;generalize togR x y=t at *;obtain ⟨t1,t2⟩:=t;by_cases h0:t2=0
 ·subst h0;simp only [if_true] at er;subst er;go_wp2
  exact bodyPost_ret (v:=.tuple #[.int .i64 2,.int .i64 0]) (by simp [results,Tryz.results226,go_sem]) rfl ⟨rfl,hb3⟩
 ·simp only [h0,if_false] at er;subst er;have q:(t2 != 0)=true:=by simpa using h0
  go_wp2
  exact bodyPost_ret (v:=.tuple #[.int .i64 0,.int .i64 t2]) (by simp [results,Tryz.results226,go_sem]) rfl ⟨rfl,hb3⟩

set_option maxHeartbeats 400000 in
theorem kidsType_18 (b off cap:Nat) (x y:Int) (w:World) (c0:w.cell? ⟨b,off,none⟩=some (.int .i64 x)) (c1:w.cell? ⟨b,off+1,none⟩=some (.int .i64 y)) :
  Calls Tryz.prog 226 #[.int .i64 18,.slice (some ⟨b,off,none⟩) 2 cap] w fun e w'=>e = .returned (.tuple #[.int .i64 (togR x y).1,.int .i64 (togR x y).2])∧Below w.heap.size w w':=by
 have p0:=past_cell c0;have p1:=past_cell c1;haveI:Nonempty (Past w):=⟨⟨_,Below.refl _ _⟩⟩
 go_enter Tryz.func226,Tryz.ntmps226;go_wp2_with fail
 refine wp_region_past (by kernel_rfl) (by kernel_rfl) ?_
 repeat (go_big_quiet_step (first | (go_at_call 173; exact in_past (together_at x y _))))
 refine wpQuiet_nil ?_;rintro w3 ⟨⟨v3,hb3⟩,h3⟩;obtain rfl:w3=v3:=h3;go_wp2
 exact bodyPost_ret (v:=.tuple #[.int .i64 (togR x y).1,.int .i64 (togR x y).2]) (by simp [results,Tryz.results226,go_sem]) rfl ⟨rfl,hb3⟩
set_option maxHeartbeats 800000 in
theorem kidsType_17 (b off cap:Nat) (x y z:Int) (w:World) (hb:b<w.heap.size) (c0:w.cell? ⟨b,off,none⟩=some (.int .i64 x)) (c1:w.cell? ⟨b,off+1,none⟩=some (.int .i64 y)) (c2:w.cell? ⟨b,off+2,none⟩=some (.int .i64 z)) (r:Int × Int) (er:r=if (togR x 2).2=0 then togR y z else (0,(togR x 2).2)) :
  Calls Tryz.prog 226 #[.int .i64 17,.slice (some ⟨b,off,none⟩) 3 cap] w fun e w'=>e = .returned (.tuple #[.int .i64 r.1,.int .i64 r.2])∧Below w.heap.size w w':=by
 go_enter Tryz.func226,Tryz.ntmps226;go_wp2_with fail
 refine (together_at _ _ _).mono ?_;rintro e w1 ⟨rfl,hb1⟩;have d1:=(hb1.cell (p:=⟨b,off+1,none⟩) hb).trans c1;have d2:=(hb1.cell (p:=⟨b,off+2,none⟩) hb).trans c2;have p1:=past_cell d1;have p2:=past_cell d2;haveI:Nonempty (Past w1):=⟨⟨_,Below.refl _ _⟩⟩
 clear c0 c1 c2;generalize togR x 2=t at *;obtain ⟨t1,t2⟩:=t;by_cases h0:t2=0
 ·subst h0;simp only [if_true] at er;subst er;go_wp2_with fail
  refine wp_region_past (by kernel_rfl) (by kernel_rfl) ?_
  repeat (go_big_quiet_step (first | (go_at_call 173; exact in_past (together_at y z _))))
  refine wpQuiet_nil ?_;rintro w3 ⟨⟨v3,hb3⟩,h3⟩;obtain rfl:w3=v3:=h3;go_wp2
  exact bodyPost_ret (v:=.tuple #[.int .i64 (togR y z).1,.int .i64 (togR y z).2]) (by simp [results,Tryz.results226,go_sem]) rfl ⟨rfl,chain hb1 hb3⟩
 ·simp only [h0,if_false] at er;subst er;have q:(t2 != 0)=true:=by simpa using h0
  go_wp2
  exact bodyPost_ret (v:=.tuple #[.int .i64 0,.int .i64 t2]) (by simp [results,Tryz.results226,go_sem]) rfl ⟨rfl,hb1⟩

theorem list2 {l:List Int} (h:l.length=2):∃ x y,l = [x,y]:=by
 match l,h with
 | [x,y],_=>exact ⟨x,y,rfl⟩
theorem list3 {l:List Int} (h:l.length=3):∃ x y z,l = [x,y,z]:=by
 match l,h with
 | [x,y,z],_=>exact ⟨x,y,z,rfl⟩
theorem kidsT_two {k a b:Int} (h:6≤k) (h':k≤11):resT (kidsT k [a,b])=if (togR a b).2=0 then (2,0) else (0,(togR a b).2):=by
 have e:kidsT k [a,b]=if (tog a b).isSome then some 2 else none:=by
  unfold kidsT;rw [if_neg (by omega),if_pos ⟨h,h'⟩];rfl
 rw [e];unfold togR;cases tog a b <;> rfl
theorem kidsT_three {x y z:Int}:resT (kidsT 17 [x,y,z])=if (togR x 2).2=0 then togR y z else (0,(togR x 2).2):=by
 have e:kidsT 17 [x,y,z]=if (tog x 2).isSome then tog y z else none:=rfl
 rw [e];unfold togR;cases tog x 2 <;> rfl
theorem IsAt.two {B:Nat} {W:World} {a:Option Addr} {x y:Int} (h:IsAt B W a [x,y]):∃ b off,a=some ⟨b,off,none⟩∧b<B∧W.cell? ⟨b,off,none⟩=some (.int .i64 x)∧W.cell? ⟨b,off+1,none⟩=some (.int .i64 y):=by
 obtain ⟨_,h | ⟨b,off,e,hlt,hr⟩⟩:=h
 ·simp at h
 ·exact ⟨b,off,e,hlt,hr 0 (by simp),hr 1 (by simp)⟩
theorem IsAt.three {B:Nat} {W:World} {a:Option Addr} {x y z:Int} (h:IsAt B W a [x,y,z]):∃ b off,a=some ⟨b,off,none⟩∧b<B∧W.cell? ⟨b,off,none⟩=some (.int .i64 x)∧W.cell? ⟨b,off+1,none⟩=some (.int .i64 y)∧W.cell? ⟨b,off+2,none⟩=some (.int .i64 z):=by
 obtain ⟨_,h | ⟨b,off,e,hlt,hr⟩⟩:=h
 ·simp at h
 ·exact ⟨b,off,e,hlt,hr 0 (by simp),hr 1 (by simp),hr 2 (by simp)⟩
theorem kidsType_at (k:Int) (B:Nat) (a:Option Addr) (cap:Nat) (ts:List Int) (w:World) (hB:B≤w.heap.size) (h:IsAt B w a ts) (h3:3≤k) (h18:k≤18) (hl:ts.length=kidsN k) :
  Calls Tryz.prog 226 #[.int .i64 k,.slice a ts.length cap] w fun e w'=>e = .returned (.tuple #[.int .i64 (resT (kidsT k ts)).1,.int .i64 (resT (kidsT k ts)).2])∧Below w.heap.size w w':=by
 obtain rfl | rfl | rfl | rfl | rfl | rfl | rfl | rfl | rfl | rfl | rfl | rfl | rfl | rfl | rfl | rfl:k=3∨k=4∨k=5∨k=12∨k=13∨k=14∨k=15∨k=16∨k=6∨k=7∨k=8∨k=9∨k=10∨k=11∨k=17∨k=18:=by omega
 ·have e:kidsT 3 ts=allO 2 ts:=rfl;rw [e];exact kidsType_3 B a cap ts w hB h
 ·have e:kidsT 4 ts=allO 2 ts:=rfl;rw [e];exact kidsType_4 B a cap ts w hB h
 ·have e:kidsT 5 ts=allO 2 ts:=rfl;rw [e];exact kidsType_5 B a cap ts w hB h
 ·have e:kidsT 12 ts=allO 3 ts:=rfl;rw [e];exact kidsType_12 B a cap ts w hB h
 ·have e:kidsT 13 ts=allO 3 ts:=rfl;rw [e];exact kidsType_13 B a cap ts w hB h
 ·have e:kidsT 14 ts=allO 3 ts:=rfl;rw [e];exact kidsType_14 B a cap ts w hB h
 ·have e:kidsT 15 ts=allO 4 ts:=rfl;rw [e];exact kidsType_15 B a cap ts w hB h
 ·have e:resT (kidsT 16 ts)=(2,0):=rfl;rw [e];exact kidsType_16 a ts.length cap w
 ·obtain ⟨x,y,rfl⟩:=list2 hl;obtain ⟨b,off,rfl,hlt,c0,c1⟩:=h.two;exact kidsType_6 b off cap x y w c0 c1 _ (kidsT_two (by decide) (by decide))
 ·obtain ⟨x,y,rfl⟩:=list2 hl;obtain ⟨b,off,rfl,hlt,c0,c1⟩:=h.two;exact kidsType_7 b off cap x y w c0 c1 _ (kidsT_two (by decide) (by decide))
 ·obtain ⟨x,y,rfl⟩:=list2 hl;obtain ⟨b,off,rfl,hlt,c0,c1⟩:=h.two;exact kidsType_8 b off cap x y w c0 c1 _ (kidsT_two (by decide) (by decide))
 ·obtain ⟨x,y,rfl⟩:=list2 hl;obtain ⟨b,off,rfl,hlt,c0,c1⟩:=h.two;exact kidsType_9 b off cap x y w c0 c1 _ (kidsT_two (by decide) (by decide))
 ·obtain ⟨x,y,rfl⟩:=list2 hl;obtain ⟨b,off,rfl,hlt,c0,c1⟩:=h.two;exact kidsType_10 b off cap x y w c0 c1 _ (kidsT_two (by decide) (by decide))
 ·obtain ⟨x,y,rfl⟩:=list2 hl;obtain ⟨b,off,rfl,hlt,c0,c1⟩:=h.two;exact kidsType_11 b off cap x y w c0 c1 _ (kidsT_two (by decide) (by decide))
 ·obtain ⟨x,y,z,rfl⟩:=list3 hl;obtain ⟨b,off,rfl,hlt,c0,c1,c2⟩:=h.three;exact kidsType_17 b off cap x y z w (by omega) c0 c1 c2 _ kidsT_three
 ·obtain ⟨x,y,rfl⟩:=list2 hl;obtain ⟨b,off,rfl,hlt,c0,c1⟩:=h.two;have e:resT (kidsT 18 [x,y])=togR x y:=rfl;rw [e];exact kidsType_18 b off cap x y w c0 c1
end Go.Proofs.YtohjlfhmnmcndaaGreat
