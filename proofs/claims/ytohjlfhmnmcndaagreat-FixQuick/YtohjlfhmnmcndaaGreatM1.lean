/- Together: W9, W11, Past, Rows2, W10, Z1, Z2, Z3, X0. -/
import Derived.WalkKit
import Derived.BigQuiet
import Derived.Test.YtohjlfhmnmcndaaGreatM0
namespace Go.Proofs.YtohjlfhmnmcndaaGreat
open Go.RowKit
set_option maxRecDepth 100000
set_option maxHeartbeats 16000000
def lh (k k':Int):Bool:=k == k' && k != 1
def Mv (k n:Int) (s:ByteArray) (k' n':Int) (s':ByteArray):Option Bool:=if lh k k' then some (dW k n s k' n' s' == 0) else none
def Kw (k n:Int) (s:ByteArray) (k' n':Int) (s':ByteArray):Option Bool:=if lh k k' then some (decide (dW k n s k' n' s'<0)) else none
theorem qf (k n k' n':Int) (s s':ByteArray) (w:World) :
  Calls Tryz.prog 244 #[.agg #[.int .i64 k,.int .i64 n,.string s],.agg #[.int .i64 k',.int .i64 n',.string s']] w fun e w'=>e = .returned (.bool (lh k k'))∧Below w.heap.size w w':=by
 by_cases h:k=k'
 ·subst h;by_cases h1:k=1
  ·subst h1;go_enter Tryz.func244,Tryz.ntmps244;go_wp2
   go_ret;exact ⟨fA (by simp [lh]),((Nk _ _).alloc (Nj _) _).alloc (by simp) _⟩
  ·have b1:(k != 1)=true:=by simpa using h1
   go_enter Tryz.func244,Tryz.ntmps244;go_wp2
   go_ret;exact ⟨fA (by simp [lh,h1]),((Nk _ _).alloc (Nj _) _).alloc (by simp) _⟩
 ·have b1:(k == k')=false:=by simpa using h
  go_enter Tryz.func244,Tryz.ntmps244;go_wp2
  go_ret;exact ⟨fA (by simp [lh,h]),((Nk _ _).alloc (Nj _) _).alloc (by simp) _⟩
theorem Dc (k n k' n' : Int) (s s' : ByteArray) (w : World) :
    Calls Tryz.prog 234 #[.agg #[.int .i64 k, .int .i64 n, .string s], .agg #[.int .i64 k', .int .i64 n', .string s']] w fun e w' => e = .returned (.agg #[.int .i64 (tk (Mv k n s k' n' s')), .int .i64 (tn (Mv k n s k' n' s')), .string ⟨#[]⟩]) ∧ Below w.heap.size w w' := by
  have T := ur.new w k n k' n' s s'
  have ee : Mv k n s k' n' s' = if lh k k' then some (dW k n s k' n' s' == 0) else none := rfl
  rw [ee]
  clear ee
  cases h : lh k k' <;> simp only [if_true, if_false, Ox]
  all_goals (
    go_enter Tryz.func234, Tryz.ntmps234
    go_wp2_with fail
    generalize ((w.alloc (.cells #[.int .i64 k, .int .i64 n, .string s] 24)).alloc (.cells #[.int .i64 k', .int .i64 n', .string s'] 24)).alloc (.cells #[.int .i64 0, .int .i64 0, .string ⟨#[]⟩] 24) = W0 at *
    repeat (first | refine (qf _ _ _ _ _ _ _).mono ?_ | refine (l9 _ _ _ _ _ _ _).mono ?_ | refine (rE _ _).mono ?_ | refine (dZ _).mono ?_
            rintro e w1 ⟨rfl, hb⟩
            replace T := T.next hb
            clear hb
            have ⟨a0, a1, a2, a3, a4, a5, a6⟩ := T.p
            have ⟨b0, b1, b2, b3, b4, b5, b6⟩ := T.q
            have ⟨r0, r1, r2, r3, r4, r5, r6⟩ := T.r
            try simp only [h]
            go_wp2_with fail)
    have HB := T.b
    first | exact Nl (v := .agg #[.int .i64 1, .int .i64 0, .string ⟨#[]⟩]) (by simp [results, Tryz.results234, go_sem, r1, r2, r3]) rfl ⟨rfl, aD HB (by omega)⟩ | exact Nl (v := .agg #[.int .i64 2, .int .i64 (tn (some (dW k n s k' n' s' == 0))), .string ⟨#[]⟩]) (by simp [results, Tryz.results234, go_sem, r1, r2, r3]) rfl ⟨rfl, aD HB (by omega)⟩)
theorem Gh (k n k' n' : Int) (s s' : ByteArray) (w : World) :
    Calls Tryz.prog 236 #[.agg #[.int .i64 k, .int .i64 n, .string s], .agg #[.int .i64 k', .int .i64 n', .string s']] w fun e w' => e = .returned (.agg #[.int .i64 (tk (Kw k n s k' n' s')), .int .i64 (tn (Kw k n s k' n' s')), .string ⟨#[]⟩]) ∧ Below w.heap.size w w' := by
  have T := ur.new w k n k' n' s s'
  have ee : Kw k n s k' n' s' = if lh k k' then some (decide (dW k n s k' n' s' < 0)) else none := rfl
  rw [ee]
  clear ee
  cases h : lh k k' <;> simp only [if_true, if_false, Ox]
  all_goals (
    go_enter Tryz.func236, Tryz.ntmps236
    go_wp2_with fail
    generalize ((w.alloc (.cells #[.int .i64 k, .int .i64 n, .string s] 24)).alloc (.cells #[.int .i64 k', .int .i64 n', .string s'] 24)).alloc (.cells #[.int .i64 0, .int .i64 0, .string ⟨#[]⟩] 24) = W0 at *
    repeat (first | refine (qf _ _ _ _ _ _ _).mono ?_ | refine (l9 _ _ _ _ _ _ _).mono ?_ | refine (rE _ _).mono ?_ | refine (dZ _).mono ?_
            rintro e w1 ⟨rfl, hb⟩
            replace T := T.next hb
            clear hb
            have ⟨a0, a1, a2, a3, a4, a5, a6⟩ := T.p
            have ⟨b0, b1, b2, b3, b4, b5, b6⟩ := T.q
            have ⟨r0, r1, r2, r3, r4, r5, r6⟩ := T.r
            try simp only [h]
            go_wp2_with fail)
    have HB := T.b
    first | exact Nl (v := .agg #[.int .i64 1, .int .i64 0, .string ⟨#[]⟩]) (by simp [results, Tryz.results236, go_sem, r1, r2, r3]) rfl ⟨rfl, aD HB (by omega)⟩ | exact Nl (v := .agg #[.int .i64 2, .int .i64 (tn (some (decide (dW k n s k' n' s' < 0)))), .string ⟨#[]⟩]) (by simp [results, Tryz.results236, go_sem, r1, r2, r3]) rfl ⟨rfl, aD HB (by omega)⟩)
theorem Ku {s s':ByteArray} (h:Op.bytesLess s.toList s'.toList=true):ix s s' = -1:=by simp [ix,h]
theorem Ji {s s':ByteArray} (h:Op.bytesLess s.toList s'.toList=false) (e:(s.toList == s'.toList)=false):ix s s'=1:=by simp [ix,h,e]
theorem JV {s s':ByteArray} (h:Op.bytesLess s.toList s'.toList=false) (e:(s.toList == s'.toList)=true):ix s s'=0:=by simp [ix,h,e]
theorem KS (k n k' n':Int) (s s':ByteArray) (w:World) (h:k<k') :
  Calls Tryz.prog 50 #[.agg #[.int .i64 k,.int .i64 n,.string s],.agg #[.int .i64 k',.int .i64 n',.string s']] w fun e w'=>e = .returned (.int .i64 (-1))∧Below w.heap.size w w':=by
 go_enter Tryz.func50,Tryz.ntmps50;go_wp2
 go_ret;exact ⟨rfl,((Nk _ _).alloc (Nj _) _).alloc (by simp) _⟩
theorem Lz (k n k' n':Int) (s s':ByteArray) (w:World) (h:k'<k) :
  Calls Tryz.prog 50 #[.agg #[.int .i64 k,.int .i64 n,.string s],.agg #[.int .i64 k',.int .i64 n',.string s']] w fun e w'=>e = .returned (.int .i64 (1))∧Below w.heap.size w w':=by
 have h':¬ k<k':=by omega
 go_enter Tryz.func50,Tryz.ntmps50;go_wp2
 go_ret;exact ⟨rfl,((Nk _ _).alloc (Nj _) _).alloc (by simp) _⟩
theorem Mm (k n k' n':Int) (s s':ByteArray) (w:World) (h:k=1) (h':k'=1) :
  Calls Tryz.prog 50 #[.agg #[.int .i64 k,.int .i64 n,.string s],.agg #[.int .i64 k',.int .i64 n',.string s']] w fun e w'=>e = .returned (.int .i64 (0))∧Below w.heap.size w w':=by
 subst h;subst h';go_enter Tryz.func50,Tryz.ntmps50;go_wp2
 go_ret;exact ⟨rfl,((Nk _ _).alloc (Nj _) _).alloc (by simp) _⟩
theorem H9 (k n k' n':Int) (s s':ByteArray) (w:World) (e:k'=k) (h1:(k == 1)=false) (h4:(k == 4)=false) (h4':(k != 4)=true) (h:n<n') :
  Calls Tryz.prog 50 #[.agg #[.int .i64 k,.int .i64 n,.string s],.agg #[.int .i64 k',.int .i64 n',.string s']] w fun e w'=>e = .returned (.int .i64 (-1))∧Below w.heap.size w w':=by
 subst e;go_enter Tryz.func50,Tryz.ntmps50;go_wp2
 go_ret;exact ⟨rfl,((Nk _ _).alloc (Nj _) _).alloc (by simp) _⟩
theorem FW (k n k' n':Int) (s s':ByteArray) (w:World) (e:k'=k) (h1:(k == 1)=false) (h4:(k == 4)=false) (h4':(k != 4)=true) (h:n'<n) :
  Calls Tryz.prog 50 #[.agg #[.int .i64 k,.int .i64 n,.string s],.agg #[.int .i64 k',.int .i64 n',.string s']] w fun e w'=>e = .returned (.int .i64 (1))∧Below w.heap.size w w':=by
 subst e;have h':¬ n<n':=by omega
 go_enter Tryz.func50,Tryz.ntmps50;go_wp2
 go_ret;exact ⟨rfl,((Nk _ _).alloc (Nj _) _).alloc (by simp) _⟩
theorem GU (k n k' n':Int) (s s':ByteArray) (w:World) (e:k'=k) (h1:(k == 1)=false) (h4:(k == 4)=false) (h4':(k != 4)=true) (h:n'=n) :
  Calls Tryz.prog 50 #[.agg #[.int .i64 k,.int .i64 n,.string s],.agg #[.int .i64 k',.int .i64 n',.string s']] w fun e w'=>e = .returned (.int .i64 (0))∧Below w.heap.size w w':=by
 subst e;subst h;go_enter Tryz.func50,Tryz.ntmps50;go_wp2
 go_ret;exact ⟨rfl,((Nk _ _).alloc (Nj _) _).alloc (by simp) _⟩
theorem Hm (k n k' n':Int) (s s':ByteArray) (w:World) (e:k=4) (e':k'=4) (h:Op.bytesLess s.toList s'.toList=true) :
  Calls Tryz.prog 50 #[.agg #[.int .i64 k,.int .i64 n,.string s],.agg #[.int .i64 k',.int .i64 n',.string s']] w fun e w'=>e = .returned (.int .i64 (-1))∧Below w.heap.size w w':=by
 subst e;subst e';go_enter Tryz.func50,Tryz.ntmps50;go_wp2
 go_ret;exact ⟨rfl,((Nk _ _).alloc (Nj _) _).alloc (by simp) _⟩
theorem Ic (k n k' n':Int) (s s':ByteArray) (w:World) (e:k=4) (e':k'=4) (h:Op.bytesLess s.toList s'.toList=false) (h':(s.toList == s'.toList)=false) :
  Calls Tryz.prog 50 #[.agg #[.int .i64 k,.int .i64 n,.string s],.agg #[.int .i64 k',.int .i64 n',.string s']] w fun e w'=>e = .returned (.int .i64 (1))∧Below w.heap.size w w':=by
 subst e;subst e';go_enter Tryz.func50,Tryz.ntmps50;go_wp2
 go_ret;exact ⟨rfl,((Nk _ _).alloc (Nj _) _).alloc (by simp) _⟩
theorem Fu (k n k' n':Int) (s s':ByteArray) (w:World) (e:k=4) (e':k'=4) (h:Op.bytesLess s.toList s'.toList=false) (h':(s.toList == s'.toList)=true) :
  Calls Tryz.prog 50 #[.agg #[.int .i64 k,.int .i64 n,.string s],.agg #[.int .i64 k',.int .i64 n',.string s']] w fun e w'=>e = .returned (.int .i64 (0))∧Below w.heap.size w w':=by
 subst e;subst e';go_enter Tryz.func50,Tryz.ntmps50;go_wp2
 go_ret;exact ⟨rfl,((Nk _ _).alloc (Nj _) _).alloc (by simp) _⟩
theorem oE (k n k' n':Int) (s s':ByteArray) (w:World) (k1:1≤k) (k4:k≤4) :
  Calls Tryz.prog 50 #[.agg #[.int .i64 k,.int .i64 n,.string s],.agg #[.int .i64 k',.int .i64 n',.string s']] w fun e w'=>e = .returned (.int .i64 (dW k n s k' n' s'))∧Below w.heap.size w w':=by
 by_cases e:k=k'
 ·subst e;by_cases h1:k=1
  ·subst h1;rw [FN (by omega) (by omega) (by omega)];exact Mm 1 n 1 n' s s' w rfl rfl
  by_cases h4:k=4
  ·subst h4;rw [GW];cases h:Op.bytesLess s.toList s'.toList
   ·cases h':s.toList == s'.toList
    ·rw [Ji h h']; exact Ic 4 n 4 n' s s' w rfl rfl h h'
    ·rw [JV h h']; exact Fu 4 n 4 n' s s' w rfl rfl h h'
   ·rw [Ku h]; exact Hm 4 n 4 n' s s' w rfl rfl h
  have b1:(k == 1)=false:=by simpa using h1
  have b4:(k == 4)=false:=by simpa using h4
  have c4:(k != 4)=true:=by simpa using h4
  have e:dW k n s k n' s'=iF n n':=by
   have:k=2∨k=3:=by omega
   rcases this with rfl | rfl
   ·exact Fp
   ·exact Hy
  rw [e];rcases Int.lt_trichotomy n n' with h | h | h
  ·rw [qV h]; exact H9 k n k n' s s' w rfl b1 b4 c4 h
  ·subst h; rw [wy]; exact GU k n k n s s' w rfl b1 b4 c4 rfl
  ·rw [rq h]; exact FW k n k n' s s' w rfl b1 b4 c4 h
 ·rw [Gw e];rcases Int.lt_trichotomy k k' with h | h | h
  ·rw [qV h]; exact KS k n k' n' s s' w h
  ·exact absurd h e
  ·rw [rq h]; exact Lz k n k' n' s s' w h
structure bW (w:World) where
 now:World
 ok:Below w.heap.size w now
theorem chain {w a b:World} (h:Below w.heap.size w a) (k:Below a.heap.size a b):Below w.heap.size w b:=h.trans (k.mono h.size)
theorem aq {P:Program} {id:Nat} {Q:Exit→Act→World→Prop} {a:Act} {w:World} {l:List Oper} (hm:P.follows .mixedOrders=true) (hB:Region.lexB .any l.toArray=true)
  (h:wpQuiet P l.toArray (fun w'=>∃ n:bW w,w'=n.now) (fun a'=>∀ w',(∃ n:bW w,w'=n.now)→Q .normal a' w') l a):(Code.region id l.toArray true).wp P Q a w :=
 wp_region_quiet (C:=fun w'=>∃ n:bW w,w'=n.now) hm hB ⟨⟨w.drew,(Nk _ _).drew⟩,rfl⟩ (by simpa using h)
theorem bE {P:Program} {f:FuncId} {args:Array Value} {w:World} {n:bW w} {v:Value}
  (h:Calls P f args n.now fun e w'=>e = .returned v∧Below n.now.heap.size n.now w'):Calls P f args n.now fun e w''=>e = .returned v∧∃ m:bW w,w''=m.now :=
 h.mono fun _ w' ⟨he,hb⟩=>⟨he,⟨w',chain n.ok hb⟩,rfl⟩
theorem ag {w:World} {p:Addr} {v:Value} (h:w.cell? p=some v) (n:bW w):n.now.cell? p=some v :=
 (n.ok.cell (Nt w p h)).trans h
theorem zV {l:List Vl} (h:gC l=true) {k:Nat} (hk:k<l.length):1≤l[k].1∧l[k].1≤4:=by
 unfold gC at h;rw [OY] at h;have hw:=h l[k] (Ns hk);simp only [beq_iff_eq] at hw;unfold aI at hw;by_cases h1:l[k].1=1
 ·omega
 by_cases h2:l[k].1=2
 ·omega
 by_cases h3:l[k].1=3
 ·omega
 by_cases h4:l[k].1=4
 ·omega
 ·simp [h1,h2,h3,h4] at hw
theorem tz (a a':Option Addr) (cap cap':Nat) (l l':List Vl) (w:World) (h:aM w a l) (h':aM w a' l') (hr:gC l=true) :
  Calls Tryz.prog 24 #[.slice a l.length cap,.slice a' l'.length cap'] w fun e w'=>e = .returned (.int .i64 (aG l l'))∧Below w.heap.size w w':=by
 have hl:=h.1;have hl':=h'.1;unfold maxLen at hl hl';have HR:Hid (gC l=true):=hr;clear hr;go_enter Tryz.func24,Tryz.ntmps24;go_wp2
 go_loopw [5] (fun i w1=>∃ k:Nat,k≤l.length∧k≤l'.length∧i = .int .i64 k∧Hid (aG l l'=aG (l.drop k) (l'.drop k))∧Below w.heap.size w w1) (fun i _=>l.length - (intOf i).toNat)
 case atStart=>exact ⟨0,Nr _,Nr _,rfl,rfl,Nk _ _⟩
 case round =>
  obtain ⟨k,hk,hk',rfl,HC,hb⟩:=hrel;have hz:=hb.size;by_cases hlt:k<l.length
  ·have b1:((k:Int) == (l.length:Int))=false:=by simp; omega
   by_cases hlt':k<l'.length
   ·have b2:((k:Int) == (l'.length:Int))=false:=by simp; omega
    have i0:(0:Int)≤(k:Int):=by omega
    have i1:(k:Int)<(l.length:Int):=by omega
    have i2:(k:Int)<(l'.length:Int):=by omega
    obtain ⟨b,off,rfl,hbl,c0,c1,c2⟩:=(h.next hb).elem hlt;obtain ⟨b',off',rfl,hbl',d0,d1,d2⟩:=(h'.next hb).elem hlt';have ⟨g0,g1⟩:=zV HR.out hlt;have p0:=ag c0;have p1:=ag c1;have p2:=ag c2;have p3:=ag d0;have p4:=ag d1;have p5:=ag d2;haveI:Nonempty (bW wr):=⟨⟨wr,Nk _ _⟩⟩
    by_cases e:cZ l[k] l'[k]=0
    ·have E:Hid (cZ l[k] l'[k]=0):=e;have E2:dW l[k].1 l[k].2.1 l[k].2.2 l'[k].1 l'[k].2.1 l'[k].2.2=0:=e;clear e;go_wp2_with fail
     refine aq (by kernel_rfl) (by kernel_rfl) ?_
     repeat (go_big_quiet_step (first | (go_at_call 50; exact bE (oE _ _ _ _ _ _ _ g0 g1))))
     refine wpQuiet_nil ?_;rintro _ ⟨⟨w2,hb2⟩,rfl⟩;go_wp2
     go_roundw
     case rel=>exact ⟨k+1,by omega,by omega,by go_num,HC.out.trans (by rw [mE l l' k hlt hlt',if_pos E.out]),chain hb hb2⟩
     case measure=>simp [intOf]; omega
    ·have E:Hid (¬ cZ l[k] l'[k]=0):=e;have E2:(dW l[k].1 l[k].2.1 l[k].2.2 l'[k].1 l'[k].2.1 l'[k].2.2 != 0)=true:=by simpa [cZ] using e
     clear e;go_wp2_with fail
     refine aq (by kernel_rfl) (by kernel_rfl) ?_
     repeat (go_big_quiet_step (first | (go_at_call 50; exact bE (oE _ _ _ _ _ _ _ g0 g1))))
     refine wpQuiet_nil ?_;rintro _ ⟨⟨w2,hb2⟩,rfl⟩;go_wp2
     go_ret;exact ⟨aA (by rw [HC.out,mE l l' k hlt hlt',if_neg E.out]; rfl),chain hb hb2⟩
   ·have b2:((k:Int) == (l'.length:Int))=true:=by simp; omega
    go_wp2
    go_ret;exact ⟨aA (by rw [HC.out,vg l l' k hlt (by omega)]),hb⟩
  ·have b1:((k:Int) == (l.length:Int))=true:=by simp; omega
   by_cases hlt':k<l'.length
   ·have b2:((k:Int) == (l'.length:Int))=false:=by simp; omega
    go_wp2
    go_ret;exact ⟨aA (by rw [HC.out,ti l l' k (by omega) hlt']),hb⟩
   ·have b2:((k:Int) == (l'.length:Int))=true:=by simp; omega
    go_wp2
    go_ret;exact ⟨aA (by rw [HC.out,vX l l' k (by omega) (by omega)]),hb⟩
def fF (k n:Int):Int:=if k=2∨k=3 then n else 0
def kp (k:Int) (s:ByteArray):ByteArray:=if k=4 then s else ⟨#[]⟩
theorem tH {k:Int} {s:ByteArray} (h:¬ k=4):kp k s=⟨#[]⟩:=by simp [kp,h]
theorem Gq {k n:Int} (h2:¬ k=2) (h3:¬ k=3):fF k n=0:=by simp [fF,h2,h3]
theorem Lx (k n:Int) (s:ByteArray) (w:World) (h:k=2) :
  Calls Tryz.prog 133 #[.agg #[.int .i64 k,.int .i64 n,.string s]] w fun e w'=>e = .returned (.agg #[.int .i64 2,.int .i64 n,.string ⟨#[]⟩])∧Below w.heap.size w w':=by
 subst h;go_enter Tryz.func133,Tryz.ntmps133;go_wp2
 exact Nl (v:=.agg #[.int .i64 2,.int .i64 n,.string ⟨#[]⟩]) (by simp [results,Tryz.results133,go_sem]) rfl ⟨rfl,((Nk _ _).alloc (Nj _) _).alloc (by simp) _⟩
theorem K5 (k n:Int) (s:ByteArray) (w:World) (h:k=3) :
  Calls Tryz.prog 133 #[.agg #[.int .i64 k,.int .i64 n,.string s]] w fun e w'=>e = .returned (.agg #[.int .i64 3,.int .i64 n,.string ⟨#[]⟩])∧Below w.heap.size w w':=by
 subst h;go_enter Tryz.func133,Tryz.ntmps133;go_wp2
 exact Nl (v:=.agg #[.int .i64 3,.int .i64 n,.string ⟨#[]⟩]) (by simp [results,Tryz.results133,go_sem]) rfl ⟨rfl,((Nk _ _).alloc (Nj _) _).alloc (by simp) _⟩
theorem La (k n:Int) (s:ByteArray) (w:World) (h:k=4) :
  Calls Tryz.prog 133 #[.agg #[.int .i64 k,.int .i64 n,.string s]] w fun e w'=>e = .returned (.agg #[.int .i64 4,.int .i64 0,.string s])∧Below w.heap.size w w':=by
 subst h;go_enter Tryz.func133,Tryz.ntmps133;go_wp2
 exact Nl (v:=.agg #[.int .i64 4,.int .i64 0,.string s]) (by simp [results,Tryz.results133,go_sem]) rfl ⟨rfl,((Nk _ _).alloc (Nj _) _).alloc (by simp) _⟩
theorem LK (k n:Int) (s:ByteArray) (w:World) (h2:¬ k=2) (h3:¬ k=3) (h4:¬ k=4) :
  Calls Tryz.prog 133 #[.agg #[.int .i64 k,.int .i64 n,.string s]] w fun e w'=>e = .returned (.agg #[.int .i64 k,.int .i64 0,.string ⟨#[]⟩])∧Below w.heap.size w w':=by
 have b2:(k == 2)=false:=by simpa using h2
 have b3:(k == 3)=false:=by simpa using h3
 have b4:(k == 4)=false:=by simpa using h4
 go_enter Tryz.func133,Tryz.ntmps133;go_wp2
 exact Nl (v:=.agg #[.int .i64 k,.int .i64 0,.string ⟨#[]⟩]) (by simp [results,Tryz.results133,go_sem]) rfl ⟨rfl,((Nk _ _).alloc (Nj _) _).alloc (by simp) _⟩
theorem rF (k n:Int) (s:ByteArray) (w:World) :
  Calls Tryz.prog 133 #[.agg #[.int .i64 k,.int .i64 n,.string s]] w fun e w'=>e = .returned (.agg #[.int .i64 k,.int .i64 (fF k n),.string (kp k s)])∧Below w.heap.size w w':=by
 by_cases h2:k=2
 ·have e:fF k n=n:=by simp [fF,h2]
  rw [e,tH (by omega),h2];exact Lx 2 n s w rfl
 by_cases h3:k=3
 ·have e:fF k n=n:=by simp [fF,h3]
  rw [e,tH (by omega),h3];exact K5 3 n s w rfl
 rw [Gq h2 h3];by_cases h4:k=4
 ·have e:kp k s=s:=by simp [kp,h4]
  rw [e,h4];exact La 4 n s w rfl
 rw [tH h4];exact LK k n s w h2 h3 h4
def gz:List Vl→Int
 | []=>0
 | v :: r=>if aI v.1 v.2.1 v.2.2=0 then gz r else aI v.1 v.2.1 v.2.2
def aJ (l:List Vl):Int:=if 8<l.length then 5 else gz l
def hJ (w:Int):Bool:=decide (-1000000≤w) && decide (w≤1000000)
theorem js (l:List Vl) (k:Nat) (h:k<l.length):gz (l.drop k)=if aI l[k].1 l[k].2.1 l[k].2.2=0 then gz (l.drop (k+1)) else aI l[k].1 l[k].2.1 l[k].2.2:=by
 rw [Nq h]; rfl
theorem tK (l:List Vl) (k:Nat) (h:l.length≤k):gz (l.drop k)=0:=by rw [NI h]; rfl
theorem oD:∀ (l:List Vl),gz l=0↔gC l=true
 | []=>by simp [gz,gC]
 | v :: r=>by
  have ih:=oD r
  unfold gC at ih ⊢
  by_cases h:aI v.1 v.2.1 v.2.2=0 <;> simp [gz,h,ih]
theorem cO (l:List Vl):aJ l=0↔l.length≤8∧gC l=true:=by
 unfold aJ;by_cases h:8<l.length
 ·rw [if_pos h];constructor
  ·intro h'; omega
  ·rintro ⟨h',_⟩; omega
 ·rw [if_neg h,oD];exact ⟨fun h'=>⟨by omega,h'⟩,fun h'=>h'.2⟩
theorem qm (a:Option Addr) (cap:Nat) (l:List Vl) (w:World) (h:aM w a l) :
  Calls Tryz.prog 103 #[.slice a l.length cap] w fun e w'=>e = .returned (.int .i64 (aJ l))∧Below w.heap.size w w':=by
 have hl:=h.1;unfold maxLen at hl;by_cases h8:8<l.length
 ·have e:aJ l=5:=by simp [aJ,h8]
  rw [e];clear e;go_enter Tryz.func103,Tryz.ntmps103;go_wp2
  go_ret;exact ⟨rfl,Nk _ _⟩
 ·have e:aJ l=gz l:=by simp [aJ,h8]
  rw [e];clear e;go_enter Tryz.func103,Tryz.ntmps103;go_wp2_with fail
  go_loopw [11] (fun i w1=>∃ k:Nat,k≤l.length∧i = .int .i64 k∧Hid (gz l=gz (l.drop k))∧Below w.heap.size w w1) (fun i _=>l.length - (intOf i).toNat)
  case atStart=>exact ⟨0,Nr _,rfl,rfl,Nk _ _⟩
  case round =>
   obtain ⟨k,hk,rfl,HC,hb⟩:=hrel;have hz:=hb.size;by_cases hlt:k<l.length
   ·obtain ⟨b,off,rfl,hbl,c0,c1,c2⟩:=(h.next hb).elem hlt;by_cases hw:aI l[k].1 l[k].2.1 l[k].2.2=0
    ·have Hw:Hid (aI l[k].1 l[k].2.1 l[k].2.2=0):=hw;clear hw;go_wp2_with fail
     refine (iN _ _ _ _).mono ?_;rintro e w1 ⟨rfl,hb1⟩;rw [Hw.out];go_wp2
     go_roundw
     case rel=>exact ⟨k+1,by omega,by go_num,HC.out.trans (by rw [js l k hlt,if_pos Hw.out]),hb.trans (((Nk _ _).alloc hz _).trans (hb1.mono (by simp; omega)))⟩
     case measure=>simp [intOf]; omega
    ·have Hw:Hid (¬ aI l[k].1 l[k].2.1 l[k].2.2=0):=hw;have hne:(aI l[k].1 l[k].2.1 l[k].2.2 != 0)=true:=by simpa using hw
     clear hw;go_wp2_with fail
     refine (iN _ _ _ _).mono ?_;rintro e w1 ⟨rfl,hb1⟩;go_wp2
     go_ret;exact ⟨aA (by rw [HC.out,js l k hlt,if_neg Hw.out]),hb.trans (((Nk _ _).alloc hz _).trans (hb1.mono (by simp; omega)))⟩
   ·go_wp2
    go_ret;exact ⟨aA (by rw [HC.out,tK l k (by omega)]),hb⟩
theorem vk (a:Option Addr) (cap:Nat) (l:List Vl) (w:World) (h:aM w a l) :
  Calls Tryz.prog 47 #[.slice a l.length cap] w fun e w'=>e = .returned (.int .i64 (aJ l))∧Below w.heap.size w w':=by
 have hl:=h.1;unfold maxLen at hl;by_cases h8:8<l.length
 ·have e:aJ l=5:=by simp [aJ,h8]
  rw [e];clear e;go_enter Tryz.func47,Tryz.ntmps47;go_wp2
  go_ret;exact ⟨rfl,Nk _ _⟩
 ·have e:aJ l=gz l:=by simp [aJ,h8]
  rw [e];clear e;go_enter Tryz.func47,Tryz.ntmps47;go_wp2_with fail
  go_loopw [11] (fun i w1=>∃ k:Nat,k≤l.length∧i = .int .i64 k∧Hid (gz l=gz (l.drop k))∧Below w.heap.size w w1) (fun i _=>l.length - (intOf i).toNat)
  case atStart=>exact ⟨0,Nr _,rfl,rfl,Nk _ _⟩
  case round =>
   obtain ⟨k,hk,rfl,HC,hb⟩:=hrel;have hz:=hb.size;by_cases hlt:k<l.length
   ·obtain ⟨b,off,rfl,hbl,c0,c1,c2⟩:=(h.next hb).elem hlt;by_cases hw:aI l[k].1 l[k].2.1 l[k].2.2=0
    ·have Hw:Hid (aI l[k].1 l[k].2.1 l[k].2.2=0):=hw;clear hw;go_wp2_with fail
     refine (fY _ _ _ _).mono ?_;rintro e w1 ⟨rfl,hb1⟩;rw [Hw.out];go_wp2
     go_roundw
     case rel=>exact ⟨k+1,by omega,by go_num,HC.out.trans (by rw [js l k hlt,if_pos Hw.out]),hb.trans (((Nk _ _).alloc hz _).trans (hb1.mono (by simp; omega)))⟩
     case measure=>simp [intOf]; omega
    ·have Hw:Hid (¬ aI l[k].1 l[k].2.1 l[k].2.2=0):=hw;have hne:(aI l[k].1 l[k].2.1 l[k].2.2 != 0)=true:=by simpa using hw
     clear hw;go_wp2_with fail
     refine (fY _ _ _ _).mono ?_;rintro e w1 ⟨rfl,hb1⟩;go_wp2
     go_ret;exact ⟨aA (by rw [HC.out,js l k hlt,if_neg Hw.out]),hb.trans (((Nk _ _).alloc hz _).trans (hb1.mono (by simp; omega)))⟩
   ·go_wp2
    go_ret;exact ⟨aA (by rw [HC.out,tK l k (by omega)]),hb⟩
theorem fj (n:Int) (w:World) :
  Calls Tryz.prog 92 #[.int .i64 n] w fun e w'=>e = .returned (.bool (hJ n))∧w'=w:=by
 by_cases h0:-1000000≤n
 ·have e:hJ n=decide (n≤1000000):=by simp [hJ,h0]
  rw [e];go_enter Tryz.func92,Tryz.ntmps92;go_wp2
  go_ret;exact ⟨rfl,rfl⟩
 ·have e:hJ n=false:=by simp [hJ,h0]
  rw [e];go_enter Tryz.func92,Tryz.ntmps92;go_wp2
  go_ret;exact ⟨rfl,rfl⟩
theorem kM (n:Int) (w:World) :
  Calls Tryz.prog 48 #[.int .i64 n] w fun e w'=>e = .returned (.bool (!hJ n))∧w'=w:=by
 by_cases h0:n < -1000000
 ·have e:hJ n=false:=by simp [hJ]; omega
  rw [e];go_enter Tryz.func48,Tryz.ntmps48;go_wp2
  go_ret;exact ⟨rfl,rfl⟩
 ·have e:(!hJ n)=decide (1000000<n):=by
   have:-1000000≤n:=by omega
   by_cases h1:1000000<n
   ·have:¬ n≤1000000:=by omega
    simp [hJ, *]
   ·have:n≤1000000:=by omega
    simp [hJ, *]
  rw [e];go_enter Tryz.func48,Tryz.ntmps48;go_wp2
  go_ret;exact ⟨rfl,rfl⟩
abbrev Zp:Type:=List Vl × Int
def BD (W:World) (b off:Nat) (x:Zp):Prop :=
 W.cell? ⟨b,off+1,none⟩=some (.int .i64 x.2)∧∃ a cap,W.cell? ⟨b,off,none⟩=some (.slice a x.1.length cap)∧aM W a x.1
theorem BD.next {W w1:World} {b off:Nat} {x:Zp} (h:BD W b off x) (hlt:b<W.heap.size) (hb:Below W.heap.size W w1):BD w1 b off x:=by
 obtain ⟨h1,a,cap,h2,h3⟩:=h;exact ⟨(hb.cell (p:=⟨b,_,none⟩) hlt).trans h1,a,cap,(hb.cell (p:=⟨b,_,none⟩) hlt).trans h2,h3.next hb⟩
def aL (W:World) (a:Option Addr) (l:List Zp):Prop :=
 l.length≤maxLen∧(l = []∨∃ b off,a=some ⟨b,off,none⟩∧b<W.heap.size∧∀ (i:Nat) (h:i<l.length),BD W b (off+i*2) l[i])
theorem aL.next {W w1:World} {a:Option Addr} {l:List Zp} (h:aL W a l) (hb:Below W.heap.size W w1):aL w1 a l:=by
 obtain ⟨h0,h | ⟨b,off,e,hlt,hr⟩⟩:=h
 ·exact ⟨h0,.inl h⟩
 ·exact ⟨h0,.inr ⟨b,off,e,Nn hlt hb.size,fun i hi=>(hr i hi).next hlt hb⟩⟩
theorem aL.elem {W:World} {a:Option Addr} {l:List Zp} (h:aL W a l) {k:Nat} (hk:k<l.length) :
  ∃ b off,a=some ⟨b,off,none⟩∧b<W.heap.size∧BD W b (off+k*2) l[k]:=by
 obtain ⟨_,h | ⟨b,off,e,hlt,hr⟩⟩:=h
 ·subst h; simp at hk
 ·exact ⟨b,off,e,hlt,hr k hk⟩
theorem aL.KH {W:World} {a:Option Addr} {l:List Zp} (h:aL W a l) {j k:Nat} (hj:j<l.length) (hk:k<l.length) :
  ∃ b off,a=some ⟨b,off,none⟩∧b<W.heap.size∧BD W b (off+j*2) l[j]∧BD W b (off+k*2) l[k]:=by
 obtain ⟨_,h | ⟨b,off,e,hlt,hr⟩⟩:=h
 ·subst h; simp at hk
 ·exact ⟨b,off,e,hlt,hr j hj,hr k hk⟩
def lF:Option (List Vl)→List Zp→Int
 | _,[]=>0
 | p,x :: r=>if aJ x.1=0 then (if x.2=0∨hJ x.2=false then 3 else if ∃ q,p=some q∧0≤aG q x.1 then 2 else lF (some x.1) r) else aJ x.1
def aF (l:List Zp):Int:=if 400<l.length then 5 else lF none l
def fm (l:List Zp) (k:Nat):Option (List Vl):=if k=0 then none else (l[k - 1]?).map (·.1)
theorem pS (l:List Zp) (k:Nat) (h:k<l.length):fm l (k+1)=some l[k].1:=by simp [fm,h]
theorem tu (l:List Zp) (k:Nat) (h:k<l.length) (h0:0<k):fm l k=some (l[k - 1]'(by omega)).1:=by
 obtain ⟨j,rfl⟩:∃ j,k=j+1:=⟨k - 1,by omega⟩
 exact pS l j (by omega)
theorem Cg (l:List Zp) (k:Nat) (h:l.length≤k):lF (fm l k) (l.drop k)=0:=by rw [NI h]; rfl
theorem B6 (l:List Zp) (k:Nat) (h:k<l.length) (hw:¬ aJ l[k].1=0):lF (fm l k) (l.drop k)=aJ l[k].1:=by
 rw [Nq h,lF,if_neg hw]
theorem oA (l:List Zp) (k:Nat) (h:k<l.length) (hw:aJ l[k].1=0) (h0:l[k].2=0∨hJ l[k].2=false):lF (fm l k) (l.drop k)=3:=by
 rw [Nq h,lF,if_pos hw,if_pos h0]
theorem yu (l:List Zp) (k:Nat) (h:k<l.length) (hw:aJ l[k].1=0) (h0:¬ l[k].2=0) (h1:hJ l[k].2=true) (hp:0<k) (hc:0≤aG (l[k - 1]'(by omega)).1 l[k].1):lF (fm l k) (l.drop k)=2:=by
 rw [Nq h,lF,if_pos hw,if_neg (by simp [h0,h1]),if_pos ⟨_,tu l k h hp,hc⟩]
theorem ob (l:List Zp) (k:Nat) (h:k<l.length) (hw:aJ l[k].1=0) (h0:¬ l[k].2=0) (h1:hJ l[k].2=true) (hc:∀ _:0<k,¬ 0≤aG (l[k - 1]'(by omega)).1 l[k].1):lF (fm l k) (l.drop k)=lF (fm l (k+1)) (l.drop (k+1)):=by
 rw [Nq h,lF,if_pos hw,if_neg (by simp [h0,h1]),pS l k h];rw [if_neg];rintro ⟨q,hq,hc'⟩;by_cases hp:0<k
 ·rw [tu l k h hp] at hq;injection hq with hq
  subst hq;exact hc hp hc'
 ·have:k=0:=by omega
  subst this;simp [fm] at hq
theorem nw {w wr w2:World} {o:Obj} (hb:Below w.heap.size w wr) (h2:Below (wr.alloc o).heap.size (wr.alloc o) w2):Below w.heap.size w w2 :=
 hb.trans (((Nk _ _).alloc hb.size _).trans (h2.mono (by have:=hb.size; simp; omega)))
theorem bS {w wr w2:World} (hb:Below w.heap.size w wr) (h2:Below wr.heap.size wr w2):Below w.heap.size w w2 :=
 hb.trans (h2.mono hb.size)
theorem fa (a:Option Addr) (cap:Nat) (l:List Zp) (w:World) (h:aL w a l) :
  Calls Tryz.prog 69 #[.slice a l.length cap] w fun e w'=>e = .returned (.int .i64 (aF l))∧Below w.heap.size w w':=by
 have hl:=h.1;unfold maxLen at hl;by_cases h8:400<l.length
 ·have e:aF l=5:=by simp [aF,h8]
  rw [e];clear e;go_enter Tryz.func69,Tryz.ntmps69;go_wp2
  go_ret;exact ⟨rfl,Nk _ _⟩
 ·have e:aF l=lF none l:=by simp [aF,h8]
  rw [e];clear e;go_enter Tryz.func69,Tryz.ntmps69;go_wp2_with fail
  go_loopw [11] (fun i w1=>∃ k:Nat,k≤l.length∧i = .int .i64 k∧Hid (lF none l=lF (fm l k) (l.drop k))∧Below w.heap.size w w1) (fun i _=>l.length - (intOf i).toNat)
  case atStart=>exact ⟨0,Nr _,rfl,rfl,Nk _ _⟩
  case round =>
   obtain ⟨k,hk,rfl,HC,hb⟩:=hrel;have hz:=hb.size;by_cases hlt:k<l.length
   ·obtain ⟨b,off,rfl,hbl,c1,ar,cr,c0,sr⟩:=(h.next hb).elem hlt;have HZ:Hid (aL w (some ⟨b,off,none⟩) l):=h;clear h;by_cases hw:aJ l[k].1=0
    ·have Hw:Hid (aJ l[k].1=0):=hw;clear hw;go_wp2_with fail
     refine (qm _ _ _ _ (sr.next ((Nk _ _).alloc (Nj _) _))).mono ?_;rintro e w1 ⟨rfl,hb1⟩;rw [Hw.out];have hb1':=nw hb hb1;have hz1:wr.heap.size<w1.heap.size:=by have:=hb1.size; simp at this; omega
     have e0:w1.cell? ⟨wr.heap.size,0,none⟩=some (.slice ar l[k].1.length cr):=(hb1.cell (p:=⟨wr.heap.size,0,none⟩) (by simp)).trans (by simp);have e1:w1.cell? ⟨wr.heap.size,1,none⟩=some (.int .i64 l[k].2):=(hb1.cell (p:=⟨wr.heap.size,1,none⟩) (by simp)).trans (by simp);by_cases h0:l[k].2=0
     ·have HN:Hid (lF none l=3):=HC.out.trans (oA l k hlt Hw.out (.inl h0));go_wp2
      go_ret;exact ⟨aA HN.out.symm,hb1'⟩
     ·have g0:(l[k].2 == 0)=false:=by simpa using h0
      cases h1:hJ l[k].2
      ·have HN:Hid (lF none l=3):=HC.out.trans (oA l k hlt Hw.out (.inr h1));have H1:Hid (hJ l[k].2=false):=h1;clear h1;go_wp2_with fail
       refine (fj _ _).mono ?_;rintro e w2 ⟨rfl,rfl⟩;rw [H1.out];go_wp2
       go_ret;exact ⟨aA HN.out.symm,hb1'⟩
      ·have H1:Hid (hJ l[k].2=true):=h1;clear h1;by_cases hp:0<k
       ·obtain ⟨b',off',hh,hbl',⟨d1,ap,cp,d0,sp⟩,-⟩:=(HZ.out.next hb1').KH (j:=k - 1) (k:=k) (by omega) hlt;simp only [OO,Addr.mk.injEq] at hh;obtain ⟨rfl,rfl,-⟩:=hh;have sr1:=(sr.next ((Nk _ _).alloc (Nj _) _)).next hb1;have i0:(0:Int)<(k:Int):=by omega
        have i1:(0:Int)≤(k:Int) - 1:=by omega
        have i2:(k:Int) - 1<(l.length:Int):=by omega
        have i3:((k:Int) - 1).toNat=k - 1:=by omega
        have p0:=ag d0;have p1:=ag e0;have p2:=ag e1;haveI:Nonempty (bW w1):=⟨⟨w1,Nk _ _⟩⟩
        by_cases hc:0≤aG (l[k - 1]'(by omega)).1 l[k].1
        ·have HN:Hid (lF none l=2):=HC.out.trans (yu l k hlt Hw.out h0 H1.out hp hc);go_wp2_with fail
         refine (fj _ _).mono ?_;rintro e w2 ⟨rfl,rfl⟩;rw [H1.out];go_wp2_with fail
         refine aq (by kernel_rfl) (by kernel_rfl) ?_
         repeat (go_big_quiet_step (first | (go_at_call 73; exact bE (nJ _ _ _ _ _ _ _ (sp.next (bW.ok _)) (sr1.next (bW.ok _))))))
         refine wpQuiet_nil ?_;rintro _ ⟨⟨w2,hb2⟩,rfl⟩;go_wp2
         go_ret;exact ⟨aA HN.out.symm,bS hb1' hb2⟩
        ·have HN:Hid (lF none l=lF (fm l (k+1)) (l.drop (k+1))):=HC.out.trans (ob l k hlt Hw.out h0 H1.out (fun _=>hc));have hc':aG (l[k - 1]'(by omega)).1 l[k].1<0:=by omega
         go_wp2_with fail
         refine (fj _ _).mono ?_;rintro e w2 ⟨rfl,rfl⟩;rw [H1.out];go_wp2_with fail
         refine aq (by kernel_rfl) (by kernel_rfl) ?_
         repeat (go_big_quiet_step (first | (go_at_call 73; exact bE (nJ _ _ _ _ _ _ _ (sp.next (bW.ok _)) (sr1.next (bW.ok _))))))
         refine wpQuiet_nil ?_;rintro _ ⟨⟨w2,hb2⟩,rfl⟩;go_wp2
         go_roundw
         case rel=>exact ⟨k+1,by omega,by go_num,HN.out,bS hb1' hb2⟩
         case measure=>simp [intOf]; omega
       ·have k0:k=0:=by omega
        subst k0;have HN:Hid (lF none l=lF (fm l (0+1)) (l.drop (0+1))):=HC.out.trans (ob l 0 hlt Hw.out h0 H1.out (fun h=>absurd h hp));haveI:Nonempty (bW w1):=⟨⟨w1,Nk _ _⟩⟩
        go_wp2_with fail
        refine (fj _ _).mono ?_;rintro e w2 ⟨rfl,rfl⟩;rw [H1.out];go_wp2_with fail
        refine aq (by kernel_rfl) (by kernel_rfl) ?_
        repeat (go_big_quiet_step (fail))
        refine wpQuiet_nil ?_;rintro _ ⟨⟨w2,hb2⟩,rfl⟩;go_wp2
        go_roundw
        case rel=>exact ⟨0+1,by omega,by go_num,HN.out,bS hb1' hb2⟩
        case measure=>simp [intOf]; omega
    ·have Hw:Hid (¬ aJ l[k].1=0):=hw;have hne:(aJ l[k].1 != 0)=true:=by simpa using hw
     have HN:Hid (lF none l=aJ l[k].1):=HC.out.trans (B6 l k hlt hw);clear hw;go_wp2_with fail
     refine (qm _ _ _ _ (sr.next ((Nk _ _).alloc (Nj _) _))).mono ?_;rintro e w1 ⟨rfl,hb1⟩;go_wp2
     go_ret;exact ⟨aA HN.out.symm,nw hb hb1⟩
   ·go_wp2
    go_ret;exact ⟨aA (by rw [HC.out,Cg l k (by omega)]),hb⟩
theorem Tryz.gX:(Tryz.prog.info? 58).map (fun i=>(i.zero,i.size,i.bytes))=some (some (.agg #[.slice none 0 0,.int .i64 0]),2,32):=by kernel_rfl
theorem Tryz.sL:(Tryz.prog.info? 24).map (fun i=>(i.zero,i.size,i.bytes))=some (some (.agg #[.int .i64 0,.int .i64 0,.string ⟨#[]⟩]),3,32):=by kernel_rfl
def cB (v:Vl):Vl:=(v.1,fF v.1 v.2.1,kp v.1 v.2.2)
def bq (l:List Vl):List Vl:=l.map cB
def gm (W:World) (a:Option Addr):Prop:=∀ b off,a=some ⟨b,off,none⟩→∃ c z,W.heap[b]? = some (.cells c 24 z)
theorem gm.next {W w1:World} {a:Option Addr} (h:gm W a) (hb:Below W.heap.size W w1):gm w1 a:=by
 intro b off e;obtain ⟨c,z,h1⟩:=h b off e;have hlt:b<W.heap.size:=by
  rcases NY b W.heap.size with h | h
  ·exact h
  ·rw [OF h] at h1; cases h1
 exact ⟨c,z,(hb.block b hlt).trans h1⟩
theorem sh {W w1:World} (hb:Below W.heap.size W w1) (row:Option Nat):W.grownBy w1 row:=⟨hb.os,hb.tape,hb.output,hb.size,fun k hk _=>hb.block k hk⟩
theorem aS {W w1:World} {base e size n:Nat} {v:Value} {xs:List Value} (h:W.ownsRow base e size v n xs) (hb:Below W.heap.size W w1):w1.ownsRow base e size v n xs:=by
 refine h.kept (sh hb none) ?_;cases v.ownBlock <;> simp
def yp (W:World) (xs:List Value) (l:List Zp):Prop :=
 xs.length=l.length*2∧∀ (i:Nat) (h:i<l.length),∃ a cap,xs[i*2]? = some (.slice a l[i].1.length cap)∧xs[i*2+1]? = some (.int .i64 l[i].2)∧aM W a l[i].1∧gm W a
theorem yp.next {W w1:World} {xs:List Value} {l:List Zp} (h:yp W xs l) (hb:Below W.heap.size W w1):yp w1 xs l :=
 ⟨h.1,fun i hi=>by
  obtain ⟨a,cap,h1,h2,h3,h4⟩:=h.2 i hi
  exact ⟨a,cap,h1,h2,h3.next hb,h4.next hb⟩⟩
def bZ (base:Nat) (W:World) (v:Value) (l:List Zp):Prop:=∃ xs,W.ownsRow base 58 2 v l.length xs∧yp W xs l
theorem bZ.next {base:Nat} {W w1:World} {v:Value} {l:List Zp} (h:bZ base W v l) (hb:Below W.heap.size W w1):bZ base w1 v l:=by
 obtain ⟨xs,h1,h2⟩:=h;exact ⟨xs,aS h1 hb,h2.next hb⟩
theorem bZ.mono {base base':Nat} {W:World} {v:Value} {l:List Zp} (h:bZ base W v l) (hb:base'≤base):bZ base' W v l:=by
 obtain ⟨xs,⟨h0,h1⟩,h2⟩:=h;refine ⟨xs,⟨h0,?_⟩,h2⟩;rcases h1 with h1 | ⟨g,cap,cur,e,hg,h3⟩
 ·exact .inl h1
 ·exact .inr ⟨g,cap,cur,e,Nw hb hg,h3⟩
theorem bZ.zs {base:Nat} {W:World} {v:Value} {l:List Zp} (h:bZ base W v l):∃ a cap,v = .slice a l.length cap∧aL W a l:=by
 obtain ⟨xs,h1,h2⟩:=h;have h1':=h1;obtain ⟨hx,h1 | ⟨g,cap,cur,e,hg,hh,hn,hc,hs,ht⟩⟩:=h1
 ·obtain ⟨rfl,h0⟩:=h1;have:l = []:=Nu h0;subst this;exact ⟨none,0,rfl,Nr _,.inl rfl⟩
 ·subst e;refine ⟨_,cap,rfl,Nw hn hc,.inr ⟨g,0,rfl,?_,?_⟩⟩
  ·exact (h1'.lt g rfl).2
  ·intro i hi;obtain ⟨a,cp,e0,e1,e2,e3⟩:=h2.2 i hi;refine ⟨?_,a,cp,?_,e2⟩
   ·rw [h1'.cellAt _ (by omega),← e1]; congr 1; omega
   ·rw [h1'.cellAt _ (by omega),← e0]; congr 1; omega
theorem ko {W w1:World} {base n:Nat} {v:Value} {xs:List Value} {a:Option Addr} {r:List Vl} (h:aM W a r) (ht:gm W a) (ho:W.ownsRow base 58 2 v n xs) (hg:W.grownBy w1 v.ownBlock):aM w1 a r∧gm w1 a:=by
 have key:∀ b off,a=some ⟨b,off,none⟩→w1.heap[b]? = W.heap[b]?:=by
  intro b off e;obtain ⟨c,z,h1⟩:=ht b off e;have hlt:b<W.heap.size:=by
   rcases NY b W.heap.size with h | h
   ·exact h
   ·rw [OF h] at h1; cases h1
  refine hg.block b hlt ?_;obtain ⟨_,⟨rfl,_⟩ | ⟨g,cap,cur,rfl,_,hh,_⟩⟩:=ho
  ·simp [Value.ownBlock]
  ·simp only [Value.ownBlock];intro e;injection e with e
   subst e;rw [hh] at h1;simp at h1
 refine ⟨⟨h.1,?_⟩,?_⟩
 ·rcases h.2 with h | ⟨b,off,e,hr,hlt⟩
  ·exact .inl h
  ·refine .inr ⟨b,off,e,fun i hi=>?_,Nn hlt hg.size⟩;have k:=key b off e;obtain ⟨c0,c1,c2⟩:=hr i hi;exact ⟨(NA (a:=⟨b,_,none⟩) k).trans c0,(NA (a:=⟨b,_,none⟩) k).trans c1,(NA (a:=⟨b,_,none⟩) k).trans c2⟩
 ·intro b off e;obtain ⟨c,z,h1⟩:=ht b off e;exact ⟨c,z,(key b off e).trans h1⟩
theorem Ge {W w1:World} {base:Nat} {v v':Value} {xs:List Value} {l:List Zp} {a:Option Addr} {cap:Nat} {r:List Vl} {x:Int}
  (ho:W.ownsRow base 58 2 v l.length xs) (he:yp W xs l) (hs:aM W a r) (ht:gm W a)
  (ho':w1.ownsRow base 58 2 v' (l.length+1) (xs ++ [.slice a r.length cap,.int .i64 x])) (hg:W.grownBy w1 v.ownBlock):bZ base w1 v' (l ++ [(r,x)]):=by
 refine ⟨_,by simpa using ho',by simp [he.1]; omega,?_⟩;intro i hi;by_cases hi':i<l.length
 ·obtain ⟨a',c',h1,h2,h3,h4⟩:=he.2 i hi';have g:=ko h3 h4 ho hg;have lx:=he.1;refine ⟨a',c',?_,?_,?_,g.2⟩
  ·rw [NC (by omega),h1,Ny hi']
  ·rw [NC (by omega),h2,Ny hi']
  ·rw [Ny hi']; exact g.1
 ·have:i=l.length:=by simp at hi; omega
  subst this;have lx:=he.1;have g:=ko hs ht ho hg;refine ⟨a,cap,?_,?_,?_,g.2⟩
  ·rw [NG (by omega)]; simp [lx]
  ·rw [NG (by omega)]; simp [lx]
  ·simpa using g.1
def im (W:World) (B n:Nat) (l:List Vl) (k:Nat):Prop:=∃ xs,W.ownsRow B 24 3 (.slice (some ⟨B,0,none⟩) n n) n xs∧∀ (j:Nat) (h:j<l.length),j<k→xs[j*3]? = some (.int .i64 (cB l[j]).1)∧xs[j*3+1]? = some (.int .i64 (cB l[j]).2.1)∧xs[j*3+2]? = some (.string (cB l[j]).2.2)
theorem im.step {W:World} {B n:Nat} {l:List Vl} {k:Nat} (h:im W B n l k) (hk:k<l.length) (hn:n=l.length) :
  im (((W.setCell ⟨B,k*3,none⟩ (.int .i64 (cB l[k]).1)).setCell ⟨B,k*3+1,none⟩ (.int .i64 (cB l[k]).2.1)).setCell ⟨B,k*3+2,none⟩ (.string (cB l[k]).2.2)) B n l (k+1):=by
 obtain ⟨xs,h1,h2⟩:=h;have lx:=h1.1;refine ⟨_,((((h1.stored (k*3) _).1.stored (k*3+1) _).1).stored (k*3+2) _).1,?_⟩;intro j hj hjk;by_cases e:j=k
 ·subst e;refine ⟨?_,?_,?_⟩ <;> simp [List.getElem?_set,lx,hn] <;> omega
 ·obtain ⟨g0,g1,g2⟩:=h2 j hj (by omega);refine ⟨?_,?_,?_⟩
  ·rw [NB (by omega),NB (by omega),NB (by omega)]; exact g0
  ·rw [NB (by omega),NB (by omega),NB (by omega)]; exact g1
  ·rw [NB (by omega),NB (by omega),NB (by omega)]; exact g2
theorem im.next {W w1:World} {B n:Nat} {l:List Vl} {k:Nat} (h:im W B n l k) (hb:Below W.heap.size W w1):im w1 B n l k:=by
 obtain ⟨xs,h1,h2⟩:=h;exact ⟨xs,aS h1 hb,h2⟩
theorem im.cells {W:World} {B n:Nat} {l:List Vl} {k:Nat} (h:im W B n l k) (hk:k<n):(∃ u0 u1 u2,W.cell? ⟨B,k*3,none⟩=some u0∧W.cell? ⟨B,k*3+1,none⟩=some u1∧W.cell? ⟨B,k*3+2,none⟩=some u2)∧W.frozen? ⟨B,k*3,none⟩=false∧W.frozen? ⟨B,k*3+1,none⟩=false∧W.frozen? ⟨B,k*3+2,none⟩=false∧B<W.heap.size:=by
 obtain ⟨xs,h1,h2⟩:=h;have lx:=h1.1;refine ⟨⟨xs[k*3]'(by omega),xs[k*3+1]'(by omega),xs[k*3+2]'(by omega),?_,?_,?_⟩,h1.frozenAt _,h1.frozenAt _,h1.frozenAt _,(h1.lt B rfl).2⟩
 ·rw [h1.cellAt _ (by omega)]; exact NF (by omega)
 ·rw [h1.cellAt _ (by omega)]; exact NF (by omega)
 ·rw [h1.cellAt _ (by omega)]; exact NF (by omega)
theorem im.done {W:World} {B n:Nat} {l:List Vl} (h:im W B n l l.length) (hn:n=l.length) (h8:l.length≤8):aM W (some ⟨B,0,none⟩) (bq l)∧gm W (some ⟨B,0,none⟩):=by
 obtain ⟨xs,h1,h2⟩:=h;subst hn;refine ⟨⟨by simp [bq,maxLen]; omega,.inr ⟨B,0,rfl,?_,(h1.lt B rfl).2⟩⟩,?_⟩
 ·intro i hi;have hi':i<l.length:=by simpa [bq] using hi
  obtain ⟨g0,g1,g2⟩:=h2 i hi' hi';simp only [bq,Oe];refine ⟨?_,?_,?_⟩
  ·rw [h1.cellAt _ (by omega),← g0]; congr 1; omega
  ·rw [h1.cellAt _ (by omega),← g1]; congr 1; omega
  ·rw [h1.cellAt _ (by omega),← g2]; congr 1; omega
 ·intro b off e;obtain ⟨_,⟨e',_⟩ | ⟨g,cap,cur,e',_,hh,_⟩⟩:=h1
  ·cases e'
  ·simp only [Value.slice.injEq,OO,Addr.mk.injEq] at e e';obtain ⟨rfl,_⟩:=e;rw [← e'.1.1] at hh;exact ⟨_,_,hh⟩
theorem Br (a:Option Addr) (cap:Nat) (l:List Vl) (w:World) (h:aM w a l) (h8:l.length≤8) :
  Calls Tryz.prog 104 #[.slice a l.length cap] w fun e w'=>e = .returned (.slice (some ⟨w.heap.size,0,none⟩) l.length l.length)∧(aM w' (some ⟨w.heap.size,0,none⟩) (bq l)∧gm w' (some ⟨w.heap.size,0,none⟩))∧Below w.heap.size w w':=by
 obtain ⟨i0,hi,hz0,hz1,hz2⟩:=info_parts Tryz.sL;go_enter Tryz.func104,Tryz.ntmps104;go_wp2_with (first | (at_make; refine wpList_make_full _ rfl _ _ 56 rfl w.heap.size 24 i0 _ 3 Tryz.underlying56 hi hz0 hz1 .i64 .i64 l.length l.length l.length rfl rfl rfl rfl (by rw [hz2]; omega) (by unfold maxLen; omega) (Nj _) ?_))
 intro w1 hown hgrow;have hb0:Below w.heap.size w w1:=(Nk _ _).grown hgrow (Nj _) (by simp);have hB0:im w1 w.heap.size l.length l 0:=⟨_,hown,fun j _ hj=>absurd hj (N7 _)⟩
 clear hown hgrow;go_wp2_with fail
 go_loopw [11] (fun i wr=>∃ k:Nat,k≤l.length∧i = .int .i64 k∧im wr w.heap.size l.length l k∧Below w.heap.size w wr) (fun i _=>l.length - (intOf i).toNat)
 case atStart=>exact ⟨0,Nr _,rfl,hB0,hb0⟩
 case round =>
  obtain ⟨k,hk,rfl,HB,hb⟩:=hrel;have hz:=hb.size;by_cases hlt:k<l.length
  ·obtain ⟨b,off,rfl,hbl,c0,c1,c2⟩:=(h.next hb).elem hlt;have i0:(0:Int)≤(k:Int):=by omega
   have i1:(k:Int)<(l.length:Int):=by omega
   go_wp2_with fail
   refine (rF _ _ _ _).mono ?_;rintro e w2 ⟨rfl,hb2⟩;have HB2:=(HB.next ((Nk _ _).alloc (Nj _) _)).next hb2;obtain ⟨⟨u0,u1,u2,d0,d1,d2⟩,f0,f1,f2,hlb⟩:=HB2.cells hlt;go_wp2
   go_roundw
   case rel =>
    refine ⟨k+1,by omega,by go_num,?_,?_⟩
    ·exact HB2.step hlt rfl
    ·exact (((nw hb hb2).setCell (p:=⟨w.heap.size,k*3,none⟩) (Nj _) _).setCell (p:=⟨w.heap.size,k*3+1,none⟩) (Nj _) _).setCell (p:=⟨w.heap.size,k*3+2,none⟩) (Nj _) _
   case measure=>simp [intOf]; omega
  ·have e:k=l.length:=by omega
   subst e;go_wp2
   go_ret;exact ⟨rfl,HB.done rfl h8,hb⟩
end Go.Proofs.YtohjlfhmnmcndaaGreat
namespace Go.Proofs.YtohjlfhmnmcndaaGreat
set_option maxRecDepth 100000
set_option maxHeartbeats 16000000
inductive Ex where
 | mk (k:Int) (v:Vl) (c:Int) (ks:List Ex)
def Ex.k:Ex→Int | .mk k _ _ _=>k
def Ex.v:Ex→Vl | .mk _ v _ _=>v
def Ex.c:Ex→Int | .mk _ _ c _=>c
def Ex.ks:Ex→List Ex | .mk _ _ _ ks=>ks
mutual
theorem Ex.ind {P:Ex→Prop} (h:∀ k v c ks,(∀ x ∈ ks,P x)→P (.mk k v c ks)):∀ x,P x
 | .mk k v c ks=>h k v c ks (Ex.FP h ks)
theorem Ex.FP {P:Ex→Prop} (h:∀ k v c ks,(∀ x ∈ ks,P x)→P (.mk k v c ks)):∀ ks:List Ex,∀ x ∈ ks,P x
 | [],_,hx=>by simp at hx
 | y :: r,x,hx=>by
  rcases List.mem_cons.mp hx with e | hx
  ·exact e ▸ Ex.ind h y
  ·exact Ex.FP h r x hx
end
def cK (k:Int):Nat:=if k=1∨k=2 then 0 else if k=3∨k=16 then 1 else if k=17 then 3 else 2
def eX (k:Int) (len:Nat) (n d:Int):Int:=if 200<n∨20<d then 4 else if k<1∨18<k then 1 else if len≠cK k then 5 else 0
def gE (a b:Int):Option Int:=if a=b∨b=1 then some a else if a=1 then some b else none
def bU:Option Int→Int × Int | some t=>(t,0) | none=>(0,9)
def cG (t:Int) (ts:List Int):Option Int:=if ts.all (fun k=>(gE k t).isSome) then some t else none
def cF (k:Int) (ts:List Int):Option Int :=
 if k=3∨k=4∨k=5 then cG 2 ts
 else if 6≤k∧k≤11 then (if (gE (ts.getD 0 0) (ts.getD 1 0)).isSome then some 2 else none)
 else if k=12∨k=13∨k=14 then cG 3 ts
 else if k=15 then cG 4 ts
 else if k=16 then some 2
 else if k=17 then (if (gE (ts.getD 0 0) 2).isSome then gE (ts.getD 1 0) (ts.getD 2 0) else none)
 else gE (ts.getD 0 0) (ts.getD 1 0)
def aY (v:Vl):Int:=aI v.1 v.2.1 v.2.2
def mJ (v:Vl):Int × Int:=if aY v=0 then (v.1,0) else (0,aY v)
def kW (cols:List Int) (c:Int):Int × Int:=if c<0∨cols.length≤c then (0,7) else (cols.getD c.toNat 0,0)
def cw (cols:List Int) (k:Int) (v:Vl) (c:Int) (ts:List Int):Int × Int :=
 if k=1 then mJ v else if k=2 then kW cols c else bU (cF k ts)
mutual
def aU (cols:List Int):Ex→Int→Int→Int × Int × Int
 | .mk k v c ks,n,d =>
  if eX k ks.length (n+1) d≠0 then (0,eX k ks.length (n+1) d,n+1)
  else if (bJ cols ks [] (n+1) (d+1)).1≠0 then (0,(bJ cols ks [] (n+1) (d+1)).1,(bJ cols ks [] (n+1) (d+1)).2.2)
  else ((cw cols k v c (bJ cols ks [] (n+1) (d+1)).2.1).1,(cw cols k v c (bJ cols ks [] (n+1) (d+1)).2.1).2,(bJ cols ks [] (n+1) (d+1)).2.2)
def bJ (cols:List Int):List Ex→List Int→Int→Int→Int × List Int × Int
 | [],acc,n,_=>(0,acc,n)
 | x :: r,acc,n,d =>
  if (aU cols x n d).2.1≠0 then ((aU cols x n d).2.1,acc,(aU cols x n d).2.2)
  else bJ cols r (acc ++ [(aU cols x n d).1]) (aU cols x n d).2.2 d
end
mutual
def mM:Ex→Nat | .mk _ _ _ ks=>1+oR ks
def oR:List Ex→Nat | []=>0 | x :: r=>mM x+oR r
end
mutual
def xU:Ex→Nat | .mk _ _ _ ks=>1+sP ks
def sP:List Ex→Nat | []=>0 | x :: r=>max (xU x) (sP r)
end
mutual
def pE (cols:List Int):Ex→Option Int
 | .mk k v c ks=>if k<1∨18<k∨ks.length≠cK k then none else
  (l7 cols ks).bind fun ts=>if (cw cols k v c ts).2=0 then some (cw cols k v c ts).1 else none
def l7 (cols:List Int):List Ex→Option (List Int)
 | []=>some []
 | x :: r=>(pE cols x).bind fun t=>(l7 cols r).map fun ts=>t :: ts
end
theorem uE:∀ x:Ex,1≤mM x | .mk _ _ _ ks=>by rw [mM]; omega
theorem vA (cols:List Int):∀ (ks:List Ex),(∀ x ∈ ks,∀ n d t n',aU cols x n d=(t,0,n')↔pE cols x=some t∧n'=n+mM x∧n'≤200∧d+xU x≤21) →
  ∀ acc n d ts n',n≤200→d≤21→(bJ cols ks acc n d=(0,acc ++ ts,n')↔l7 cols ks=some ts∧n'=n+oR ks∧n'≤200∧d+sP ks≤21)
 | [],_,acc,n,d,ts,n',hn,hd=>by
  simp only [bJ,l7,oR,sP,Prod.mk.injEq,true_and,OO]
  constructor
  ·rintro ⟨h,rfl⟩
   have:ts = []:=by simpa using h
   exact ⟨this.symm,by simp,hn,by simpa using hd⟩
  ·rintro ⟨rfl,h,_⟩
   exact ⟨by simp,by simpa using h.symm⟩
 | x :: r,hx,acc,n,d,ts,n',hn,hd=>by
  have ih:=vA cols r (fun y hy=>hx y (List.mem_cons_of_mem _ hy))
  have h0:=hx x (List.mem_cons_self ..) n d
  rcases hq:aU cols x n d with ⟨t,e,m⟩
  rw [bJ,hq,l7,oR,sP]
  have hs:=uE x
  by_cases he:e=0
  ·subst he
   have h1:=(h0 t m).1 hq
   obtain ⟨p1,p2,p3,p4⟩:=h1
   simp only [ne_eq,not_true,if_false,p1,Option.bind_some]
   constructor
   ·intro h
    match ts,h with
    | [],h =>
     exfalso
     have:=congrArg (fun z=>z.2.1.length) h
     have hl:∀ (l:List Ex) acc n d,(bJ cols l acc n d).1=0→acc.length≤(bJ cols l acc n d).2.1.length:=by
      intro l
      induction l with
      | nil=>intro acc n d _; simp [bJ]
      | cons y l ihl =>
       intro acc n d h
       rw [bJ] at h ⊢
       split at h
       ·rename_i hne
        exact absurd h hne
       ·rename_i hne
        rw [if_neg hne]
        have:=ihl _ _ _ h
        simp at this
        omega
     have h2:=hl r (acc ++ [t]) m d (by rw [h])
     rw [h] at h2
     simp at h2
     omega
    | u :: us,h =>
     have hu:u=t:=by
      have hl:∀ (l:List Ex) acc n d,(bJ cols l acc n d).1=0→acc <+: (bJ cols l acc n d).2.1:=by
       intro l
       induction l with
       | nil=>intro acc n d _; simp [bJ]
       | cons y l ihl =>
        intro acc n d h
        rw [bJ] at h ⊢
        split at h
        ·rename_i hne
         exact absurd h hne
        ·rename_i hne
         rw [if_neg hne]
         exact (List.prefix_append _ _).trans (ihl _ _ _ h)
      have h2:=hl r (acc ++ [t]) m d (by rw [h])
      rw [h] at h2
      simp only [List.prefix_append_right_inj] at h2
      exact (List.cons_prefix_cons.mp h2).1.symm
     subst hu
     have h':bJ cols r (acc ++ [u]) m d=(0,(acc ++ [u]) ++ us,n'):=by simpa using h
     obtain ⟨q1,q2,q3,q4⟩:=(ih (acc ++ [u]) m d us n' p3 hd).1 h'
     refine ⟨by simp [q1],by omega,q3,by omega⟩
   ·rintro ⟨q1,q2,q3,q4⟩
    rw [Option.map_eq_some_iff] at q1
    obtain ⟨us,q1,rfl⟩:=q1
    have:=(ih (acc ++ [t]) m d us n' p3 hd).2 ⟨q1,by omega,q3,by omega⟩
    simpa using this
  ·simp only [ne_eq,he,not_false_eq_true,if_true,Prod.mk.injEq,false_and,false_iff]
   rintro ⟨q1,q2,q3,q4⟩
   rw [On] at q1
   obtain ⟨u,q1,_⟩:=q1
   have:=(h0 u (n+mM x)).2 ⟨q1,rfl,by omega,by omega⟩
   rw [hq] at this
   simp at this
   exact he this.2.1
theorem jQ (cols:List Int):∀ x n d t n',aU cols x n d=(t,0,n')↔pE cols x=some t∧n'=n+mM x∧n'≤200∧d+xU x≤21:=by
 refine Ex.ind fun k v c ks ih n d t n'=>?_
 have hk:=vA cols ks (fun x hx=>ih x hx) [] (n+1) (d+1);rw [aU,pE,mM,xU];by_cases hw:eX k ks.length (n+1) d=0
 ·have hw':¬ (200<n+1∨20<d)∧¬ (k<1∨18<k)∧ks.length=cK k:=by
   unfold eX at hw;by_cases h1:200<n+1∨20<d
   ·simp [h1] at hw
   by_cases h2:k<1∨18<k
   ·simp [h1,h2] at hw
   by_cases h3:ks.length=cK k
   ·exact ⟨h1,h2,h3⟩
   ·simp [h1,h2,h3] at hw
  obtain ⟨h1,h2,h3⟩:=hw';rw [if_neg (by simp [hw]),if_neg (show ¬ (k<1∨18<k∨ks.length≠cK k) by simp [h3]; omega)];rcases hq:bJ cols ks [] (n+1) (d+1) with ⟨e,ts,m⟩
  by_cases he:e=0
  ·subst he;obtain ⟨p1,p2,p3,p4⟩:=(hk ts m (by omega) (by omega)).1 (by simpa using hq);simp only [ne_eq,not_true,if_false,p1,Option.bind_some];by_cases hn:(cw cols k v c ts).2=0
   ·simp only [hn,if_true,Prod.mk.injEq,true_and,OO];constructor
    ·rintro ⟨rfl,rfl⟩;exact ⟨rfl,by omega,p3,by omega⟩
    ·rintro ⟨rfl,q2,q3,q4⟩;exact ⟨rfl,by omega⟩
   ·simp [hn]
  ·simp only [ne_eq,he,not_false_eq_true,if_true,Prod.mk.injEq,false_and,and_false,false_iff];rintro ⟨q1,q2,q3,q4⟩;rw [On] at q1;obtain ⟨us,q1,_⟩:=q1;have:=(hk us (n+1+oR ks) (by omega) (by omega)).2 ⟨q1,rfl,by omega,by omega⟩;rw [hq] at this;simp at this;exact he this.1
 ·rw [if_pos hw];simp only [Prod.mk.injEq,hw,false_and,and_false,false_iff];rintro ⟨q1,q2,q3,q4⟩;apply hw
  split at q1
  ·simp at q1
  ·rename_i hc
   unfold eX;rw [if_neg (by omega),if_neg (by omega),if_neg (by simp; omega)]
theorem BL {cols:List Int} {x:Ex} {n d:Int} (h:(aU cols x n d).2.1=0):(aU cols x n d).2.2≤200∧n<(aU cols x n d).2.2:=by
 have:=(jQ cols x n d (aU cols x n d).1 (aU cols x n d).2.2).1 (by rw [← h]);have:=uE x;omega
end Go.Proofs.YtohjlfhmnmcndaaGreat
