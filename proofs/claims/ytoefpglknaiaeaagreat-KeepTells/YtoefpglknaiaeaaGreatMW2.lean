import Derived.Laws.StructEq
import Derived.WalkKit
import Derived.BigQuiet
import Derived.OrdersHeld
import Derived.RegionTactic
import Derived.Test.YtoefpglknaiaeaaGreatMW0
set_option maxHeartbeats 16000000
set_option maxRecDepth 100000
namespace Go.Proofs.YtoefpglknaiaeaaGreat
open Go.RowKit _root_.Go.Proofs.Tryz
theorem aH {k:IntKind} {a b:Int} (h:a=b):Ending.returned (.int k a) = .returned (.int k b):=by rw [h]
theorem xK (n:Int) (s:ByteArray):aO 1 n s=0:=by simp [aO]
theorem uZ (s:ByteArray):aO 2 0 s=0:=by simp [aO]
theorem uJ (s:ByteArray):aO 2 1 s=0:=by simp [aO]
theorem mX (n:Int) (s:ByteArray) (h0:¬ n=0) (h1:¬ n=1):aO 2 n s=3:=by simp [aO,h0,h1]
theorem sU (n:Int) (s:ByteArray) (h0:¬ n < -1000000000000000) (h1:¬ 1000000000000000<n):aO 3 n s=0:=by
 have g0:-1000000000000000≤n:=by omega
 have g1:n≤1000000000000000:=by omega
 simp [aO,g0,g1]
theorem qo (n:Int) (s:ByteArray) (h0:n < -1000000000000000):aO 3 n s=3:=by
 have g0:¬ -1000000000000000≤n:=by omega
 simp [aO,g0]
theorem qm (n:Int) (s:ByteArray) (h0:1000000000000000<n):aO 3 n s=3:=by
 have g0:¬ n≤1000000000000000:=by omega
 simp [aO,g0]
theorem xI (n:Int) (s:ByteArray) (h:s.size≤60):aO 4 n s=0:=by simp [aO,h]
theorem vx (n:Int) (s:ByteArray) (h:60<s.size):aO 4 n s=4:=by
 have g:¬ s.size≤60:=by omega
 simp [aO,g]
theorem oG (k n:Int) (s:ByteArray) (h1:¬ k=1) (h2:¬ k=2) (h3:¬ k=3) (h4:¬ k=4):aO k n s=1:=by simp [aO,h1,h2,h3,h4]
theorem js (k n:Int) (s:ByteArray) (w:World) :
  Calls prog 54 #[.agg #[k,n,s]] w fun e w'=>e = .returned (.int .i64 (aO k n s))∧Below w w w':=by
 by_cases h1:k=1
 ·subst h1;go_enter func54,ntmps54;go_wp2
  go_ret;exact ⟨aH (xK _ _).symm,aN ..⟩
 by_cases h2:k=2
 ·subst h2;by_cases n0:n=0
  ·subst n0;go_enter func54,ntmps54;go_wp2
   go_ret;exact ⟨aH (uZ _).symm,aN ..⟩
  by_cases n1:n=1
  ·subst n1;go_enter func54,ntmps54;go_wp2
   go_ret;exact ⟨aH (uJ _).symm,aN ..⟩
  have l:n<0∨1<n:=by omega
  rcases l with l | l
  ·have b0:(n == 0)=false:=by simpa using n0
   have b1:(n == 1)=false:=by simpa using n1
   have c0:(n != 0)=true:=by simpa using n0
   have c1:(n != 1)=true:=by simpa using n1
   go_enter func54,ntmps54;go_wp2
   go_ret;exact ⟨aH (mX _ _ n0 n1).symm,aN ..⟩
  ·have b0:(n == 0)=false:=by simpa using n0
   have b1:(n == 1)=false:=by simpa using n1
   have c0:(n != 0)=true:=by simpa using n0
   have c1:(n != 1)=true:=by simpa using n1
   have l0:¬ n<0:=by omega
   go_enter func54,ntmps54;go_wp2
   go_ret;exact ⟨aH (mX _ _ n0 n1).symm,aN ..⟩
 by_cases h3:k=3
 ·subst h3;by_cases n0:n < -1000000000000000
  ·have n0':¬ -1000000000000000≤n:=by omega
   go_enter func54,ntmps54;go_wp2
   go_ret;exact ⟨aH (qo _ _ ag).symm,aN ..⟩
  by_cases n1:1000000000000000<n
  ·have n0':-1000000000000000≤n:=by omega
   have n1':¬ n≤1000000000000000:=by omega
   go_enter func54,ntmps54;go_wp2
   go_ret;exact ⟨aH (qm _ _ ag).symm,aN ..⟩
  have n0':-1000000000000000≤n:=by omega
  have n1':n≤1000000000000000:=by omega
  go_enter func54,ntmps54;go_wp2
  go_ret;exact ⟨aH (sU _ _ ag ag).symm,aN ..⟩
 by_cases h4:k=4
 ·subst h4;by_cases n0:60<s.size
  ·have n0':60<(s.size:Int):=by omega
   go_enter func54,ntmps54;go_wp2
   go_ret;exact ⟨aH (vx _ _ n0).symm,aN ..⟩
  have n0':¬ 60<(s.size:Int):=by omega
  go_enter func54,ntmps54;go_wp2
  go_ret;exact ⟨aH (xI _ _ ag).symm,aN ..⟩
 have b1:(k == 1)=false:=by simpa using h1
 have b2:(k == 2)=false:=by simpa using h2
 have b3:(k == 3)=false:=by simpa using h3
 have b4:(k == 4)=false:=by simpa using h4
 have l:k<1∨4<k:=by omega
 rcases l with l | l
 ·go_enter func54,ntmps54;go_wp2
  go_ret;exact ⟨aH (oG _ _ _ h1 h2 h3 h4).symm,aN ..⟩
 ·have l0:¬ k<1:=by omega
  go_enter func54,ntmps54;go_wp2
  go_ret;exact ⟨aH (oG _ _ _ h1 h2 h3 h4).symm,aN ..⟩
theorem gI (k n:Int) (s:ByteArray) (w:World) :
  Calls prog 118 #[.agg #[k,n,s]] w fun e w'=>e = .returned (.int .i64 (aO k n s))∧Below w w w':=by
 by_cases h1:k=1
 ·subst h1;go_enter func118,ntmps118;go_wp2
  go_ret;exact ⟨aH (xK _ _).symm,aN ..⟩
 by_cases h2:k=2
 ·subst h2;by_cases n0:n=0
  ·subst n0;go_enter func118,ntmps118;go_wp2
   go_ret;exact ⟨aH (uZ _).symm,aN ..⟩
  by_cases n1:n=1
  ·subst n1;go_enter func118,ntmps118;go_wp2
   go_ret;exact ⟨aH (uJ _).symm,aN ..⟩
  have l:n<0∨1<n:=by omega
  rcases l with l | l
  ·have b0:(n == 0)=false:=by simpa using n0
   have b1:(n == 1)=false:=by simpa using n1
   have c0:(n != 0)=true:=by simpa using n0
   have c1:(n != 1)=true:=by simpa using n1
   go_enter func118,ntmps118;go_wp2
   go_ret;exact ⟨aH (mX _ _ n0 n1).symm,aN ..⟩
  ·have b0:(n == 0)=false:=by simpa using n0
   have b1:(n == 1)=false:=by simpa using n1
   have c0:(n != 0)=true:=by simpa using n0
   have c1:(n != 1)=true:=by simpa using n1
   have l0:¬ n<0:=by omega
   go_enter func118,ntmps118;go_wp2
   go_ret;exact ⟨aH (mX _ _ n0 n1).symm,aN ..⟩
 by_cases h3:k=3
 ·subst h3;by_cases n0:n < -1000000000000000
  ·have n0':¬ -1000000000000000≤n:=by omega
   go_enter func118,ntmps118;go_wp2
   go_ret;exact ⟨aH (qo _ _ ag).symm,aN ..⟩
  by_cases n1:1000000000000000<n
  ·have n0':-1000000000000000≤n:=by omega
   have n1':¬ n≤1000000000000000:=by omega
   go_enter func118,ntmps118;go_wp2
   go_ret;exact ⟨aH (qm _ _ ag).symm,aN ..⟩
  have n0':-1000000000000000≤n:=by omega
  have n1':n≤1000000000000000:=by omega
  go_enter func118,ntmps118;go_wp2
  go_ret;exact ⟨aH (sU _ _ ag ag).symm,aN ..⟩
 by_cases h4:k=4
 ·subst h4;by_cases n0:60<s.size
  ·have n0':60<(s.size:Int):=by omega
   go_enter func118,ntmps118;go_wp2
   go_ret;exact ⟨aH (vx _ _ n0).symm,aN ..⟩
  have n0':¬ 60<(s.size:Int):=by omega
  go_enter func118,ntmps118;go_wp2
  go_ret;exact ⟨aH (xI _ _ ag).symm,aN ..⟩
 have b1:(k == 1)=false:=by simpa using h1
 have b2:(k == 2)=false:=by simpa using h2
 have b3:(k == 3)=false:=by simpa using h3
 have b4:(k == 4)=false:=by simpa using h4
 have l:k<1∨4<k:=by omega
 rcases l with l | l
 ·go_enter func118,ntmps118;go_wp2
  go_ret;exact ⟨aH (oG _ _ _ h1 h2 h3 h4).symm,aN ..⟩
 ·have l0:¬ k<1:=by omega
  go_enter func118,ntmps118;go_wp2
  go_ret;exact ⟨aH (oG _ _ _ h1 h2 h3 h4).symm,aN ..⟩
structure rh (w W:World) (x y z x' y' z':Value):Prop where
 b:Below w w W
 p:cS W w x y z
 q:cS W (w+1) x' y' z'
 r:cS W (w+2) aD aD ()
theorem rh.next {w W W1:World} {x y z x' y' z':Value} (h:rh w W x y z x' y' z') (hb:Below W W W1):rh w W1 x y z x' y' z':=⟨h.b.trans (hb.mono h.b.size),h.p.next hb,h.q.next hb,h.r.next hb⟩
theorem rh.new (w:World) (k n k' n':Int) (s s':ByteArray):rh w (((w.alloc (.cells #[k,n,s] 24)).alloc (.cells #[k',.int .i64 n',.string s'] 24)).alloc (.cells #[aD,aD,()] 24)) k n s k' n' s':=by
 have q:=(cS.new (w.alloc (.cells #[k,n,s] 24)) k' n' s' 24).alloc (.cells #[aD,aD,()] 24);have r:=cS.new ((w.alloc (.cells #[k,n,s] 24)).alloc (.cells #[k',.int .i64 n',.string s'] 24)) aD aD () 24;simp only [MZ] at q r;exact ⟨((aN ..).alloc (by simp) _).alloc (by simp; omega) _,((cS.new w k n s 24).alloc _).alloc _,q,r⟩
structure CR (w W:World) (x y z:Value):Prop where
 b:Below w w W
 p:cS W w x y z
 r:cS W (w+1) aD aD ()
theorem CR.next {w W W1:World} {x y z:Value} (h:CR w W x y z) (hb:Below W W W1):CR w W1 x y z:=⟨h.b.trans (hb.mono h.b.size),h.p.next hb,h.r.next hb⟩
theorem CR.new (w:World) (k n:Int) (s:ByteArray):CR w ((w.alloc (.cells #[k,n,s] 24)).alloc (.cells #[aD,aD,()] 24)) k n s:=by
 have r:=cS.new (w.alloc (.cells #[k,n,s] 24)) aD aD () 24;simp only [MZ] at r;exact ⟨(aN ..).alloc (by simp) _,(cS.new w k n s 24).alloc _,r⟩
theorem Ju (k n k' n':Int) (s s':ByteArray) (w:World) :
 Calls prog 260 #[.agg #[k,n,s],.agg #[k',.int .i64 n',.string s']] w fun e w'=>e = .returned (.agg #[.int .i64 (tk (AV (cls k n) (cls k' n'))),.int .i64 (tn (AV (cls k n) (cls k' n'))),()])∧Below w w w':=by
 have T:=rh.new w k n k' n' s s';rcases h1:cls k n with _ | _ | _ <;> rcases h2:cls k' n' with _ | _ | _
 all_goals (
  go_enter func260,ntmps260;go_wp2_with fail
  generalize ((w.alloc (.cells #[k,n,s] 24)).alloc (.cells #[k',.int .i64 n',.string s'] 24)).alloc (.cells #[aD,aD,()] 24)=W0 at *
  repeat (first | refine (mo _ _ _ _).mono ?_ | refine (kB _ _ _ _).mono ?_ | refine (lp _).mono ?_ | refine (kv _).mono ?_ | refine (eI _).mono ?_
          rintro e w1 ⟨rfl,hb⟩;replace T:=T.next hb;clear hb;have ⟨a0,a1,a2,a3,a4,a5,a6⟩:=T.p;have ⟨b0,b1,b2,b3,b4,b5,b6⟩:=T.q;have ⟨r0,r1,r2,r3,r4,r5,r6⟩:=T.r;try simp only [h1,h2]
          go_wp2_with fail)
  have HB:=T.b
  first | exact MA (v:=.agg #[(1:Int),aD,()]) (by simp [results,results260,go_sem,r1,r2,r3]) rfl ⟨rfl,au HB ag⟩ | exact MA (v:=.agg #[(2:Int),aD,()]) (by simp [results,results260,go_sem,r1,r2,r3]) rfl ⟨rfl,au HB ag⟩ | exact MA (v:=.agg #[(2:Int),(1:Int),()]) (by simp [results,results260,go_sem,r1,r2,r3]) rfl ⟨rfl,au HB ag⟩)
theorem KU (k n k' n':Int) (s s':ByteArray) (w:World) :
 Calls prog 261 #[.agg #[k,n,s],.agg #[k',.int .i64 n',.string s']] w fun e w'=>e = .returned (.agg #[.int .i64 (tk (Kw (cls k n) (cls k' n'))),.int .i64 (tn (Kw (cls k n) (cls k' n'))),()])∧Below w w w':=by
 have T:=rh.new w k n k' n' s s';rcases h1:cls k n with _ | _ | _ <;> rcases h2:cls k' n' with _ | _ | _
 all_goals (
  go_enter func261,ntmps261;go_wp2_with fail
  generalize ((w.alloc (.cells #[k,n,s] 24)).alloc (.cells #[k',.int .i64 n',.string s'] 24)).alloc (.cells #[aD,aD,()] 24)=W0 at *
  repeat (first | refine (mo _ _ _ _).mono ?_ | refine (kB _ _ _ _).mono ?_ | refine (lp _).mono ?_ | refine (kv _).mono ?_ | refine (eI _).mono ?_
          rintro e w1 ⟨rfl,hb⟩;replace T:=T.next hb;clear hb;have ⟨a0,a1,a2,a3,a4,a5,a6⟩:=T.p;have ⟨b0,b1,b2,b3,b4,b5,b6⟩:=T.q;have ⟨r0,r1,r2,r3,r4,r5,r6⟩:=T.r;try simp only [h1,h2]
          go_wp2_with fail)
  have HB:=T.b
  first | exact MA (v:=.agg #[(1:Int),aD,()]) (by simp [results,results261,go_sem,r1,r2,r3]) rfl ⟨rfl,au HB ag⟩ | exact MA (v:=.agg #[(2:Int),aD,()]) (by simp [results,results261,go_sem,r1,r2,r3]) rfl ⟨rfl,au HB ag⟩ | exact MA (v:=.agg #[(2:Int),(1:Int),()]) (by simp [results,results261,go_sem,r1,r2,r3]) rfl ⟨rfl,au HB ag⟩)
theorem Cm (k n:Int) (s:ByteArray) (w:World) :
 Calls prog 233 #[.agg #[k,n,s]] w fun e w'=>e = .returned (.agg #[.int .i64 (tk (nY (cls k n))),.int .i64 (tn (nY (cls k n))),()])∧Below w w w':=by
 have T:=CR.new w k n s;rcases h1:cls k n with _ | _ | _
 all_goals (
  go_enter func233,ntmps233;go_wp2_with fail
  generalize w.alloc _=W0 at *
  repeat (first | refine (mo _ _ _ _).mono ?_ | refine (kB _ _ _ _).mono ?_ | refine (lp _).mono ?_ | refine (kv _).mono ?_ | refine (eI _).mono ?_
          rintro e w1 ⟨rfl,hb⟩;replace T:=T.next hb;clear hb;have ⟨a0,a1,a2,a3,a4,a5,a6⟩:=T.p;have ⟨r0,r1,r2,r3,r4,r5,r6⟩:=T.r;try simp only [h1]
          go_wp2_with fail)
  have HB:=T.b
  first | exact MA (v:=.agg #[(1:Int),aD,()]) (by simp [results,results233,go_sem,r1,r2,r3]) rfl ⟨rfl,au HB ag⟩ | exact MA (v:=.agg #[(2:Int),aD,()]) (by simp [results,results233,go_sem,r1,r2,r3]) rfl ⟨rfl,au HB ag⟩ | exact MA (v:=.agg #[(2:Int),(1:Int),()]) (by simp [results,results233,go_sem,r1,r2,r3]) rfl ⟨rfl,au HB ag⟩)
theorem rE {a b:Int} (h:a<b):jq a b = -1:=by simp [jq,h]
theorem rp {a b:Int} (h:b<a):jq a b=1:=by
 have:¬ a<b:=by omega
 simp [jq,h,this]
theorem xp (a:Int):jq a a=0:=by simp [jq]
theorem Ab (a b:Int) (w:World) :
  Calls prog 109 #[a,b] w fun e w'=>e = .returned (.int .i64 (jq a b))∧w'=w:=by
 rcases Int.lt_trichotomy a b with h | h | h
 ·go_enter func109,ntmps109;go_wp2
  go_ret;exact ⟨aH (rE h).symm,rfl⟩
 ·subst h;go_enter func109,ntmps109;go_wp2
  go_ret;exact ⟨aH (xp _).symm,rfl⟩
 ·have h':¬ a<b:=by omega
  go_enter func109,ntmps109;go_wp2
  go_ret;exact ⟨aH (rp h).symm,rfl⟩
theorem oY (a b:Int) (w:World) :
  Calls prog 110 #[a,b] w fun e w'=>e = .returned (.int .i64 (jq a b))∧w'=w:=by
 rcases Int.lt_trichotomy a b with h | h | h
 ·go_enter func110,ntmps110;go_wp2
  go_ret;exact ⟨aH (rE h).symm,rfl⟩
 ·subst h;go_enter func110,ntmps110;go_wp2
  go_ret;exact ⟨aH (xp _).symm,rfl⟩
 ·have h':¬ a<b:=by omega
  go_enter func110,ntmps110;go_wp2
  go_ret;exact ⟨aH (rp h).symm,rfl⟩
theorem AP (a b:ByteArray) (w:World) :
  Calls prog 111 #[a,b] w fun e w'=>e = .returned (.int .i64 (jg a b))∧w'=w:=by
 go_enter func111,ntmps111;go_wp2
 ·go_ret;exact ⟨aH (by simp [jg, *]),rfl⟩
 ·go_ret;exact ⟨aH (by simp_all [jg]),rfl⟩
 ·go_ret;exact ⟨aH (by simp_all [jg]),rfl⟩
theorem GZ {k k' n n':Int} {s s':ByteArray} (h:¬ k=k'):cR k n s k' n' s'=jq k k':=by simp [cR,h]
theorem HU {n n':Int} {s s':ByteArray}:cR 2 n s 2 n' s'=jq n n':=by simp [cR]
theorem FC {n n':Int} {s s':ByteArray}:cR 3 n s 3 n' s'=jq n n':=by simp [cR]
theorem Gp {n n':Int} {s s':ByteArray}:cR 4 n s 4 n' s'=jg s s':=by simp [cR]
theorem GY {k n n':Int} {s s':ByteArray} (h2:¬ k=2) (h3:¬ k=3) (h4:¬ k=4):cR k n s k n' s'=0:=by simp [cR,h2,h3,h4]
theorem qe (k n k' n':Int) (s s':ByteArray) (w:World) :
  Calls prog 78 #[.agg #[k,n,s],.agg #[k',.int .i64 n',.string s']] w fun e w'=>e = .returned (.int .i64 (cR k n s k' n' s'))∧Below w w w'∧w.drawn≤w'.drawn:=by
 by_cases hk:k=k'
 ·subst hk;by_cases h2:k=2
  ·subst h2;go_enter func78,ntmps78;go_wp2_with fail
   refine (oY _ _ _).mono ?_;rintro e w1 ⟨rfl,rfl⟩;go_wp2
   go_ret;exact ⟨aH HU.symm,(aN ..).alloc (by simp) _,Mx _⟩
  by_cases h3:k=3
  ·subst h3;go_enter func78,ntmps78;go_wp2_with fail
   refine (oY _ _ _).mono ?_;rintro e w1 ⟨rfl,rfl⟩;go_wp2
   go_ret;exact ⟨aH FC.symm,(aN ..).alloc (by simp) _,Mx _⟩
  by_cases h4:k=4
  ·subst h4;go_enter func78,ntmps78;go_wp2_with fail
   refine (AP _ _ _).mono ?_;rintro e w1 ⟨rfl,rfl⟩;go_wp2
   go_ret;exact ⟨aH Gp.symm,(aN ..).alloc (by simp) _,Mx _⟩
  have b2:(k == 2)=false:=by simpa using h2
  have b3:(k == 3)=false:=by simpa using h3
  have b4:(k == 4)=false:=by simpa using h4
  go_enter func78,ntmps78;go_wp2
  go_ret;exact ⟨aH (GY h2 h3 h4).symm,(aN ..).alloc (by simp) _,Mx _⟩
 ·have bk:(k == k')=false:=by simpa using hk
  have bk':(k != k')=true:=by simpa using hk
  go_enter func78,ntmps78;go_wp2_with fail
  refine (Ab _ _ _).mono ?_;rintro e w1 ⟨rfl,rfl⟩;go_wp2
  go_ret;exact ⟨aH (GZ hk).symm,(aN ..).alloc (by simp) _,Mx _⟩
theorem mh (k n k' n':Int) (s s':ByteArray) (w:World) :
  Calls prog 78 #[.agg #[k,n,s],.agg #[k',.int .i64 n',.string s']] w fun e w'=>e = .returned (.int .i64 (cR k n s k' n' s'))∧Below w w w' :=
 (qe k n k' n' s s' w).mono fun _ _ h=>⟨h.1,h.2.1⟩
def gR (k k':Int):Bool:=k == k' && k != 1
def K3 (k n:Int) (s:ByteArray) (k' n':Int) (s':ByteArray):Option Bool:=if gR k k' then some (cR k n s k' n' s' == 0) else none
def Fw (k n:Int) (s:ByteArray) (k' n':Int) (s':ByteArray):Option Bool:=if gR k k' then some (decide (cR k n s k' n' s'<0)) else none
theorem qu (k n k' n':Int) (s s':ByteArray) (w:World) :
  Calls prog 272 #[.agg #[k,n,s],.agg #[k',.int .i64 n',.string s']] w fun e w'=>e = .returned (.bool (gR k k'))∧Below w w w':=by
 by_cases h:k=k'
 ·subst h;by_cases h1:k=1
  ·subst h1;go_enter func272,ntmps272;go_wp2
   go_ret;exact ⟨fV (by simp [gR]),(aN ..).alloc (by simp) _⟩
  ·have b1:(k != 1)=true:=by simpa using h1
   go_enter func272,ntmps272;go_wp2
   go_ret;exact ⟨fV (by simp [gR,h1]),(aN ..).alloc (by simp) _⟩
 ·have b1:(k == k')=false:=by simpa using h
  go_enter func272,ntmps272;go_wp2
  go_ret;exact ⟨fV (by simp [gR,h]),(aN ..).alloc (by simp) _⟩
theorem Eb (k n k' n':Int) (s s':ByteArray) (w:World) :
 Calls prog 262 #[.agg #[k,n,s],.agg #[k',.int .i64 n',.string s']] w fun e w'=>e = .returned (.agg #[.int .i64 (tk (K3 k n s k' n' s')),.int .i64 (tn (K3 k n s k' n' s')),()])∧Below w w w':=by
 have T:=rh.new w k n k' n' s s';have ee:K3 k n s k' n' s'=if gR k k' then some (cR k n s k' n' s' == 0) else none:=rfl
 rw [ee];clear ee;cases h:gR k k' <;> simp only [if_true,if_false,NN]
 all_goals (
  go_enter func262,ntmps262;go_wp2_with fail
  generalize ((w.alloc (.cells #[k,n,s] 24)).alloc (.cells #[k',.int .i64 n',.string s'] 24)).alloc (.cells #[aD,aD,()] 24)=W0 at *
  repeat (first | refine (qu _ _ _ _ _ _ _).mono ?_ | refine (mh _ _ _ _ _ _ _).mono ?_ | refine (tH _ _).mono ?_ | refine (eI _).mono ?_
          rintro e w1 ⟨rfl,hb⟩;replace T:=T.next hb;clear hb;have ⟨a0,a1,a2,a3,a4,a5,a6⟩:=T.p;have ⟨b0,b1,b2,b3,b4,b5,b6⟩:=T.q;have ⟨r0,r1,r2,r3,r4,r5,r6⟩:=T.r;try simp only [h]
          go_wp2_with fail)
  have HB:=T.b
  first | exact MA (v:=.agg #[(1:Int),aD,()]) (by simp [results,results262,go_sem,r1,r2,r3]) rfl ⟨rfl,au HB ag⟩ | exact MA (v:=.agg #[(2:Int),.int .i64 (tn (some (cR k n s k' n' s' == 0))),()]) (by simp [results,results262,go_sem,r1,r2,r3]) rfl ⟨rfl,au HB ag⟩)
theorem Iq (k n k' n':Int) (s s':ByteArray) (w:World) :
 Calls prog 264 #[.agg #[k,n,s],.agg #[k',.int .i64 n',.string s']] w fun e w'=>e = .returned (.agg #[.int .i64 (tk (Fw k n s k' n' s')),.int .i64 (tn (Fw k n s k' n' s')),()])∧Below w w w':=by
 have T:=rh.new w k n k' n' s s';have ee:Fw k n s k' n' s'=if gR k k' then some (decide (cR k n s k' n' s'<0)) else none:=rfl
 rw [ee];clear ee;cases h:gR k k' <;> simp only [if_true,if_false,NN]
 all_goals (
  go_enter func264,ntmps264;go_wp2_with fail
  generalize ((w.alloc (.cells #[k,n,s] 24)).alloc (.cells #[k',.int .i64 n',.string s'] 24)).alloc (.cells #[aD,aD,()] 24)=W0 at *
  repeat (first | refine (qu _ _ _ _ _ _ _).mono ?_ | refine (mh _ _ _ _ _ _ _).mono ?_ | refine (tH _ _).mono ?_ | refine (eI _).mono ?_
          rintro e w1 ⟨rfl,hb⟩;replace T:=T.next hb;clear hb;have ⟨a0,a1,a2,a3,a4,a5,a6⟩:=T.p;have ⟨b0,b1,b2,b3,b4,b5,b6⟩:=T.q;have ⟨r0,r1,r2,r3,r4,r5,r6⟩:=T.r;try simp only [h]
          go_wp2_with fail)
  have HB:=T.b
  first | exact MA (v:=.agg #[(1:Int),aD,()]) (by simp [results,results264,go_sem,r1,r2,r3]) rfl ⟨rfl,au HB ag⟩ | exact MA (v:=.agg #[(2:Int),.int .i64 (tn (some (decide (cR k n s k' n' s'<0)))),()]) (by simp [results,results264,go_sem,r1,r2,r3]) rfl ⟨rfl,au HB ag⟩)
end Go.Proofs.YtoefpglknaiaeaaGreat
namespace Go.Proofs.YtoefpglknaiaeaaGreat
theorem pI:∀ x:List UInt8,Op.bytesLess x x=false
 | []=>rfl
 | a :: x=>by
  have:=pI x
  simp [Op.bytesLess,this,UInt8.lt_irrefl]
theorem ym:∀ x y:List UInt8,Op.bytesLess x y=true→Op.bytesLess y x=false
 | [],[]=>fun _=>rfl
 | [],_ :: _=>fun _=>rfl
 | _ :: _,[]=>fun h=>by simp [Op.bytesLess] at h
 | a :: x,b :: y=>fun h=>by
  simp only [Op.bytesLess,Bool.or_eq_true,decide_eq_true_eq,NO,beq_iff_eq] at h
  rcases h with h | ⟨rfl,h⟩
  ·have h1:¬ b<a:=UInt8.lt_asymm h
   have h2:¬ b=a:=fun e=>UInt8.lt_irrefl _ (e ▸ h)
   simp [Op.bytesLess,h1,h2]
  ·simp [Op.bytesLess,ym x y h,UInt8.lt_irrefl]
theorem zM:∀ x y:List UInt8,Op.bytesLess x y=false→¬ x=y→Op.bytesLess y x=true
 | [],[]=>fun _ h=>absurd rfl h
 | [],_ :: _=>fun h _=>by simp [Op.bytesLess] at h
 | _ :: _,[]=>fun _ _=>rfl
 | a :: x,b :: y=>fun h hne=>by
  simp only [Op.bytesLess,Bool.or_eq_false_iff,decide_eq_false_iff_not,Bool.and_eq_false_imp,beq_iff_eq] at h
  by_cases e:a=b
  ·subst e
   have h2:=zM x y (h.2 rfl) (fun e=>hne (by rw [e]))
   simp [Op.bytesLess,h2]
  ·have:b<a:=by
    rcases UInt8.lt_or_lt_of_ne e with h' | h'
    ·exact absurd h' h.1
    ·exact h'
   simp [Op.bytesLess,this]
theorem yK:∀ x y z:List UInt8,Op.bytesLess x y=true→Op.bytesLess y z=true→Op.bytesLess x z=true
 | _,[],_=>fun h _=>by cases ‹List UInt8› <;> simp [Op.bytesLess] at h
 | _,_ :: _,[]=>fun _ h=>by simp [Op.bytesLess] at h
 | [],_ :: _,_ :: _=>fun _ _=>rfl
 | a :: x,b :: y,c :: z=>fun h k=>by
  simp only [Op.bytesLess,Bool.or_eq_true,decide_eq_true_eq,NO,beq_iff_eq] at h k ⊢
  rcases h with h | ⟨rfl,h⟩
  ·rcases k with k | ⟨rfl,k⟩
   ·exact .inl (UInt8.lt_trans h k)
   ·exact .inl h
  ·rcases k with k | ⟨rfl,k⟩
   ·exact .inl k
   ·exact .inr ⟨rfl,yK x y z h k⟩
theorem xJ (a b:Int):jq a b = -jq b a:=by unfold jq; split <;> split <;> (try split) <;> omega
theorem uK (a b:Int):jq a b=0↔a=b:=by unfold jq; split <;> (try split) <;> omega
theorem xi (a b:Int):jq a b≤0↔a≤b:=by unfold jq; split <;> (try split) <;> omega
theorem F9 (a b:ByteArray):jg a b = -jg b a:=by
 unfold jg;by_cases e:a.toList=b.toList
 ·simp [e,pI]
 ·have e':¬ b.toList=a.toList:=fun h=>e h.symm
  cases h:Op.bytesLess a.toList b.toList
  ·have:=zM _ _ h e;simp [this,e]
  ·have:=ym _ _ h;simp [this,e']
theorem Dm (a b:ByteArray):jg a b=0↔a.toList=b.toList:=by
 unfold jg;by_cases e:a.toList=b.toList
 ·simp [e,pI]
 ·cases h:Op.bytesLess a.toList b.toList <;> simp [e]
theorem Jo (a b c:ByteArray) (h:jg a b≤0) (k:jg b c≤0):jg a c≤0:=by
 unfold jg at *;by_cases e:a.toList=b.toList
 ·rw [e]; exact k
 by_cases e':b.toList=c.toList
 ·rw [← e']; exact h
 have h1:Op.bytesLess a.toList b.toList=true:=by
  cases h':Op.bytesLess a.toList b.toList
  ·simp [h',e] at h
  ·rfl
 have k1:Op.bytesLess b.toList c.toList=true:=by
  cases h':Op.bytesLess b.toList c.toList
  ·simp [h',e'] at k
  ·rfl
 simp [yK _ _ _ h1 k1]
theorem xM (k n k' n':Int) (s s':ByteArray):cR k n s k' n' s' = -cR k' n' s' k n s:=by
 unfold cR;by_cases e:k=k'
 ·subst e;by_cases h:k=2∨k=3
  ·simp [h]; exact xJ _ _
  ·by_cases h4:k=4
   ·simp [h4]; exact F9 _ _
   ·simp [h,h4]
 ·have e':¬ k'=k:=fun h=>e h.symm
  simp [e,e']; exact xJ _ _
theorem Bk (k n k' n' k'' n'':Int) (s s' s'':ByteArray) (h:cR k n s k' n' s'≤0) (j:cR k' n' s' k'' n'' s''≤0):cR k n s k'' n'' s''≤0:=by
 unfold cR at *;by_cases e:k=k'
 ·subst e;by_cases e':k=k''
  ·subst e';by_cases h2:k=2∨k=3
   ·simp [h2] at h j ⊢;rw [xi] at *;omega
   ·by_cases h4:k=4
    ·simp [h4] at h j ⊢;exact Jo _ _ _ h j
    ·simp [h2,h4]
  ·simp [e'] at j ⊢;exact j
 ·by_cases e':k'=k''
  ·subst e';simp [e] at h ⊢;exact h
  ·simp [e] at h;simp [e'] at j;rw [xi] at h j;have:¬ k=k'':=by omega
   simp [this];rw [xi];omega
end Go.Proofs.YtoefpglknaiaeaaGreat
namespace Go.Proofs.YtoefpglknaiaeaaGreat
open Go.RowKit
def Row (W:World) (b off:Nat) (l:List (Int × Int × ByteArray)):Prop :=
 ∀ (i:Nat) (h:i<l.length),W.cell? ⟨b,off+i*3,none⟩=some (.int .i64 l[i].1)∧W.cell? ⟨b,off+i*3+1,none⟩=some (.int .i64 l[i].2.1)∧W.cell? ⟨b,off+i*3+2,none⟩=some (.string l[i].2.2)
def bZ (l:List (Int × Int × ByteArray)):Bool:=l.all fun v=>aO v.1 v.2.1 v.2.2 == 0
theorem Row.next {W w1:World} {b off:Nat} {l:List (Int × Int × ByteArray)} (h:Row W b off l) (hlt:b<W.heap.size) (hb:Below W W w1):Row w1 b off l :=
 fun i hi=>⟨(hb.cell (p:=⟨b,_,none⟩) hlt).trans (h i hi).1,(hb.cell (p:=⟨b,_,none⟩) hlt).trans (h i hi).2.1,(hb.cell (p:=⟨b,_,none⟩) hlt).trans (h i hi).2.2⟩
open _root_.Go.Proofs.Tryz
abbrev Vl:Type:=Int × Int × ByteArray
def dP (x y:Vl):Int:=cR x.1 x.2.1 x.2.2 y.1 y.2.1 y.2.2
def aF:List Vl→List Vl→Int
 | [],[]=>0
 | [],_ :: _=>-1
 | _ :: _,[]=>1
 | x :: r,y :: t=>if dP x y=0 then aF r t else dP x y
theorem CA (a b:Int):-1≤jq a b∧jq a b≤1:=by unfold jq; split <;> (try split) <;> omega
theorem IB (a b:ByteArray):-1≤jg a b∧jg a b≤1:=by unfold jg; split <;> (try split) <;> omega
theorem Jm (x y:Vl):-1≤dP x y∧dP x y≤1:=by
 unfold dP cR
 split
 ·exact CA _ _
 ·split
  ·exact CA _ _
  ·split
   ·exact IB _ _
   ·omega
theorem rF:∀ l t:List Vl,-1≤aF l t∧aF l t≤1
 | [],[]=>by simp [aF]
 | [],_ :: _=>by simp [aF]
 | _ :: _,[]=>by simp [aF]
 | x :: r,y :: t=>by
  unfold aF
  split
  ·exact rF r t
  ·exact Jm x y
theorem oZ (x y:Vl):dP x y = -dP y x:=xM _ _ _ _ _ _
theorem bm:∀ l t:List Vl,aF t l = -aF l t
 | [],[]=>rfl
 | [],_ :: _=>rfl
 | _ :: _,[]=>rfl
 | x :: r,y :: t=>by
  have h:=oZ x y
  unfold aF
  by_cases e:dP y x=0
  ·have e':dP x y=0:=by omega
   simp only [e,e',if_true]
   exact bm r t
  ·have e':¬ dP x y=0:=by omega
   simp only [e,e',if_false]
   omega
theorem mS (l t:List Vl) (k:Nat) (h:k<l.length) (h':k<t.length):aF (l.drop k) (t.drop k)=if dP l[k] t[k]=0 then aF (l.drop (k+1)) (t.drop (k+1)) else dP l[k] t[k]:=by
 rw [MI h,MI h'];rfl
theorem vr (l t:List Vl) (k:Nat) (h:k<l.length) (h':t.length≤k):aF (l.drop k) (t.drop k)=1:=by
 rw [MI h,M7 h'];rfl
theorem tQ (l t:List Vl) (k:Nat) (h:l.length≤k) (h':k<t.length):aF (l.drop k) (t.drop k) = -1:=by
 rw [MI h',M7 h];rfl
theorem vQ (l t:List Vl) (k:Nat) (h:l.length≤k) (h':t.length≤k):aF (l.drop k) (t.drop k)=0:=by
 rw [M7 h,M7 h'];rfl
def aZ (W:World) (a:Option Addr) (l:List Vl):Prop :=
 l.length≤maxLen∧(l = []∨∃ b off,a=some ⟨b,off,none⟩∧Row W b off l∧b<W.heap.size)
theorem aZ.next {W w1:World} {a:Option Addr} {l:List Vl} (h:aZ W a l) (hb:Below W W w1):aZ w1 a l:=by
 obtain ⟨h0,h | ⟨b,off,e,hr,hlt⟩⟩:=h
 ·exact ⟨h0,.inl h⟩
 ·exact ⟨h0,.inr ⟨b,off,e,hr.next hlt hb,My hlt hb.size⟩⟩
theorem aZ.elem {W:World} {a:Option Addr} {l:List Vl} (h:aZ W a l) {k:Nat} (hk:k<l.length) :
  ∃ b off,a=some ⟨b,off,none⟩∧b<W.heap.size∧W.cell? ⟨b,off+k*3,none⟩=some (.int .i64 l[k].1)∧W.cell? ⟨b,off+k*3+1,none⟩=some (.int .i64 l[k].2.1)∧W.cell? ⟨b,off+k*3+2,none⟩=some (.string l[k].2.2):=by
 obtain ⟨_,h | ⟨b,off,e,hr,hlt⟩⟩:=h
 ·subst h; simp at hk
 ·exact ⟨b,off,e,hlt,hr k hk⟩
theorem ub (a a':Option Addr) (cap cap':Nat) (l l':List Vl) (w:World) (h:aZ w a l) (h':aZ w a' l') :
  Calls prog 77 #[.slice a l.length cap,.slice a' l'.length cap',.func (.func 78) #[] #[]] w fun e w'=>e = .returned (.int .i64 (aF l l'))∧Below w w w'∧w.drawn≤w'.drawn:=by
 have hl:=h.1;have hl':=h'.1;unfold maxLen at hl hl';go_enter func77,ntmps77;go_wp2
 go_loopw [13] (fun i w1=>∃ k:Nat,k≤l.length∧k≤l'.length∧i = .int .i64 k∧Hid (aF l l'=aF (l.drop k) (l'.drop k))∧Below w w w1∧w.drawn≤w1.drawn) (fun i _=>l.length - (intOf i).toNat)
 case atStart=>exact ⟨0,MD _,MD _,rfl,rfl,Mz _ _,Mx _⟩
 case round =>
  obtain ⟨k,hk,hk',rfl,HC,hb,hd⟩:=hrel;have HD:=aB hd;clear hd;have hz:=hb.size;by_cases hlt:k<l.length
  ·obtain ⟨b,off,rfl,hbl,c0,c1,c2⟩:=(h.next hb).elem hlt;by_cases hlt':k<l'.length
   ·have hb2:=((Mz wr wr).alloc (Mx _) (.cells #[.int .i64 l[k].1,.int .i64 l[k].2.1,.string l[k].2.2] 24))
    obtain ⟨b',off',rfl,hbl',d0,d1,d2⟩:=((h'.next hb).next hb2).elem hlt';clear hb2;by_cases e:dP l[k] l'[k]=0
    ·have E:=aB e;clear e;go_wp2_with fail
     refine (qe _ _ _ _ _ _ _).mono ?_;rintro e w1 ⟨rfl,hb1,hd1⟩;have HD1:=aB hd1;clear hd1;rw [show cR l[k].1 l[k].2.1 l[k].2.2 l'[k].1 l'[k].2.1 l'[k].2.2=0 from E.out];go_wp2
     go_roundw
     case rel=>exact ⟨k+1,by omega,by omega,by go_num,HC.out.trans (by rw [mS l l' k hlt hlt',if_pos E.out]),hb.trans ((((Mz _ _).alloc hz _).alloc (by simp; omega) _).trans (hb1.mono (by simp; omega))),MO HD.out HD1.out⟩
     case measure=>simp [intOf]; omega
    ·have E:=aB e;have E2:(cR l[k].1 l[k].2.1 l[k].2.2 l'[k].1 l'[k].2.1 l'[k].2.2 != 0)=true:=by simpa [dP] using e
     clear e;go_wp2_with fail
     refine (qe _ _ _ _ _ _ _).mono ?_;rintro e w1 ⟨rfl,hb1,hd1⟩;have HD1:=aB hd1;clear hd1;go_wp2
     go_ret;exact ⟨aH (by rw [HC.out,mS l l' k hlt hlt',if_neg E.out]; rfl),hb.trans ((((Mz _ _).alloc hz _).alloc (by simp; omega) _).trans (hb1.mono (by simp; omega))),MO HD.out HD1.out⟩
   ·go_wp2
    go_ret;exact ⟨aH (by rw [HC.out,vr l l' k hlt ag]),hb.alloc hz _,HD.out⟩
  ·by_cases hlt':k<l'.length
   ·have e:k=l.length:=by omega
    have hll:l.length<l'.length:=by omega
    go_wp2
    go_ret;exact ⟨aH (by rw [HC.out,tQ l l' k ag hlt']),hb,HD.out⟩
   ·have hll:¬ l.length<l'.length:=by omega
    go_wp2
    go_ret;exact ⟨aH (by rw [HC.out,vQ l l' k ag ag]),hb,HD.out⟩
theorem Au (a a':Option Addr) (cap cap':Nat) (l l':List Vl) (w:World) (h:aZ w a l) (h':aZ w a' l') :
  Calls prog 53 #[.slice a l.length cap,.slice a' l'.length cap'] w fun e w'=>e = .returned (.int .i64 (aF l l'))∧Below w w w'∧w.drawn≤w'.drawn:=by
 go_enter func53,ntmps53;go_wp2_with fail
 refine (ub _ _ _ _ _ _ _ h h').mono ?_;rintro e w1 ⟨rfl,hb1,hd1⟩;go_wp2
 go_ret;exact ⟨rfl,hb1,hd1⟩
theorem oU (a a':Option Addr) (cap cap':Nat) (l l':List Vl) (w:World) (h:aZ w a l) (h':aZ w a' l') :
  Calls prog 53 #[.slice a l.length cap,.slice a' l'.length cap'] w fun e w'=>e = .returned (.int .i64 (aF l l'))∧Below w w w' :=
 (Au a a' cap cap' l l' w h h').mono fun _ _ h=>⟨h.1,h.2.1⟩
end Go.Proofs.YtoefpglknaiaeaaGreat
namespace Go.Proofs.YtoefpglknaiaeaaGreat
open Go.RowKit _root_.Go.Proofs.Tryz
theorem bP (w:World) :
  Calls prog 149 #[] w fun e w'=>e = .returned (.agg #[(1:Int),aD,()])∧Below w w w':=by
 go_enter func149,ntmps149;go_wp2
 exact MA (v:=.agg #[(1:Int),aD,()]) (by simp [results,results149,go_sem]) rfl ⟨rfl,aN ..⟩
theorem kj (w:World) :
  Calls prog 219 #[true] w fun e w'=>e = .returned (.agg #[(2:Int),(1:Int),()])∧Below w w w':=by
 go_enter func219,ntmps219;go_wp2
 exact MA (v:=.agg #[(2:Int),(1:Int),()]) (by simp [results,results219,go_sem]) rfl ⟨rfl,aN ..⟩
theorem jJ (w:World) :
  Calls prog 219 #[false] w fun e w'=>e = .returned (.agg #[(2:Int),aD,()])∧Below w w w':=by
 go_enter func219,ntmps219;go_wp2
 exact MA (v:=.agg #[(2:Int),aD,()]) (by simp [results,results219,go_sem]) rfl ⟨rfl,aN ..⟩
theorem kS (b:Bool) (w:World) :
  Calls prog 219 #[b] w fun e w'=>e = .returned (.agg #[(2:Int),.int .i64 (tn (some b)),()])∧Below w w w':=by
 cases b
 ·exact jJ w
 ·exact kj w
def Ix (k n:Int):Prop:=k=2→n=0∨n=1
theorem Gh {k n:Int} (h:¬ k=2):cls k n=none:=by simp [cls,h]
theorem IV (k n:Int) (s:ByteArray) (b:Bool) (w:World) (h:¬ k=2) :
  Calls prog 187 #[.agg #[k,n,s],b] w fun e w'=>e = .returned false∧Below w w w':=by
 have b2:(k == 2)=false:=by simpa using h
 go_enter func187,ntmps187;go_wp2
 go_ret;exact ⟨rfl,aN ..⟩
theorem Ja (s:ByteArray) (b:Bool) (w:World) :
  Calls prog 187 #[.agg #[(2:Int),aD,s],b] w fun e w'=>e = .returned (.bool (some false == some b))∧Below w w w':=by
 cases b
 ·go_enter func187,ntmps187;go_wp2
  go_ret;exact ⟨rfl,aN ..⟩
 ·go_enter func187,ntmps187;go_wp2
  go_ret;exact ⟨rfl,aN ..⟩
theorem IZ (s:ByteArray) (b:Bool) (w:World) :
  Calls prog 187 #[.agg #[(2:Int),(1:Int),s],b] w fun e w'=>e = .returned (.bool (some true == some b))∧Below w w w':=by
 cases b
 ·go_enter func187,ntmps187;go_wp2
  go_ret;exact ⟨rfl,aN ..⟩
 ·go_enter func187,ntmps187;go_wp2
  go_ret;exact ⟨rfl,aN ..⟩
theorem gE (k n:Int) (s:ByteArray) (b:Bool) (w:World) (h:Ix k n) :
  Calls prog 187 #[.agg #[k,n,s],b] w fun e w'=>e = .returned (.bool (cls k n == some b))∧Below w w w':=by
 by_cases h2:k=2
 ·subst h2;rcases h rfl with rfl | rfl
  ·exact Ja s b w
  ·exact IZ s b w
 ·rw [Gh h2];exact IV k n s b w h2
theorem Jt {s s':ByteArray} (h:Op.bytesLess s.toList s'.toList=true):jg s s' = -1:=by simp [jg,h]
theorem Jh {s s':ByteArray} (h:Op.bytesLess s.toList s'.toList=false) (e:(s.toList == s'.toList)=false):jg s s'=1:=by simp [jg,h,e]
theorem IY {s s':ByteArray} (h:Op.bytesLess s.toList s'.toList=false) (e:(s.toList == s'.toList)=true):jg s s'=0:=by simp [jg,h,e]
theorem Ks (k n k' n':Int) (s s':ByteArray) (w:World) (h:k<k') :
  Calls prog 157 #[.agg #[k,n,s],.agg #[k',.int .i64 n',.string s']] w fun e w'=>e = .returned (.int .i64 (-1))∧Below w w w':=by
 go_enter func157,ntmps157;go_wp2
 go_ret;exact ⟨rfl,(aN ..).alloc (by simp) _⟩
theorem KL (k n k' n':Int) (s s':ByteArray) (w:World) (h:k'<k) :
  Calls prog 157 #[.agg #[k,n,s],.agg #[k',.int .i64 n',.string s']] w fun e w'=>e = .returned (.int .i64 (1))∧Below w w w':=by
 have h':¬ k<k':=by omega
 go_enter func157,ntmps157;go_wp2
 go_ret;exact ⟨rfl,(aN ..).alloc (by simp) _⟩
theorem Ly (k n k' n':Int) (s s':ByteArray) (w:World) (h:k=1) (h':k'=1) :
  Calls prog 157 #[.agg #[k,n,s],.agg #[k',.int .i64 n',.string s']] w fun e w'=>e = .returned (.int .i64 (0))∧Below w w w':=by
 subst h;subst h';go_enter func157,ntmps157;go_wp2
 go_ret;exact ⟨rfl,(aN ..).alloc (by simp) _⟩
theorem It (k n k' n':Int) (s s':ByteArray) (w:World) (e:k'=k) (h1:(k == 1)=false) (h4:(k == 4)=false) (h4':(k != 4)=true) (h:n<n') :
  Calls prog 157 #[.agg #[k,n,s],.agg #[k',.int .i64 n',.string s']] w fun e w'=>e = .returned (.int .i64 (-1))∧Below w w w':=by
 subst e;go_enter func157,ntmps157;go_wp2
 go_ret;exact ⟨rfl,(aN ..).alloc (by simp) _⟩
theorem FF (k n k' n':Int) (s s':ByteArray) (w:World) (e:k'=k) (h1:(k == 1)=false) (h4:(k == 4)=false) (h4':(k != 4)=true) (h:n'<n) :
  Calls prog 157 #[.agg #[k,n,s],.agg #[k',.int .i64 n',.string s']] w fun e w'=>e = .returned (.int .i64 (1))∧Below w w w':=by
 subst e;have h':¬ n<n':=by omega
 go_enter func157,ntmps157;go_wp2
 go_ret;exact ⟨rfl,(aN ..).alloc (by simp) _⟩
theorem GA (k n k' n':Int) (s s':ByteArray) (w:World) (e:k'=k) (h1:(k == 1)=false) (h4:(k == 4)=false) (h4':(k != 4)=true) (h:n'=n) :
  Calls prog 157 #[.agg #[k,n,s],.agg #[k',.int .i64 n',.string s']] w fun e w'=>e = .returned (.int .i64 (0))∧Below w w w':=by
 subst e;subst h;go_enter func157,ntmps157;go_wp2
 go_ret;exact ⟨rfl,(aN ..).alloc (by simp) _⟩
theorem G8 (k n k' n':Int) (s s':ByteArray) (w:World) (e:k=4) (e':k'=4) (h:Op.bytesLess s.toList s'.toList=true) :
  Calls prog 157 #[.agg #[k,n,s],.agg #[k',.int .i64 n',.string s']] w fun e w'=>e = .returned (.int .i64 (-1))∧Below w w w':=by
 subst e;subst e';go_enter func157,ntmps157;go_wp2
 go_ret;exact ⟨rfl,(aN ..).alloc (by simp) _⟩
theorem Hf (k n k' n':Int) (s s':ByteArray) (w:World) (e:k=4) (e':k'=4) (h:Op.bytesLess s.toList s'.toList=false) (h':(s.toList == s'.toList)=false) :
  Calls prog 157 #[.agg #[k,n,s],.agg #[k',.int .i64 n',.string s']] w fun e w'=>e = .returned (.int .i64 (1))∧Below w w w':=by
 subst e;subst e';go_enter func157,ntmps157;go_wp2
 go_ret;exact ⟨rfl,(aN ..).alloc (by simp) _⟩
theorem Gw (k n k' n':Int) (s s':ByteArray) (w:World) (e:k=4) (e':k'=4) (h:Op.bytesLess s.toList s'.toList=false) (h':(s.toList == s'.toList)=true) :
  Calls prog 157 #[.agg #[k,n,s],.agg #[k',.int .i64 n',.string s']] w fun e w'=>e = .returned (.int .i64 (0))∧Below w w w':=by
 subst e;subst e';go_enter func157,ntmps157;go_wp2
 go_ret;exact ⟨rfl,(aN ..).alloc (by simp) _⟩
theorem dz (k n k' n':Int) (s s':ByteArray) (w:World) (k1:1≤k) (k4:k≤4) :
  Calls prog 157 #[.agg #[k,n,s],.agg #[k',.int .i64 n',.string s']] w fun e w'=>e = .returned (.int .i64 (cR k n s k' n' s'))∧Below w w w':=by
 by_cases e:k=k'
 ·subst e;by_cases h1:k=1
  ·subst h1;rw [GY ag ag ag];exact Ly 1 n 1 n' s s' w rfl rfl
  by_cases h4:k=4
  ·subst h4;rw [Gp];cases h:Op.bytesLess s.toList s'.toList
   ·cases h':s.toList == s'.toList
    ·rw [Jh h h']; exact Hf 4 n 4 n' s s' w rfl rfl h h'
    ·rw [IY h h']; exact Gw 4 n 4 n' s s' w rfl rfl h h'
   ·rw [Jt h]; exact G8 4 n 4 n' s s' w rfl rfl h
  have b1:(k == 1)=false:=by simpa using h1
  have b4:(k == 4)=false:=by simpa using h4
  have c4:(k != 4)=true:=by simpa using h4
  have e:cR k n s k n' s'=jq n n':=by
   have:k=2∨k=3:=by omega
   rcases this with rfl | rfl
   ·exact HU
   ·exact FC
  rw [e];rcases Int.lt_trichotomy n n' with h | h | h
  ·rw [rE h]; exact It k n k n' s s' w rfl b1 b4 c4 h
  ·subst h; rw [xp]; exact GA k n k n s s' w rfl b1 b4 c4 rfl
  ·rw [rp h]; exact FF k n k n' s s' w rfl b1 b4 c4 h
 ·rw [GZ e];rcases Int.lt_trichotomy k k' with h | h | h
  ·rw [rE h]; exact Ks k n k' n' s s' w h
  ·exact absurd h e
  ·rw [rp h]; exact KL k n k' n' s s' w h
end Go.Proofs.YtoefpglknaiaeaaGreat
namespace Go.Proofs.YtoefpglknaiaeaaGreat
open Go.RowKit
structure cF (w:World) where
 now:World
 ok:Below w w now
theorem chain {w a b:World} (h:Below w w a) (k:Below a a b):Below w w b:=h.trans (k.mono h.size)
theorem aq {P:Program} {id:Nat} {Q:Exit→Act→World→Prop} {a:Act} {w:World} {l:List Oper} (hm:P.follows .mixedOrders=true) (hB:Region.lexB .any l.toArray=true)
  (h:wpQuiet P l.toArray (fun w'=>∃ n:cF w,w'=n.now) (fun a'=>∀ w',(∃ n:cF w,w'=n.now)→Q .normal a' w') l a):(Code.region id l.toArray true).wp P Q a w :=
 wp_region_quiet (C:=fun w'=>∃ n:cF w,w'=n.now) hm hB ⟨⟨w.drew,(Mz _ _).drew⟩,rfl⟩ (by simpa using h)
theorem cG {P:Program} {f:FuncId} {args:Array Value} {w:World} {n:cF w} {v:Value}
  (h:Calls P f args n.now fun e w'=>e = .returned v∧Below n.now.heap.size n.now w'):Calls P f args n.now fun e w''=>e = .returned v∧∃ m:cF w,w''=m.now :=
 h.mono fun _ w' ⟨he,hb⟩=>⟨he,⟨w',chain n.ok hb⟩,rfl⟩
theorem ak {w:World} {p:Addr} {v:Value} (h:w.cell? p=some v) (n:cF w):n.now.cell? p=some v :=
 (n.ok.cell (ML w p h)).trans h
section
variable {P:Program} {ops:Array Oper} {Q:Exit→Act→World→Prop} {md:Region.Mode} {W0:World}
def oP (P:Program) (ops:Array Oper) (W0:World) (o:Oper) (v:Value) (a:Act):Prop :=
 (Region.wanted o (yielded ops a.tmps)=true∧∀ n:cF W0,Oper.quietUpon P (fun w'=>Below n.now.heap.size n.now w') n.now v ((execOp a.eval o).run P n.now)) ∨
 (Region.wanted o (yielded ops a.tmps)=false∧v=undef)
theorem oP.of_same {o:Oper} {v:Value} {a a':Act} (hy:oP P ops W0 o v a) (he:execOp a'.eval o=execOp a.eval o)
  (hw:Region.wanted o (yielded ops a'.tmps)=Region.wanted o (yielded ops a.tmps)):oP P ops W0 o v a':=by
 unfold oP at *;rw [he,hw];exact hy
theorem oP.wpOp {i:Nat} {o:Oper} {v:Value} {a:Act} (hi:ops[i]? = some o) (hy:oP P ops W0 o v a)
  {K:Act→World→Prop} {w:World} (hB:Below W0 W0 w) (h:∀ w',Below w w w'→K (a.put o.dst v) w'):wpOp P ops Q i K a w:=by
 unfold Go.wpOp;simp only [hi];rcases hy with ⟨hw,hv⟩ | ⟨hw,rfl⟩
 ·simp only [hw,if_true];left;have h3:=hv ⟨w,hB⟩;unfold Oper.wp;simp only at h3;generalize (execOp a.eval o).run P w=r at *;cases r with
  | ok n w' =>
   cases n <;> simp only [Oper.quietUpon] at h3 <;> simp only [Oper.upon]
   case value u =>
    obtain ⟨e1,e2⟩:=h3;rw [e1,e2];exact h _ (Mz _ _)
   case skip =>
    obtain ⟨e1,e2⟩:=h3;rw [e1,← e2];exact h _ (Mz _ _)
   case enter f args =>
    obtain ⟨e1,hc⟩:=h3;rw [e1];exact hc.mono fun e w'' ⟨he,hw''⟩=>by subst he; exact h _ hw''
  | halt x w'=>simp only [Oper.quietUpon] at h3
 ·simp only [hw,NN,if_false];exact h _ (Mz _ _)
theorem C3 {Φ:Act→Prop} {j:Nat} {oi oj:Oper} {v:Value} (hj:ops[j]? = some oj) (hap:oi.apart ops oj=true)
  (hsj:∀ cs b,oj.op ≠ .select cs b) (hQ:∀ c a w,Q (.panic c) (a.put oi.dst v) w→Q (.panic c) a w)
  (nM:∀ (a:Act),Φ a→∀ u,Φ (a.put oj.dst u)) (keepD:∀ (a:Act) (d:Deferred),Φ a→Φ { a with defers:=d :: a.defers })
  {K:Act→World→Prop} {a:Act} {w:World} (hy:Φ a) (h:wpOp P ops Q j K (a.put oi.dst v) w) :
  wpOp P ops Q j (fun a' w'=>Φ a'∧K (a'.put oi.dst v) w') a w:=by
 obtain ⟨h1,h2,_⟩:=Oper.apart_spec hap;unfold wpOp at *;simp only [hj] at *;rw [wanted_put oj a oi.dst v h1] at h
 split
 ·rename_i hw
  simp only [hw,if_true] at h;rcases h with h | ⟨hasks,hlets⟩
  case inr=>exact .inr ⟨by unfold Oper.asks at *; rw [execOp_put oj hsj a oi.dst v h1] at hasks; exact hasks,hlets⟩
  refine .inl ?_;unfold Oper.wp at *;rw [execOp_put oj hsj a oi.dst v h1] at h;generalize (execOp a.eval oj).run P w=r at *;cases r with
  | ok n w' =>
   cases n <;> simp only [Oper.upon] at h ⊢
   case value u=>exact ⟨nM a hy u,by rw [← Act.put_comm a v u h2]; exact h⟩
   case skip=>exact ⟨nM a hy _,by rw [← Act.put_comm a v undef h2]; exact h⟩
   case defer d =>
    refine ⟨nM _ (keepD a d hy) _,?_⟩;rw [← Act.put_comm _ v undef h2,← Act.put_defers];exact h
   case enter f args =>
    refine Calls.mono h fun e w'' he=>?_
    cases e with
    | returned u=>exact ⟨nM a hy u,by rw [← Act.put_comm a v u h2]; exact he⟩
    | panicked c=>exact hQ _ _ _ he
    | outgrown=>exact he
   case row row args=>exact Rows.mono h fun u w'' he=>⟨nM a hy u,by rw [← Act.put_comm a v u h2]; exact he⟩
  | halt x w' =>
   cases x <;> simp only [Oper.upon] at h ⊢
   case panic u=>exact hQ _ _ _ h
 ·rename_i hw
  simp only [hw] at h;exact ⟨nM a hy _,by rw [← Act.put_comm a v undef h2]; exact h⟩
def Cx (P:Program) (md:Region.Mode) (ops:Array Oper) (Q:Exit→Act→World→Prop) (W0:World):Nat→Array Bool→Act→World→Prop
 | 0,listed,a,w=>Region.ready md ops listed = []∧∀ w',Below w w w'→Q .normal a w'
 | fuel+1,listed,a,w=>∀ w',Below w w w'→(Region.ready md ops listed = []→Q .normal a w') ∧
  ∀ i ∈ Region.ready md ops listed,wpOp P ops Q i (fun a' w''=>Below W0 W0 w''∧Cx P md ops Q W0 fuel (listed.setIfInBounds i true) a' w'') a w'
theorem Cx.eO:∀ (fuel:Nat) {listed:Array Bool} {a:Act} {w w1:World},Cx P md ops Q W0 fuel listed a w→Below w w w1→Cx P md ops Q W0 fuel listed a w1
 | 0,_,_,_,_,h,hb=>⟨h.1,fun w' hw'=>h.2 w' (chain hb hw')⟩
 | _+1,_,_,_,_,h,hb=>fun w' hw'=>h w' (chain hb hw')
theorem kQ:∀ (fuel:Nat) (listed:Array Bool) (a:Act) (w:World),Cx P md ops Q W0 fuel listed a w→wpAny P md ops Q fuel listed a w
 | 0,_,_,_,h=>⟨h.1,h.2 _ (Mz _ _)⟩
 | fuel+1,_,_,w,h=>⟨(h w (Mz _ _)).1,fun i hi=>wpOp_mono (fun a' w' h'=>kQ fuel _ a' w' h'.2) ((h w (Mz _ _)).2 i hi)⟩
theorem CU {i:Nat} {oi:Oper} {v:Value} (hi:ops[i]? = some oi) (hsel:∀ (j:Nat) (o:Oper) cs b,ops[j]? = some o→o.op ≠ .select cs b)
  (hQ:∀ c a w,Q (.panic c) (a.put oi.dst v) w→Q (.panic c) a w) :
  ∀ (fuel:Nat) (listed:Array Bool) (a:Act) (w:World),
   (∀ j oj,ops[j]? = some oj→j≠i→listed.getD j true=false→(∀ e ∈ oj.after,Region.binds md e=true→e.on≠i)→oi.apart ops oj=true) →
   i ∈ Region.ready md ops listed→oP P ops W0 oi v a→Below W0 W0 w →
   Cx P md ops Q W0 fuel (listed.setIfInBounds i true) (a.put oi.dst v) w→Cx P md ops Q W0 (fuel+1) listed a w:=by
 intro fuel
 induction fuel with
 | zero =>
  intro listed a w _ hr hy hB H w' hw';refine ⟨fun h=>(by rw [h] at hr; cases hr),fun j hj=>?_⟩;by_cases hji:j=i
  ·subst hji;exact hy.wpOp hi (chain hB hw') fun w'' hw''=>⟨chain (chain hB hw') hw'',H.eO 0 (chain hw' hw'')⟩
  ·have:=ready_mono hj hji;rw [H.1] at this;cases this
 | succ fuel ih =>
  intro listed a w hfree hr hy hB H w' hw';refine ⟨fun h=>(by rw [h] at hr; cases hr),fun j hj=>?_⟩;by_cases hji:j=i
  ·subst hji;exact hy.wpOp hi (chain hB hw') fun w'' hw''=>⟨chain (chain hB hw') hw'',H.eO (fuel+1) (chain hw' hw'')⟩
  ·have h1:=(H w' hw').2 j (ready_mono hj hji);obtain ⟨hjun,oj,hoj,hall⟩:=mem_ready.1 hj;have hnot:∀ e ∈ oj.after,Region.binds md e=true→e.on≠i:=fun e he hb heq=>by
    have h1:=hall e he hb;have h0:=(mem_ready.1 hr).1;rw [heq] at h1;rcases Nl i listed.size with h' | h'
    ·simp [h'] at h0 h1; rw [h0] at h1; cases h1
    ·simp [Nz h'] at h1
   have hap:=hfree j oj hoj hji hjun hnot;obtain ⟨_,_,h3⟩:=Oper.apart_spec hap;have h2:=C3 (Φ:=oP P ops W0 oi v) hoj hap (fun cs b=>hsel j oj cs b hoj) hQ
    (fun a hy u=>hy.of_same (execOp_put oi (fun cs b=>hsel i oi cs b hi) a oj.dst u h3) (wanted_put oi a oj.dst u h3)) (fun a d hy=>hy.of_same rfl rfl) hy h1
   have hfree':∀ k ok,ops[k]? = some ok→k≠i→(listed.setIfInBounds j true).getD k true=false →
     (∀ e ∈ ok.after,Region.binds md e=true→e.on≠i)→oi.apart ops ok=true:=fun k ok hk hki hun hno=>by
    refine hfree k ok hk hki ?_ hno;by_cases hjk:j=k
    ·subst hjk; exact hjun
    ·rw [getD_set_ne true hjk] at hun; exact hun
   refine wpOp_mono (fun a' w'' h4=>⟨h4.2.1,ih (listed.setIfInBounds j true) a' w'' hfree' (ready_mono hr (Ne.symm hji)) h4.1 h4.2.1 ?_⟩) h2;rw [Array.setIfInBounds_comm _ _ hji];exact h4.2.2
theorem aT {i:Nat} {oi:Oper} {v:Value} {fuel:Nat} {listed:Array Bool} {a:Act} {w:World} (d:Option Tmp) (hi:ops[i]? = some oi) (hd:oi.dst=d)
  (hs:Region.noSelect ops=true) (hf:Region.free md ops listed i=true) (hr:(Region.ready md ops listed).contains i=true)
  (hQ:∀ c a w,Q (.panic c) (a.put oi.dst v) w→Q (.panic c) a w) (hy:oP P ops W0 oi v a) (hB:Below W0 W0 w)
  (h:Cx P md ops Q W0 fuel (listed.setIfInBounds i true) (a.put d v) w):Cx P md ops Q W0 (fuel+1) listed a w:=by
 subst hd;exact CU hi (Region.noSelect_spec hs) hQ fuel listed a w (Region.free_spec hi hf) (by simpa using hr) hy hB h
theorem fG {rs:List Nat} {fuel:Nat} {listed:Array Bool} {a:Act} {w:World} (hr:Region.ready md ops listed=rs) (hne:rs ≠ [])
  (h:∀ w',Below w w w'→∀ i ∈ rs,wpOp P ops Q i (fun a' w''=>Below W0 W0 w''∧Cx P md ops Q W0 fuel (listed.setIfInBounds i true) a' w'') a w'):Cx P md ops Q W0 (fuel+1) listed a w :=
 fun w' hw'=>⟨fun h0=>absurd (hr ▸ h0) hne,hr ▸ h w' hw'⟩
theorem ml {listed:Array Bool} {a:Act} {w:World} (hr:Region.ready md ops listed = []) (h:∀ w',Below w w w'→Q .normal a w'):Cx P md ops Q W0 0 listed a w:=⟨hr,h⟩
theorem rO {id:Nat} {a:Act} {w:World} (W0:World) (hm:P.follows .mixedOrders=true)
  (h:Cx P .any ops Q W0 ops.size (Array.replicate ops.size false) a w.drew):(Code.region id ops true).wp P Q a w :=
 wp_region_any hm (kQ _ _ _ _ h)
theorem iI {id:Nat} {a:Act} {w:World} (hm:P.follows .mixedOrders=true)
  (h:Cx P .any ops Q w ops.size (Array.replicate ops.size false) a w.drew):(Code.region id ops true).wp P Q a w :=
 wp_region_any hm (kQ _ _ _ _ h)
end
section
variable {P:Program} {ops:Array Oper} {Q:Exit→Act→World→Prop} {md:Region.Mode} {C:World→Prop}
def lh (P:Program) (ops:Array Oper) (C:World→Prop) (o:Oper) (v:Value) (a:Act):Prop :=
 (Region.wanted o (yielded ops a.tmps)=true∧∀ n:World,C n→Oper.quietUpon P (fun w'=>Below n n w') n v ((execOp a.eval o).run P n)) ∨
 (Region.wanted o (yielded ops a.tmps)=false∧v=undef)
theorem lh.of_same {o:Oper} {v:Value} {a a':Act} (hy:lh P ops C o v a) (he:execOp a'.eval o=execOp a.eval o)
  (hw:Region.wanted o (yielded ops a'.tmps)=Region.wanted o (yielded ops a.tmps)):lh P ops C o v a':=by
 unfold lh at *;rw [he,hw];exact hy
theorem lh.wpOp {i:Nat} {o:Oper} {v:Value} {a:Act} (hi:ops[i]? = some o) (hy:lh P ops C o v a)
  {K:Act→World→Prop} {w:World} (hB:C w) (h:∀ w',Below w w w'→K (a.put o.dst v) w'):wpOp P ops Q i K a w:=by
 unfold Go.wpOp;simp only [hi];rcases hy with ⟨hw,hv⟩ | ⟨hw,rfl⟩
 ·simp only [hw,if_true];left;have h3:=hv w hB;unfold Oper.wp;generalize (execOp a.eval o).run P w=r at *;cases r with
  | ok n w' =>
   cases n <;> simp only [Oper.quietUpon] at h3 <;> simp only [Oper.upon]
   case value u =>
    obtain ⟨e1,e2⟩:=h3;rw [e1,e2];exact h _ (Mz _ _)
   case skip =>
    obtain ⟨e1,e2⟩:=h3;rw [e1,← e2];exact h _ (Mz _ _)
   case enter f args =>
    obtain ⟨e1,hc⟩:=h3;rw [e1];exact hc.mono fun e w'' ⟨he,hw''⟩=>by subst he; exact h _ hw''
  | halt x w'=>simp only [Oper.quietUpon] at h3
 ·simp only [hw,NN,if_false];exact h _ (Mz _ _)
theorem DF {Φ:Act→Prop} {j:Nat} {oi oj:Oper} {v:Value} (hj:ops[j]? = some oj) (hap:oi.apart ops oj=true)
  (hsj:∀ cs b,oj.op ≠ .select cs b) (hQ:∀ c a w,Q (.panic c) (a.put oi.dst v) w→Q (.panic c) a w)
  (nM:∀ (a:Act),Φ a→∀ u,Φ (a.put oj.dst u)) (keepD:∀ (a:Act) (d:Deferred),Φ a→Φ { a with defers:=d :: a.defers })
  {K:Act→World→Prop} {a:Act} {w:World} (hy:Φ a) (h:wpOp P ops Q j K (a.put oi.dst v) w) :
  wpOp P ops Q j (fun a' w'=>Φ a'∧K (a'.put oi.dst v) w') a w:=by
 obtain ⟨h1,h2,_⟩:=Oper.apart_spec hap;unfold wpOp at *;simp only [hj] at *;rw [wanted_put oj a oi.dst v h1] at h
 split
 ·rename_i hw
  simp only [hw,if_true] at h;rcases h with h | ⟨hasks,hlets⟩
  case inr=>exact .inr ⟨by unfold Oper.asks at *; rw [execOp_put oj hsj a oi.dst v h1] at hasks; exact hasks,hlets⟩
  refine .inl ?_;unfold Oper.wp at *;rw [execOp_put oj hsj a oi.dst v h1] at h;generalize (execOp a.eval oj).run P w=r at *;cases r with
  | ok n w' =>
   cases n <;> simp only [Oper.upon] at h ⊢
   case value u=>exact ⟨nM a hy u,by rw [← Act.put_comm a v u h2]; exact h⟩
   case skip=>exact ⟨nM a hy _,by rw [← Act.put_comm a v undef h2]; exact h⟩
   case defer d =>
    refine ⟨nM _ (keepD a d hy) _,?_⟩;rw [← Act.put_comm _ v undef h2,← Act.put_defers];exact h
   case enter f args =>
    refine Calls.mono h fun e w'' he=>?_
    cases e with
    | returned u=>exact ⟨nM a hy u,by rw [← Act.put_comm a v u h2]; exact he⟩
    | panicked c=>exact hQ _ _ _ he
    | outgrown=>exact he
   case row row args=>exact Rows.mono h fun u w'' he=>⟨nM a hy u,by rw [← Act.put_comm a v u h2]; exact he⟩
  | halt x w' =>
   cases x <;> simp only [Oper.upon] at h ⊢
   case panic u=>exact hQ _ _ _ h
 ·rename_i hw
  simp only [hw] at h;exact ⟨nM a hy _,by rw [← Act.put_comm a v undef h2]; exact h⟩
def yF (P:Program) (md:Region.Mode) (ops:Array Oper) (Q:Exit→Act→World→Prop) (C:World→Prop):Nat→Array Bool→Act→World→Prop
 | 0,listed,a,w=>Region.ready md ops listed = []∧∀ w',Below w w w'→Q .normal a w'
 | fuel+1,listed,a,w=>∀ w',Below w w w'→(Region.ready md ops listed = []→Q .normal a w') ∧
  ∀ i ∈ Region.ready md ops listed,wpOp P ops Q i (fun a' w''=>C w''∧yF P md ops Q C fuel (listed.setIfInBounds i true) a' w'') a w'
theorem yF.eO:∀ (fuel:Nat) {listed:Array Bool} {a:Act} {w w1:World},yF P md ops Q C fuel listed a w→Below w w w1→yF P md ops Q C fuel listed a w1
 | 0,_,_,_,_,h,hb=>⟨h.1,fun w' hw'=>h.2 w' (chain hb hw')⟩
 | _+1,_,_,_,_,h,hb=>fun w' hw'=>h w' (chain hb hw')
theorem oL:∀ (fuel:Nat) (listed:Array Bool) (a:Act) (w:World),yF P md ops Q C fuel listed a w→wpAny P md ops Q fuel listed a w
 | 0,_,_,_,h=>⟨h.1,h.2 _ (Mz _ _)⟩
 | fuel+1,_,_,w,h=>⟨(h w (Mz _ _)).1,fun i hi=>wpOp_mono (fun a' w' h'=>oL fuel _ a' w' h'.2) ((h w (Mz _ _)).2 i hi)⟩
theorem DR (hC:∀ w w',C w→Below w w w'→C w') {i:Nat} {oi:Oper} {v:Value} (hi:ops[i]? = some oi) (hsel:∀ (j:Nat) (o:Oper) cs b,ops[j]? = some o→o.op ≠ .select cs b)
  (hQ:∀ c a w,Q (.panic c) (a.put oi.dst v) w→Q (.panic c) a w) :
  ∀ (fuel:Nat) (listed:Array Bool) (a:Act) (w:World),
   (∀ j oj,ops[j]? = some oj→j≠i→listed.getD j true=false→(∀ e ∈ oj.after,Region.binds md e=true→e.on≠i)→oi.apart ops oj=true) →
   i ∈ Region.ready md ops listed→lh P ops C oi v a→C w →
   yF P md ops Q C fuel (listed.setIfInBounds i true) (a.put oi.dst v) w→yF P md ops Q C (fuel+1) listed a w:=by
 intro fuel
 induction fuel with
 | zero =>
  intro listed a w _ hr hy hB H w' hw';refine ⟨fun h=>(by rw [h] at hr; cases hr),fun j hj=>?_⟩;by_cases hji:j=i
  ·subst hji;exact hy.wpOp hi (hC _ _ hB hw') fun w'' hw''=>⟨hC _ _ (hC _ _ hB hw') hw'',H.eO 0 (chain hw' hw'')⟩
  ·have:=ready_mono hj hji;rw [H.1] at this;cases this
 | succ fuel ih =>
  intro listed a w hfree hr hy hB H w' hw';refine ⟨fun h=>(by rw [h] at hr; cases hr),fun j hj=>?_⟩;by_cases hji:j=i
  ·subst hji;exact hy.wpOp hi (hC _ _ hB hw') fun w'' hw''=>⟨hC _ _ (hC _ _ hB hw') hw'',H.eO (fuel+1) (chain hw' hw'')⟩
  ·have h1:=(H w' hw').2 j (ready_mono hj hji);obtain ⟨hjun,oj,hoj,hall⟩:=mem_ready.1 hj;have hnot:∀ e ∈ oj.after,Region.binds md e=true→e.on≠i:=fun e he hb heq=>by
    have h1:=hall e he hb;have h0:=(mem_ready.1 hr).1;rw [heq] at h1;rcases Nl i listed.size with h' | h'
    ·simp [h'] at h0 h1; rw [h0] at h1; cases h1
    ·simp [Nz h'] at h1
   have hap:=hfree j oj hoj hji hjun hnot;obtain ⟨_,_,h3⟩:=Oper.apart_spec hap;have h2:=DF (Φ:=lh P ops C oi v) hoj hap (fun cs b=>hsel j oj cs b hoj) hQ
    (fun a hy u=>hy.of_same (execOp_put oi (fun cs b=>hsel i oi cs b hi) a oj.dst u h3) (wanted_put oi a oj.dst u h3)) (fun a d hy=>hy.of_same rfl rfl) hy h1
   have hfree':∀ k ok,ops[k]? = some ok→k≠i→(listed.setIfInBounds j true).getD k true=false →
     (∀ e ∈ ok.after,Region.binds md e=true→e.on≠i)→oi.apart ops ok=true:=fun k ok hk hki hun hno=>by
    refine hfree k ok hk hki ?_ hno;by_cases hjk:j=k
    ·subst hjk; exact hjun
    ·rw [getD_set_ne true hjk] at hun; exact hun
   refine wpOp_mono (fun a' w'' h4=>⟨h4.2.1,ih (listed.setIfInBounds j true) a' w'' hfree' (ready_mono hr (Ne.symm hji)) h4.1 h4.2.1 ?_⟩) h2;rw [Array.setIfInBounds_comm _ _ hji];exact h4.2.2
theorem FN (hC:∀ w w',C w→Below w w w'→C w') {i:Nat} {oi:Oper} {v:Value} {fuel:Nat} {listed:Array Bool} {a:Act} {w:World} (d:Option Tmp) (hi:ops[i]? = some oi) (hd:oi.dst=d)
  (hs:Region.noSelect ops=true) (hf:Region.free md ops listed i=true) (hr:(Region.ready md ops listed).contains i=true)
  (hQ:∀ c a w,Q (.panic c) (a.put oi.dst v) w→Q (.panic c) a w) (hy:lh P ops C oi v a) (hB:C w)
  (h:yF P md ops Q C fuel (listed.setIfInBounds i true) (a.put d v) w):yF P md ops Q C (fuel+1) listed a w:=by
 subst hd;exact DR hC hi (Region.noSelect_spec hs) hQ fuel listed a w (Region.free_spec hi hf) (by simpa using hr) hy hB h
theorem jC {rs:List Nat} {fuel:Nat} {listed:Array Bool} {a:Act} {w:World} (hr:Region.ready md ops listed=rs) (hne:rs ≠ [])
  (h:∀ w',Below w w w'→∀ i ∈ rs,wpOp P ops Q i (fun a' w''=>C w''∧yF P md ops Q C fuel (listed.setIfInBounds i true) a' w'') a w'):yF P md ops Q C (fuel+1) listed a w :=
 fun w' hw'=>⟨fun h0=>absurd (hr ▸ h0) hne,hr ▸ h w' hw'⟩
theorem bB (hC:∀ w w',C w→Below w.heap.size w w'→C w') (d:Tmp) (i:Nat) (v:Value) {oi:Oper} {fuel:Nat} {listed:Array Bool} {a:Act} {w:World} (hy:∀ n:World,C n→Oper.quietUpon P (fun w'=>Below n.heap.size n w') n v ((execOp a.eval oi).run P n)) (hB:C w) (h:yF P md ops Q C fuel (listed.setIfInBounds i true) (a.put (some d) v) w) (hi:ops[i]? = some oi:=by exact rfl) (hd:oi.dst = some d:=by exact rfl) (hs:Region.noSelect ops=true:=by kernel_rfl) (hf:Region.free md ops listed i=true:=by kernel_rfl) (hr:(Region.ready md ops listed).contains i=true:=by kernel_rfl) (hQ:∀ c a w,Q (.panic c) (a.put oi.dst v) w→Q (.panic c) a w:=by exact fun _ _ _ h=>h) (hw:Region.wanted oi (yielded ops a.tmps)=true:=by exact rfl):yF P md ops Q C (fuel+1) listed a w:=FN hC (some d) hi hd hs hf hr hQ (.inl ⟨hw,hy⟩) hB h
theorem gp (j:Nat) {fuel:Nat} {listed:Array Bool} {a:Act} {w:World} (hr:Region.ready md ops listed=[j]) (h:∀ w',Below w.heap.size w w'→wpOp P ops Q j (fun a' w''=>C w''∧yF P md ops Q C fuel (listed.setIfInBounds j true) a' w'') a w'):yF P md ops Q C (fuel+1) listed a w:=jC hr (by simp) fun w' hb i hi=>by
 obtain rfl:i=j:=by simpa using hi
 exact h w' hb
theorem cA {listed:Array Bool} {a:Act} {w:World} (hr:Region.ready md ops listed = []) (h:∀ w',Below w w w'→Q .normal a w'):yF P md ops Q C 0 listed a w:=⟨hr,h⟩
theorem aP {id:Nat} {a:Act} {w:World} (C:World→Prop) (hm:P.follows .mixedOrders=true)
  (h:yF P .any ops Q C ops.size (Array.replicate ops.size false) a w.drew):(Code.region id ops true).wp P Q a w :=
 wp_region_any hm (oL _ _ _ _ h)
end
end Go.Proofs.YtoefpglknaiaeaaGreat
namespace Go.Proofs.YtoefpglknaiaeaaGreat
open Go.RowKit _root_.Go.Proofs.Tryz
def dY (k n:Int):Int:=if k=2∨k=3 then n else 0
def gz (k:Int) (s:ByteArray):ByteArray:=if k=4 then s else ⟨#[]⟩
theorem ku {k:Int} {s:ByteArray} (h:¬ k=4):gz k s=⟨#[]⟩:=by simp [gz,h]
theorem yv {k n:Int} (h2:¬ k=2) (h3:¬ k=3):dY k n=0:=by simp [dY,h2,h3]
theorem Ku (k n:Int) (s:ByteArray) (w:World) (h:k=2) :
  Calls prog 159 #[.agg #[k,n,s]] w fun e w'=>e = .returned (.agg #[(2:Int),n,()])∧Below w w w':=by
 subst h;go_enter func159,ntmps159;go_wp2
 exact MA (v:=.agg #[(2:Int),n,()]) (by simp [results,results159,go_sem]) rfl ⟨rfl,(aN ..).alloc (by simp) _⟩
theorem Ke (k n:Int) (s:ByteArray) (w:World) (h:k=3) :
  Calls prog 159 #[.agg #[k,n,s]] w fun e w'=>e = .returned (.agg #[(3:Int),n,()])∧Below w w w':=by
 subst h;go_enter func159,ntmps159;go_wp2
 exact MA (v:=.agg #[(3:Int),n,()]) (by simp [results,results159,go_sem]) rfl ⟨rfl,(aN ..).alloc (by simp) _⟩
theorem KN (k n:Int) (s:ByteArray) (w:World) (h:k=4) :
  Calls prog 159 #[.agg #[k,n,s]] w fun e w'=>e = .returned (.agg #[(4:Int),aD,s])∧Below w w w':=by
 subst h;go_enter func159,ntmps159;go_wp2
 exact MA (v:=.agg #[(4:Int),aD,s]) (by simp [results,results159,go_sem]) rfl ⟨rfl,(aN ..).alloc (by simp) _⟩
theorem Ki (k n:Int) (s:ByteArray) (w:World) (h2:¬ k=2) (h3:¬ k=3) (h4:¬ k=4) :
  Calls prog 159 #[.agg #[k,n,s]] w fun e w'=>e = .returned (.agg #[k,aD,()])∧Below w w w':=by
 have b2:(k == 2)=false:=by simpa using h2
 have b3:(k == 3)=false:=by simpa using h3
 have b4:(k == 4)=false:=by simpa using h4
 go_enter func159,ntmps159;go_wp2
 exact MA (v:=.agg #[k,aD,()]) (by simp [results,results159,go_sem]) rfl ⟨rfl,(aN ..).alloc (by simp) _⟩
theorem tJ (k n:Int) (s:ByteArray) (w:World) :
  Calls prog 159 #[.agg #[k,n,s]] w fun e w'=>e = .returned (.agg #[k,.int .i64 (dY k n),.string (gz k s)])∧Below w w w':=by
 by_cases h2:k=2
 ·have e:dY k n=n:=by simp [dY,h2]
  rw [e,ku ag,h2];exact Ku 2 n s w rfl
 by_cases h3:k=3
 ·have e:dY k n=n:=by simp [dY,h3]
  rw [e,ku ag,h3];exact Ke 3 n s w rfl
 rw [yv h2 h3];by_cases h4:k=4
 ·have e:gz k s=s:=by simp [gz,h4]
  rw [e,h4];exact KN 4 n s w rfl
 rw [ku h4];exact Ki k n s w h2 h3 h4
theorem Dv (k n:Int) (s:ByteArray) (w:World) (h:k=2) :
  Calls prog 158 #[.agg #[k,n,s]] w fun e w'=>e = .returned (.agg #[(2:Int),n,()])∧Below w w w':=by
 subst h;go_enter func158,ntmps158;go_wp2
 exact MA (v:=.agg #[(2:Int),n,()]) (by simp [results,results158,go_sem]) rfl ⟨rfl,((aN ..).alloc (by simp) _).alloc (by simp; omega) _⟩
theorem Ea (k n:Int) (s:ByteArray) (w:World) (h:k=3) :
  Calls prog 158 #[.agg #[k,n,s]] w fun e w'=>e = .returned (.agg #[(3:Int),n,()])∧Below w w w':=by
 subst h;go_enter func158,ntmps158;go_wp2
 exact MA (v:=.agg #[(3:Int),n,()]) (by simp [results,results158,go_sem]) rfl ⟨rfl,((aN ..).alloc (by simp) _).alloc (by simp; omega) _⟩
theorem C4 (k n:Int) (s:ByteArray) (w:World) (h:k=4) :
  Calls prog 158 #[.agg #[k,n,s]] w fun e w'=>e = .returned (.agg #[(4:Int),aD,s])∧Below w w w':=by
 subst h;go_enter func158,ntmps158;go_wp2
 exact MA (v:=.agg #[(4:Int),aD,s]) (by simp [results,results158,go_sem]) rfl ⟨rfl,((aN ..).alloc (by simp) _).alloc (by simp; omega) _⟩
theorem Da (k n:Int) (s:ByteArray) (w:World) (h2:¬ k=2) (h3:¬ k=3) (h4:¬ k=4) :
  Calls prog 158 #[.agg #[k,n,s]] w fun e w'=>e = .returned (.agg #[k,aD,()])∧Below w w w':=by
 have b2:(k == 2)=false:=by simpa using h2
 have b3:(k == 3)=false:=by simpa using h3
 have b4:(k == 4)=false:=by simpa using h4
 go_enter func158,ntmps158;go_wp2
 exact MA (v:=.agg #[k,aD,()]) (by simp [results,results158,go_sem]) rfl ⟨rfl,((aN ..).alloc (by simp) _).alloc (by simp; omega) _⟩
theorem mz (k n:Int) (s:ByteArray) (w:World) :
  Calls prog 158 #[.agg #[k,n,s]] w fun e w'=>e = .returned (.agg #[k,.int .i64 (dY k n),.string (gz k s)])∧Below w w w':=by
 by_cases h2:k=2
 ·have e:dY k n=n:=by simp [dY,h2]
  rw [e,ku ag,h2];exact Dv 2 n s w rfl
 by_cases h3:k=3
 ·have e:dY k n=n:=by simp [dY,h3]
  rw [e,ku ag,h3];exact Ea 3 n s w rfl
 rw [yv h2 h3];by_cases h4:k=4
 ·have e:gz k s=s:=by simp [gz,h4]
  rw [e,h4];exact C4 4 n s w rfl
 rw [ku h4];exact Da k n s w h2 h3 h4
end Go.Proofs.YtoefpglknaiaeaaGreat
