import Derived.Test.YtoefpglknaiaeaaGreatMW8
set_option maxHeartbeats 16000000
set_option maxRecDepth 100000
namespace Go.Proofs.YtoefpglknaiaeaaGreat
open Go.RowKit _root_.Go.Proofs.Tryz
theorem Cq (A:Int) (h:0<A):wrap64 (-Int.tdiv 1000000000000000 A) = -(1000000000000000 / A):=by
 have e:Int.tdiv 1000000000000000 A=1000000000000000 / A:=N1 ag;have h1:0≤1000000000000000 / A:=Int.ediv_nonneg ag ag;have h2:1000000000000000 / A≤1000000000000000:=Int.ediv_le_self _ ag;rw [e];generalize 1000000000000000 / A=D at *;unfold wrap64;omega
theorem jE (n:Int) (w:World) (h0:-1000000000000000≤n) (h1:n≤1000000000000000) :
  Calls prog 250 #[n] w fun e w'=>e = .returned (.int .i64 (n.natAbs:Int))∧w'=w:=by
 by_cases h:n<0
 ·go_enter func250,ntmps250;go_wp2
  go_ret;exact ⟨aH ag,rfl⟩
 ·go_enter func250,ntmps250;go_wp2
  go_ret;exact ⟨aH ag,rfl⟩
theorem wS (w:World) (n n':Int) (s s':ByteArray):cS (((w.alloc (.cells #[(3:Int),n,s] 24)).alloc (.cells #[(3:Int),n',.string s'] 24)).alloc (.cells #[aD,aD,()] 24)) w (3:Int) n s∧cS (((w.alloc (.cells #[(3:Int),n,s] 24)).alloc (.cells #[(3:Int),n',.string s'] 24)).alloc (.cells #[aD,aD,()] 24)) (w+1) (3:Int) n' s'∧cS (((w.alloc (.cells #[(3:Int),n,s] 24)).alloc (.cells #[(3:Int),n',.string s'] 24)).alloc (.cells #[aD,aD,()] 24)) (w+1+1) aD aD ()∧Below w w (((w.alloc (.cells #[(3:Int),n,s] 24)).alloc (.cells #[(3:Int),n',.string s'] 24)).alloc (.cells #[aD,aD,()] 24)):=by
 have A0:=((cS.new w (3:Int) n s 24).alloc (.cells #[(3:Int),n',.string s'] 24)).alloc (.cells #[aD,aD,()] 24);have B0:=(cS.new (w.alloc (.cells #[(3:Int),n,s] 24)) (3:Int) n' s' 24).alloc (.cells #[aD,aD,()] 24);have R0:=cS.new ((w.alloc (.cells #[(3:Int),n,s] 24)).alloc (.cells #[(3:Int),n',.string s'] 24)) aD aD () 24
 have Z0:Below w w (((w.alloc (.cells #[(3:Int),n,s] 24)).alloc (.cells #[(3:Int),n',.string s'] 24)).alloc (.cells #[aD,aD,()] 24)):=((aN ..).alloc (by simp) _).alloc (by simp; omega) _;simp only [MZ] at B0 R0;exact ⟨A0,B0,R0,Z0⟩
theorem uE (c n n':Int) (s s':ByteArray) (w:World) (h1:¬ 1000000000000000<n+n') (h2:¬ n+n' < -1000000000000000) (hc:c=43) :
  Calls prog 222 #[.int .i32 c,.agg #[(3:Int),n,s],.agg #[(3:Int),n',.string s']] w fun e w'=>e = .returned (.agg #[(3:Int),.int .i64 (n+n'),()])∧Below w w w':=by
 subst hc;have ⟨A0,B0,R0,Z0⟩:=wS w n n' s s';go_enter func222,ntmps222;go_wp2_with fail
 generalize ((w.alloc _).alloc _).alloc _=W at *;haveI:Nonempty (cF W):=⟨⟨W,Mz _ _⟩⟩
 have x1:=ak A0.c1;have y1:=ak B0.c1;refine aq aG aG ?_
 repeat (go_big_quiet_step (fail))
 refine wpQuiet_nil ?_;rintro _ ⟨⟨w1,hb1⟩,rfl⟩;have R1:=R0.next hb1;have Z1:=chain Z0 hb1;clear A0 B0 R0 Z0 x1 y1 hb1;have ⟨r0,r1,r2,r3,r4,r5,r6⟩:=R1;go_wp2
 exact MA (v:=.agg #[(3:Int),.int .i64 (n+n'),()]) (by simp [results,results222,go_sem,r1,r2,r3]) rfl ⟨rfl,au Z1 ag⟩
theorem uz (c n n':Int) (s s':ByteArray) (w:World) (b:n+n'≤4000000000000000) (h1:1000000000000000<n+n') (hc:c=43) :
  Calls prog 222 #[.int .i32 c,.agg #[(3:Int),n,s],.agg #[(3:Int),n',.string s']] w fun e w'=>e = .returned (.agg #[(1:Int),aD,()])∧Below w w w':=by
 subst hc;have ⟨A0,B0,R0,Z0⟩:=wS w n n' s s';go_enter func222,ntmps222;go_wp2_with fail
 generalize ((w.alloc _).alloc _).alloc _=W at *;haveI:Nonempty (cF W):=⟨⟨W,Mz _ _⟩⟩
 have x1:=ak A0.c1;have y1:=ak B0.c1;refine aq aG aG ?_
 repeat (go_big_quiet_step (fail))
 refine wpQuiet_nil ?_;rintro _ ⟨⟨w1,hb1⟩,rfl⟩;have R1:=R0.next hb1;have Z1:=chain Z0 hb1;clear A0 B0 R0 Z0 x1 y1 hb1;have ⟨r0,r1,r2,r3,r4,r5,r6⟩:=R1;go_wp2_with fail
 refine bC (bP _) fun w2 hb2=>?_;have R2:=R1.next hb2;have Z2:=chain Z1 hb2;clear r0 r1 r2 r3 r4 r5 r6;have ⟨r0,r1,r2,r3,r4,r5,r6⟩:=R2;go_wp2
 exact MA (v:=.agg #[(1:Int),aD,()]) (by simp [results,results222,go_sem,r1,r2,r3]) rfl ⟨rfl,au Z2 ag⟩
theorem uB (c n n':Int) (s s':ByteArray) (w:World) (b:-4000000000000000≤n+n') (h1:¬ 1000000000000000<n+n') (h2:n+n' < -1000000000000000) (hc:c=43) :
  Calls prog 222 #[.int .i32 c,.agg #[(3:Int),n,s],.agg #[(3:Int),n',.string s']] w fun e w'=>e = .returned (.agg #[(1:Int),aD,()])∧Below w w w':=by
 subst hc;have ⟨A0,B0,R0,Z0⟩:=wS w n n' s s';go_enter func222,ntmps222;go_wp2_with fail
 generalize ((w.alloc _).alloc _).alloc _=W at *;haveI:Nonempty (cF W):=⟨⟨W,Mz _ _⟩⟩
 have x1:=ak A0.c1;have y1:=ak B0.c1;refine aq aG aG ?_
 repeat (go_big_quiet_step (fail))
 refine wpQuiet_nil ?_;rintro _ ⟨⟨w1,hb1⟩,rfl⟩;have R1:=R0.next hb1;have Z1:=chain Z0 hb1;clear A0 B0 R0 Z0 x1 y1 hb1;have ⟨r0,r1,r2,r3,r4,r5,r6⟩:=R1;go_wp2_with fail
 refine bC (bP _) fun w2 hb2=>?_;have R2:=R1.next hb2;have Z2:=chain Z1 hb2;clear r0 r1 r2 r3 r4 r5 r6;have ⟨r0,r1,r2,r3,r4,r5,r6⟩:=R2;go_wp2
 exact MA (v:=.agg #[(1:Int),aD,()]) (by simp [results,results222,go_sem,r1,r2,r3]) rfl ⟨rfl,au Z2 ag⟩
theorem uA (c n n':Int) (s s':ByteArray) (w:World) (h1:¬ 1000000000000000<n - n') (h2:¬ n - n' < -1000000000000000) (hc:c=45) :
  Calls prog 222 #[.int .i32 c,.agg #[(3:Int),n,s],.agg #[(3:Int),n',.string s']] w fun e w'=>e = .returned (.agg #[(3:Int),.int .i64 (n - n'),()])∧Below w w w':=by
 subst hc;have ⟨A0,B0,R0,Z0⟩:=wS w n n' s s';go_enter func222,ntmps222;go_wp2_with fail
 generalize ((w.alloc _).alloc _).alloc _=W at *;haveI:Nonempty (cF W):=⟨⟨W,Mz _ _⟩⟩
 have x1:=ak A0.c1;have y1:=ak B0.c1;refine aq aG aG ?_
 repeat (go_big_quiet_step (fail))
 refine wpQuiet_nil ?_;rintro _ ⟨⟨w1,hb1⟩,rfl⟩;have R1:=R0.next hb1;have Z1:=chain Z0 hb1;clear A0 B0 R0 Z0 x1 y1 hb1;have ⟨r0,r1,r2,r3,r4,r5,r6⟩:=R1;go_wp2
 exact MA (v:=.agg #[(3:Int),.int .i64 (n - n'),()]) (by simp [results,results222,go_sem,r1,r2,r3]) rfl ⟨rfl,au Z1 ag⟩
theorem tZ (c n n':Int) (s s':ByteArray) (w:World) (b:n - n'≤4000000000000000) (h1:1000000000000000<n - n') (hc:c=45) :
  Calls prog 222 #[.int .i32 c,.agg #[(3:Int),n,s],.agg #[(3:Int),n',.string s']] w fun e w'=>e = .returned (.agg #[(1:Int),aD,()])∧Below w w w':=by
 subst hc;have ⟨A0,B0,R0,Z0⟩:=wS w n n' s s';go_enter func222,ntmps222;go_wp2_with fail
 generalize ((w.alloc _).alloc _).alloc _=W at *;haveI:Nonempty (cF W):=⟨⟨W,Mz _ _⟩⟩
 have x1:=ak A0.c1;have y1:=ak B0.c1;refine aq aG aG ?_
 repeat (go_big_quiet_step (fail))
 refine wpQuiet_nil ?_;rintro _ ⟨⟨w1,hb1⟩,rfl⟩;have R1:=R0.next hb1;have Z1:=chain Z0 hb1;clear A0 B0 R0 Z0 x1 y1 hb1;have ⟨r0,r1,r2,r3,r4,r5,r6⟩:=R1;go_wp2_with fail
 refine bC (bP _) fun w2 hb2=>?_;have R2:=R1.next hb2;have Z2:=chain Z1 hb2;clear r0 r1 r2 r3 r4 r5 r6;have ⟨r0,r1,r2,r3,r4,r5,r6⟩:=R2;go_wp2
 exact MA (v:=.agg #[(1:Int),aD,()]) (by simp [results,results222,go_sem,r1,r2,r3]) rfl ⟨rfl,au Z2 ag⟩
theorem uy (c n n':Int) (s s':ByteArray) (w:World) (b:-4000000000000000≤n - n') (h1:¬ 1000000000000000<n - n') (h2:n - n' < -1000000000000000) (hc:c=45) :
  Calls prog 222 #[.int .i32 c,.agg #[(3:Int),n,s],.agg #[(3:Int),n',.string s']] w fun e w'=>e = .returned (.agg #[(1:Int),aD,()])∧Below w w w':=by
 subst hc;have ⟨A0,B0,R0,Z0⟩:=wS w n n' s s';go_enter func222,ntmps222;go_wp2_with fail
 generalize ((w.alloc _).alloc _).alloc _=W at *;haveI:Nonempty (cF W):=⟨⟨W,Mz _ _⟩⟩
 have x1:=ak A0.c1;have y1:=ak B0.c1;refine aq aG aG ?_
 repeat (go_big_quiet_step (fail))
 refine wpQuiet_nil ?_;rintro _ ⟨⟨w1,hb1⟩,rfl⟩;have R1:=R0.next hb1;have Z1:=chain Z0 hb1;clear A0 B0 R0 Z0 x1 y1 hb1;have ⟨r0,r1,r2,r3,r4,r5,r6⟩:=R1;go_wp2_with fail
 refine bC (bP _) fun w2 hb2=>?_;have R2:=R1.next hb2;have Z2:=chain Z1 hb2;clear r0 r1 r2 r3 r4 r5 r6;have ⟨r0,r1,r2,r3,r4,r5,r6⟩:=R2;go_wp2
 exact MA (v:=.agg #[(1:Int),aD,()]) (by simp [results,results222,go_sem,r1,r2,r3]) rfl ⟨rfl,au Z2 ag⟩
theorem GV (c n n':Int) (s s':ByteArray) (w:World) (c1:(c == 43)=false) (c2:(c == 45)=false) (c3:(c == 42)=false) :
  Calls prog 222 #[.int .i32 c,.agg #[(3:Int),n,s],.agg #[(3:Int),n',.string s']] w fun e w'=>e = .returned (.agg #[(1:Int),aD,()])∧Below w w w':=by
 have ⟨A0,B0,R0,Z0⟩:=wS w n n' s s';go_enter func222,ntmps222;go_wp2_with fail
 generalize ((w.alloc _).alloc _).alloc _=W at *;haveI:Nonempty (cF W):=⟨⟨W,Mz _ _⟩⟩
 have x1:=ak A0.c1;have y1:=ak B0.c1;refine aq aG aG ?_
 repeat (go_big_quiet_step (fail))
 refine wpQuiet_nil ?_;rintro _ ⟨⟨w1,hb1⟩,rfl⟩;have R1:=R0.next hb1;have Z1:=chain Z0 hb1;clear A0 B0 R0 Z0 x1 y1 hb1;have ⟨r0,r1,r2,r3,r4,r5,r6⟩:=R1;go_wp2_with fail
 refine bC (bP _) fun w2 hb2=>?_;have R2:=R1.next hb2;have Z2:=chain Z1 hb2;clear r0 r1 r2 r3 r4 r5 r6;have ⟨r0,r1,r2,r3,r4,r5,r6⟩:=R2;go_wp2
 exact MA (v:=.agg #[(1:Int),aD,()]) (by simp [results,results222,go_sem,r1,r2,r3]) rfl ⟨rfl,au Z2 ag⟩
theorem um (c n n':Int) (s s':ByteArray) (w:World) (p0:-1000000000000000≤n') (p1:n'≤1000000000000000) (hn:n'≠0) (h:1000000000000000 / (n'.natAbs:Int)<n) (hc:c=42) :
  Calls prog 222 #[.int .i32 c,.agg #[(3:Int),n,s],.agg #[(3:Int),n',.string s']] w fun e w'=>e = .returned (.agg #[(1:Int),aD,()])∧Below w w w':=by
 subst hc;have bn:(n' != 0)=true:=by simpa using hn
 have g0:0<(n'.natAbs:Int):=by omega
 have g1:(n'.natAbs:Int)≤1000000000000000:=by omega
 have ⟨A0,B0,R0,Z0⟩:=wS w n n' s s';go_enter func222,ntmps222;go_wp2_with fail
 generalize ((w.alloc _).alloc _).alloc _=W at *;haveI:Nonempty (cF W):=⟨⟨W,Mz _ _⟩⟩
 have x1:=ak A0.c1;have y1:=ak B0.c1;refine aq aG aG ?_
 repeat (go_big_quiet_step (fail))
 refine wpQuiet_nil ?_;rintro _ ⟨⟨w1,hb1⟩,rfl⟩;have R1:=R0.next hb1;have Z1:=chain Z0 hb1;clear A0 B0 R0 Z0 x1 y1 hb1;have ⟨r0,r1,r2,r3,r4,r5,r6⟩:=R1;go_wp2_with fail
 refine (jE _ _ p0 p1).mono ?_;rintro e wx ⟨rfl,rfl⟩;go_wp2_with fail
 refine bC (bP _) fun w2 hb2=>?_;have R2:=R1.next hb2;have Z2:=chain Z1 hb2;clear r0 r1 r2 r3 r4 r5 r6;have ⟨r0,r1,r2,r3,r4,r5,r6⟩:=R2;go_wp2
 exact MA (v:=.agg #[(1:Int),aD,()]) (by simp [results,results222,go_sem,r1,r2,r3]) rfl ⟨rfl,au Z2 ag⟩
theorem uw (c n n':Int) (s s':ByteArray) (w:World) (p0:-1000000000000000≤n') (p1:n'≤1000000000000000) (hn:n'≠0) (h:¬ 1000000000000000 / (n'.natAbs:Int)<n) (h':n < -(1000000000000000 / (n'.natAbs:Int))) (hc:c=42) :
  Calls prog 222 #[.int .i32 c,.agg #[(3:Int),n,s],.agg #[(3:Int),n',.string s']] w fun e w'=>e = .returned (.agg #[(1:Int),aD,()])∧Below w w w':=by
 subst hc;have bn:(n' != 0)=true:=by simpa using hn
 have g0:0<(n'.natAbs:Int):=by omega
 have g1:(n'.natAbs:Int)≤1000000000000000:=by omega
 have hq:=Cq (n'.natAbs:Int) g0;have ⟨A0,B0,R0,Z0⟩:=wS w n n' s s';go_enter func222,ntmps222;go_wp2_with fail
 generalize ((w.alloc _).alloc _).alloc _=W at *;haveI:Nonempty (cF W):=⟨⟨W,Mz _ _⟩⟩
 have x1:=ak A0.c1;have y1:=ak B0.c1;refine aq aG aG ?_
 repeat (go_big_quiet_step (fail))
 refine wpQuiet_nil ?_;rintro _ ⟨⟨w1,hb1⟩,rfl⟩;have R1:=R0.next hb1;have Z1:=chain Z0 hb1;clear A0 B0 R0 Z0 x1 y1 hb1;have ⟨r0,r1,r2,r3,r4,r5,r6⟩:=R1;go_wp2_with fail
 refine (jE _ _ p0 p1).mono ?_;rintro e wx ⟨rfl,rfl⟩;go_wp2_with fail
 refine (jE _ _ p0 p1).mono ?_;rintro e wx ⟨rfl,rfl⟩;go_wp2_with fail
 refine bC (bP _) fun w2 hb2=>?_;have R2:=R1.next hb2;have Z2:=chain Z1 hb2;clear r0 r1 r2 r3 r4 r5 r6;have ⟨r0,r1,r2,r3,r4,r5,r6⟩:=R2;go_wp2
 exact MA (v:=.agg #[(1:Int),aD,()]) (by simp [results,results222,go_sem,r1,r2,r3]) rfl ⟨rfl,au Z2 ag⟩
theorem uC (c n n':Int) (s s':ByteArray) (w:World) (p0:-1000000000000000≤n') (p1:n'≤1000000000000000) (hn:n'≠0) (h:¬ 1000000000000000 / (n'.natAbs:Int)<n) (h':¬ n < -(1000000000000000 / (n'.natAbs:Int))) (m1:¬ 1000000000000000<n*n') (m2:¬ n*n' < -1000000000000000) (hc:c=42) :
  Calls prog 222 #[.int .i32 c,.agg #[(3:Int),n,s],.agg #[(3:Int),n',.string s']] w fun e w'=>e = .returned (.agg #[(3:Int),.int .i64 (n*n'),()])∧Below w w w':=by
 subst hc;have bn:(n' != 0)=true:=by simpa using hn
 have g0:0<(n'.natAbs:Int):=by omega
 have g1:(n'.natAbs:Int)≤1000000000000000:=by omega
 have hq:=Cq (n'.natAbs:Int) g0;have ⟨A0,B0,R0,Z0⟩:=wS w n n' s s';go_enter func222,ntmps222;go_wp2_with fail
 generalize ((w.alloc _).alloc _).alloc _=W at *;haveI:Nonempty (cF W):=⟨⟨W,Mz _ _⟩⟩
 have x1:=ak A0.c1;have y1:=ak B0.c1;refine aq aG aG ?_
 repeat (go_big_quiet_step (fail))
 refine wpQuiet_nil ?_;rintro _ ⟨⟨w1,hb1⟩,rfl⟩;have R1:=R0.next hb1;have Z1:=chain Z0 hb1;clear A0 B0 R0 Z0 x1 y1 hb1;have ⟨r0,r1,r2,r3,r4,r5,r6⟩:=R1;go_wp2_with fail
 refine (jE _ _ p0 p1).mono ?_;rintro e wx ⟨rfl,rfl⟩;go_wp2_with fail
 refine (jE _ _ p0 p1).mono ?_;rintro e wx ⟨rfl,rfl⟩;go_wp2
 exact MA (v:=.agg #[(3:Int),.int .i64 (n*n'),()]) (by simp [results,results222,go_sem,r1,r2,r3]) rfl ⟨rfl,au Z1 ag⟩
theorem wO (c n:Int) (s s':ByteArray) (w:World) (hc:c=42) :
  Calls prog 222 #[.int .i32 c,.agg #[(3:Int),n,s],.agg #[(3:Int),aD,s']] w fun e w'=>e = .returned (.agg #[(3:Int),aD,()])∧Below w w w':=by
 subst hc;have A0:=((cS.new w (3:Int) n s 24).alloc (.cells #[(3:Int),aD,s'] 24)).alloc (.cells #[aD,aD,()] 24);have B0:=(cS.new (w.alloc (.cells #[(3:Int),n,s] 24)) (3:Int) aD s' 24).alloc (.cells #[aD,aD,()] 24);have R0:=cS.new ((w.alloc (.cells #[(3:Int),n,s] 24)).alloc (.cells #[(3:Int),aD,s'] 24)) aD aD () 24
 have Z0:Below w w (((w.alloc (.cells #[(3:Int),n,s] 24)).alloc (.cells #[(3:Int),aD,s'] 24)).alloc (.cells #[aD,aD,()] 24)):=((aN ..).alloc (by simp) _).alloc (by simp; omega) _;simp only [MZ] at B0 R0;go_enter func222,ntmps222;go_wp2_with fail
 generalize (((w.alloc (.cells #[(3:Int),n,s] 24)).alloc (.cells #[(3:Int),aD,s'] 24)).alloc (.cells #[aD,aD,()] 24))=W at *;haveI:Nonempty (cF W):=⟨⟨W,Mz _ _⟩⟩
 have x1:=ak A0.c1;have y1:=ak B0.c1;refine aq aG aG ?_
 repeat (go_big_quiet_step (fail))
 refine wpQuiet_nil ?_;rintro _ ⟨⟨w1,hb1⟩,rfl⟩;have R1:=R0.next hb1;have Z1:=chain Z0 hb1;clear A0 B0 R0 Z0 x1 y1 hb1;have ⟨r0,r1,r2,r3,r4,r5,r6⟩:=R1;go_wp2
 exact MA (v:=.agg #[(3:Int),aD,()]) (by simp [results,results222,go_sem,r1,r2,r3]) rfl ⟨rfl,au Z1 ag⟩
theorem xW (c k n k' n':Int) (s s':ByteArray) (w:World) (h:(k != 3)=true) :
  Calls prog 222 #[.int .i32 c,.agg #[k,n,s],.agg #[k',.int .i64 n',.string s']] w fun e w'=>e = .returned (.agg #[(1:Int),aD,()])∧Below w w w':=by
 have R0:=cS.new ((w.alloc (.cells #[k,n,s] 24)).alloc (.cells #[k',.int .i64 n',.string s'] 24)) aD aD () 24;simp only [MZ] at R0;go_enter func222,ntmps222;go_wp2_with fail
 refine bC (bP _) fun w1 hb1=>?_;have ⟨r0,r1,r2,r3,r4,r5,r6⟩:=R0.next hb1;go_wp2
 exact MA (v:=.agg #[(1:Int),aD,()]) (by simp [results,results222,go_sem,r1,r2,r3]) rfl ⟨rfl,au (gw hb1) ag⟩
theorem zh (c n k' n':Int) (s s':ByteArray) (w:World) (h:(k' != 3)=true) :
  Calls prog 222 #[.int .i32 c,.agg #[(3:Int),n,s],.agg #[k',.int .i64 n',.string s']] w fun e w'=>e = .returned (.agg #[(1:Int),aD,()])∧Below w w w':=by
 have R0:=cS.new ((w.alloc (.cells #[(3:Int),n,s] 24)).alloc (.cells #[k',.int .i64 n',.string s'] 24)) aD aD () 24;simp only [MZ] at R0;go_enter func222,ntmps222;go_wp2_with fail
 refine bC (bP _) fun w1 hb1=>?_;have ⟨r0,r1,r2,r3,r4,r5,r6⟩:=R0.next hb1;go_wp2
 exact MA (v:=.agg #[(1:Int),aD,()]) (by simp [results,results222,go_sem,r1,r2,r3]) rfl ⟨rfl,au (gw hb1) ag⟩
theorem xx (n n':Int) (hn:n'≠0) (h:¬ 1000000000000000 / (n'.natAbs:Int)<n) (h':¬ n < -(1000000000000000 / (n'.natAbs:Int))):-1000000000000000≤n*n'∧n*n'≤1000000000000000:=by
 have:=GI n' n ag hn
 rwa [Int.mul_comm]
theorem kp (c k n k' n':Int) (s s':ByteArray) (w:World) (q:k=3 → -1000000000000000≤n∧n≤1000000000000000) (q':k'=3 → -1000000000000000≤n'∧n'≤1000000000000000) :
  Calls prog 222 #[.int .i32 c,.agg #[k,n,s],.agg #[k',.int .i64 n',.string s']] w fun e w'=>e = .returned (.agg #[.int .i64 (jK (iT c k n k' n')),.int .i64 (kl (iT c k n k' n')),()])∧Below w w w':=by
 by_cases hk:k=3
 ·subst hk;by_cases hk':k'=3
  ·subst hk';obtain ⟨q0,q1⟩:=q rfl;obtain ⟨p0,p1⟩:=q' rfl;have e:iT c 3 n 3 n'=rZ c n n':=by simp [iT,nu,pW q0 q1,pW p0 p1]
   rw [e];by_cases c1:c=43
   ·have e:rZ c n n'=some (n+n'):=by simp [rZ,c1]
    rw [e];by_cases h1:1000000000000000<n+n'
    ·have i:=sO (n:=n+n') (.inr h1);simp only [jK,kl,gT,gY,i];exact uz c n n' s s' w ag h1 c1
    by_cases h2:n+n' < -1000000000000000
    ·have i:=sO (n:=n+n') (.inl h2);simp only [jK,kl,gT,gY,i];exact uB c n n' s s' w ag h1 h2 c1
    ·have i:=pW (n:=n+n') ag ag;simp only [jK,kl,gT,gY,i];exact uE c n n' s s' w h1 h2 c1
   by_cases c2:c=45
   ·have e:rZ c n n'=some (n - n'):=by simp [rZ,c2]
    rw [e];by_cases h1:1000000000000000<n - n'
    ·have i:=sO (n:=n - n') (.inr h1);simp only [jK,kl,gT,gY,i];exact tZ c n n' s s' w ag h1 c2
    by_cases h2:n - n' < -1000000000000000
    ·have i:=sO (n:=n - n') (.inl h2);simp only [jK,kl,gT,gY,i];exact uy c n n' s s' w ag h1 h2 c2
    ·have i:=pW (n:=n - n') ag ag;simp only [jK,kl,gT,gY,i];exact uA c n n' s s' w h1 h2 c2
   by_cases c3:c=42
   ·have e:rZ c n n'=some (n*n'):=by simp [rZ,c3]
    rw [e];by_cases hn:n'=0
    ·have e0:n*n'=0:=by rw [hn,Int.mul_zero]
     have i:=pW (n:=0) ag ag;rw [e0];simp only [jK,kl,gT,gY,i];rw [hn];exact wO c n s s' w c3
    by_cases h1:1000000000000000 / (n'.natAbs:Int)<n
    ·have i:kO (n*n')=false:=by rw [Int.mul_comm]; exact wU n' n ag hn
     simp only [jK,kl,gT,gY,i];exact um c n n' s s' w p0 p1 hn h1 c3
    by_cases h2:n < -(1000000000000000 / (n'.natAbs:Int))
    ·have i:kO (n*n')=false:=by rw [Int.mul_comm]; exact wU n' n ag hn
     simp only [jK,kl,gT,gY,i];exact uw c n n' s s' w p0 p1 hn h1 h2 c3
    ·obtain ⟨m1,m2⟩:=xx n n' hn h1 h2;have i:=pW m1 m2;simp only [jK,kl,gT,gY,i];exact uC c n n' s s' w p0 p1 hn h1 h2 ag ag c3
   have e:rZ c n n'=none:=by simp [rZ,c1,c2,c3]
   rw [e]; exact GV c n n' s s' w (by simpa using c1) (by simpa using c2) (by simpa using c3)
  ·have e:iT c 3 n k' n'=none:=by simp [iT,nu,hk']
   rw [e]; exact zh c n k' n' s s' w (by simpa using hk')
 ·have e:iT c k n k' n'=none:=by simp [iT,nu,hk]
  rw [e]; exact xW c k n k' n' s s' w (by simpa using hk)
def LZ (row:List Vl) (x:Ex):Prop :=
 ∀ (B:Nat) (a:Option Addr) (cap:Nat) (ra:Option Addr) (rcap:Nat) (w:World),aU B w a x.ks→B≤w.heap.size→aZ w ra row →
  Calls prog 188 #[fN x.k x.v x.c a x.ks.length cap,.slice ra row.length rcap] w fun e w'=>e = .returned (dV (bQ row x))∧Below w w w'
abbrev ow (w:World) (k:Int) (v:Vl) (c:Int) (a:Option Addr) (n cap:Nat):World:=(w.alloc (.cells #[k,v.1,v.2.1,v.2.2,c,.slice a n cap] 27)).alloc (.cells #[aD,aD,()] 24)
structure Mm (w w3:World) (k:Int) (v:Vl) (c:Int) (a:Option Addr) (n cap:Nat):Prop where
 tX:ki w3 w 0 k v c a n cap
 box:cS w3 (w+1) aD aD ()
 low:Below w w w3
 lt:w.heap.size+1<w3.heap.size
theorem dS (w:World) (k:Int) (v:Vl) (c:Int) (a:Option Addr) (n cap:Nat):Mm w (ow w k v c a n cap) k v c a n cap:=by
 have h1:=aN w (.cells #[k,v.1,v.2.1,v.2.2,c,.slice a n cap] 27);have S:=ki.new w k v c a n cap 27;have z1:(w.alloc (.cells #[k,v.1,v.2.1,v.2.2,c,.slice a n cap] 27)).heap.size=w.heap.size+1:=by simp
 unfold ow;generalize w.alloc _=w1 at *;have h3:=aN w1 (.cells #[aD,aD,()] 24);have B:=cS.new w1 aD aD () 24;have z3:(w1.alloc (.cells #[aD,aD,()] 24)).heap.size=w1.heap.size+1:=by simp
 generalize w1.alloc _=w3 at *;rw [z1] at B;exact ⟨S.next h3 ag,B,chain h1 h3,by omega⟩
theorem Mm.go {w a b:World} {k:Int} {v:Vl} {c:Int} {d:Option Addr} {n cap:Nat} (F:Mm w a k v c d n cap) (h:Below a a b):Mm w b k v c d n cap:=have l:=F.lt;⟨F.tX.next h ag,F.box.next h,chain F.low h,My l h.size⟩
def eL (b o:Nat) (ra:Option Addr) (rn rcap:Nat) (r:Vl) (w:World):Prop :=
 ∃ x:Ex,∃ ai ci,ki w b o x.k x.v x.c ai x.ks.length ci∧b<w.heap.size ∧
  ∀ W,Below w w W→Calls prog 188 #[fN x.k x.v x.c ai x.ks.length ci,.slice ra rn rcap] W fun e w'=>e = .returned (dV r)∧Below W W w'
theorem eL.next {b o:Nat} {ra:Option Addr} {rn rcap:Nat} {r:Vl} {w w1:World} (h:eL b o ra rn rcap r w) (hb:Below w w w1):eL b o ra rn rcap r w1:=by
 obtain ⟨x,ai,ci,S,hlt,con⟩:=h;exact ⟨x,ai,ci,S.next hb hlt,My hlt hb.size,fun W hW=>con W (chain hb hW)⟩
theorem LQ (v:Vl) (c:Int) (b off cap:Nat) (ra:Option Addr) (rn rcap:Nat) (w:World) (u0:Vl) (k0:eL b (off) ra rn rcap u0 w) (g0:aJ u0=0)  :
  Calls prog 188 #[fN 3 v c (some (ah b off)) 1 cap,.slice ra rn rcap] w fun e w'=>e = .returned (dV (kI u0))∧Below w w w':=by
 have F:=dS w 3 v c (some (ah b off)) 1 cap;replace k0:=k0.next F.low;unfold ow at F k0;obtain ⟨x0,ai0,ci0,S0,l0,con0⟩:=k0;obtain ⟨a0,a1,a2,a3,a4,a5⟩:=S0;replace con0:=con0 _ (Mz _ _);go_enter func188,ntmps188;go_wp2_with fail
 refine con0.mono ?_;clear con0;rintro e w4 ⟨rfl,hb⟩;clear a0 a1 a2 a3 a4 a5;generalize w.alloc _=w3 at *;replace F:=F.go hb;clear hb;have hal:=aN w4 (.cells #[u0.1,u0.2.1,u0.2.2] 24)
 have BA:=cS.new w4 u0.1 u0.2.1 u0.2.2 24;replace F:=F.go hal;have ⟨s0,s1,s2,s3,s4,s5⟩:=F.tX;simp only [MG] at s1 s2 s3 s4 s5;have ⟨q0,q1,q2,q3,q4,q5,q6⟩:=BA;go_wp2_with fail
 clear s0 s1 s2 s3 s4 s5;refine (Bw _ _ _ _ (ic g0)).mono ?_;rintro e w6 ⟨rfl,hb⟩;replace F:=F.go hb;clear q0 q1 q2 q3 q4 q5 q6;have ⟨b0,b1,b2,b3,b4,b5,b6⟩:=F.box;go_wp2
 exact MA (v:=.agg #[.int .i64 (tk (nY (cls u0.1 u0.2.1))),.int .i64 (tn (nY (cls u0.1 u0.2.1))),()]) (by simp [results,results188,go_sem,b1,b2,b3]) rfl ⟨rfl,au F.low ag⟩
theorem Ld (v:Vl) (c:Int) (b off cap:Nat) (ra:Option Addr) (rn rcap:Nat) (w:World) (u0:Vl) (k0:eL b (off) ra rn rcap u0 w) (_g0:aJ u0=0)  :
  Calls prog 188 #[fN 16 v c (some (ah b off)) 1 cap,.slice ra rn rcap] w fun e w'=>e = .returned (dV (oC (some (u0.1 == 1))))∧Below w w w':=by
 have F:=dS w 16 v c (some (ah b off)) 1 cap;replace k0:=k0.next F.low;unfold ow at F k0;obtain ⟨x0,ai0,ci0,S0,l0,con0⟩:=k0;obtain ⟨a0,a1,a2,a3,a4,a5⟩:=S0;replace con0:=con0 _ (Mz _ _);go_enter func188,ntmps188;go_wp2_with fail
 refine con0.mono ?_;clear con0;rintro e w4 ⟨rfl,hb⟩;clear a0 a1 a2 a3 a4 a5;generalize w.alloc _=w3 at *;replace F:=F.go hb;clear hb;have hal:=aN w4 (.cells #[u0.1,u0.2.1,u0.2.2] 24)
 have BA:=cS.new w4 u0.1 u0.2.1 u0.2.2 24;replace F:=F.go hal;have ⟨s0,s1,s2,s3,s4,s5⟩:=F.tX;simp only [MG] at s1 s2 s3 s4 s5;have ⟨q0,q1,q2,q3,q4,q5,q6⟩:=BA;go_wp2_with fail
 clear s0 s1 s2 s3 s4 s5;refine bC (kS _ _) fun w6 hb=>?_;replace F:=F.go hb;clear q0 q1 q2 q3 q4 q5 q6;have ⟨b0,b1,b2,b3,b4,b5,b6⟩:=F.box;go_wp2
 exact MA (v:=.agg #[(2:Int),.int .i64 (tn (some (u0.1 == 1))),()]) (by simp [results,results188,go_sem,b1,b2,b3]) rfl ⟨rfl,au F.low ag⟩
theorem KY (v:Vl) (c:Int) (b off cap:Nat) (ra:Option Addr) (rn rcap:Nat) (w:World) (u0:Vl) (k0:eL b (off) ra rn rcap u0 w) (g0:aJ u0=0) (u1:Vl) (k1:eL b (off+6) ra rn rcap u1 w) (_g1:aJ u1=0) (ht:(cls u0.1 u0.2.1 == some true)=true) :
  Calls prog 188 #[fN 17 v c (some (ah b off)) 3 cap,.slice ra rn rcap] w fun e w'=>e = .returned (dV u1)∧Below w w w':=by
 have F:=dS w 17 v c (some (ah b off)) 3 cap;replace k0:=k0.next F.low;replace k1:=k1.next F.low;unfold ow at F k0 k1;obtain ⟨x0,ai0,ci0,S0,l0,con0⟩:=k0;obtain ⟨a0,a1,a2,a3,a4,a5⟩:=S0;replace con0:=con0 _ (Mz _ _);go_enter func188,ntmps188;go_wp2_with fail
 refine con0.mono ?_;clear con0;rintro e w4 ⟨rfl,hb⟩;clear a0 a1 a2 a3 a4 a5;generalize w.alloc _=w3 at *;replace F:=F.go hb;replace k1:=k1.next hb;clear hb
 have hal:=aN w4 (.cells #[u0.1,u0.2.1,u0.2.2] 24);have BA:=cS.new w4 u0.1 u0.2.1 u0.2.2 24;replace F:=F.go hal;replace k1:=k1.next hal;have ⟨s0,s1,s2,s3,s4,s5⟩:=F.tX;simp only [MG] at s1 s2 s3 s4 s5;have ⟨q0,q1,q2,q3,q4,q5,q6⟩:=BA;go_wp2_with fail
 clear s0 s1 s2 s3 s4 s5;clear q0 q1 q2 q3 q4 q5 q6;refine (gE _ _ _ true _ (ic g0)).mono ?_;rintro e w6 ⟨rfl,hb⟩;replace F:=F.go hb;replace k1:=k1.next hb;clear hb;rw [ht];obtain ⟨x1,ai1,ci1,S1,l1,con1⟩:=k1;obtain ⟨a0,a1,a2,a3,a4,a5⟩:=S1;replace con1:=con1 _ (Mz _ _);have ⟨s0,s1,s2,s3,s4,s5⟩:=F.tX;simp only [MG] at s1 s2 s3 s4 s5;go_wp2_with fail
 clear s0 s1 s2 s3 s4 s5;clear a0 a1 a2 a3 a4 a5;refine bC (con1) fun w7 hb=>?_;replace F:=F.go hb;clear con1;have ⟨b0,b1,b2,b3,b4,b5,b6⟩:=F.box;go_wp2
 exact MA (v:=dV u1) (by simp [results,results188,go_sem,b1,b2,b3]) rfl ⟨rfl,au F.low ag⟩
theorem KC (v:Vl) (c:Int) (b off cap:Nat) (ra:Option Addr) (rn rcap:Nat) (w:World) (u0:Vl) (k0:eL b (off) ra rn rcap u0 w) (g0:aJ u0=0) (u2:Vl) (k2:eL b (off+12) ra rn rcap u2 w) (_g2:aJ u2=0) (ht:(cls u0.1 u0.2.1 == some true)=false) :
  Calls prog 188 #[fN 17 v c (some (ah b off)) 3 cap,.slice ra rn rcap] w fun e w'=>e = .returned (dV u2)∧Below w w w':=by
 have F:=dS w 17 v c (some (ah b off)) 3 cap;replace k0:=k0.next F.low;replace k2:=k2.next F.low;unfold ow at F k0 k2;obtain ⟨x0,ai0,ci0,S0,l0,con0⟩:=k0;obtain ⟨a0,a1,a2,a3,a4,a5⟩:=S0;replace con0:=con0 _ (Mz _ _);go_enter func188,ntmps188;go_wp2_with fail
 refine con0.mono ?_;clear con0;rintro e w4 ⟨rfl,hb⟩;clear a0 a1 a2 a3 a4 a5;generalize w.alloc _=w3 at *;replace F:=F.go hb;replace k2:=k2.next hb;clear hb
 have hal:=aN w4 (.cells #[u0.1,u0.2.1,u0.2.2] 24);have BA:=cS.new w4 u0.1 u0.2.1 u0.2.2 24;replace F:=F.go hal;replace k2:=k2.next hal;have ⟨s0,s1,s2,s3,s4,s5⟩:=F.tX;simp only [MG] at s1 s2 s3 s4 s5;have ⟨q0,q1,q2,q3,q4,q5,q6⟩:=BA;go_wp2_with fail
 clear s0 s1 s2 s3 s4 s5;clear q0 q1 q2 q3 q4 q5 q6;refine (gE _ _ _ true _ (ic g0)).mono ?_;rintro e w6 ⟨rfl,hb⟩;replace F:=F.go hb;replace k2:=k2.next hb;clear hb;rw [ht];obtain ⟨x2,ai2,ci2,S2,l2,con2⟩:=k2;obtain ⟨a0,a1,a2,a3,a4,a5⟩:=S2;replace con2:=con2 _ (Mz _ _);have ⟨s0,s1,s2,s3,s4,s5⟩:=F.tX;simp only [MG] at s1 s2 s3 s4 s5;go_wp2_with fail
 clear s0 s1 s2 s3 s4 s5;clear a0 a1 a2 a3 a4 a5;refine bC (con2) fun w7 hb=>?_;replace F:=F.go hb;clear con2;have ⟨b0,b1,b2,b3,b4,b5,b6⟩:=F.box;go_wp2
 exact MA (v:=dV u2) (by simp [results,results188,go_sem,b1,b2,b3]) rfl ⟨rfl,au F.low ag⟩
theorem Kn (v:Vl) (c:Int) (b off cap:Nat) (ra:Option Addr) (rn rcap:Nat) (w:World) (u0:Vl) (k0:eL b (off) ra rn rcap u0 w) (_g0:aJ u0=0) (u1:Vl) (k1:eL b (off+6) ra rn rcap u1 w) (_g1:aJ u1=0) (hn:(u0.1 == 1)=true) :
  Calls prog 188 #[fN 18 v c (some (ah b off)) 2 cap,.slice ra rn rcap] w fun e w'=>e = .returned (dV u1)∧Below w w w':=by
 have hn':(u0.1 != 1)=false:=by simpa using hn
 have F:=dS w 18 v c (some (ah b off)) 2 cap;replace k0:=k0.next F.low;replace k1:=k1.next F.low;unfold ow at F k0 k1;obtain ⟨x0,ai0,ci0,S0,l0,con0⟩:=k0;obtain ⟨a0,a1,a2,a3,a4,a5⟩:=S0;replace con0:=con0 _ (Mz _ _);go_enter func188,ntmps188;go_wp2_with fail
 refine con0.mono ?_;clear con0;rintro e w4 ⟨rfl,hb⟩;clear a0 a1 a2 a3 a4 a5;generalize w.alloc _=w3 at *;replace F:=F.go hb;replace k1:=k1.next hb;clear hb
 have hal:=aN w4 (.cells #[u0.1,u0.2.1,u0.2.2] 24);have BA:=cS.new w4 u0.1 u0.2.1 u0.2.2 24;replace F:=F.go hal;replace k1:=k1.next hal;obtain ⟨x1,ai1,ci1,S1,l1,con1⟩:=k1;obtain ⟨a0,a1,a2,a3,a4,a5⟩:=S1;replace con1:=con1 _ (Mz _ _);have ⟨s0,s1,s2,s3,s4,s5⟩:=F.tX;simp only [MG] at s1 s2 s3 s4 s5;have ⟨q0,q1,q2,q3,q4,q5,q6⟩:=BA;go_wp2_with fail
 clear s0 s1 s2 s3 s4 s5;clear a0 a1 a2 a3 a4 a5;clear q0 q1 q2 q3 q4 q5 q6;refine bC (con1) fun w6 hb=>?_;replace F:=F.go hb;clear con1;have ⟨b0,b1,b2,b3,b4,b5,b6⟩:=F.box;go_wp2
 exact MA (v:=dV u1) (by simp [results,results188,go_sem,b1,b2,b3]) rfl ⟨rfl,au F.low ag⟩
theorem Ka (v:Vl) (c:Int) (b off cap:Nat) (ra:Option Addr) (rn rcap:Nat) (w:World) (u0:Vl) (k0:eL b (off) ra rn rcap u0 w) (_g0:aJ u0=0) (hn:(u0.1 == 1)=false) :
  Calls prog 188 #[fN 18 v c (some (ah b off)) 2 cap,.slice ra rn rcap] w fun e w'=>e = .returned (dV u0)∧Below w w w':=by
 have hn':(u0.1 != 1)=true:=by simpa using hn
 have F:=dS w 18 v c (some (ah b off)) 2 cap;replace k0:=k0.next F.low;unfold ow at F k0;obtain ⟨x0,ai0,ci0,S0,l0,con0⟩:=k0;obtain ⟨a0,a1,a2,a3,a4,a5⟩:=S0;replace con0:=con0 _ (Mz _ _);go_enter func188,ntmps188;go_wp2_with fail
 refine con0.mono ?_;clear con0;rintro e w4 ⟨rfl,hb⟩;clear a0 a1 a2 a3 a4 a5;generalize w.alloc _=w3 at *;replace F:=F.go hb;clear hb;have hal:=aN w4 (.cells #[u0.1,u0.2.1,u0.2.2] 24)
 have BA:=cS.new w4 u0.1 u0.2.1 u0.2.2 24;replace F:=F.go hal;have ⟨s0,s1,s2,s3,s4,s5⟩:=F.tX;simp only [MG] at s1 s2 s3 s4 s5;have ⟨q0,q1,q2,q3,q4,q5,q6⟩:=BA;have ⟨b0,b1,b2,b3,b4,b5,b6⟩:=F.box;go_wp2
 exact MA (v:=dV u0) (by simp [results,results188,go_sem,b1,b2,b3]) rfl ⟨rfl,au F.low ag⟩
theorem L7 (K:Int) (r:Vl) (v:Vl) (c:Int) (b off cap:Nat) (ra:Option Addr) (rn rcap:Nat) (w:World) (u0:Vl) (k0:eL b (off) ra rn rcap u0 w) (g0:aJ u0=0) (u1:Vl) (k1:eL b (off+6) ra rn rcap u1 w) (g1:aJ u1=0) (m0 m1:Bool) (e0:(u0.1 != 1)=m0) (e1:(u1.1 != 1)=m1) (hK:(K=4∧r=GN u0 u1)∨(K=5∧r=Lk u0 u1)∨(K=12∧r=mD 43 u0 u1)∨(K=13∧r=mD 45 u0 u1)∨(K=14∧r=mD 42 u0 u1)∨(K=15∧r=oK u0 u1)) :
  Calls prog 188 #[fN K v c (some (ah b off)) 2 cap,.slice ra rn rcap] w fun e w'=>e = .returned (dV r)∧Below w w w':=by
 have F:=dS w K v c (some (ah b off)) 2 cap;replace k0:=k0.next F.low;replace k1:=k1.next F.low;unfold ow at F k0 k1;obtain ⟨x0,ai0,ci0,S0,l0,con0⟩:=k0;obtain ⟨a0,a1,a2,a3,a4,a5⟩:=S0;replace con0:=con0 _ (Mz _ _)
 rcases hK with ⟨rfl,rfl⟩ | ⟨rfl,rfl⟩ | ⟨rfl,rfl⟩ | ⟨rfl,rfl⟩ | ⟨rfl,rfl⟩ | ⟨rfl,rfl⟩
 all_goals
  go_enter func188,ntmps188;go_wp2_with fail
  refine con0.mono ?_;clear con0;rintro e w4 ⟨rfl,hb⟩;clear a0 a1 a2 a3 a4 a5;generalize w.alloc _=w3 at *;replace F:=F.go hb;replace k1:=k1.next hb;clear hb
  have hal:=aN w4 (.cells #[u0.1,u0.2.1,u0.2.2] 24);have BA:=cS.new w4 u0.1 u0.2.1 u0.2.2 24;replace F:=F.go hal;replace k1:=k1.next hal;obtain ⟨x1,ai1,ci1,S1,l1,con1⟩:=k1;obtain ⟨a0,a1,a2,a3,a4,a5⟩:=S1;replace con1:=con1 _ (Mz _ _);have ⟨s0,s1,s2,s3,s4,s5⟩:=F.tX;simp only [MG] at s1 s2 s3 s4 s5;have ⟨q0,q1,q2,q3,q4,q5,q6⟩:=BA;go_wp2_with fail
  clear s0 s1 s2 s3 s4 s5;clear a0 a1 a2 a3 a4 a5;clear q0 q1 q2 q3 q4 q5 q6;refine bC (con1) fun w6 hb=>?_;replace F:=F.go hb;replace BA:=BA.next hb;clear con1;have hal2:=aN w6 (.cells #[u1.1,u1.2.1,u1.2.2] 24);have BB:=cS.new w6 u1.1 u1.2.1 u1.2.2 24;replace F:=F.go hal2;replace BA:=BA.next hal2;obtain ⟨w1',w4'⟩:=e7 g0;have n0:=e0;have n1:=e1;cases m0 <;> cases m1
  all_goals
   have ⟨s0,s1,s2,s3,s4,s5⟩:=F.tX;simp only [MG] at s1 s2 s3 s4 s5;have ⟨q0,q1,q2,q3,q4,q5,q6⟩:=BA;have ⟨r0,r1,r2,r3,r4,r5,r6⟩:=BB;go_wp2_with fail
   refine bC (dz _ _ _ _ _ _ _ w1' w4') fun w8 hb8=>?_;have F8:=F.go hb8;have BA8:=BA.next hb8;have BB8:=BB.next hb8;generalize cR u0.1 u0.2.1 u0.2.2 u1.1 u1.2.1 u1.2.2=oo at *;clear s0 s1 s2 s3 s4 s5 q0 q1 q2 q3 q4 q5 q6 r0 r1 r2 r3 r4 r5 r6;have ⟨s0,s1,s2,s3,s4,s5⟩:=F8.tX;simp only [MG] at s1 s2 s3 s4 s5;have ⟨q0,q1,q2,q3,q4,q5,q6⟩:=BA8;have ⟨r0,r1,r2,r3,r4,r5,r6⟩:=BB8;go_wp2_with fail
   (first | refine (Ah _ _ _ _ _ _ _ (ic g0) (ic g1)).mono ?_ | refine (Ez _ _ _ _ _ _ _ (ic g0) (ic g1)).mono ?_ | refine (kp _ _ _ _ _ _ _ _ (jx g0) (jx g1)).mono ?_ | refine (yw _ _ _ _ _ _ _ (lq g0) (lq g1)).mono ?_);rintro e w9 ⟨rfl,hb9⟩;have hA9:=chain F8.low hb9;have ⟨b0,b1,b2,b3,b4,b5,b6⟩:=F8.box.next hb9;clear s0 s1 s2 s3 s4 s5 q0 q1 q2 q3 q4 q5 q6 r0 r1 r2 r3 r4 r5 r6;go_wp2_with fail
   first
   | exact MA (v:=.agg #[.int .i64 (tk (AV (cls u0.1 u0.2.1) (cls u1.1 u1.2.1))),.int .i64 (tn (AV (cls u0.1 u0.2.1) (cls u1.1 u1.2.1))),()]) (by simp [results,results188,go_sem,b1,b2,b3]) rfl ⟨rfl,au hA9 ag⟩
   | exact MA (v:=.agg #[.int .i64 (tk (Kw (cls u0.1 u0.2.1) (cls u1.1 u1.2.1))),.int .i64 (tn (Kw (cls u0.1 u0.2.1) (cls u1.1 u1.2.1))),()]) (by simp [results,results188,go_sem,b1,b2,b3]) rfl ⟨rfl,au hA9 ag⟩
   | exact MA (v:=.agg #[.int .i64 (jK (iT _ u0.1 u0.2.1 u1.1 u1.2.1)),.int .i64 (kl (iT _ u0.1 u0.2.1 u1.1 u1.2.1)),()]) (by simp [results,results188,go_sem,b1,b2,b3]) rfl ⟨rfl,au hA9 ag⟩
   | exact MA (v:=.agg #[.int .i64 (fS u0.1 u0.2.2 u1.1 u1.2.2),aD,.string (gd u0.1 u0.2.2 u1.1 u1.2.2)]) (by simp [results,results188,go_sem,b1,b2,b3]) rfl ⟨rfl,au hA9 ag⟩
theorem LK (v:Vl) (c:Int) (a:Option Addr) (n cap:Nat) (ra:Option Addr) (rn rcap:Nat) (w:World) :
  Calls prog 188 #[fN 1 v c a n cap,.slice ra rn rcap] w fun e w'=>e = .returned (dV (cM v))∧Below w w w':=by
 have F:=dS w 1 v c a n cap;unfold ow at F;go_enter func188,ntmps188;go_wp2_with fail
 generalize w.alloc _=w3 at *;obtain ⟨S,R,hA,lt0⟩:=F;refine bC (mz _ _ _ _) fun w4 hb=>?_;have hA:=chain hA hb;have ⟨b0,b1,b2,b3,b4,b5,b6⟩:=R.next hb;clear S;go_wp2
 exact MA (v:=.agg #[v.1,.int .i64 (dY v.1 v.2.1),.string (gz v.1 v.2.2)]) (by simp [results,results188,go_sem,b1,b2,b3]) rfl ⟨rfl,au hA ag⟩
theorem LX (v:Vl) (c:Int) (a:Option Addr) (n cap:Nat) (ra:Option Addr) (rcap:Nat) (w:World) (row:List Vl) (j:Nat) (hj:j<row.length) (hc:c=j) (hs:aZ w ra row) :
  Calls prog 188 #[fN 2 v c a n cap,.slice ra row.length rcap] w fun e w'=>e = .returned (dV (cM row[j]))∧Below w w w':=by
 subst hc;have F:=dS w 2 v j a n cap;obtain ⟨b,off,rfl,hbl,r0,r1,r2⟩:=(hs.next F.low).elem hj;generalize row[j]=u at *;unfold ow at F r0 r1 r2;go_enter func188,ntmps188;go_wp2_with fail
 generalize w.alloc _=w3 at *;obtain ⟨S,R,hA,lt0⟩:=F;refine bC (mz _ _ _ _) fun w4 hb=>?_;have hA:=chain hA hb;have ⟨b0,b1,b2,b3,b4,b5,b6⟩:=R.next hb;clear S r0 r1 r2;go_wp2
 exact MA (v:=.agg #[u.1,.int .i64 (dY u.1 u.2.1),.string (gz u.1 u.2.2)]) (by simp [results,results188,go_sem,b1,b2,b3]) rfl ⟨rfl,au hA ag⟩
theorem Dw (K:Int) (tst:Int→Bool) (hK:(K=6∧∀ o,tst o=(o == 0))∨(K=7∧∀ o,tst o=(o != 0))∨(K=8∧∀ o,tst o=decide (o<0))∨(K=9∧∀ o,tst o=decide (o≤0))∨(K=10∧∀ o,tst o=decide (0<o))∨(K=11∧∀ o,tst o=decide (0≤o))) (v:Vl) (c:Int) (b off cap:Nat) (ra:Option Addr) (rn rcap:Nat) (w:World) (u0:Vl) (k0:eL b (off) ra rn rcap u0 w) (g0:aJ u0=0) (u1:Vl) (k1:eL b (off+6) ra rn rcap u1 w) (_g1:aJ u1=0) (m0 m1:Bool) (e0:(u0.1 != 1)=m0) (e1:(u1.1 != 1)=m1) (hk:(m0 && m1)=true→gL K u0 u1=oC (some (tst (cR u0.1 u0.2.1 u0.2.2 u1.1 u1.2.1 u1.2.2)))) (hn:(m0 && m1)=false→gL K u0 u1=oC none) :
  Calls prog 188 #[fN K v c (some (ah b off)) 2 cap,.slice ra rn rcap] w fun e w'=>e = .returned (dV (gL K u0 u1))∧Below w w w':=by
 have HK:=aB hk;have HN:=aB hn;clear hk hn;have F:=dS w K v c (some (ah b off)) 2 cap;replace k0:=k0.next F.low;replace k1:=k1.next F.low;unfold ow at F k0 k1;obtain ⟨x0,ai0,ci0,S0,l0,con0⟩:=k0;obtain ⟨a0,a1,a2,a3,a4,a5⟩:=S0;replace con0:=con0 _ (Mz _ _)
 rcases hK with ⟨rfl,ht⟩ | ⟨rfl,ht⟩ | ⟨rfl,ht⟩ | ⟨rfl,ht⟩ | ⟨rfl,ht⟩ | ⟨rfl,ht⟩
 all_goals
  go_enter func188,ntmps188;go_wp2_with fail
  refine con0.mono ?_;clear con0;rintro e w4 ⟨rfl,hb⟩;clear a0 a1 a2 a3 a4 a5;generalize w.alloc _=w3 at *;replace F:=F.go hb;replace k1:=k1.next hb;clear hb
  have hal:=aN w4 (.cells #[u0.1,u0.2.1,u0.2.2] 24);have BA:=cS.new w4 u0.1 u0.2.1 u0.2.2 24;replace F:=F.go hal;replace k1:=k1.next hal;obtain ⟨x1,ai1,ci1,S1,l1,con1⟩:=k1;obtain ⟨a0,a1,a2,a3,a4,a5⟩:=S1;replace con1:=con1 _ (Mz _ _);have ⟨s0,s1,s2,s3,s4,s5⟩:=F.tX;simp only [MG] at s1 s2 s3 s4 s5;have ⟨q0,q1,q2,q3,q4,q5,q6⟩:=BA;go_wp2_with fail
  clear s0 s1 s2 s3 s4 s5;clear a0 a1 a2 a3 a4 a5;clear q0 q1 q2 q3 q4 q5 q6;refine bC (con1) fun w6 hb=>?_;replace F:=F.go hb;replace BA:=BA.next hb;clear con1;have hal2:=aN w6 (.cells #[u1.1,u1.2.1,u1.2.2] 24);have BB:=cS.new w6 u1.1 u1.2.1 u1.2.2 24;replace F:=F.go hal2;replace BA:=BA.next hal2;obtain ⟨w1',w4'⟩:=e7 g0;have n0:=e0;have n1:=e1;cases m0 <;> cases m1
  all_goals
   have ⟨s0,s1,s2,s3,s4,s5⟩:=F.tX;simp only [MG] at s1 s2 s3 s4 s5;have ⟨q0,q1,q2,q3,q4,q5,q6⟩:=BA;have ⟨r0,r1,r2,r3,r4,r5,r6⟩:=BB;go_wp2_with fail
   refine bC (dz _ _ _ _ _ _ _ w1' w4') fun w8 hb8=>?_;have F8:=F.go hb8;have BA8:=BA.next hb8;have BB8:=BB.next hb8;have lz8:w.heap.size<w8.heap.size:=by have:=F8.lt; omega
   generalize cR u0.1 u0.2.1 u0.2.2 u1.1 u1.2.1 u1.2.2=oo at *;clear s0 s1 s2 s3 s4 s5 q0 q1 q2 q3 q4 q5 q6 r0 r1 r2 r3 r4 r5 r6;have ⟨s0,s1,s2,s3,s4,s5⟩:=F8.tX;simp only [MG] at s1 s2 s3 s4 s5;have ⟨q0,q1,q2,q3,q4,q5,q6⟩:=BA8;have ⟨r0,r1,r2,r3,r4,r5,r6⟩:=BB8;go_wp2_with fail
  rotate_left;rotate_left;rotate_left
  ·refine bC (kS _ _) fun w9 hb9=>?_;have hA9:=(F8.low.alloc F8.low.size _).trans (hb9.mono (MO F8.low.size (by simp)));have R9:=(F8.box.alloc _).next hb9;have ⟨b0,b1,b2,b3,b4,b5,b6⟩:=R9;clear s0 s1 s2 s3 s4 s5 q0 q1 q2 q3 q4 q5 q6 r0 r1 r2 r3 r4 r5 r6;go_wp2_with fail
   exact MA (v:=.agg #[(2:Int),.int .i64 (tn (some (tst oo))),()]) (by simp [results,results188,go_sem,b1,b2,b3,ht]) rfl ⟨by rw [HK.out rfl]; rfl,au hA9 ag⟩
  all_goals
   refine bC (bP _) fun w9 hb9=>?_;have hA9:=chain F8.low hb9;have ⟨b0,b1,b2,b3,b4,b5,b6⟩:=F8.box.next hb9;clear s0 s1 s2 s3 s4 s5 q0 q1 q2 q3 q4 q5 q6 r0 r1 r2 r3 r4 r5 r6;go_wp2_with fail
   exact MA (v:=.agg #[(1:Int),aD,()]) (by simp [results,results188,go_sem,b1,b2,b3]) rfl ⟨by rw [HN.out rfl]; rfl,au hA9 ag⟩
end Go.Proofs.YtoefpglknaiaeaaGreat
namespace Go.Proofs.YtoefpglknaiaeaaGreat
open Go.RowKit
theorem kL {k:Int} (h:6≤k) (h':k≤11) {a b:Vl} (hn:((a.1 != 1) && (b.1 != 1))=false):gL k a b=oC none:=by
 have t1:gR a.1 b.1=false:=by
  unfold gR
  by_cases q:a.1=1
  ·simp [q]
  ·have q':b.1=1:=by
    have:(a.1 != 1)=true:=by simpa using q
    rw [this,Bool.true_and] at hn
    simpa using hn
   have:¬ a.1=b.1:=by omega
   simp [this]
 have t2:gR b.1 a.1=false:=by
  unfold gR
  by_cases q:b.1=1
  ·simp [q]
  ·have q':a.1=1:=by
    have:(b.1 != 1)=true:=by simpa using q
    rw [this,Bool.and_true] at hn
    simpa using hn
   have:¬ b.1=a.1:=by omega
   simp [this]
 have e1:Gl a b=oC none:=by simp [Gl,K3,t1]
 have e2:wV a b=oC none:=by simp [wV,Fw,t1]
 have e3:wV b a=oC none:=by simp [wV,Fw,t2]
 obtain rfl | rfl | rfl | rfl | rfl | rfl:k=6∨k=7∨k=8∨k=9∨k=10∨k=11:=by omega
 ·exact e1
 ·show kI (Gl a b)=_; rw [e1]; rfl
 ·exact e2
 ·show kI (wV b a)=_; rw [e3]; rfl
 ·exact e3
 ·show kI (wV a b)=_; rw [e2]; rfl
section
variable {a b:Vl} (hk:((a.1 != 1) && (b.1 != 1))=true) (he:a.1=b.1)
include hk he
theorem tR:gR a.1 b.1=true∧gR b.1 a.1=true:=by
 have h:¬ a.1=1:=by
  rw [NO] at hk
  simpa using hk.1
 have h':¬ b.1=1:=by omega
 unfold gR;constructor
 ·rw [he]; simp [h']
 ·rw [he]; simp [h']
theorem JT:gL 6 a b=oC (some (cR a.1 a.2.1 a.2.2 b.1 b.2.1 b.2.2 == 0)):=by
 show Gl a b=_;simp [Gl,K3,(tR hk he).1]
theorem Li:gL 7 a b=oC (some (cR a.1 a.2.1 a.2.2 b.1 b.2.1 b.2.2 != 0)):=by
 have:gL 7 a b=kI (gL 6 a b):=rfl;rw [this,JT hk he];cases h:(cR a.1 a.2.1 a.2.2 b.1 b.2.1 b.2.2 == 0) <;> simp [bne,h] <;> rfl
theorem J0:gL 8 a b=oC (some (decide (cR a.1 a.2.1 a.2.2 b.1 b.2.1 b.2.2<0))):=by
 show wV a b=_;simp [wV,Fw,(tR hk he).1]
theorem Hh:gL 10 a b=oC (some (decide (0<cR a.1 a.2.1 a.2.2 b.1 b.2.1 b.2.2))):=by
 show wV b a=_;have e:=xM b.1 b.2.1 a.1 a.2.1 b.2.2 a.2.2;have:decide (cR b.1 b.2.1 b.2.2 a.1 a.2.1 a.2.2<0)=decide (0<cR a.1 a.2.1 a.2.2 b.1 b.2.1 b.2.2):=by
  rw [e];exact decide_eq_decide.mpr ag
 simp only [wV,Fw,(tR hk he).2,if_true,this]
theorem LB:gL 9 a b=oC (some (decide (cR a.1 a.2.1 a.2.2 b.1 b.2.1 b.2.2≤0))):=by
 have:gL 9 a b=kI (gL 10 a b):=rfl;rw [this,Hh hk he];generalize cR a.1 a.2.1 a.2.2 b.1 b.2.1 b.2.2=m;by_cases h:0<m
 ·rw [decide_eq_true h,decide_eq_false (show ¬ m≤0 by omega)]; rfl
 ·rw [decide_eq_false h,decide_eq_true (show m≤0 by omega)]; rfl
theorem Ky:gL 11 a b=oC (some (decide (0≤cR a.1 a.2.1 a.2.2 b.1 b.2.1 b.2.2))):=by
 have:gL 11 a b=kI (gL 8 a b):=rfl
 rw [this,J0 hk he]
 generalize cR a.1 a.2.1 a.2.2 b.1 b.2.1 b.2.2=m
 by_cases h:m<0
 ·rw [decide_eq_true h,decide_eq_false (show ¬ 0≤m by omega)]; rfl
 ·rw [decide_eq_false h,decide_eq_true (show 0≤m by omega)]; rfl
end
theorem Ay {cols:List Int} {row:List Vl} (hf:dX cols row):∀ x t,py cols x=some t→LZ row x:=by
 refine Ex.ind fun k v c ks ih t ht=>?_
 obtain ⟨h1,h18,hl,ts,hts,hn⟩:=kz ht;intro B a cap ra rcap w hk hB hs;simp only [Ex.k,Ex.v,Ex.c,Ex.ks] at hk ⊢;rw [bQ];unfold nA;by_cases k1:k=1
 ·subst k1;rw [if_pos rfl];exact LK v c a ks.length cap ra row.length rcap w
 rw [if_neg k1];by_cases k2:k=2
 ·subst k2;rw [if_pos rfl];unfold cV at hn;rw [if_neg (by decide),if_pos rfl] at hn;obtain ⟨q0,q1,_⟩:=ry hn;have hlen:=hf.len;have e:row.getD c.toNat gX=row[c.toNat]'ag:=by simp [List.getD,show c.toNat<row.length by omega]
  rw [e];exact LX v c a ks.length cap ra rcap w row c.toNat ag ag hs
 rw [if_neg k2];have hpos:0<ks.length:=by
  rw [hl]; unfold dy; rw [if_neg ag]
  repeat' split
  all_goals omega
 obtain ⟨b,off,_,_,rfl,_,_,_⟩:=hk.elem hpos;have kid:∀ (i:Nat) (hi:i<ks.length) (o:Nat),o=off+i*6→eL b o ra row.length rcap (bQ row ks[i]) w:=by
  rintro i hi o rfl;obtain ⟨b',off',ai,ci,e,hlt,S,K⟩:=hk.elem hi;simp only [NQ,Addr.mk.injEq,and_true] at e;obtain ⟨rfl,rfl⟩:=e;exact ⟨ks[i],ai,ci,S,by omega,fun W hW=>ih _ (MC _) _ (iM hts i hi) B ai ci ra rcap W (aU.next hW hB K) (MO hB hW.size) (hs.next hW)⟩
 have rgt:∀ (i:Nat) (hi:i<ks.length),Of (ts.getD i 0) (bQ row ks[i]):=fun i hi=>lH hf _ _ (iM hts i hi)
 by_cases k3:k=3
 ·subst k3;rw [if_pos rfl];have l1:=hl;have K0:=kid 0 ag off ag;have R0:=rgt 0 ag;rw [fA row ks 0 ag];clear kid rgt;generalize bQ row ks[0]=u0 at *;rw [l1];exact LQ v c b off cap ra row.length rcap w u0 K0 R0.1
 rw [if_neg k3];by_cases k16:k=16
 ·subst k16;rw [if_pos rfl];have l1:=hl;have K0:=kid 0 ag off ag;have R0:=rgt 0 ag;rw [fA row ks 0 ag];clear kid rgt;generalize bQ row ks[0]=u0 at *;rw [l1];exact Ld v c b off cap ra row.length rcap w u0 K0 R0.1
 rw [if_neg k16];by_cases k17:k=17
 ·subst k17;rw [if_pos rfl];have l3:ks.length=3:=hl;have K0:=kid 0 ag off ag;have K1:=kid 1 ag (off+6) ag;have K2:=kid 2 ag (off+12) ag;have R0:=rgt 0 ag;have R1:=rgt 1 ag;have R2:=rgt 2 ag;rw [fA row ks 0 ag,fA row ks 1 ag,fA row ks 2 ag];clear kid rgt;generalize bQ row ks[0]=u0 at *;generalize bQ row ks[1]=u1 at *;generalize bQ row ks[2]=u2 at *;rw [l3];by_cases q:(sw u0 == some true)=true
  ·rw [if_pos q];exact KY v c b off cap ra row.length rcap w u0 K0 R0.1 u1 K1 R1.1 q
  ·rw [if_neg q];exact KC v c b off cap ra row.length rcap w u0 K0 R0.1 u2 K2 R2.1 (Bool.eq_false_iff.mpr q)
 rw [if_neg k17];have l2:ks.length=2:=by rw [hl]; unfold dy; rw [if_neg ag,if_neg ag,if_neg k17]
 have K0:=kid 0 ag off ag;have K1:=kid 1 ag (off+6) ag;have R0:=rgt 0 ag;have R1:=rgt 1 ag;rw [fA row ks 0 ag,fA row ks 1 ag];have eqk:6≤k→k≤11→((bQ row ks[0]).1 != 1 && (bQ row ks[1]).1 != 1)=true→(bQ row ks[0]).1=(bQ row ks[1]).1:=by
  intro h6 h11 hh;rw [NO] at hh;have n0:¬ (bQ row ks[0]).1=1:=by simpa using hh.1
  have n1:¬ (bQ row ks[1]).1=1:=by simpa using hh.2
  unfold cV at hn;rw [if_neg k1,if_neg k2] at hn;have hn:=wW hn;unfold du at hn;rw [if_neg ag,if_pos ⟨h6,h11⟩] at hn;rcases ht':ir (ts.getD 0 0) (ts.getD 1 0) with _ | u
  ·rw [ht'] at hn; simp at hn
  ·have a1:=(wK ht' R0).2;have a2:=(xj ht' R1).2;omega
 clear kid rgt;generalize bQ row ks[0]=u0 at *;generalize bQ row ks[1]=u1 at *;rw [l2];by_cases k18:k=18
 ·subst k18;have e:gL 18 u0 u1=lR u0 u1:=rfl;rw [e];unfold lR;by_cases q:u0.1=1
  ·rw [if_pos q];exact Kn v c b off cap ra row.length rcap w u0 K0 R0.1 u1 K1 R1.1 (by simpa using q)
  ·rw [if_neg q];exact Ka v c b off cap ra row.length rcap w u0 K0 R0.1 (by simpa using q)
 obtain rfl | rfl | rfl | rfl | rfl | rfl | rfl | rfl | rfl | rfl | rfl | rfl:k=4∨k=5∨k=12∨k=13∨k=14∨k=15∨k=6∨k=7∨k=8∨k=9∨k=10∨k=11:=by omega
 ·exact L7 _ _ v c b off cap ra row.length rcap w u0 K0 R0.1 u1 K1 R1.1 _ _ rfl rfl (.inl ⟨rfl,rfl⟩)
 ·exact L7 _ _ v c b off cap ra row.length rcap w u0 K0 R0.1 u1 K1 R1.1 _ _ rfl rfl (.inr (.inl ⟨rfl,rfl⟩))
 ·exact L7 _ _ v c b off cap ra row.length rcap w u0 K0 R0.1 u1 K1 R1.1 _ _ rfl rfl (.inr (.inr (.inl ⟨rfl,rfl⟩)))
 ·exact L7 _ _ v c b off cap ra row.length rcap w u0 K0 R0.1 u1 K1 R1.1 _ _ rfl rfl (.inr (.inr (.inr (.inl ⟨rfl,rfl⟩))))
 ·exact L7 _ _ v c b off cap ra row.length rcap w u0 K0 R0.1 u1 K1 R1.1 _ _ rfl rfl (.inr (.inr (.inr (.inr (.inl ⟨rfl,rfl⟩)))))
 ·exact L7 _ _ v c b off cap ra row.length rcap w u0 K0 R0.1 u1 K1 R1.1 _ _ rfl rfl (.inr (.inr (.inr (.inr (.inr (⟨rfl,rfl⟩))))))
 ·exact Dw 6 (fun o=>o == 0) (.inl ⟨rfl,fun _=>rfl⟩) v c b off cap ra row.length rcap w u0 K0 R0.1 u1 K1 R1.1 _ _ rfl rfl (fun h=>JT h (eqk (by decide) (by decide) h)) (fun h=>kL (by decide) (by decide) h)
 ·exact Dw 7 (fun o=>o != 0) (.inr (.inl ⟨rfl,fun _=>rfl⟩)) v c b off cap ra row.length rcap w u0 K0 R0.1 u1 K1 R1.1 _ _ rfl rfl (fun h=>Li h (eqk (by decide) (by decide) h)) (fun h=>kL (by decide) (by decide) h)
 ·exact Dw 8 (fun o=>decide (o<0)) (.inr (.inr (.inl ⟨rfl,fun _=>rfl⟩))) v c b off cap ra row.length rcap w u0 K0 R0.1 u1 K1 R1.1 _ _ rfl rfl (fun h=>J0 h (eqk (by decide) (by decide) h)) (fun h=>kL (by decide) (by decide) h)
 ·exact Dw 9 (fun o=>decide (o≤0)) (.inr (.inr (.inr (.inl ⟨rfl,fun _=>rfl⟩)))) v c b off cap ra row.length rcap w u0 K0 R0.1 u1 K1 R1.1 _ _ rfl rfl (fun h=>LB h (eqk (by decide) (by decide) h)) (fun h=>kL (by decide) (by decide) h)
 ·exact Dw 10 (fun o=>decide (0<o)) (.inr (.inr (.inr (.inr (.inl ⟨rfl,fun _=>rfl⟩))))) v c b off cap ra row.length rcap w u0 K0 R0.1 u1 K1 R1.1 _ _ rfl rfl (fun h=>Hh h (eqk (by decide) (by decide) h)) (fun h=>kL (by decide) (by decide) h)
 ·exact Dw 11 (fun o=>decide (0≤o)) (.inr (.inr (.inr (.inr (.inr ⟨rfl,fun _=>rfl⟩))))) v c b off cap ra row.length rcap w u0 K0 R0.1 u1 K1 R1.1 _ _ rfl rfl (fun h=>Ky h (eqk (by decide) (by decide) h)) (fun h=>kL (by decide) (by decide) h)
end Go.Proofs.YtoefpglknaiaeaaGreat
