import Derived.Test.YtoefpglknaiaeaaGreatMW3
set_option maxHeartbeats 16000000
set_option maxRecDepth 100000
namespace Go.Proofs.YtoefpglknaiaeaaGreat
open Go.RowKit _root_.Go.Proofs.Tryz
structure S3 (w W:World) (k n:Int) (s:ByteArray) (k' n':Int) (s':ByteArray):Prop where
 a:cS W w k n s
 b:cS W (w+1) k' n' s'
 r:cS W (w+1+1) aD aD ()
 z:Below w w W
theorem S3.new (w:World) (k n:Int) (s:ByteArray) (k' n':Int) (s':ByteArray):S3 w (((w.alloc (.cells #[k,n,s] 24)).alloc (.cells #[k',.int .i64 n',.string s'] 24)).alloc (.cells #[aD,aD,()] 24)) k n s k' n' s':=by
 have A0:=((cS.new w k n s 24).alloc (.cells #[k',.int .i64 n',.string s'] 24)).alloc (.cells #[aD,aD,()] 24);have B0:=(cS.new (w.alloc (.cells #[k,n,s] 24)) k' n' s' 24).alloc (.cells #[aD,aD,()] 24);have R0:=cS.new ((w.alloc (.cells #[k,n,s] 24)).alloc (.cells #[k',.int .i64 n',.string s'] 24)) aD aD () 24;simp only [MZ] at B0 R0;exact ⟨A0,B0,R0,((aN ..).alloc (by simp) _).alloc (by simp; omega) _⟩
theorem S3.next {w W W1:World} {k n:Int} {s:ByteArray} {k' n':Int} {s':ByteArray} (S:S3 w W k n s k' n' s') (h:Below W W W1):S3 w W1 k n s k' n' s':=⟨S.a.next h,S.b.next h,S.r.next h,chain S.z h⟩
theorem refAnd_f (k n k' n':Int) (s s':ByteArray) (w:World) (q:Ix k n) (f1:(cls k n == some false)=true) :
  Calls prog 220 #[.agg #[k,n,s],.agg #[k',.int .i64 n',.string s']] w fun e w'=>e = .returned (.agg #[(2:Int),aD,()])∧Below w w w':=by
 have S:=S3.new w k n s k' n' s'
 go_enter func220,ntmps220;go_wp2_with fail
 refine bC (gE _ _ _ _ _ q) fun w1 hb1=>?_;rw [f1];replace S:=S.next hb1;have ⟨⟨a0,a1,a2,a3,a4,a5,a6⟩,⟨b0,b1,b2,b3,b4,b5,b6⟩,⟨r0,r1,r2,r3,r4,r5,r6⟩,_⟩:=S;go_wp2_with fail
 refine bC (jJ _) fun w2 hb2=>?_;clear a0 a1 a2 a3 a4 a5 a6 b0 b1 b2 b3 b4 b5 b6 r0 r1 r2 r3 r4 r5 r6;replace S:=S.next hb2;have ⟨⟨a0,a1,a2,a3,a4,a5,a6⟩,⟨b0,b1,b2,b3,b4,b5,b6⟩,⟨r0,r1,r2,r3,r4,r5,r6⟩,_⟩:=S;go_wp2_with fail
 exact MA (v:=.agg #[(2:Int),aD,()]) (by simp [results,results220,go_sem,r1,r2,r3]) rfl ⟨rfl,au S.z ag⟩
theorem refAnd_xf (k n k' n':Int) (s s':ByteArray) (w:World) (q:Ix k n) (q':Ix k' n') (f1:(cls k n == some false)=false) (f2:(cls k' n' == some false)=true) :
  Calls prog 220 #[.agg #[k,n,s],.agg #[k',.int .i64 n',.string s']] w fun e w'=>e = .returned (.agg #[(2:Int),aD,()])∧Below w w w':=by
 have S:=S3.new w k n s k' n' s'
 go_enter func220,ntmps220;go_wp2_with fail
 refine bC (gE _ _ _ _ _ q) fun w1 hb1=>?_;rw [f1];replace S:=S.next hb1;have ⟨⟨a0,a1,a2,a3,a4,a5,a6⟩,⟨b0,b1,b2,b3,b4,b5,b6⟩,⟨r0,r1,r2,r3,r4,r5,r6⟩,_⟩:=S;go_wp2_with fail
 refine bC (gE _ _ _ _ _ q') fun w2 hb2=>?_;rw [f2];clear a0 a1 a2 a3 a4 a5 a6 b0 b1 b2 b3 b4 b5 b6 r0 r1 r2 r3 r4 r5 r6;replace S:=S.next hb2;have ⟨⟨a0,a1,a2,a3,a4,a5,a6⟩,⟨b0,b1,b2,b3,b4,b5,b6⟩,⟨r0,r1,r2,r3,r4,r5,r6⟩,_⟩:=S;go_wp2_with fail
 refine bC (jJ _) fun w3 hb3=>?_;clear a0 a1 a2 a3 a4 a5 a6 b0 b1 b2 b3 b4 b5 b6 r0 r1 r2 r3 r4 r5 r6;replace S:=S.next hb3;have ⟨⟨a0,a1,a2,a3,a4,a5,a6⟩,⟨b0,b1,b2,b3,b4,b5,b6⟩,⟨r0,r1,r2,r3,r4,r5,r6⟩,_⟩:=S;go_wp2_with fail
 exact MA (v:=.agg #[(2:Int),aD,()]) (by simp [results,results220,go_sem,r1,r2,r3]) rfl ⟨rfl,au S.z ag⟩
theorem refAnd_tt (k n k' n':Int) (s s':ByteArray) (w:World) (q:Ix k n) (q':Ix k' n') (f1:(cls k n == some false)=false) (f2:(cls k' n' == some false)=false) (t1:(cls k n == some true)=true) (t2:(cls k' n' == some true)=true) :
  Calls prog 220 #[.agg #[k,n,s],.agg #[k',.int .i64 n',.string s']] w fun e w'=>e = .returned (.agg #[(2:Int),(1:Int),()])∧Below w w w':=by
 have S:=S3.new w k n s k' n' s'
 go_enter func220,ntmps220;go_wp2_with fail
 refine bC (gE _ _ _ _ _ q) fun w1 hb1=>?_;rw [f1];replace S:=S.next hb1;have ⟨⟨a0,a1,a2,a3,a4,a5,a6⟩,⟨b0,b1,b2,b3,b4,b5,b6⟩,⟨r0,r1,r2,r3,r4,r5,r6⟩,_⟩:=S;go_wp2_with fail
 refine bC (gE _ _ _ _ _ q') fun w2 hb2=>?_;rw [f2];clear a0 a1 a2 a3 a4 a5 a6 b0 b1 b2 b3 b4 b5 b6 r0 r1 r2 r3 r4 r5 r6;replace S:=S.next hb2;have ⟨⟨a0,a1,a2,a3,a4,a5,a6⟩,⟨b0,b1,b2,b3,b4,b5,b6⟩,⟨r0,r1,r2,r3,r4,r5,r6⟩,_⟩:=S;go_wp2_with fail
 refine bC (gE _ _ _ _ _ q) fun w3 hb3=>?_;rw [t1];clear a0 a1 a2 a3 a4 a5 a6 b0 b1 b2 b3 b4 b5 b6 r0 r1 r2 r3 r4 r5 r6;replace S:=S.next hb3;have ⟨⟨a0,a1,a2,a3,a4,a5,a6⟩,⟨b0,b1,b2,b3,b4,b5,b6⟩,⟨r0,r1,r2,r3,r4,r5,r6⟩,_⟩:=S;go_wp2_with fail
 refine bC (gE _ _ _ _ _ q') fun w4 hb4=>?_;rw [t2];clear a0 a1 a2 a3 a4 a5 a6 b0 b1 b2 b3 b4 b5 b6 r0 r1 r2 r3 r4 r5 r6;replace S:=S.next hb4;have ⟨⟨a0,a1,a2,a3,a4,a5,a6⟩,⟨b0,b1,b2,b3,b4,b5,b6⟩,⟨r0,r1,r2,r3,r4,r5,r6⟩,_⟩:=S;go_wp2_with fail
 refine bC (kj _) fun w5 hb5=>?_;clear a0 a1 a2 a3 a4 a5 a6 b0 b1 b2 b3 b4 b5 b6 r0 r1 r2 r3 r4 r5 r6;replace S:=S.next hb5;have ⟨⟨a0,a1,a2,a3,a4,a5,a6⟩,⟨b0,b1,b2,b3,b4,b5,b6⟩,⟨r0,r1,r2,r3,r4,r5,r6⟩,_⟩:=S;go_wp2_with fail
 exact MA (v:=.agg #[(2:Int),(1:Int),()]) (by simp [results,results220,go_sem,r1,r2,r3]) rfl ⟨rfl,au S.z ag⟩
theorem refAnd_tx (k n k' n':Int) (s s':ByteArray) (w:World) (q:Ix k n) (q':Ix k' n') (f1:(cls k n == some false)=false) (f2:(cls k' n' == some false)=false) (t1:(cls k n == some true)=true) (t2:(cls k' n' == some true)=false) :
  Calls prog 220 #[.agg #[k,n,s],.agg #[k',.int .i64 n',.string s']] w fun e w'=>e = .returned (.agg #[(1:Int),aD,()])∧Below w w w':=by
 have S:=S3.new w k n s k' n' s'
 go_enter func220,ntmps220;go_wp2_with fail
 refine bC (gE _ _ _ _ _ q) fun w1 hb1=>?_;rw [f1];replace S:=S.next hb1;have ⟨⟨a0,a1,a2,a3,a4,a5,a6⟩,⟨b0,b1,b2,b3,b4,b5,b6⟩,⟨r0,r1,r2,r3,r4,r5,r6⟩,_⟩:=S;go_wp2_with fail
 refine bC (gE _ _ _ _ _ q') fun w2 hb2=>?_;rw [f2];clear a0 a1 a2 a3 a4 a5 a6 b0 b1 b2 b3 b4 b5 b6 r0 r1 r2 r3 r4 r5 r6;replace S:=S.next hb2;have ⟨⟨a0,a1,a2,a3,a4,a5,a6⟩,⟨b0,b1,b2,b3,b4,b5,b6⟩,⟨r0,r1,r2,r3,r4,r5,r6⟩,_⟩:=S;go_wp2_with fail
 refine bC (gE _ _ _ _ _ q) fun w3 hb3=>?_;rw [t1];clear a0 a1 a2 a3 a4 a5 a6 b0 b1 b2 b3 b4 b5 b6 r0 r1 r2 r3 r4 r5 r6;replace S:=S.next hb3;have ⟨⟨a0,a1,a2,a3,a4,a5,a6⟩,⟨b0,b1,b2,b3,b4,b5,b6⟩,⟨r0,r1,r2,r3,r4,r5,r6⟩,_⟩:=S;go_wp2_with fail
 refine bC (gE _ _ _ _ _ q') fun w4 hb4=>?_;rw [t2];clear a0 a1 a2 a3 a4 a5 a6 b0 b1 b2 b3 b4 b5 b6 r0 r1 r2 r3 r4 r5 r6;replace S:=S.next hb4;have ⟨⟨a0,a1,a2,a3,a4,a5,a6⟩,⟨b0,b1,b2,b3,b4,b5,b6⟩,⟨r0,r1,r2,r3,r4,r5,r6⟩,_⟩:=S;go_wp2_with fail
 refine bC (bP _) fun w5 hb5=>?_;clear a0 a1 a2 a3 a4 a5 a6 b0 b1 b2 b3 b4 b5 b6 r0 r1 r2 r3 r4 r5 r6;replace S:=S.next hb5;have ⟨⟨a0,a1,a2,a3,a4,a5,a6⟩,⟨b0,b1,b2,b3,b4,b5,b6⟩,⟨r0,r1,r2,r3,r4,r5,r6⟩,_⟩:=S;go_wp2_with fail
 exact MA (v:=.agg #[(1:Int),aD,()]) (by simp [results,results220,go_sem,r1,r2,r3]) rfl ⟨rfl,au S.z ag⟩
theorem refAnd_xx (k n k' n':Int) (s s':ByteArray) (w:World) (q:Ix k n) (q':Ix k' n') (f1:(cls k n == some false)=false) (f2:(cls k' n' == some false)=false) (t1:(cls k n == some true)=false) :
  Calls prog 220 #[.agg #[k,n,s],.agg #[k',.int .i64 n',.string s']] w fun e w'=>e = .returned (.agg #[(1:Int),aD,()])∧Below w w w':=by
 have S:=S3.new w k n s k' n' s'
 go_enter func220,ntmps220;go_wp2_with fail
 refine bC (gE _ _ _ _ _ q) fun w1 hb1=>?_;rw [f1];replace S:=S.next hb1;have ⟨⟨a0,a1,a2,a3,a4,a5,a6⟩,⟨b0,b1,b2,b3,b4,b5,b6⟩,⟨r0,r1,r2,r3,r4,r5,r6⟩,_⟩:=S;go_wp2_with fail
 refine bC (gE _ _ _ _ _ q') fun w2 hb2=>?_;rw [f2];clear a0 a1 a2 a3 a4 a5 a6 b0 b1 b2 b3 b4 b5 b6 r0 r1 r2 r3 r4 r5 r6;replace S:=S.next hb2;have ⟨⟨a0,a1,a2,a3,a4,a5,a6⟩,⟨b0,b1,b2,b3,b4,b5,b6⟩,⟨r0,r1,r2,r3,r4,r5,r6⟩,_⟩:=S;go_wp2_with fail
 refine bC (gE _ _ _ _ _ q) fun w3 hb3=>?_;rw [t1];clear a0 a1 a2 a3 a4 a5 a6 b0 b1 b2 b3 b4 b5 b6 r0 r1 r2 r3 r4 r5 r6;replace S:=S.next hb3;have ⟨⟨a0,a1,a2,a3,a4,a5,a6⟩,⟨b0,b1,b2,b3,b4,b5,b6⟩,⟨r0,r1,r2,r3,r4,r5,r6⟩,_⟩:=S;go_wp2_with fail
 refine bC (bP _) fun w4 hb4=>?_;clear a0 a1 a2 a3 a4 a5 a6 b0 b1 b2 b3 b4 b5 b6 r0 r1 r2 r3 r4 r5 r6;replace S:=S.next hb4;have ⟨⟨a0,a1,a2,a3,a4,a5,a6⟩,⟨b0,b1,b2,b3,b4,b5,b6⟩,⟨r0,r1,r2,r3,r4,r5,r6⟩,_⟩:=S;go_wp2_with fail
 exact MA (v:=.agg #[(1:Int),aD,()]) (by simp [results,results220,go_sem,r1,r2,r3]) rfl ⟨rfl,au S.z ag⟩
theorem refOr_t (k n k' n':Int) (s s':ByteArray) (w:World) (q:Ix k n) (t1:(cls k n == some true)=true) :
  Calls prog 221 #[.agg #[k,n,s],.agg #[k',.int .i64 n',.string s']] w fun e w'=>e = .returned (.agg #[(2:Int),(1:Int),()])∧Below w w w':=by
 have S:=S3.new w k n s k' n' s'
 go_enter func221,ntmps221;go_wp2_with fail
 refine bC (gE _ _ _ _ _ q) fun w1 hb1=>?_;rw [t1];replace S:=S.next hb1;have ⟨⟨a0,a1,a2,a3,a4,a5,a6⟩,⟨b0,b1,b2,b3,b4,b5,b6⟩,⟨r0,r1,r2,r3,r4,r5,r6⟩,_⟩:=S;go_wp2_with fail
 refine bC (kj _) fun w2 hb2=>?_;clear a0 a1 a2 a3 a4 a5 a6 b0 b1 b2 b3 b4 b5 b6 r0 r1 r2 r3 r4 r5 r6;replace S:=S.next hb2;have ⟨⟨a0,a1,a2,a3,a4,a5,a6⟩,⟨b0,b1,b2,b3,b4,b5,b6⟩,⟨r0,r1,r2,r3,r4,r5,r6⟩,_⟩:=S;go_wp2_with fail
 exact MA (v:=.agg #[(2:Int),(1:Int),()]) (by simp [results,results221,go_sem,r1,r2,r3]) rfl ⟨rfl,au S.z ag⟩
theorem refOr_xt (k n k' n':Int) (s s':ByteArray) (w:World) (q:Ix k n) (q':Ix k' n') (t1:(cls k n == some true)=false) (t2:(cls k' n' == some true)=true) :
  Calls prog 221 #[.agg #[k,n,s],.agg #[k',.int .i64 n',.string s']] w fun e w'=>e = .returned (.agg #[(2:Int),(1:Int),()])∧Below w w w':=by
 have S:=S3.new w k n s k' n' s'
 go_enter func221,ntmps221;go_wp2_with fail
 refine bC (gE _ _ _ _ _ q) fun w1 hb1=>?_;rw [t1];replace S:=S.next hb1;have ⟨⟨a0,a1,a2,a3,a4,a5,a6⟩,⟨b0,b1,b2,b3,b4,b5,b6⟩,⟨r0,r1,r2,r3,r4,r5,r6⟩,_⟩:=S;go_wp2_with fail
 refine bC (gE _ _ _ _ _ q') fun w2 hb2=>?_;rw [t2];clear a0 a1 a2 a3 a4 a5 a6 b0 b1 b2 b3 b4 b5 b6 r0 r1 r2 r3 r4 r5 r6;replace S:=S.next hb2;have ⟨⟨a0,a1,a2,a3,a4,a5,a6⟩,⟨b0,b1,b2,b3,b4,b5,b6⟩,⟨r0,r1,r2,r3,r4,r5,r6⟩,_⟩:=S;go_wp2_with fail
 refine bC (kj _) fun w3 hb3=>?_;clear a0 a1 a2 a3 a4 a5 a6 b0 b1 b2 b3 b4 b5 b6 r0 r1 r2 r3 r4 r5 r6;replace S:=S.next hb3;have ⟨⟨a0,a1,a2,a3,a4,a5,a6⟩,⟨b0,b1,b2,b3,b4,b5,b6⟩,⟨r0,r1,r2,r3,r4,r5,r6⟩,_⟩:=S;go_wp2_with fail
 exact MA (v:=.agg #[(2:Int),(1:Int),()]) (by simp [results,results221,go_sem,r1,r2,r3]) rfl ⟨rfl,au S.z ag⟩
theorem refOr_ff (k n k' n':Int) (s s':ByteArray) (w:World) (q:Ix k n) (q':Ix k' n') (t1:(cls k n == some true)=false) (t2:(cls k' n' == some true)=false) (f1:(cls k n == some false)=true) (f2:(cls k' n' == some false)=true) :
  Calls prog 221 #[.agg #[k,n,s],.agg #[k',.int .i64 n',.string s']] w fun e w'=>e = .returned (.agg #[(2:Int),aD,()])∧Below w w w':=by
 have S:=S3.new w k n s k' n' s'
 go_enter func221,ntmps221;go_wp2_with fail
 refine bC (gE _ _ _ _ _ q) fun w1 hb1=>?_;rw [t1];replace S:=S.next hb1;have ⟨⟨a0,a1,a2,a3,a4,a5,a6⟩,⟨b0,b1,b2,b3,b4,b5,b6⟩,⟨r0,r1,r2,r3,r4,r5,r6⟩,_⟩:=S;go_wp2_with fail
 refine bC (gE _ _ _ _ _ q') fun w2 hb2=>?_;rw [t2];clear a0 a1 a2 a3 a4 a5 a6 b0 b1 b2 b3 b4 b5 b6 r0 r1 r2 r3 r4 r5 r6;replace S:=S.next hb2;have ⟨⟨a0,a1,a2,a3,a4,a5,a6⟩,⟨b0,b1,b2,b3,b4,b5,b6⟩,⟨r0,r1,r2,r3,r4,r5,r6⟩,_⟩:=S;go_wp2_with fail
 refine bC (gE _ _ _ _ _ q) fun w3 hb3=>?_;rw [f1];clear a0 a1 a2 a3 a4 a5 a6 b0 b1 b2 b3 b4 b5 b6 r0 r1 r2 r3 r4 r5 r6;replace S:=S.next hb3;have ⟨⟨a0,a1,a2,a3,a4,a5,a6⟩,⟨b0,b1,b2,b3,b4,b5,b6⟩,⟨r0,r1,r2,r3,r4,r5,r6⟩,_⟩:=S;go_wp2_with fail
 refine bC (gE _ _ _ _ _ q') fun w4 hb4=>?_;rw [f2];clear a0 a1 a2 a3 a4 a5 a6 b0 b1 b2 b3 b4 b5 b6 r0 r1 r2 r3 r4 r5 r6;replace S:=S.next hb4;have ⟨⟨a0,a1,a2,a3,a4,a5,a6⟩,⟨b0,b1,b2,b3,b4,b5,b6⟩,⟨r0,r1,r2,r3,r4,r5,r6⟩,_⟩:=S;go_wp2_with fail
 refine bC (jJ _) fun w5 hb5=>?_;clear a0 a1 a2 a3 a4 a5 a6 b0 b1 b2 b3 b4 b5 b6 r0 r1 r2 r3 r4 r5 r6;replace S:=S.next hb5;have ⟨⟨a0,a1,a2,a3,a4,a5,a6⟩,⟨b0,b1,b2,b3,b4,b5,b6⟩,⟨r0,r1,r2,r3,r4,r5,r6⟩,_⟩:=S;go_wp2_with fail
 exact MA (v:=.agg #[(2:Int),aD,()]) (by simp [results,results221,go_sem,r1,r2,r3]) rfl ⟨rfl,au S.z ag⟩
theorem refOr_fx (k n k' n':Int) (s s':ByteArray) (w:World) (q:Ix k n) (q':Ix k' n') (t1:(cls k n == some true)=false) (t2:(cls k' n' == some true)=false) (f1:(cls k n == some false)=true) (f2:(cls k' n' == some false)=false) :
  Calls prog 221 #[.agg #[k,n,s],.agg #[k',.int .i64 n',.string s']] w fun e w'=>e = .returned (.agg #[(1:Int),aD,()])∧Below w w w':=by
 have S:=S3.new w k n s k' n' s'
 go_enter func221,ntmps221;go_wp2_with fail
 refine bC (gE _ _ _ _ _ q) fun w1 hb1=>?_;rw [t1];replace S:=S.next hb1;have ⟨⟨a0,a1,a2,a3,a4,a5,a6⟩,⟨b0,b1,b2,b3,b4,b5,b6⟩,⟨r0,r1,r2,r3,r4,r5,r6⟩,_⟩:=S;go_wp2_with fail
 refine bC (gE _ _ _ _ _ q') fun w2 hb2=>?_;rw [t2];clear a0 a1 a2 a3 a4 a5 a6 b0 b1 b2 b3 b4 b5 b6 r0 r1 r2 r3 r4 r5 r6;replace S:=S.next hb2;have ⟨⟨a0,a1,a2,a3,a4,a5,a6⟩,⟨b0,b1,b2,b3,b4,b5,b6⟩,⟨r0,r1,r2,r3,r4,r5,r6⟩,_⟩:=S;go_wp2_with fail
 refine bC (gE _ _ _ _ _ q) fun w3 hb3=>?_;rw [f1];clear a0 a1 a2 a3 a4 a5 a6 b0 b1 b2 b3 b4 b5 b6 r0 r1 r2 r3 r4 r5 r6;replace S:=S.next hb3;have ⟨⟨a0,a1,a2,a3,a4,a5,a6⟩,⟨b0,b1,b2,b3,b4,b5,b6⟩,⟨r0,r1,r2,r3,r4,r5,r6⟩,_⟩:=S;go_wp2_with fail
 refine bC (gE _ _ _ _ _ q') fun w4 hb4=>?_;rw [f2];clear a0 a1 a2 a3 a4 a5 a6 b0 b1 b2 b3 b4 b5 b6 r0 r1 r2 r3 r4 r5 r6;replace S:=S.next hb4;have ⟨⟨a0,a1,a2,a3,a4,a5,a6⟩,⟨b0,b1,b2,b3,b4,b5,b6⟩,⟨r0,r1,r2,r3,r4,r5,r6⟩,_⟩:=S;go_wp2_with fail
 refine bC (bP _) fun w5 hb5=>?_;clear a0 a1 a2 a3 a4 a5 a6 b0 b1 b2 b3 b4 b5 b6 r0 r1 r2 r3 r4 r5 r6;replace S:=S.next hb5;have ⟨⟨a0,a1,a2,a3,a4,a5,a6⟩,⟨b0,b1,b2,b3,b4,b5,b6⟩,⟨r0,r1,r2,r3,r4,r5,r6⟩,_⟩:=S;go_wp2_with fail
 exact MA (v:=.agg #[(1:Int),aD,()]) (by simp [results,results221,go_sem,r1,r2,r3]) rfl ⟨rfl,au S.z ag⟩
theorem refOr_xx (k n k' n':Int) (s s':ByteArray) (w:World) (q:Ix k n) (q':Ix k' n') (t1:(cls k n == some true)=false) (t2:(cls k' n' == some true)=false) (f1:(cls k n == some false)=false) :
  Calls prog 221 #[.agg #[k,n,s],.agg #[k',.int .i64 n',.string s']] w fun e w'=>e = .returned (.agg #[(1:Int),aD,()])∧Below w w w':=by
 have S:=S3.new w k n s k' n' s'
 go_enter func221,ntmps221;go_wp2_with fail
 refine bC (gE _ _ _ _ _ q) fun w1 hb1=>?_;rw [t1];replace S:=S.next hb1;have ⟨⟨a0,a1,a2,a3,a4,a5,a6⟩,⟨b0,b1,b2,b3,b4,b5,b6⟩,⟨r0,r1,r2,r3,r4,r5,r6⟩,_⟩:=S;go_wp2_with fail
 refine bC (gE _ _ _ _ _ q') fun w2 hb2=>?_;rw [t2];clear a0 a1 a2 a3 a4 a5 a6 b0 b1 b2 b3 b4 b5 b6 r0 r1 r2 r3 r4 r5 r6;replace S:=S.next hb2;have ⟨⟨a0,a1,a2,a3,a4,a5,a6⟩,⟨b0,b1,b2,b3,b4,b5,b6⟩,⟨r0,r1,r2,r3,r4,r5,r6⟩,_⟩:=S;go_wp2_with fail
 refine bC (gE _ _ _ _ _ q) fun w3 hb3=>?_;rw [f1];clear a0 a1 a2 a3 a4 a5 a6 b0 b1 b2 b3 b4 b5 b6 r0 r1 r2 r3 r4 r5 r6;replace S:=S.next hb3;have ⟨⟨a0,a1,a2,a3,a4,a5,a6⟩,⟨b0,b1,b2,b3,b4,b5,b6⟩,⟨r0,r1,r2,r3,r4,r5,r6⟩,_⟩:=S;go_wp2_with fail
 refine bC (bP _) fun w4 hb4=>?_;clear a0 a1 a2 a3 a4 a5 a6 b0 b1 b2 b3 b4 b5 b6 r0 r1 r2 r3 r4 r5 r6;replace S:=S.next hb4;have ⟨⟨a0,a1,a2,a3,a4,a5,a6⟩,⟨b0,b1,b2,b3,b4,b5,b6⟩,⟨r0,r1,r2,r3,r4,r5,r6⟩,_⟩:=S;go_wp2_with fail
 exact MA (v:=.agg #[(1:Int),aD,()]) (by simp [results,results221,go_sem,r1,r2,r3]) rfl ⟨rfl,au S.z ag⟩
theorem Hn (k n:Int) (s:ByteArray) (w:World) (h':(k != 2)=true) :
  Calls prog 218 #[.agg #[k,n,s]] w fun e w'=>e = .returned (.agg #[(1:Int),aD,()])∧Below w w w':=by
 have A0:=(cS.new w k n s 24).alloc (.cells #[aD,aD,()] 24);have R0:=cS.new (w.alloc (.cells #[k,n,s] 24)) aD aD () 24;simp only [MZ] at R0;go_enter func218,ntmps218;go_wp2_with fail
 refine bC (bP _) fun w1 hb1=>?_;have A1:=A0.next hb1;have R1:=R0.next hb1;have ⟨a0,a1,a2,a3,a4,a5,a6⟩:=A1;have ⟨r0,r1,r2,r3,r4,r5,r6⟩:=R1;go_wp2_with fail
 have z1:=hb1.size;simp at z1;exact MA (v:=.agg #[(1:Int),aD,()]) (by simp [results,results218,go_sem,r1,r2,r3]) rfl ⟨rfl,au (AM hb1) ag⟩
theorem zx (k n:Int) (s:ByteArray) (w:World) (q:Ix k n) (h:k=2) (b:Bool) (hb:(cls 2 n == some false)=b) :
  Calls prog 218 #[.agg #[k,n,s]] w fun e w'=>e = .returned (.agg #[(2:Int),.int .i64 (tn (some b)),()])∧Below w w w':=by
 subst h;have A0:=(cS.new w (2:Int) n s 24).alloc (.cells #[aD,aD,()] 24);have R0:=cS.new (w.alloc (.cells #[(2:Int),n,s] 24)) aD aD () 24;simp only [MZ] at R0;go_enter func218,ntmps218;go_wp2_with fail
 refine bC (gE _ _ _ _ _ q) fun w1 hb1=>?_;rw [hb];have A1:=A0.next hb1;have R1:=R0.next hb1;have ⟨a0,a1,a2,a3,a4,a5,a6⟩:=A1;have ⟨r0,r1,r2,r3,r4,r5,r6⟩:=R1;go_wp2_with fail
 refine bC (kS b _) fun w2 hb2=>?_;clear a0 a1 a2 a3 a4 a5 a6 r0 r1 r2 r3 r4 r5 r6;have A2:=A1.next hb2;have R2:=R1.next hb2;have ⟨a0,a1,a2,a3,a4,a5,a6⟩:=A2;have ⟨r0,r1,r2,r3,r4,r5,r6⟩:=R2;go_wp2_with fail
 have z1:=hb1.size;have z2:=hb2.size;simp at z1;exact MA (v:=.agg #[(2:Int),.int .i64 (tn (some b)),()]) (by simp [results,results218,go_sem,r1,r2,r3]) rfl ⟨rfl,au ((AM hb1).trans (hb2.mono ag)) ag⟩
theorem Ah (k n k' n':Int) (s s':ByteArray) (w:World) (q:Ix k n) (q':Ix k' n') :
  Calls prog 220 #[.agg #[k,n,s],.agg #[k',.int .i64 n',.string s']] w fun e w'=>e = .returned (.agg #[.int .i64 (tk (AV (cls k n) (cls k' n'))),.int .i64 (tn (AV (cls k n) (cls k' n'))),()])∧Below w w w':=by
 rcases h1:cls k n with _ | _ | _ <;> rcases h2:cls k' n' with _ | _ | _
 ·exact refAnd_xx k n k' n' s s' w q q' (by simp [h1]) (by simp [h2]) (by simp [h1])
 ·exact refAnd_xf k n k' n' s s' w q q' (by simp [h1]) (by simp [h2])
 ·exact refAnd_xx k n k' n' s s' w q q' (by simp [h1]) (by simp [h2]) (by simp [h1])
 ·exact refAnd_f k n k' n' s s' w q (by simp [h1])
 ·exact refAnd_f k n k' n' s s' w q (by simp [h1])
 ·exact refAnd_f k n k' n' s s' w q (by simp [h1])
 ·exact refAnd_tx k n k' n' s s' w q q' (by simp [h1]) (by simp [h2]) (by simp [h1]) (by simp [h2])
 ·exact refAnd_xf k n k' n' s s' w q q' (by simp [h1]) (by simp [h2])
 ·exact refAnd_tt k n k' n' s s' w q q' (by simp [h1]) (by simp [h2]) (by simp [h1]) (by simp [h2])
theorem Ez (k n k' n':Int) (s s':ByteArray) (w:World) (q:Ix k n) (q':Ix k' n') :
  Calls prog 221 #[.agg #[k,n,s],.agg #[k',.int .i64 n',.string s']] w fun e w'=>e = .returned (.agg #[.int .i64 (tk (Kw (cls k n) (cls k' n'))),.int .i64 (tn (Kw (cls k n) (cls k' n'))),()])∧Below w w w':=by
 rcases h1:cls k n with _ | _ | _ <;> rcases h2:cls k' n' with _ | _ | _
 ·exact refOr_xx k n k' n' s s' w q q' (by simp [h1]) (by simp [h2]) (by simp [h1])
 ·exact refOr_xx k n k' n' s s' w q q' (by simp [h1]) (by simp [h2]) (by simp [h1])
 ·exact refOr_xt k n k' n' s s' w q q' (by simp [h1]) (by simp [h2])
 ·exact refOr_fx k n k' n' s s' w q q' (by simp [h1]) (by simp [h2]) (by simp [h1]) (by simp [h2])
 ·exact refOr_ff k n k' n' s s' w q q' (by simp [h1]) (by simp [h2]) (by simp [h1]) (by simp [h2])
 ·exact refOr_xt k n k' n' s s' w q q' (by simp [h1]) (by simp [h2])
 ·exact refOr_t k n k' n' s s' w q (by simp [h1])
 ·exact refOr_t k n k' n' s s' w q (by simp [h1])
 ·exact refOr_t k n k' n' s s' w q (by simp [h1])
theorem Bw (k n:Int) (s:ByteArray) (w:World) (q:Ix k n) :
  Calls prog 218 #[.agg #[k,n,s]] w fun e w'=>e = .returned (.agg #[.int .i64 (tk (nY (cls k n))),.int .i64 (tn (nY (cls k n))),()])∧Below w w w':=by
 by_cases h:k=2
 ·subst h;rcases q rfl with rfl | rfl
  ·exact zx 2 0 s w q rfl true rfl
  ·exact zx 2 1 s w q rfl false rfl
 ·rw [Gh h];exact Hn k n s w (by simpa using h)
def gF (k:Int) (s:ByteArray) (k':Int) (s':ByteArray):Bool:=k == 4 && (k' == 4 && decide (s.size+s'.size≤60))
def fS (k:Int) (s:ByteArray) (k':Int) (s':ByteArray):Int:=if gF k s k' s' then 4 else 1
def gd (k:Int) (s:ByteArray) (k':Int) (s':ByteArray):ByteArray:=if gF k s k' s' then s ++ s' else ⟨#[]⟩
theorem KQ (k n k' n':Int) (s s':ByteArray) (w:World) (h':(k != 4)=true) :
  Calls prog 267 #[.agg #[k,n,s],.agg #[k',.int .i64 n',.string s']] w fun e w'=>e = .returned (.agg #[(1:Int),aD,()])∧Below w w w':=by
 have S:=S3.new w k n s k' n' s'
 go_enter func267,ntmps267;go_wp2_with fail
 refine bC (eI _) fun w1 hb1=>?_;replace S:=S.next hb1;have ⟨⟨a0,a1,a2,a3,a4,a5,a6⟩,⟨b0,b1,b2,b3,b4,b5,b6⟩,⟨r0,r1,r2,r3,r4,r5,r6⟩,_⟩:=S;go_wp2_with fail
 exact MA (v:=.agg #[(1:Int),aD,()]) (by simp [results,results267,go_sem,r1,r2,r3]) rfl ⟨rfl,au S.z ag⟩
theorem KI (k n k' n':Int) (s s':ByteArray) (w:World) (e:k=4) (h':(k' != 4)=true) :
  Calls prog 267 #[.agg #[k,n,s],.agg #[k',.int .i64 n',.string s']] w fun e w'=>e = .returned (.agg #[(1:Int),aD,()])∧Below w w w':=by
 subst e;have A0:=((cS.new w (4:Int) n s 24).alloc (.cells #[k',.int .i64 n',.string s'] 24)).alloc (.cells #[aD,aD,()] 24);have B0:=(cS.new (w.alloc (.cells #[(4:Int),n,s] 24)) k' n' s' 24).alloc (.cells #[aD,aD,()] 24);have R0:=cS.new ((w.alloc (.cells #[(4:Int),n,s] 24)).alloc (.cells #[k',.int .i64 n',.string s'] 24)) aD aD () 24;simp only [MZ] at B0 R0
 go_enter func267,ntmps267;go_wp2_with fail
 refine bC (eI _) fun w1 hb1=>?_;have A1:=A0.next hb1;have B1:=B0.next hb1;have R1:=R0.next hb1;have ⟨a0,a1,a2,a3,a4,a5,a6⟩:=A1;have ⟨b0,b1,b2,b3,b4,b5,b6⟩:=B1;have ⟨r0,r1,r2,r3,r4,r5,r6⟩:=R1;go_wp2_with fail
 have z1:=hb1.size;simp at z1;exact MA (v:=.agg #[(1:Int),aD,()]) (by simp [results,results267,go_sem,r1,r2,r3]) rfl ⟨rfl,au (gw hb1) ag⟩
theorem KD (k n k' n':Int) (s s':ByteArray) (w:World) (e:k=4) (e':k'=4) (z1:s.size≤60) (z2:s'.size≤60) (h:60<s.size+s'.size) :
  Calls prog 267 #[.agg #[k,n,s],.agg #[k',.int .i64 n',.string s']] w fun e w'=>e = .returned (.agg #[(1:Int),aD,()])∧Below w w w':=by
 subst e;subst e';have y1:(s.size:Int)≤60:=by omega
 have y2:(s'.size:Int)≤60:=by omega
 have y3:60<(s.size:Int)+(s'.size:Int):=by omega
 have y4:¬ ((s.size:Int)+(s'.size:Int)≤60):=by omega
 have A0:=((cS.new w (4:Int) n s 24).alloc (.cells #[(4:Int),n',.string s'] 24)).alloc (.cells #[aD,aD,()] 24);have B0:=(cS.new (w.alloc (.cells #[(4:Int),n,s] 24)) (4:Int) n' s' 24).alloc (.cells #[aD,aD,()] 24);have R0:=cS.new ((w.alloc (.cells #[(4:Int),n,s] 24)).alloc (.cells #[(4:Int),n',.string s'] 24)) aD aD () 24;simp only [MZ] at B0 R0
 go_enter func267,ntmps267;go_wp2_with fail
 refine bC (eI _) fun w1 hb1=>?_;have A1:=A0.next hb1;have B1:=B0.next hb1;have R1:=R0.next hb1;have ⟨a0,a1,a2,a3,a4,a5,a6⟩:=A1;have ⟨b0,b1,b2,b3,b4,b5,b6⟩:=B1;have ⟨r0,r1,r2,r3,r4,r5,r6⟩:=R1;go_wp2_with fail
 have z1:=hb1.size;simp at z1;exact MA (v:=.agg #[(1:Int),aD,()]) (by simp [results,results267,go_sem,r1,r2,r3]) rfl ⟨rfl,au (gw hb1) ag⟩
theorem Kt (k n k' n':Int) (s s':ByteArray) (w:World) (e:k=4) (e':k'=4) (z1:s.size≤60) (z2:s'.size≤60) (h:s.size+s'.size≤60) :
  Calls prog 267 #[.agg #[k,n,s],.agg #[k',.int .i64 n',.string s']] w fun e w'=>e = .returned (.agg #[(4:Int),aD,.string (s ++ s')])∧Below w w w':=by
 subst e;subst e';have y1:(s.size:Int)≤60:=by omega
 have y2:(s'.size:Int)≤60:=by omega
 have y3:¬ 60<(s.size:Int)+(s'.size:Int):=by omega
 have y4:(s.size:Int)+(s'.size:Int)≤60:=by omega
 go_enter func267,ntmps267;go_wp2
 exact MA (v:=.agg #[(4:Int),aD,.string (s ++ s')]) (by simp [results,results267,go_sem]) rfl ⟨rfl,((aN ..).alloc (by simp) _).alloc (by simp; omega) _⟩
theorem Ie (k n k' n':Int) (s s':ByteArray) (w:World) (z:k=4→s.size≤60) (z':k'=4→s'.size≤60) :
  Calls prog 267 #[.agg #[k,n,s],.agg #[k',.int .i64 n',.string s']] w fun e w'=>e = .returned (.agg #[.int .i64 (fS k s k' s'),aD,.string (gd k s k' s')])∧Below w w w':=by
 by_cases h:k=4
 ·by_cases h':k'=4
  ·by_cases hs:s.size+s'.size≤60
   ·have e:gF k s k' s'=true:=by simp [gF,h,h',hs]
    have e1:fS k s k' s'=4:=by simp [fS,e]
    have e2:gd k s k' s'=s ++ s':=by simp [gd,e]
    rw [e1,e2]; exact Kt k n k' n' s s' w h h' (z h) (z' h') hs
   ·have e:gF k s k' s'=false:=by simp [gF,hs]
    have e1:fS k s k' s'=1:=by simp [fS,e]
    have e2:gd k s k' s'=⟨#[]⟩:=by simp [gd,e]
    rw [e1,e2]; exact KD k n k' n' s s' w h h' (z h) (z' h') ag
  ·have e:gF k s k' s'=false:=by simp [gF,h']
   have e1:fS k s k' s'=1:=by simp [fS,e]
   have e2:gd k s k' s'=⟨#[]⟩:=by simp [gd,e]
   rw [e1,e2]; exact KI k n k' n' s s' w h (by simpa using h')
 ·have e:gF k s k' s'=false:=by simp [gF,h]
  have e1:fS k s k' s'=1:=by simp [fS,e]
  have e2:gd k s k' s'=⟨#[]⟩:=by simp [gd,e]
  rw [e1,e2]; exact KQ k n k' n' s s' w (by simpa using h)
theorem Fi (k n k' n':Int) (s s':ByteArray) (w:World) (h:(k == 4)=false) :
  Calls prog 223 #[.agg #[k,n,s],.agg #[k',.int .i64 n',.string s']] w fun e w'=>e = .returned (.agg #[(1:Int),aD,()])∧Below w w w':=by
 have S:=S3.new w k n s k' n' s'
 go_enter func223,ntmps223;go_wp2_with fail
 refine bC (bP _) fun w1 hb1=>?_;replace S:=S.next hb1;have ⟨⟨a0,a1,a2,a3,a4,a5,a6⟩,⟨b0,b1,b2,b3,b4,b5,b6⟩,⟨r0,r1,r2,r3,r4,r5,r6⟩,_⟩:=S;go_wp2_with fail
 exact MA (v:=.agg #[(1:Int),aD,()]) (by simp [results,results223,go_sem,r1,r2,r3]) rfl ⟨rfl,au S.z ag⟩
theorem Dy (k n k' n':Int) (s s':ByteArray) (w:World) (e:k=4) (h:(k' == 4)=false) :
  Calls prog 223 #[.agg #[k,n,s],.agg #[k',.int .i64 n',.string s']] w fun e w'=>e = .returned (.agg #[(1:Int),aD,()])∧Below w w w':=by
 subst e;have A0:=((cS.new w (4:Int) n s 24).alloc (.cells #[k',.int .i64 n',.string s'] 24)).alloc (.cells #[aD,aD,()] 24);have B0:=(cS.new (w.alloc (.cells #[(4:Int),n,s] 24)) k' n' s' 24).alloc (.cells #[aD,aD,()] 24);have R0:=cS.new ((w.alloc (.cells #[(4:Int),n,s] 24)).alloc (.cells #[k',.int .i64 n',.string s'] 24)) aD aD () 24;simp only [MZ] at B0 R0
 go_enter func223,ntmps223;go_wp2_with fail
 refine bC (bP _) fun w1 hb1=>?_;have A1:=A0.next hb1;have B1:=B0.next hb1;have R1:=R0.next hb1;have ⟨a0,a1,a2,a3,a4,a5,a6⟩:=A1;have ⟨b0,b1,b2,b3,b4,b5,b6⟩:=B1;have ⟨r0,r1,r2,r3,r4,r5,r6⟩:=R1;go_wp2_with fail
 have z1:=hb1.size;simp at z1;exact MA (v:=.agg #[(1:Int),aD,()]) (by simp [results,results223,go_sem,r1,r2,r3]) rfl ⟨rfl,au (gw hb1) ag⟩
theorem CV (k n k' n':Int) (s s':ByteArray) (w:World) (e:k=4) (e':k'=4) (z1:s.size≤60) (z2:s'.size≤60) (h:60<s.size+s'.size) :
  Calls prog 223 #[.agg #[k,n,s],.agg #[k',.int .i64 n',.string s']] w fun e w'=>e = .returned (.agg #[(1:Int),aD,()])∧Below w w w':=by
 subst e;subst e';have y1:(s.size:Int)≤60:=by omega
 have y2:(s'.size:Int)≤60:=by omega
 have y3:60<(s.size:Int)+(s'.size:Int):=by omega
 have y4:¬ ((s.size:Int)+(s'.size:Int)≤60):=by omega
 have A0:=((cS.new w (4:Int) n s 24).alloc (.cells #[(4:Int),n',.string s'] 24)).alloc (.cells #[aD,aD,()] 24);have B0:=(cS.new (w.alloc (.cells #[(4:Int),n,s] 24)) (4:Int) n' s' 24).alloc (.cells #[aD,aD,()] 24);have R0:=cS.new ((w.alloc (.cells #[(4:Int),n,s] 24)).alloc (.cells #[(4:Int),n',.string s'] 24)) aD aD () 24;simp only [MZ] at B0 R0
 go_enter func223,ntmps223;go_wp2_with fail
 refine bC (bP _) fun w1 hb1=>?_;have A1:=A0.next hb1;have B1:=B0.next hb1;have R1:=R0.next hb1;have ⟨a0,a1,a2,a3,a4,a5,a6⟩:=A1;have ⟨b0,b1,b2,b3,b4,b5,b6⟩:=B1;have ⟨r0,r1,r2,r3,r4,r5,r6⟩:=R1;go_wp2_with fail
 have z1:=hb1.size;simp at z1;exact MA (v:=.agg #[(1:Int),aD,()]) (by simp [results,results223,go_sem,r1,r2,r3]) rfl ⟨rfl,au (gw hb1) ag⟩
theorem Dl (k n k' n':Int) (s s':ByteArray) (w:World) (e:k=4) (e':k'=4) (z1:s.size≤60) (z2:s'.size≤60) (h:s.size+s'.size≤60) :
  Calls prog 223 #[.agg #[k,n,s],.agg #[k',.int .i64 n',.string s']] w fun e w'=>e = .returned (.agg #[(4:Int),aD,.string (s ++ s')])∧Below w w w':=by
 subst e;subst e';have y1:(s.size:Int)≤60:=by omega
 have y2:(s'.size:Int)≤60:=by omega
 have y3:¬ 60<(s.size:Int)+(s'.size:Int):=by omega
 have y4:(s.size:Int)+(s'.size:Int)≤60:=by omega
 go_enter func223,ntmps223;go_wp2
 exact MA (v:=.agg #[(4:Int),aD,.string (s ++ s')]) (by simp [results,results223,go_sem]) rfl ⟨rfl,((aN ..).alloc (by simp) _).alloc (by simp; omega) _⟩
theorem yw (k n k' n':Int) (s s':ByteArray) (w:World) (z:k=4→s.size≤60) (z':k'=4→s'.size≤60) :
  Calls prog 223 #[.agg #[k,n,s],.agg #[k',.int .i64 n',.string s']] w fun e w'=>e = .returned (.agg #[.int .i64 (fS k s k' s'),aD,.string (gd k s k' s')])∧Below w w w':=by
 by_cases h:k=4
 ·by_cases h':k'=4
  ·by_cases hs:s.size+s'.size≤60
   ·have e:gF k s k' s'=true:=by simp [gF,h,h',hs]
    have e1:fS k s k' s'=4:=by simp [fS,e]
    have e2:gd k s k' s'=s ++ s':=by simp [gd,e]
    rw [e1,e2]; exact Dl k n k' n' s s' w h h' (z h) (z' h') hs
   ·have e:gF k s k' s'=false:=by simp [gF,hs]
    have e1:fS k s k' s'=1:=by simp [fS,e]
    have e2:gd k s k' s'=⟨#[]⟩:=by simp [gd,e]
    rw [e1,e2]; exact CV k n k' n' s s' w h h' (z h) (z' h') ag
  ·have e:gF k s k' s'=false:=by simp [gF,h']
   have e1:fS k s k' s'=1:=by simp [fS,e]
   have e2:gd k s k' s'=⟨#[]⟩:=by simp [gd,e]
   rw [e1,e2]; exact Dy k n k' n' s s' w h (by simpa using h')
 ·have e:gF k s k' s'=false:=by simp [gF,h]
  have e1:fS k s k' s'=1:=by simp [fS,e]
  have e2:gd k s k' s'=⟨#[]⟩:=by simp [gd,e]
  rw [e1,e2]; exact Fi k n k' n' s s' w (by simpa using h)
end Go.Proofs.YtoefpglknaiaeaaGreat
namespace Go.Proofs.YtoefpglknaiaeaaGreat
def oC (o:Option Bool):Vl:=(tk o,tn o,⟨#[]⟩)
def sw (v:Vl):Option Bool:=cls v.1 v.2.1
def GN (a b:Vl):Vl:=oC (AV (sw a) (sw b))
def Lk (a b:Vl):Vl:=oC (Kw (sw a) (sw b))
def kI (a:Vl):Vl:=oC (nY (sw a))
def Gl (a b:Vl):Vl:=oC (K3 a.1 a.2.1 a.2.2 b.1 b.2.1 b.2.2)
def wV (a b:Vl):Vl:=oC (Fw a.1 a.2.1 a.2.2 b.1 b.2.1 b.2.2)
def mD (c:Int) (a b:Vl):Vl:=(jK (iT c a.1 a.2.1 b.1 b.2.1),kl (iT c a.1 a.2.1 b.1 b.2.1),⟨#[]⟩)
def oK (a b:Vl):Vl:=(fS a.1 a.2.2 b.1 b.2.2,0,gd a.1 a.2.2 b.1 b.2.2)
def lR (a b:Vl):Vl:=if a.1=1 then b else a
def gX:Vl:=(0,0,⟨#[]⟩)
def gL (k:Int) (a b:Vl):Vl :=
 if k=4 then GN a b else if k=5 then Lk a b else if k=6 then Gl a b else if k=7 then kI (Gl a b)
 else if k=8 then wV a b else if k=11 then kI (wV a b) else if k=10 then wV b a else if k=9 then kI (wV b a)
 else if k=12 then mD 43 a b else if k=13 then mD 45 a b else if k=14 then mD 42 a b else if k=15 then oK a b else lR a b
def nA (row:List Vl) (k:Int) (v:Vl) (c:Int) (us:List Vl):Vl :=
 if k=1 then cM v else if k=2 then cM (row.getD c.toNat gX) else if k=3 then kI (us.getD 0 gX)
 else if k=16 then oC (some ((us.getD 0 gX).1 == 1))
 else if k=17 then (if sw (us.getD 0 gX) == some true then us.getD 1 gX else us.getD 2 gX)
 else gL k (us.getD 0 gX) (us.getD 1 gX)
mutual
def bQ (row:List Vl):Ex→Vl | .mk k v c ks=>nA row k v c (qF row ks)
def qF (row:List Vl):List Ex→List Vl | []=>[] | x :: r=>bQ row x :: qF row r
end
theorem mM (row:List Vl):∀ ks,qF row ks=ks.map (bQ row)
 | []=>rfl
 | x :: r=>by rw [qF,mM row r]; rfl
theorem E8 (o:Option Bool):aJ (oC o)=0:=by rcases o with _ | _ | _ <;> rfl
theorem FM (o:Option Bool):(oC o).1=1∨(oC o).1=2:=by rcases o with _ | _ <;> simp [oC,tk]
theorem qC (v:Vl):aJ (cM v)=aJ v:=by
 obtain ⟨k,n,s⟩:=v;unfold aJ cM aO dY gz;by_cases h1:k=1
 ·simp [h1]
 by_cases h2:k=2
 ·simp [h2]
 by_cases h3:k=3
 ·simp [h3]
 by_cases h4:k=4
 ·simp [h4]
 simp [h1,h2,h3,h4]
theorem DT (c:Int) (a b:Vl):aJ (mD c a b)=0∧((mD c a b).1=1∨(mD c a b).1=3):=by
 unfold mD aJ;rcases iT c a.1 a.2.1 b.1 b.2.1 with _ | x
 ·simp [jK,aO]
 ·by_cases h:kO x=true
  ·have h':=h;simp only [kO,NO,decide_eq_true_eq] at h';simp [jK,kl,gT,gY,h,aO,h']
  ·simp [jK,gT,h,aO]
theorem AH (a b:Vl):aJ (oK a b)=0∧((oK a b).1=1∨(oK a b).1=4):=by
 unfold oK aJ fS gd;by_cases h:gF a.1 a.2.2 b.1 b.2.2=true
 ·have h':=h;simp only [gF,NO,decide_eq_true_eq] at h';simp [h,aO,h']
 ·simp [h,aO]
theorem e7 {v:Vl} (h:aJ v=0):1≤v.1∧v.1≤4:=by
 obtain ⟨k,n,s⟩:=v;unfold aJ aO at h;simp only at h ⊢;by_cases h1:k=1
 ·omega
 by_cases h2:k=2
 ·omega
 by_cases h3:k=3
 ·omega
 by_cases h4:k=4
 ·omega
 simp [h1,h2,h3,h4] at h
theorem IJ {k:Int} (h:6≤k) (h':k≤11) (a b:Vl):∃ o,gL k a b=oC o:=by
 obtain rfl | rfl | rfl | rfl | rfl | rfl:k=6∨k=7∨k=8∨k=9∨k=10∨k=11:=by omega
 all_goals exact ⟨_,rfl⟩
theorem Jv {k:Int} (h:12≤k) (h':k≤14) (a b:Vl):∃ c,gL k a b=mD c a b:=by
 obtain rfl | rfl | rfl:k=12∨k=13∨k=14:=by omega
 all_goals exact ⟨_,rfl⟩
theorem Gd {k:Int} (h:k<4∨15<k) (a b:Vl):gL k a b=lR a b:=by
 unfold gL;rw [if_neg ag,if_neg ag,if_neg ag,if_neg ag,if_neg ag,if_neg ag,if_neg ag,if_neg ag,if_neg ag,if_neg ag,if_neg ag,if_neg ag]
def fZ:List Int→List Vl→Int
 | c :: cs,v :: vs=>if aJ v≠0 then aJ v else if v.1≠1∧v.1≠c then 9 else fZ cs vs
 | _,_=>0
def eh (cols:List Int) (row:List Vl):Int:=if row.length≠cols.length then 8 else fZ cols row
theorem yB:∀ (cols:List Int) (row:List Vl),row.length=cols.length→(fZ cols row=0↔∀ i (h:i<row.length),aJ row[i]=0∧(row[i].1=1∨row[i].1=cols.getD i 0))
 | [],[],_=>by simp [fZ]
 | [],_ :: _,h=>by simp at h
 | _ :: _,[],h=>by simp at h
 | c :: cs,v :: vs,h=>by
  have ih:=yB cs vs (by simpa using h)
  rw [fZ]
  by_cases h1:aJ v=0
  ·rw [if_neg (by simp [h1])]
   by_cases h2:v.1≠1∧v.1≠c
   ·rw [if_pos h2]
    simp only [show ¬ (9:Int)=0 by decide,false_iff]
    intro hh
    have:=(hh 0 (by simp)).2
    simp at this
    omega
   ·rw [if_neg h2,ih]
    constructor
    ·intro hh i hi
     match i,hi with
     | 0,_ =>
      refine ⟨h1,?_⟩
      simp
      omega
     | i+1,hi =>
      have:=hh i (by simpa using hi)
      simpa using this
    ·intro hh i hi
     have:=hh (i+1) (by simpa using hi)
     simpa using this
  ·rw [if_pos h1]
   constructor
   ·intro hh; exact absurd hh h1
   ·intro hh; exact absurd (hh 0 (by simp)).1 h1
structure dX (cols:List Int) (row:List Vl):Prop where
 len:row.length=cols.length
 one:∀ i (h:i<row.length),aJ row[i]=0∧(row[i].1=1∨row[i].1=cols.getD i 0)
theorem xP (cols:List Int) (row:List Vl):eh cols row=0↔dX cols row:=by
 unfold eh;by_cases h:row.length=cols.length
 ·rw [if_neg (by simp [h]),yB cols row h];exact ⟨fun k=>⟨h,k⟩,fun k=>k.2⟩
 ·rw [if_pos h];simp only [show ¬ (8:Int)=0 by decide,false_iff];exact fun k=>h k.1
theorem tP {a b t:Int} (h:ir a b=some t):(a=1∧t=b)∨(b=1∧t=a)∨(a=t∧b=t):=by
 unfold ir at h
 split at h
 ·rename_i h1; rcases h1 with h1 | h1
  ·right; right; simp at h; omega
  ·right; left; simp at h; omega
 ·split at h
  ·left; simp at h; omega
  ·simp at h
theorem gy {t u:Int} {ts:List Int} (h:dv t ts=some u):u=t:=by
 unfold dv at h
 split at h
 ·simpa using h.symm
 ·simp at h
def fy (t:Int):Prop:=1≤t∧t≤4
theorem G1 {a b t:Int} (h:ir a b=some t) (ha:fy a) (hb:fy b):fy t:=by
 rcases tP h with ⟨_,rfl⟩ | ⟨_,rfl⟩ | ⟨rfl,_⟩ <;> assumption
theorem pZ {cols:List Int}:∀ {ks:List Ex} {ts:List Int},mJ cols ks=some ts→ts.length=ks.length
 | [],ts,h=>by simp [mJ] at h; simp [h]
 | x :: r,ts,h=>by
  rw [mJ,NG] at h
  obtain ⟨t,_,h⟩:=h
  rw [Option.map_eq_some_iff] at h
  obtain ⟨us,h,rfl⟩:=h
  simp [pZ h]
theorem iM {cols:List Int}:∀ {ks:List Ex} {ts:List Int},mJ cols ks=some ts→∀ (i:Nat) (h:i<ks.length),py cols ks[i]=some (ts.getD i 0)
 | [],ts,_=>by intro i h; simp at h
 | x :: r,ts,h=>by
  rw [mJ,NG] at h
  obtain ⟨t,h0,h⟩:=h
  rw [Option.map_eq_some_iff] at h
  obtain ⟨us,h,rfl⟩:=h
  intro i hi
  match i,hi with
  | 0,_=>simpa using h0
  | i+1,hi=>simpa using iM h i (by simpa using hi)
theorem kz {cols:List Int} {k:Int} {v:Vl} {c:Int} {ks:List Ex} {t:Int} (h:py cols (.mk k v c ks)=some t) :
  1≤k∧k≤18∧ks.length=dy k∧∃ ts,mJ cols ks=some ts∧cV cols k v c ts=(t,0):=by
 rw [py] at h
 split at h
 ·simp at h
 ·rename_i hk
  rw [NG] at h;obtain ⟨ts,h1,h2⟩:=h
  split at h2
  ·rename_i h3
   refine ⟨by omega,by omega,by omega,ts,h1,?_⟩;simp at h2;exact Prod.ext h2 h3
  ·simp at h2
theorem BV {v:Vl} {t:Int} (h:oJ v=(t,0)):aJ v=0∧v.1=t:=by
 unfold oJ at h
 split at h
 ·rename_i hw; simp at h; exact ⟨hw,h⟩
 ·rename_i hw; simp at h; exact absurd h.2 hw
theorem ry {cols:List Int} {c t:Int} (h:mE cols c=(t,0)):0≤c∧c.toNat<cols.length∧cols.getD c.toNat 0=t:=by
 unfold mE at h
 split at h
 ·simp at h
 ·rename_i hc
  simp only [Prod.mk.injEq,and_true] at h;exact ⟨by omega,by omega,h⟩
theorem wW {o:Option Int} {t:Int} (h:cP o=(t,0)):o=some t:=by
 cases o with
 | none=>simp [cP] at h
 | some u=>simp [cP] at h; rw [h]
theorem FU {k:Int} {ts:List Int} {t:Int} (h:du k ts=some t) (hin:∀ i,i<ts.length→fy (ts.getD i 0)) (hk:3≤k) (hk':k≤18) (hl:ts.length=dy k):fy t:=by
 have two:6≤k→k≠16→2≤ts.length:=by
  intro h6 h16; rw [hl]; unfold dy;rw [if_neg ag,if_neg ag]
  split <;> omega
 unfold du at h
 split at h
 ·rw [gy h]; (unfold fy; omega)
 split at h
 ·split at h <;> simp at h; rw [← h]; (unfold fy; omega)
 split at h
 ·rw [gy h]; (unfold fy; omega)
 split at h
 ·rw [gy h]; (unfold fy; omega)
 split at h
 ·simp at h; rw [← h]; (unfold fy; omega)
 split at h
 ·rename_i h17
  have h3:ts.length=3:=by rw [hl]; subst h17; rfl
  split at h
  ·exact G1 h (hin 1 ag) (hin 2 ag)
  ·simp at h
 ·exact G1 h (hin 0 (by have:=two ag ag; omega)) (hin 1 (by have:=two ag ag; omega))
theorem xh {cols:List Int} (hc:∀ i,i<cols.length→fy (cols.getD i 0)):∀ x t,py cols x=some t→fy t:=by
 refine Ex.ind fun k v c ks ih t h=>?_
 obtain ⟨h1,h18,hl,ts,hts,hn⟩:=kz h;unfold cV at hn
 split at hn
 ·obtain ⟨q1,q2⟩:=BV hn;rw [← q2];exact e7 q1
 split at hn
 ·obtain ⟨q0,q1,q2⟩:=ry hn;rw [← q2];exact hc _ q1
 ·have hlen:=pZ hts;refine FU (wW hn) (fun i hi=>?_) ag h18 ag;exact ih ks[i] (MC _) _ (iM hts i ag)
def Of (t:Int) (u:Vl):Prop:=aJ u=0∧(u.1=1∨u.1=t)
theorem se (o:Option Bool):Of 2 (oC o):=⟨E8 o,FM o⟩
theorem wK {a b t:Int} {u:Vl} (h:ir a b=some t) (hu:Of a u):Of t u:=by
 refine ⟨hu.1,?_⟩;rcases tP h with ⟨q,rfl⟩ | ⟨_,rfl⟩ | ⟨rfl,_⟩
 ·left; rcases hu.2 with e | e <;> omega
 ·exact hu.2
 ·exact hu.2
theorem xj {a b t:Int} {u:Vl} (h:ir a b=some t) (hu:Of b u):Of t u:=by
 refine ⟨hu.1,?_⟩;rcases tP h with ⟨_,rfl⟩ | ⟨q,rfl⟩ | ⟨_,rfl⟩
 ·exact hu.2
 ·left; rcases hu.2 with e | e <;> omega
 ·exact hu.2
theorem lH {cols:List Int} {row:List Vl} (hf:dX cols row):∀ x t,py cols x=some t→Of t (bQ row x):=by
 refine Ex.ind fun k v c ks ih t h=>?_
 obtain ⟨h1,h18,hl,ts,hts,hn⟩:=kz h;have hlen:=pZ hts;have hkid:∀ i (hi:i<ks.length),Of (ts.getD i 0) ((qF row ks).getD i gX):=by
  intro i hi;have:=ih ks[i] (MC _) _ (iM hts i hi);rw [mM]
  simpa [List.getD,hi] using this
 rw [bQ];generalize qF row ks=us at hkid;unfold cV at hn;unfold nA
 split at hn
 ·rename_i hk
  rw [if_pos hk];obtain ⟨q1,q2⟩:=BV hn;exact ⟨(qC v).trans q1,.inr q2⟩
 rename_i hk1
 rw [if_neg hk1]
 split at hn
 ·rename_i hk
  rw [if_pos hk];obtain ⟨q0,q1,q2⟩:=ry hn;have hl':=hf.len;have:=hf.one c.toNat ag;rw [q2] at this;have e:row.getD c.toNat gX=row[c.toNat]'ag:=by simp [List.getD,show c.toNat<row.length by omega]
  rw [e];exact ⟨(qC _).trans this.1,this.2⟩
 rename_i hk2
 rw [if_neg hk2];have hn:=wW hn;unfold du at hn;have l2:k≠3→k≠16→k≠17→ks.length=2:=by
  intro h3 h16 h17;rw [hl]; unfold dy;rw [if_neg ag,if_neg ag,if_neg h17]
 by_cases hk3:k=3
 ·rw [if_pos hk3];rw [if_pos ag] at hn;rw [gy hn];exact se _
 rw [if_neg hk3];by_cases hk16:k=16
 ·rw [if_pos hk16];subst hk16;simp at hn;rw [← hn];exact se _
 rw [if_neg hk16];by_cases hk17:k=17
 ·rw [if_pos hk17];subst hk17;have l3:ks.length=3:=hl;simp only [show ¬ ((17:Int)=3∨(17:Int)=4∨(17:Int)=5) by decide,show ¬ (6≤(17:Int)∧(17:Int)≤11) by decide,show ¬ ((17:Int)=12∨(17:Int)=13∨(17:Int)=14) by decide,show ¬ (17:Int)=15 by decide,show ¬ (17:Int)=16 by decide,if_false,if_true] at hn
  split at hn
  ·split
   ·exact wK hn (hkid 1 ag)
   ·exact xj hn (hkid 2 ag)
  ·simp at hn
 rw [if_neg hk17];have l2:=l2 hk3 hk16 hk17;have k0:=hkid 0 ag;have k1:=hkid 1 ag;by_cases b4:k=4
 ·rw [if_pos ag] at hn; rw [gy hn,b4]; exact se _
 by_cases b5:k=5
 ·rw [if_pos ag] at hn; rw [gy hn,b5]; exact se _
 rw [if_neg ag] at hn;by_cases b6:6≤k∧k≤11
 ·rw [if_pos b6] at hn;have ht:t=2:=by
   split at hn <;> simp at hn; exact hn.symm
  subst ht;obtain ⟨o,e⟩:=IJ b6.1 b6.2 (us.getD 0 gX) (us.getD 1 gX);rw [e];exact se _
 rw [if_neg b6] at hn;by_cases b12:k=12∨k=13∨k=14
 ·rw [if_pos b12] at hn;have ht:=gy hn;subst ht;obtain ⟨o,e⟩:=Jv ag ag (us.getD 0 gX) (us.getD 1 gX) (k:=k);rw [e];exact DT _ _ _
 rw [if_neg b12] at hn;by_cases b15:k=15
 ·rw [if_pos b15] at hn;have ht:=gy hn;subst ht;rw [b15];exact AH _ _
 rw [if_neg b15,if_neg hk16,if_neg hk17] at hn;rw [Gd ag];unfold lR
 split
 ·exact xj hn k1
 ·exact wK hn k0
def gG (cols:List Int):Bool:=cols.all fun c=>decide (1≤c) && decide (c≤4)
def ax (cols:List Int) (x:Ex):Int × Int :=
 if 16<cols.length then (0,5) else if gG cols=false then (0,1) else if (bO cols x 0 1).2.1=0 then ((bO cols x 0 1).1,0) else (0,(bO cols x 0 1).2.1)
def J6 (cols:List Int) (x:Ex) (row:List Vl):Vl × Int :=
 if (ax cols x).2≠0 then (gX,(ax cols x).2) else if eh cols row≠0 then (gX,eh cols row) else (bQ row x,0)
structure xC (cols:List Int) (x:Ex) (t:Int):Prop where
 Ma:cols.length≤16
 fit:gG cols=true
 ty:py cols x=some t
 size:nC x≤200
 deep:yW x≤20
theorem rH (cols:List Int) (x:Ex):(ax cols x).2=0↔xC cols x (ax cols x).1:=by
 unfold ax;by_cases h1:16<cols.length
 ·rw [if_pos h1];simp only [show ¬ (5:Int)=0 by decide,false_iff];exact fun h=>absurd h.Ma ag
 rw [if_neg h1];by_cases h2:gG cols=false
 ·rw [if_pos h2];simp only [show ¬ (1:Int)=0 by decide,false_iff];exact fun h=>absurd h.fit (by simp [h2])
 rw [if_neg h2];by_cases h3:(bO cols x 0 1).2.1=0
 ·rw [if_pos h3];simp only [true_iff];obtain ⟨q1,q2,q3,q4⟩:=(kM cols x 0 1 (bO cols x 0 1).1 (bO cols x 0 1).2.2).1 (Prod.ext rfl (Prod.ext h3 rfl));exact ⟨by omega,by simpa using h2,q1,by omega,by omega⟩
 ·rw [if_neg h3];simp only [h3,false_iff];intro h;have:=(kM cols x 0 1 0 (0+nC x)).2 ⟨h.ty,rfl,by have:=h.size; omega,by have:=h.deep; omega⟩;rw [this] at h3;simp at h3
theorem xC.top {cols:List Int} {x:Ex} {t:Int} (h:xC cols x t):ax cols x=(t,0):=by
 have:=(kM cols x 0 1 t (0+nC x)).2 ⟨h.ty,rfl,by have:=h.size; omega,by have:=h.deep; omega⟩;unfold ax;rw [if_neg (by have:=h.Ma; omega),if_neg (by simp [h.fit]),this];simp
theorem xC.eval {cols:List Int} {x:Ex} {t:Int} (h:xC cols x t) (row:List Vl):J6 cols x row=if eh cols row≠0 then (gX,eh cols row) else (bQ row x,0):=by
 unfold J6;rw [h.top];simp
theorem po {cols:List Int} (h:gG cols=true):∀ i,i<cols.length→fy (cols.getD i 0):=by
 intro i hi;unfold gG at h;rw [NZ] at h;have:=h cols[i] (MC _);simp only [NO,decide_eq_true_eq] at this
 simpa [List.getD,hi,fy] using this
def Le (a b:Vl):Prop:=a.1=1∨a=b
theorem Le.refl (a:Vl):Le a a:=.inr rfl
theorem Jn {a b c d:Vl} (h:Le a c) (h':Le b d):gR a.1 b.1=false∨(a=c∧b=d):=by
 unfold gR;rcases h with h | rfl
 ·left; simp [h]
 ·rcases h' with h' | rfl
  ·left;by_cases q:a.1=1 <;> simp [h',q]
  ·right; exact ⟨rfl,rfl⟩
theorem Ce {a b c d:Vl} (h:Le a c) (h':Le b d):Fw a.1 a.2.1 a.2.2 b.1 b.2.1 b.2.2=none∨Fw a.1 a.2.1 a.2.2 b.1 b.2.1 b.2.2=Fw c.1 c.2.1 c.2.2 d.1 d.2.1 d.2.2:=by
 rcases Jn h h' with q | ⟨rfl,rfl⟩
 ·left; simp [Fw,q]
 ·right; rfl
end Go.Proofs.YtoefpglknaiaeaaGreat
