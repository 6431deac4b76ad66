/- Together: W6, W7, W12, X1, Y8, Y9, X2, K1, Ext. -/
import Derived.Shelf.Abstract
import Derived.OrdersHeld
import Derived.RegionTactic
import Derived.Test.YtohjlfhmnmcndaaGreatB0
import Derived.Test.YtohjlfhmnmcndaaGreatB1
/- The walks of vals.Int, vals.product, vals.Reckon: what each answers. -/
namespace Go.Proofs.YtohjlfhmnmcndaaGreat
open Go.RowKit

def inB (n:Int):Bool:=decide (-1000000000000000≤n) && decide (n≤1000000000000000)
theorem inB_t {n:Int} (h:inB n=true):-1000000000000000≤n∧n≤1000000000000000:=by simpa [inB] using h
theorem inB_f {n:Int} (h:inB n=false):n < -1000000000000000∨1000000000000000<n:=by
 unfold inB at h
 by_cases a:-1000000000000000≤n
 ·by_cases b:n≤1000000000000000
  ·simp [a,b] at h
  ·right; omega
 ·left; omega
theorem inB_no {n:Int} (h:n < -1000000000000000∨1000000000000000<n):inB n=false:=by
 cases e:inB n
 ·rfl
 ·have:=inB_t e; omega
def intK (n:Int):Int:=if inB n then 3 else 1
def intN (n:Int):Int:=if inB n then n else 0
def numB (k n:Int):Bool:=k == 3 && inB n
def recT (c n n':Int):Option Int:=if c=43 then some (n+n') else if c=45 then some (n - n') else if c=42 then some (n*n') else none
def optK:Option Int→Int | some x=>intK x | none=>1
def optN:Option Int→Int | some x=>intN x | none=>0
def recO (c k n k' n':Int):Option Int:=if numB k n && numB k' n' then recT c n n' else none

set_option maxHeartbeats 400000 in
theorem inRange_any (n:Int) (w:World) :
  Calls Tryz.prog 145 #[.int .i64 n] w fun e w'=>e = .returned (.bool (inB n))∧w'=w:=by
 by_cases h0:-1000000000000000≤n
 ·go_enter Tryz.func145,Tryz.ntmps145
  go_wp2
  go_ret
  exact ⟨ret_bool (by simp [inB,h0]),rfl⟩
 ·have hd:decide (-1000000000000000≤n)=false:=by simpa using h0
  have e:inB n=false:=by simp only [inB,hd,Bool.false_and]
  go_enter Tryz.func145,Tryz.ntmps145
  go_wp2
  go_ret
  exact ⟨rfl,rfl⟩

set_option maxHeartbeats 400000 in
theorem int_in (n:Int) (w:World) (h:inB n=true) :
  Calls Tryz.prog 213 #[.int .i64 n] w fun e w'=>e = .returned (.agg #[.int .i64 3,.int .i64 n,.string ⟨#[]⟩])∧Below w.heap.size w w':=by
 go_enter Tryz.func213,Tryz.ntmps213
 go_wp2_with fail
 refine (inRange_any _ _).mono ?_
 rintro e w1 ⟨rfl,rfl⟩
 rw [h]
 go_wp2_with fail
 exact bodyPost_ret (v:=.agg #[.int .i64 3,.int .i64 n,.string ⟨#[]⟩]) (by simp [results,Tryz.results213,go_sem]) rfl ⟨rfl,(Below.refl _ _).alloc (Nat.le_refl _) _⟩

set_option maxHeartbeats 400000 in
theorem int_out (n:Int) (w:World) (h:inB n=false) :
  Calls Tryz.prog 213 #[.int .i64 n] w fun e w'=>e = .returned (.agg #[.int .i64 1,.int .i64 0,.string ⟨#[]⟩])∧Below w.heap.size w w':=by
 go_enter Tryz.func213,Tryz.ntmps213
 go_wp2_with fail
 refine (inRange_any _ _).mono ?_
 rintro e w1 ⟨rfl,rfl⟩
 rw [h]
 have R0:=Box.new w (.int .i64 0) (.int .i64 0) (.string ⟨#[]⟩) 24
 go_wp2_with fail
 refine (null_any _).mono ?_
 rintro e w1 ⟨rfl,hb1⟩
 have R1:=R0.next hb1
 have ⟨r0,r1,r2,r3,r4,r5,r6⟩:=R1
 go_wp2_with fail
 exact bodyPost_ret (v:=.agg #[.int .i64 1,.int .i64 0,.string ⟨#[]⟩]) (by simp [results,Tryz.results213,go_sem,r1,r2,r3]) rfl ⟨rfl,below_set3 (below1 hb1) (Nat.le_refl _)⟩

theorem int_any (n:Int) (w:World) :
  Calls Tryz.prog 213 #[.int .i64 n] w fun e w'=>e = .returned (.agg #[.int .i64 (intK n),.int .i64 (intN n),.string ⟨#[]⟩])∧Below w.heap.size w w':=by
 cases h:inB n
 ·have e1:intK n=1:=by simp [intK,h]
  have e2:intN n=0:=by simp [intN,h]
  rw [e1,e2]; exact int_out n w h
 ·have e1:intK n=3:=by simp [intK,h]
  have e2:intN n=n:=by simp [intN,h]
  rw [e1,e2]; exact int_in n w h

set_option maxHeartbeats 400000 in
theorem size_any (n:Int) (w:World) (h0:-1000000000000000≤n) (h1:n≤1000000000000000) :
  Calls Tryz.prog 252 #[.int .i64 n] w fun e w'=>e = .returned (.int .i64 (n.natAbs:Int))∧w'=w:=by
 by_cases h:n<0
 ·go_enter Tryz.func252,Tryz.ntmps252
  go_wp2
  go_ret
  exact ⟨ret_int (by omega),rfl⟩
 ·go_enter Tryz.func252,Tryz.ntmps252
  go_wp2
  go_ret
  exact ⟨ret_int (by omega),rfl⟩

set_option maxHeartbeats 400000 in
theorem isNumber_any (k n:Int) (s:ByteArray) (w:World) :
  Calls Tryz.prog 250 #[.agg #[.int .i64 k,.int .i64 n,.string s]] w fun e w'=>e = .returned (.bool (numB k n))∧Below w.heap.size w w':=by
 by_cases hk:k=3
 ·subst hk
  have e0:(wrongF 3 n s == 0)=numB 3 n:=by
   cases h:inB n
   ·have:=inB_f h
    have e:wrongF 3 n s=3:=by
     rcases this with t | t
     ·exact wrong_k3l n s t
     ·exact wrong_k3g n s t
    simp [numB,h,e]
   ·have:=inB_t h
    have e:wrongF 3 n s=0:=wrong_k3 n s (by omega) (by omega)
    simp [numB,h,e]
  have E0:Hid ((wrongF 3 n s == 0)=numB 3 n):=e0
  clear e0
  go_enter Tryz.func250,Tryz.ntmps250
  go_wp2_with fail
  refine (wrong_any _ _ _ _).mono ?_
  rintro e w1 ⟨rfl,hb1⟩
  go_wp2_with fail
  go_ret
  exact ⟨ret_bool E0.out,below1 hb1⟩
 ·have b3:(k == 3)=false:=by simpa using hk
  go_enter Tryz.func250,Tryz.ntmps250
  go_wp2_with fail
  go_ret
  exact ⟨ret_bool (by simp [numB,b3]),(Below.refl _ _).alloc (Nat.le_refl _) _⟩

end Go.Proofs.YtohjlfhmnmcndaaGreat
/- The walks of vals.product and vals.Reckon. -/
namespace Go.Proofs.YtohjlfhmnmcndaaGreat
open Go.RowKit

/-- A product whose one factor is more than the greatest number by the other one is too large; another one is not. -/
theorem mul_out (a b:Int) (h:(1000000000000000 / (a.natAbs:Int))<(b.natAbs:Int)) (ha:a≠0):inB (a*b)=false:=by
 apply inB_no
 have h1:1000000000000000<(a.natAbs:Int)*(b.natAbs:Int):=by
  have p:0<(a.natAbs:Int):=by omega
  have:=Int.lt_mul_of_ediv_lt p h
  rw [Int.mul_comm]; exact this
 have h2:((a*b).natAbs:Int)=(a.natAbs:Int)*(b.natAbs:Int):=by rw [Int.natAbs_mul]; exact Int.natCast_mul _ _
 rw [← h2] at h1
 omega
theorem mul_in (a b:Int) (h:(b.natAbs:Int)≤1000000000000000 / (a.natAbs:Int)) (ha:a≠0):-1000000000000000≤a*b∧a*b≤1000000000000000:=by
 have h1:(a.natAbs:Int)*(b.natAbs:Int)≤1000000000000000:=by
  have p:0<(a.natAbs:Int):=by omega
  have:=Int.mul_le_of_le_ediv p h
  rw [Int.mul_comm]; exact this
 have h2:((a*b).natAbs:Int)=(a.natAbs:Int)*(b.natAbs:Int):=by rw [Int.natAbs_mul]; exact Int.natCast_mul _ _
 rw [← h2] at h1
 omega

set_option maxHeartbeats 400000 in
theorem product_0 (b:Int) (w:World) :
  Calls Tryz.prog 251 #[.int .i64 0,.int .i64 b] w fun e w'=>e = .returned (.agg #[.int .i64 (intK (0*b)),.int .i64 (intN (0*b)),.string ⟨#[]⟩])∧Below w.heap.size w w':=by
 rw [Int.zero_mul]
 have R0:=Box.new w (.int .i64 0) (.int .i64 0) (.string ⟨#[]⟩) 24
 go_enter Tryz.func251,Tryz.ntmps251
 go_wp2_with fail
 refine (int_any _ _).mono ?_
 rintro e w1 ⟨rfl,hb1⟩
 have R1:=R0.next hb1
 have ⟨r0,r1,r2,r3,r4,r5,r6⟩:=R1
 go_wp2_with fail
 exact bodyPost_ret (v:=.agg #[.int .i64 (intK 0),.int .i64 (intN 0),.string ⟨#[]⟩]) (by simp [results,Tryz.results251,go_sem,r1,r2,r3]) rfl ⟨rfl,below_set3 (below1 hb1) (Nat.le_refl _)⟩

set_option maxHeartbeats 400000 in
theorem product_out (a b:Int) (w:World) (a0:-1000000000000000≤a) (a1:a≤1000000000000000) (b0:-1000000000000000≤b) (b1:b≤1000000000000000) (ha:a≠0) (h:(1000000000000000 / (a.natAbs:Int))<(b.natAbs:Int)) :
  Calls Tryz.prog 251 #[.int .i64 a,.int .i64 b] w fun e w'=>e = .returned (.agg #[.int .i64 1,.int .i64 0,.string ⟨#[]⟩])∧Below w.heap.size w w':=by
 have R0:=Box.new w (.int .i64 0) (.int .i64 0) (.string ⟨#[]⟩) 24
 have bn:(a != 0)=true:=by simpa using ha
 have p0:0<(a.natAbs:Int):=by omega
 have p1:(a.natAbs:Int)≤1000000000000000:=by omega
 have q0:0≤(b.natAbs:Int):=by omega
 have q1:(b.natAbs:Int)≤1000000000000000:=by omega
 go_enter Tryz.func251,Tryz.ntmps251
 go_wp2_with fail
 refine (size_any _ _ b0 b1).mono ?_
 rintro e w1 ⟨rfl,rfl⟩
 go_wp2_with fail
 refine (size_any _ _ a0 a1).mono ?_
 rintro e w1 ⟨rfl,rfl⟩
 generalize (a.natAbs:Int)=A at *
 generalize (b.natAbs:Int)=B at *
 go_wp2_with fail
 refine (null_any _).mono ?_
 rintro e w1 ⟨rfl,hb1⟩
 have R1:=R0.next hb1
 have ⟨r0,r1,r2,r3,r4,r5,r6⟩:=R1
 go_wp2_with fail
 exact bodyPost_ret (v:=.agg #[.int .i64 1,.int .i64 0,.string ⟨#[]⟩]) (by simp [results,Tryz.results251,go_sem,r1,r2,r3]) rfl ⟨rfl,below_set3 (below1 hb1) (Nat.le_refl _)⟩

set_option maxHeartbeats 400000 in
theorem product_in (a b:Int) (w:World) (a0:-1000000000000000≤a) (a1:a≤1000000000000000) (b0:-1000000000000000≤b) (b1:b≤1000000000000000) (ha:a≠0) (h:(b.natAbs:Int)≤(1000000000000000 / (a.natAbs:Int))) :
  Calls Tryz.prog 251 #[.int .i64 a,.int .i64 b] w fun e w'=>e = .returned (.agg #[.int .i64 (intK (a*b)),.int .i64 (intN (a*b)),.string ⟨#[]⟩])∧Below w.heap.size w w':=by
 have hm:=mul_in a b h ha
 obtain ⟨m0,m1⟩:=hm
 have R0:=Box.new w (.int .i64 0) (.int .i64 0) (.string ⟨#[]⟩) 24
 have bn:(a != 0)=true:=by simpa using ha
 have p0:0<(a.natAbs:Int):=by omega
 have p1:(a.natAbs:Int)≤1000000000000000:=by omega
 have q0:0≤(b.natAbs:Int):=by omega
 have q1:(b.natAbs:Int)≤1000000000000000:=by omega
 go_enter Tryz.func251,Tryz.ntmps251
 go_wp2_with fail
 refine (size_any _ _ b0 b1).mono ?_
 rintro e w1 ⟨rfl,rfl⟩
 go_wp2_with fail
 refine (size_any _ _ a0 a1).mono ?_
 rintro e w1 ⟨rfl,rfl⟩
 have ew:wrap64 (a*b)=a*b:=by unfold wrap64; omega
 generalize (a.natAbs:Int)=A at *
 generalize (b.natAbs:Int)=B at *
 go_wp2_with fail
 refine (int_any _ _).mono ?_
 rintro e w1 ⟨rfl,hb1⟩
 have R1:=R0.next hb1
 have ⟨r0,r1,r2,r3,r4,r5,r6⟩:=R1
 go_wp2_with fail
 exact bodyPost_ret (v:=.agg #[.int .i64 (intK (a*b)),.int .i64 (intN (a*b)),.string ⟨#[]⟩]) (by simp [results,Tryz.results251,go_sem,r1,r2,r3]) rfl ⟨rfl,below_set3 (below1 hb1) (Nat.le_refl _)⟩

theorem product_any (a b:Int) (w:World) (a0:-1000000000000000≤a) (a1:a≤1000000000000000) (b0:-1000000000000000≤b) (b1:b≤1000000000000000) :
  Calls Tryz.prog 251 #[.int .i64 a,.int .i64 b] w fun e w'=>e = .returned (.agg #[.int .i64 (intK (a*b)),.int .i64 (intN (a*b)),.string ⟨#[]⟩])∧Below w.heap.size w w':=by
 by_cases ha:a=0
 ·subst ha; exact product_0 b w
 by_cases h:(1000000000000000 / (a.natAbs:Int))<(b.natAbs:Int)
 ·have e:=mul_out a b h ha
  have e1:intK (a*b)=1:=by simp [intK,e]
  have e2:intN (a*b)=0:=by simp [intN,e]
  rw [e1,e2]; exact product_out a b w a0 a1 b0 b1 ha h
 ·exact product_in a b w a0 a1 b0 b1 ha (by omega)


set_option maxRecDepth 100000 in
set_option maxHeartbeats 8000000 in
theorem reckon_any (c k n k' n' : Int) (s s' : ByteArray) (w : World) :
    Calls Tryz.prog 248 #[.int .i32 c, .agg #[.int .i64 k, .int .i64 n, .string s], .agg #[.int .i64 k', .int .i64 n', .string s']] w fun e w' => e = .returned (.agg #[.int .i64 (optK (recO c k n k' n')), .int .i64 (optN (recO c k n k' n')), .string ⟨#[]⟩]) ∧ Below w.heap.size w w' := by
  have T := Two3.new w k n k' n' s s'
  have g : numB k n = true → -1000000000000000 ≤ n ∧ n ≤ 1000000000000000 := fun h => by unfold numB at h; simp at h; exact inB_t h.2
  have g' : numB k' n' = true → -1000000000000000 ≤ n' ∧ n' ≤ 1000000000000000 := fun h => by unfold numB at h; simp at h; exact inB_t h.2
  obtain ⟨o, ho⟩ : ∃ o, o = recO c k n k' n' := ⟨_, rfl⟩
  rw [← ho]
  unfold recO recT at ho
  by_cases c1 : c = 43
  rotate_left
  by_cases c2 : c = 45
  rotate_left
  by_cases c3 : c = 42
  all_goals (
    cases h1 : numB k n <;> cases h2 : numB k' n')
  all_goals (
    simp only [h1, h2, Bool.and_true, Bool.and_false, Bool.false_eq_true, if_true, if_false] at ho
    simp only [h1, Bool.false_eq_true, false_implies, forall_const] at g
    simp only [h2, Bool.false_eq_true, false_implies, forall_const] at g'
    try (rcases g with ⟨q0, q1⟩)
    try (rcases g' with ⟨p0, p1⟩)
    try simp only [c1, c2, c3, if_true, if_false] at ho
    try simp only [c1, if_true, if_false] at ho
    try simp only [c2, if_true] at ho
    try (have d1 : (c == 43) = false := by simpa using c1)
    try (have d2 : (c == 45) = false := by simpa using c2)
    try (have d3 : (c == 42) = false := by simpa using c3)
    try subst c1
    try subst c2
    try subst c3
    try simp at ho
    subst ho)
  all_goals (
    go_enter Tryz.func248, Tryz.ntmps248
    go_wp2_with fail
    generalize ((w.alloc (.cells #[.int .i64 k, .int .i64 n, .string s] 24)).alloc (.cells #[.int .i64 k', .int .i64 n', .string s'] 24)).alloc (.cells #[.int .i64 0, .int .i64 0, .string ⟨#[]⟩] 24) = W0 at *
    repeat (first | refine (isNumber_any _ _ _ _).mono ?_ | refine (int_any _ _).mono ?_ | refine (product_any _ _ _ q0 q1 p0 p1).mono ?_ | refine (null_any _).mono ?_
            rintro e w1 ⟨rfl, hb⟩
            replace T := T.next hb
            clear hb
            have ⟨a0, a1, a2, a3, a4, a5, a6⟩ := T.p
            have ⟨b0, b1, b2, b3, b4, b5, b6⟩ := T.q
            have ⟨r0, r1, r2, r3, r4, r5, r6⟩ := T.r
            try simp only [h1, h2]
            go_wp2_with fail)
    have HB := T.b
    first | exact bodyPost_ret (v := .agg #[.int .i64 1, .int .i64 0, .string ⟨#[]⟩]) (by simp [results, Tryz.results248, go_sem, r1, r2, r3]) rfl ⟨rfl, below_set3 HB (by omega)⟩ | exact bodyPost_ret (v := .agg #[.int .i64 (intK (n + n')), .int .i64 (intN (n + n')), .string ⟨#[]⟩]) (by simp [results, Tryz.results248, go_sem, r1, r2, r3]) rfl ⟨rfl, below_set3 HB (by omega)⟩ | exact bodyPost_ret (v := .agg #[.int .i64 (intK (n - n')), .int .i64 (intN (n - n')), .string ⟨#[]⟩]) (by simp [results, Tryz.results248, go_sem, r1, r2, r3]) rfl ⟨rfl, below_set3 HB (by omega)⟩ | exact bodyPost_ret (v := .agg #[.int .i64 (intK (n * n')), .int .i64 (intN (n * n')), .string ⟨#[]⟩]) (by simp [results, Tryz.results248, go_sem, r1, r2, r3]) rfl ⟨rfl, below_set3 HB (by omega)⟩)
end Go.Proofs.YtohjlfhmnmcndaaGreat
/- The walks of the document's answer, of right values: Equal, Less, And, Or, Not, Join; and of vals.Join. -/
namespace Go.Proofs.YtohjlfhmnmcndaaGreat
open Go.RowKit
def joinB (k:Int) (s:ByteArray) (k':Int) (s':ByteArray):Bool:=k == 4 && (k' == 4 && decide (s.size+s'.size≤60))
def joinK (k:Int) (s:ByteArray) (k':Int) (s':ByteArray):Int:=if joinB k s k' s' then 4 else 1
def joinS (k:Int) (s:ByteArray) (k':Int) (s':ByteArray):ByteArray:=if joinB k s k' s' then s ++ s' else ⟨#[]⟩

set_option maxHeartbeats 400000 in
theorem join_x (k n k' n':Int) (s s':ByteArray) (w:World) (h':(k != 4)=true) :
  Calls Tryz.prog 239 #[.agg #[.int .i64 k,.int .i64 n,.string s],.agg #[.int .i64 k',.int .i64 n',.string s']] w fun e w'=>e = .returned (.agg #[.int .i64 1,.int .i64 0,.string ⟨#[]⟩])∧Below w.heap.size w w':=by
 have A0:=((Box.new w (.int .i64 k) (.int .i64 n) (.string s) 24).alloc (.cells #[.int .i64 k',.int .i64 n',.string s'] 24)).alloc (.cells #[.int .i64 0,.int .i64 0,.string ⟨#[]⟩] 24)
 have B0:=(Box.new (w.alloc (.cells #[.int .i64 k,.int .i64 n,.string s] 24)) (.int .i64 k') (.int .i64 n') (.string s') 24).alloc (.cells #[.int .i64 0,.int .i64 0,.string ⟨#[]⟩] 24)
 have R0:=Box.new ((w.alloc (.cells #[.int .i64 k,.int .i64 n,.string s] 24)).alloc (.cells #[.int .i64 k',.int .i64 n',.string s'] 24)) (.int .i64 0) (.int .i64 0) (.string ⟨#[]⟩) 24
 simp only [World.size_alloc] at B0 R0
 go_enter Tryz.func239,Tryz.ntmps239
 go_wp2_with fail
 refine (null_any _).mono ?_
 rintro e w1 ⟨rfl,hb1⟩
 have A1:=A0.next hb1
 have B1:=B0.next hb1
 have R1:=R0.next hb1
 have ⟨a0,a1,a2,a3,a4,a5,a6⟩:=A1
 have ⟨b0,b1,b2,b3,b4,b5,b6⟩:=B1
 have ⟨r0,r1,r2,r3,r4,r5,r6⟩:=R1
 go_wp2_with fail
 have z1:=hb1.size
 simp at z1
 exact bodyPost_ret (v:=.agg #[.int .i64 1,.int .i64 0,.string ⟨#[]⟩]) (by simp [results,Tryz.results239,go_sem,r1,r2,r3]) rfl ⟨rfl,below_set3 (below3 hb1) (by omega)⟩

set_option maxHeartbeats 400000 in
theorem join_y (k n k' n':Int) (s s':ByteArray) (w:World) (e:k=4) (h':(k' != 4)=true) :
  Calls Tryz.prog 239 #[.agg #[.int .i64 k,.int .i64 n,.string s],.agg #[.int .i64 k',.int .i64 n',.string s']] w fun e w'=>e = .returned (.agg #[.int .i64 1,.int .i64 0,.string ⟨#[]⟩])∧Below w.heap.size w w':=by
 subst e
 have A0:=((Box.new w (.int .i64 4) (.int .i64 n) (.string s) 24).alloc (.cells #[.int .i64 k',.int .i64 n',.string s'] 24)).alloc (.cells #[.int .i64 0,.int .i64 0,.string ⟨#[]⟩] 24)
 have B0:=(Box.new (w.alloc (.cells #[.int .i64 4,.int .i64 n,.string s] 24)) (.int .i64 k') (.int .i64 n') (.string s') 24).alloc (.cells #[.int .i64 0,.int .i64 0,.string ⟨#[]⟩] 24)
 have R0:=Box.new ((w.alloc (.cells #[.int .i64 4,.int .i64 n,.string s] 24)).alloc (.cells #[.int .i64 k',.int .i64 n',.string s'] 24)) (.int .i64 0) (.int .i64 0) (.string ⟨#[]⟩) 24
 simp only [World.size_alloc] at B0 R0
 go_enter Tryz.func239,Tryz.ntmps239
 go_wp2_with fail
 refine (null_any _).mono ?_
 rintro e w1 ⟨rfl,hb1⟩
 have A1:=A0.next hb1
 have B1:=B0.next hb1
 have R1:=R0.next hb1
 have ⟨a0,a1,a2,a3,a4,a5,a6⟩:=A1
 have ⟨b0,b1,b2,b3,b4,b5,b6⟩:=B1
 have ⟨r0,r1,r2,r3,r4,r5,r6⟩:=R1
 go_wp2_with fail
 have z1:=hb1.size
 simp at z1
 exact bodyPost_ret (v:=.agg #[.int .i64 1,.int .i64 0,.string ⟨#[]⟩]) (by simp [results,Tryz.results239,go_sem,r1,r2,r3]) rfl ⟨rfl,below_set3 (below3 hb1) (by omega)⟩

set_option maxHeartbeats 400000 in
theorem join_z (k n k' n':Int) (s s':ByteArray) (w:World) (e:k=4) (e':k'=4) (z1:s.size≤60) (z2:s'.size≤60) (h:60<s.size+s'.size) :
  Calls Tryz.prog 239 #[.agg #[.int .i64 k,.int .i64 n,.string s],.agg #[.int .i64 k',.int .i64 n',.string s']] w fun e w'=>e = .returned (.agg #[.int .i64 1,.int .i64 0,.string ⟨#[]⟩])∧Below w.heap.size w w':=by
 subst e
 subst e'
 have y1:(s.size:Int)≤60:=by omega
 have y2:(s'.size:Int)≤60:=by omega
 have y3:60<(s.size:Int)+(s'.size:Int):=by omega
 have y4:¬ ((s.size:Int)+(s'.size:Int)≤60):=by omega
 have A0:=((Box.new w (.int .i64 4) (.int .i64 n) (.string s) 24).alloc (.cells #[.int .i64 4,.int .i64 n',.string s'] 24)).alloc (.cells #[.int .i64 0,.int .i64 0,.string ⟨#[]⟩] 24)
 have B0:=(Box.new (w.alloc (.cells #[.int .i64 4,.int .i64 n,.string s] 24)) (.int .i64 4) (.int .i64 n') (.string s') 24).alloc (.cells #[.int .i64 0,.int .i64 0,.string ⟨#[]⟩] 24)
 have R0:=Box.new ((w.alloc (.cells #[.int .i64 4,.int .i64 n,.string s] 24)).alloc (.cells #[.int .i64 4,.int .i64 n',.string s'] 24)) (.int .i64 0) (.int .i64 0) (.string ⟨#[]⟩) 24
 simp only [World.size_alloc] at B0 R0
 go_enter Tryz.func239,Tryz.ntmps239
 go_wp2_with fail
 refine (null_any _).mono ?_
 rintro e w1 ⟨rfl,hb1⟩
 have A1:=A0.next hb1
 have B1:=B0.next hb1
 have R1:=R0.next hb1
 have ⟨a0,a1,a2,a3,a4,a5,a6⟩:=A1
 have ⟨b0,b1,b2,b3,b4,b5,b6⟩:=B1
 have ⟨r0,r1,r2,r3,r4,r5,r6⟩:=R1
 go_wp2_with fail
 have z1:=hb1.size
 simp at z1
 exact bodyPost_ret (v:=.agg #[.int .i64 1,.int .i64 0,.string ⟨#[]⟩]) (by simp [results,Tryz.results239,go_sem,r1,r2,r3]) rfl ⟨rfl,below_set3 (below3 hb1) (by omega)⟩

set_option maxHeartbeats 400000 in
theorem join_j (k n k' n':Int) (s s':ByteArray) (w:World) (e:k=4) (e':k'=4) (z1:s.size≤60) (z2:s'.size≤60) (h:s.size+s'.size≤60) :
  Calls Tryz.prog 239 #[.agg #[.int .i64 k,.int .i64 n,.string s],.agg #[.int .i64 k',.int .i64 n',.string s']] w fun e w'=>e = .returned (.agg #[.int .i64 4,.int .i64 0,.string (s ++ s')])∧Below w.heap.size w w':=by
 subst e
 subst e'
 have y1:(s.size:Int)≤60:=by omega
 have y2:(s'.size:Int)≤60:=by omega
 have y3:¬ 60<(s.size:Int)+(s'.size:Int):=by omega
 have y4:(s.size:Int)+(s'.size:Int)≤60:=by omega
 go_enter Tryz.func239,Tryz.ntmps239
 go_wp2_with fail
 exact bodyPost_ret (v:=.agg #[.int .i64 4,.int .i64 0,.string (s ++ s')]) (by simp [results,Tryz.results239,go_sem]) rfl ⟨rfl,(((Below.refl _ _).alloc (Nat.le_refl _) _).alloc (by simp) _).alloc (by simp; omega) _⟩

theorem join_any (k n k' n':Int) (s s':ByteArray) (w:World) (z:k=4→s.size≤60) (z':k'=4→s'.size≤60) :
  Calls Tryz.prog 239 #[.agg #[.int .i64 k,.int .i64 n,.string s],.agg #[.int .i64 k',.int .i64 n',.string s']] w fun e w'=>e = .returned (.agg #[.int .i64 (joinK k s k' s'),.int .i64 0,.string (joinS k s k' s')])∧Below w.heap.size w w':=by
 by_cases h:k=4
 ·by_cases h':k'=4
  ·by_cases hs:s.size+s'.size≤60
   ·have e:joinB k s k' s'=true:=by simp [joinB,h,h',hs]
    have e1:joinK k s k' s'=4:=by simp [joinK,e]
    have e2:joinS k s k' s'=s ++ s':=by simp [joinS,e]
    rw [e1,e2]; exact join_j k n k' n' s s' w h h' (z h) (z' h') hs
   ·have e:joinB k s k' s'=false:=by simp [joinB,hs]
    have e1:joinK k s k' s'=1:=by simp [joinK,e]
    have e2:joinS k s k' s'=⟨#[]⟩:=by simp [joinS,e]
    rw [e1,e2]; exact join_z k n k' n' s s' w h h' (z h) (z' h') (by omega)
  ·have e:joinB k s k' s'=false:=by simp [joinB,h']
   have e1:joinK k s k' s'=1:=by simp [joinK,e]
   have e2:joinS k s k' s'=⟨#[]⟩:=by simp [joinS,e]
   rw [e1,e2]; exact join_y k n k' n' s s' w h (by simpa using h')
 ·have e:joinB k s k' s'=false:=by simp [joinB,h]
  have e1:joinK k s k' s'=1:=by simp [joinK,e]
  have e2:joinS k s k' s'=⟨#[]⟩:=by simp [joinS,e]
  rw [e1,e2]; exact join_x k n k' n' s s' w (by simpa using h)

end Go.Proofs.YtohjlfhmnmcndaaGreat
/- What expressions come to. No program in sight. -/
namespace Go.Proofs.YtohjlfhmnmcndaaGreat

def tri (o:Option Bool):Vl:=(tk o,tn o,⟨#[]⟩)
def clsP (v:Vl):Option Bool:=cls v.1 v.2.1
def andP (a b:Vl):Vl:=tri (and3 (clsP a) (clsP b))
def orP (a b:Vl):Vl:=tri (or3 (clsP a) (clsP b))
def notP (a:Vl):Vl:=tri (not3 (clsP a))
def eqP (a b:Vl):Vl:=tri (eqT a.1 a.2.1 a.2.2 b.1 b.2.1 b.2.2)
def ltP (a b:Vl):Vl:=tri (ltT a.1 a.2.1 a.2.2 b.1 b.2.1 b.2.2)
def recP (c:Int) (a b:Vl):Vl:=(optK (recO c a.1 a.2.1 b.1 b.2.1),optN (recO c a.1 a.2.1 b.1 b.2.1),⟨#[]⟩)
def joinP (a b:Vl):Vl:=(joinK a.1 a.2.2 b.1 b.2.2,0,joinS a.1 a.2.2 b.1 b.2.2)
def coalP (a b:Vl):Vl:=if a.1=1 then b else a
def vl0:Vl:=(0,0,⟨#[]⟩)
/-- What a kind of two kids makes of what they come to. -/
def twoP (k:Int) (a b:Vl):Vl :=
 if k=4 then andP a b else if k=5 then orP a b else if k=6 then eqP a b else if k=7 then notP (eqP a b)
 else if k=8 then ltP a b else if k=11 then notP (ltP a b) else if k=10 then ltP b a else if k=9 then notP (ltP b a)
 else if k=12 then recP 43 a b else if k=13 then recP 45 a b else if k=14 then recP 42 a b else if k=15 then joinP a b else coalP a b
def nodeV (row:List Vl) (k:Int) (v:Vl) (c:Int) (us:List Vl):Vl :=
 if k=1 then bareP v else if k=2 then bareP (row.getD c.toNat vl0) else if k=3 then notP (us.getD 0 vl0)
 else if k=16 then tri (some ((us.getD 0 vl0).1 == 1))
 else if k=17 then (if clsP (us.getD 0 vl0) == some true then us.getD 1 vl0 else us.getD 2 vl0)
 else twoP k (us.getD 0 vl0) (us.getD 1 vl0)
mutual
def valX (row:List Vl):Ex→Vl | .mk k v c ks=>nodeV row k v c (valsX row ks)
def valsX (row:List Vl):List Ex→List Vl | []=>[] | x :: r=>valX row x :: valsX row r
end
theorem valsX_map (row:List Vl):∀ ks,valsX row ks=ks.map (valX row)
 | []=>rfl
 | x :: r=>by rw [valsX,valsX_map row r]; rfl

/-! Right values. -/
theorem wrong_tri (o:Option Bool):wrongP (tri o)=0:=by rcases o with _ | _ | _ <;> rfl
theorem kind_tri (o:Option Bool):(tri o).1=1∨(tri o).1=2:=by rcases o with _ | _ <;> simp [tri,tk]
theorem wrong_bareX (v:Vl):wrongP (bareP v)=wrongP v:=by
 obtain ⟨k,n,s⟩:=v
 unfold wrongP bareP wrongF bareN bareS
 by_cases h1:k=1
 ·simp [h1]
 by_cases h2:k=2
 ·simp [h2]
 by_cases h3:k=3
 ·simp [h3]
 by_cases h4:k=4
 ·simp [h4]
 simp [h1,h2,h3,h4]
theorem wrong_rec (c:Int) (a b:Vl):wrongP (recP c a b)=0∧((recP c a b).1=1∨(recP c a b).1=3):=by
 unfold recP wrongP
 rcases recO c a.1 a.2.1 b.1 b.2.1 with _ | x
 ·simp [optK,wrongF]
 ·by_cases h:inB x=true
  ·have h':=h
   simp only [inB,Bool.and_eq_true,decide_eq_true_eq] at h'
   simp [optK,optN,intK,intN,h,wrongF,h']
  ·simp [optK,intK,h,wrongF]
theorem wrong_join (a b:Vl):wrongP (joinP a b)=0∧((joinP a b).1=1∨(joinP a b).1=4):=by
 unfold joinP wrongP joinK joinS
 by_cases h:joinB a.1 a.2.2 b.1 b.2.2=true
 ·have h':=h
  simp only [joinB,Bool.and_eq_true,decide_eq_true_eq] at h'
  simp [h,wrongF,h']
 ·simp [h,wrongF]
theorem two_cmp {k:Int} (h:6≤k) (h':k≤11) (a b:Vl):∃ o,twoP k a b=tri o:=by
 obtain rfl | rfl | rfl | rfl | rfl | rfl:k=6∨k=7∨k=8∨k=9∨k=10∨k=11:=by omega
 all_goals exact ⟨_,rfl⟩
theorem two_rec {k:Int} (h:12≤k) (h':k≤14) (a b:Vl):∃ c,twoP k a b=recP c a b:=by
 obtain rfl | rfl | rfl:k=12∨k=13∨k=14:=by omega
 all_goals exact ⟨_,rfl⟩
theorem two_coal {k:Int} (h:k<4∨15<k) (a b:Vl):twoP k a b=coalP a b:=by
 unfold twoP
 rw [if_neg (by omega),if_neg (by omega),if_neg (by omega),if_neg (by omega),if_neg (by omega),if_neg (by omega),if_neg (by omega),if_neg (by omega),if_neg (by omega),if_neg (by omega),if_neg (by omega),if_neg (by omega)]
def fitsG:List Int→List Vl→Int
 | c :: cs,v :: vs=>if wrongP v≠0 then wrongP v else if v.1≠1∧v.1≠c then 9 else fitsG cs vs
 | _,_=>0
def fitsL (cols:List Int) (row:List Vl):Int:=if row.length≠cols.length then 8 else fitsG cols row
theorem fitsG_ok:∀ (cols:List Int) (row:List Vl),row.length=cols.length→(fitsG cols row=0↔∀ i (h:i<row.length),wrongP row[i]=0∧(row[i].1=1∨row[i].1=cols.getD i 0))
 | [],[],_=>by simp [fitsG]
 | [],_ :: _,h=>by simp at h
 | _ :: _,[],h=>by simp at h
 | c :: cs,v :: vs,h=>by
  have ih:=fitsG_ok cs vs (by simpa using h)
  rw [fitsG]
  by_cases h1:wrongP v=0
  ·rw [if_neg (by simp [h1])]
   by_cases h2:v.1≠1∧v.1≠c
   ·rw [if_pos h2]
    simp only [show ¬ (9:Int)=0 by decide,false_iff]
    intro hh
    have:=(hh 0 (by simp)).2
    simp at this
    omega
   ·rw [if_neg h2,ih]
    constructor
    ·intro hh i hi
     match i,hi with
     | 0,_ =>
      refine ⟨h1,?_⟩
      simp
      omega
     | i+1,hi =>
      have:=hh i (by simpa using hi)
      simpa using this
    ·intro hh i hi
     have:=hh (i+1) (by simpa using hi)
     simpa using this
  ·rw [if_pos h1]
   constructor
   ·intro hh; exact absurd hh h1
   ·intro hh; exact absurd (hh 0 (by simp)).1 h1
structure FitP (cols:List Int) (row:List Vl):Prop where
 len:row.length=cols.length
 one:∀ i (h:i<row.length),wrongP row[i]=0∧(row[i].1=1∨row[i].1=cols.getD i 0)
theorem fitsL_ok (cols:List Int) (row:List Vl):fitsL cols row=0↔FitP cols row:=by
 unfold fitsL
 by_cases h:row.length=cols.length
 ·rw [if_neg (by simp [h]),fitsG_ok cols row h]
  exact ⟨fun k=>⟨h,k⟩,fun k=>k.2⟩
 ·rw [if_pos h]
  simp only [show ¬ (8:Int)=0 by decide,false_iff]
  exact fun k=>h k.1

/-! What has a type goes not wrong. -/
theorem tog_some {a b t:Int} (h:tog a b=some t):(a=1∧t=b)∨(b=1∧t=a)∨(a=t∧b=t):=by
 unfold tog at h
 split at h
 ·rename_i h1; rcases h1 with h1 | h1
  ·right; right; simp at h; omega
  ·right; left; simp at h; omega
 ·split at h
  ·left; simp at h; omega
  ·simp at h
theorem allO_some {t u:Int} {ts:List Int} (h:allO t ts=some u):u=t:=by
 unfold allO at h
 split at h
 ·simpa using h.symm
 ·simp at h
theorem typsP_len {cols:List Int}:∀ {ks:List Ex} {ts:List Int},typsP cols ks=some ts→ts.length=ks.length
 | [],ts,h=>by simp [typsP] at h; simp [h]
 | x :: r,ts,h=>by
  rw [typsP,Option.bind_eq_some_iff] at h
  obtain ⟨t,_,h⟩:=h
  rw [Option.map_eq_some_iff] at h
  obtain ⟨us,h,rfl⟩:=h
  simp [typsP_len h]
theorem typsP_at {cols:List Int}:∀ {ks:List Ex} {ts:List Int},typsP cols ks=some ts→∀ (i:Nat) (h:i<ks.length),typP cols ks[i]=some (ts.getD i 0)
 | [],ts,_=>by intro i h; simp at h
 | x :: r,ts,h=>by
  rw [typsP,Option.bind_eq_some_iff] at h
  obtain ⟨t,h0,h⟩:=h
  rw [Option.map_eq_some_iff] at h
  obtain ⟨us,h,rfl⟩:=h
  intro i hi
  match i,hi with
  | 0,_=>simpa using h0
  | i+1,hi=>simpa using typsP_at h i (by simpa using hi)
/-- What a typed node is. -/
theorem typP_node {cols:List Int} {k:Int} {v:Vl} {c:Int} {ks:List Ex} {t:Int} (h:typP cols (.mk k v c ks)=some t) :
  1≤k∧k≤18∧ks.length=kidsN k∧∃ ts,typsP cols ks=some ts∧nodeT cols k v c ts=(t,0):=by
 rw [typP] at h
 split at h
 ·simp at h
 ·rename_i hk
  rw [Option.bind_eq_some_iff] at h
  obtain ⟨ts,h1,h2⟩:=h
  split at h2
  ·rename_i h3
   refine ⟨by omega,by omega,by omega,ts,h1,?_⟩
   simp at h2
   exact Prod.ext h2 h3
  ·simp at h2
theorem litT_ok {v:Vl} {t:Int} (h:litT v=(t,0)):wrongP v=0∧v.1=t:=by
 unfold litT at h
 split at h
 ·rename_i hw; simp at h; exact ⟨hw,h⟩
 ·rename_i hw; simp at h; exact absurd h.2 hw
theorem colT_ok {cols:List Int} {c t:Int} (h:colT cols c=(t,0)):0≤c∧c.toNat<cols.length∧cols.getD c.toNat 0=t:=by
 unfold colT at h
 split at h
 ·simp at h
 ·rename_i hc
  simp only [Prod.mk.injEq,and_true] at h
  exact ⟨by omega,by omega,h⟩
theorem resT_ok {o:Option Int} {t:Int} (h:resT o=(t,0)):o=some t:=by
 cases o with
 | none=>simp [resT] at h
 | some u=>simp [resT] at h; rw [h]
/-- One value of a type, or not known; and right. -/
def Of (t:Int) (u:Vl):Prop:=wrongP u=0∧(u.1=1∨u.1=t)
theorem of_tri (o:Option Bool):Of 2 (tri o):=⟨wrong_tri o,kind_tri o⟩
theorem of_tog1 {a b t:Int} {u:Vl} (h:tog a b=some t) (hu:Of a u):Of t u:=by
 refine ⟨hu.1,?_⟩
 rcases tog_some h with ⟨q,rfl⟩ | ⟨_,rfl⟩ | ⟨rfl,_⟩
 ·left; rcases hu.2 with e | e <;> omega
 ·exact hu.2
 ·exact hu.2
theorem of_tog2 {a b t:Int} {u:Vl} (h:tog a b=some t) (hu:Of b u):Of t u:=by
 refine ⟨hu.1,?_⟩
 rcases tog_some h with ⟨_,rfl⟩ | ⟨q,rfl⟩ | ⟨_,rfl⟩
 ·exact hu.2
 ·left; rcases hu.2 with e | e <;> omega
 ·exact hu.2
theorem valX_of {cols:List Int} {row:List Vl} (hf:FitP cols row):∀ x t,typP cols x=some t→Of t (valX row x):=by
 refine Ex.ind fun k v c ks ih t h=>?_
 obtain ⟨h1,h18,hl,ts,hts,hn⟩:=typP_node h
 have hlen:=typsP_len hts
 have hkid:∀ i (hi:i<ks.length),Of (ts.getD i 0) ((valsX row ks).getD i vl0):=by
  intro i hi
  have:=ih ks[i] (List.getElem_mem _) _ (typsP_at hts i hi)
  rw [valsX_map]
  simpa [List.getD,hi] using this
 rw [valX]
 generalize valsX row ks=us at hkid
 unfold nodeT at hn
 unfold nodeV
 split at hn
 ·rename_i hk
  rw [if_pos hk]
  obtain ⟨q1,q2⟩:=litT_ok hn
  exact ⟨(wrong_bareX v).trans q1,.inr q2⟩
 rename_i hk1
 rw [if_neg hk1]
 split at hn
 ·rename_i hk
  rw [if_pos hk]
  obtain ⟨q0,q1,q2⟩:=colT_ok hn
  have hl':=hf.len
  have:=hf.one c.toNat (by omega)
  rw [q2] at this
  have e:row.getD c.toNat vl0=row[c.toNat]'(by omega):=by simp [List.getD,show c.toNat<row.length by omega]
  rw [e]
  exact ⟨(wrong_bareX _).trans this.1,this.2⟩
 rename_i hk2
 rw [if_neg hk2]
 have hn:=resT_ok hn
 unfold kidsT at hn
 have l2:k≠3→k≠16→k≠17→ks.length=2:=by
  intro h3 h16 h17
  rw [hl]; unfold kidsN
  rw [if_neg (by omega),if_neg (by omega),if_neg h17]
 by_cases hk3:k=3
 ·rw [if_pos hk3]
  rw [if_pos (by omega)] at hn
  rw [allO_some hn]
  exact of_tri _
 rw [if_neg hk3]
 by_cases hk16:k=16
 ·rw [if_pos hk16]
  subst hk16
  simp at hn
  rw [← hn]
  exact of_tri _
 rw [if_neg hk16]
 by_cases hk17:k=17
 ·rw [if_pos hk17]
  subst hk17
  have l3:ks.length=3:=hl
  simp only [show ¬ ((17:Int)=3∨(17:Int)=4∨(17:Int)=5) by decide,show ¬ (6≤(17:Int)∧(17:Int)≤11) by decide,show ¬ ((17:Int)=12∨(17:Int)=13∨(17:Int)=14) by decide,show ¬ (17:Int)=15 by decide,show ¬ (17:Int)=16 by decide,if_false,if_true] at hn
  split at hn
  ·split
   ·exact of_tog1 hn (hkid 1 (by omega))
   ·exact of_tog2 hn (hkid 2 (by omega))
  ·simp at hn
 rw [if_neg hk17]
 have l2:=l2 hk3 hk16 hk17
 have k0:=hkid 0 (by omega)
 have k1:=hkid 1 (by omega)
 by_cases b4:k=4
 ·rw [if_pos (by omega)] at hn; rw [allO_some hn,b4]; exact of_tri _
 by_cases b5:k=5
 ·rw [if_pos (by omega)] at hn; rw [allO_some hn,b5]; exact of_tri _
 rw [if_neg (by omega)] at hn
 by_cases b6:6≤k∧k≤11
 ·rw [if_pos b6] at hn
  have ht:t=2:=by
   split at hn <;> simp at hn; exact hn.symm
  subst ht
  obtain ⟨o,e⟩:=two_cmp b6.1 b6.2 (us.getD 0 vl0) (us.getD 1 vl0)
  rw [e]
  exact of_tri _
 rw [if_neg b6] at hn
 by_cases b12:k=12∨k=13∨k=14
 ·rw [if_pos b12] at hn
  have ht:=allO_some hn
  subst ht
  obtain ⟨o,e⟩:=two_rec (by omega) (by omega) (us.getD 0 vl0) (us.getD 1 vl0) (k:=k)
  rw [e]
  exact wrong_rec _ _ _
 rw [if_neg b12] at hn
 by_cases b15:k=15
 ·rw [if_pos b15] at hn
  have ht:=allO_some hn
  subst ht
  rw [b15]
  exact wrong_join _ _
 rw [if_neg b15,if_neg hk16,if_neg hk17] at hn
 rw [two_coal (by omega)]
 unfold coalP
 split
 ·exact of_tog2 hn k1
 ·exact of_tog1 hn k0
end Go.Proofs.YtohjlfhmnmcndaaGreat
/- What two values are made to: And, Or, .. as function values; denied, turned, reckoned, firstKnown, ofTwo. -/
namespace Go.Proofs.YtohjlfhmnmcndaaGreat
open Go.RowKit

theorem wrong_text {v:Vl} (h:wrongP v=0):v.1=4→v.2.2.size≤60:=by
 obtain ⟨k,n,s⟩:=v
 intro e
 simp only at e
 subst e
 unfold wrongP wrongF at h
 simp at h
 exact h
/-- All blocks from lo on are as they were. -/
def Since (lo:Nat) (w W:World):Prop:=w.heap.size≤W.heap.size∧∀ k,lo≤k→k<w.heap.size→W.heap[k]? = w.heap[k]?
theorem Since.refl (lo:Nat) (w:World):Since lo w w:=⟨Nat.le_refl _,fun _ _ _=>rfl⟩
theorem Since.trans {lo:Nat} {a b c:World} (h:Since lo a b) (k:Since lo b c):Since lo a c :=
 ⟨Nat.le_trans h.1 k.1,fun i hi hl=>(k.2 i hi (Nat.lt_of_lt_of_le hl h.1)).trans (h.2 i hi hl)⟩
theorem Since.of {lo:Nat} {w W:World} (h:Below w.heap.size w W):Since lo w W:=⟨h.size,fun k _ hk=>h.block k hk⟩
theorem Since.up {lo lo':Nat} {w W:World} (h:Since lo w W) (hl:lo≤lo'):Since lo' w W:=⟨h.1,fun k hk=>h.2 k (Nat.le_trans hl hk)⟩
theorem Since.cell {lo:Nat} {w W:World} (h:Since lo w W) {p:Addr} (h1:lo≤p.block) (h2:p.block<w.heap.size):W.cell? p=w.cell? p:=World.cell?_of_block (w:=w) (h.2 p.block h1 h2)
theorem Since.set {lo:Nat} {w W:World} (h:Since lo w W) (g o:Nat) (u:Value) (hg:g<lo):Since lo w (W.setCell ⟨g,o,none⟩ u) :=
 ⟨by simpa using h.1,fun k hk hl=>(Below.heap_setCell W ⟨g,o,none⟩ u k (by show k≠g; omega)).trans (h.2 k hk hl)⟩
/-- A function value makes f of two right values, as long as all from lo on is as it was. -/
def Fn2 (lo:Nat) (u:Value) (f:Vl→Vl→Vl) (w:World):Prop :=
 ∃ g cb,u = .func (.func g) #[] cb∧(∀ args w,(callFunc g args).run Tryz.prog w = .ok (.enter g args) w) ∧
  ∀ (p q:Vl) (W:World),wrongP p=0→wrongP q=0→Since lo w W→Calls Tryz.prog g (#[agV p,agV q] ++ cb) W fun e w'=>e = .returned (agV (f p q))∧Below W.heap.size W w'
theorem Fn2.next {lo:Nat} {u:Value} {f:Vl→Vl→Vl} {w w1:World} (h:Fn2 lo u f w) (hb:Since lo w w1):Fn2 lo u f w1:=by
 obtain ⟨g,cb,e,eg,hd⟩:=h
 exact ⟨g,cb,e,eg,fun p q W hp hq hW=>hd p q W hp hq (hb.trans hW)⟩

theorem fn_and (lo:Nat) (w:World):Fn2 lo (.func (.func 232) #[] #[]) andP w :=
 ⟨232,#[],rfl,enters_of Tryz.func232 (by kernel_rfl) rfl,fun p q W _ _ _=>by rw [Array.append_empty]; exact and_any p.1 p.2.1 q.1 q.2.1 p.2.2 q.2.2 W⟩
theorem fn_or (lo:Nat) (w:World):Fn2 lo (.func (.func 233) #[] #[]) orP w :=
 ⟨233,#[],rfl,enters_of Tryz.func233 (by kernel_rfl) rfl,fun p q W _ _ _=>by rw [Array.append_empty]; exact or_any p.1 p.2.1 q.1 q.2.1 p.2.2 q.2.2 W⟩
theorem fn_eq (lo:Nat) (w:World):Fn2 lo (.func (.func 234) #[] #[]) eqP w :=
 ⟨234,#[],rfl,enters_of Tryz.func234 (by kernel_rfl) rfl,fun p q W _ _ _=>by rw [Array.append_empty]; exact equal_any p.1 p.2.1 q.1 q.2.1 p.2.2 q.2.2 W⟩
theorem fn_lt (lo:Nat) (w:World):Fn2 lo (.func (.func 236) #[] #[]) ltP w :=
 ⟨236,#[],rfl,enters_of Tryz.func236 (by kernel_rfl) rfl,fun p q W _ _ _=>by rw [Array.append_empty]; exact less_any p.1 p.2.1 q.1 q.2.1 p.2.2 q.2.2 W⟩
theorem fn_join (lo:Nat) (w:World):Fn2 lo (.func (.func 239) #[] #[]) joinP w :=
 ⟨239,#[],rfl,enters_of Tryz.func239 (by kernel_rfl) rfl,fun p q W hp hq _=>by rw [Array.append_empty]; exact join_any p.1 p.2.1 q.1 q.2.1 p.2.2 q.2.2 W (wrong_text hp) (wrong_text hq)⟩

set_option maxHeartbeats 800000 in
theorem first_at (p q:Vl) (w:World):Calls Tryz.prog 240 #[agV p,agV q] w fun e w'=>e = .returned (agV (coalP p q))∧Below w.heap.size w w':=by
 obtain ⟨k,n,s⟩:=p
 obtain ⟨k',n',s'⟩:=q
 by_cases h:k=1
 ·subst h
  have e:coalP (1,n,s) (k',n',s')=(k',n',s'):=rfl
  rw [e]
  go_enter Tryz.func240,Tryz.ntmps240
  go_wp2_with fail
  have A0:=((Box.new w (.int .i64 1) (.int .i64 n) (.string s) 24).alloc (.cells #[.int .i64 k',.int .i64 n',.string s'] 24)).alloc (.cells #[.int .i64 0,.int .i64 0,.string ⟨#[]⟩] 24)
  have B0:=(Box.new (w.alloc (.cells #[.int .i64 1,.int .i64 n,.string s] 24)) (.int .i64 k') (.int .i64 n') (.string s') 24).alloc (.cells #[.int .i64 0,.int .i64 0,.string ⟨#[]⟩] 24)
  have R0:=Box.new ((w.alloc (.cells #[.int .i64 1,.int .i64 n,.string s] 24)).alloc (.cells #[.int .i64 k',.int .i64 n',.string s'] 24)) (.int .i64 0) (.int .i64 0) (.string ⟨#[]⟩) 24
  simp only [World.size_alloc] at B0 R0
  refine (isNull_at _ _ _ _).mono ?_
  rintro e w1 ⟨rfl,hb1⟩
  have ⟨b0,b1,b2,b3,b4,b5,b6⟩:=B0.next hb1
  have ⟨r0,r1,r2,r3,r4,r5,r6⟩:=R0.next hb1
  have z1:=hb1.size
  simp at z1
  go_wp2_with fail
  exact bodyPost_ret (v:=.agg #[.int .i64 k',.int .i64 n',.string s']) (by simp [results,Tryz.results240,go_sem,r1,r2,r3]) rfl ⟨rfl,below_set3 (below3 hb1) (by omega)⟩
 ·have e:coalP (k,n,s) (k',n',s')=(k,n,s):=by simp [coalP,h]
  rw [e]
  have q1:(k == 1)=false:=by simpa using h
  go_enter Tryz.func240,Tryz.ntmps240
  go_wp2_with fail
  have A0:=((Box.new w (.int .i64 k) (.int .i64 n) (.string s) 24).alloc (.cells #[.int .i64 k',.int .i64 n',.string s'] 24)).alloc (.cells #[.int .i64 0,.int .i64 0,.string ⟨#[]⟩] 24)
  have R0:=Box.new ((w.alloc (.cells #[.int .i64 k,.int .i64 n,.string s] 24)).alloc (.cells #[.int .i64 k',.int .i64 n',.string s'] 24)) (.int .i64 0) (.int .i64 0) (.string ⟨#[]⟩) 24
  simp only [World.size_alloc] at R0
  refine (isNull_at _ _ _ _).mono ?_
  rintro e w1 ⟨rfl,hb1⟩
  rw [q1]
  have ⟨b0,b1,b2,b3,b4,b5,b6⟩:=A0.next hb1
  have ⟨r0,r1,r2,r3,r4,r5,r6⟩:=R0.next hb1
  have z1:=hb1.size
  simp at z1
  go_wp2_with fail
  exact bodyPost_ret (v:=.agg #[.int .i64 k,.int .i64 n,.string s]) (by simp [results,Tryz.results240,go_sem,r1,r2,r3]) rfl ⟨rfl,below_set3 (below3 hb1) (by omega)⟩
theorem fn_coal (lo:Nat) (w:World):Fn2 lo (.func (.func 240) #[] #[]) coalP w :=
 ⟨240,#[],rfl,enters_of Tryz.func240 (by kernel_rfl) rfl,fun p q W _ _ _=>by rw [Array.append_empty]; exact first_at p q W⟩
end Go.Proofs.YtohjlfhmnmcndaaGreat
/- denied, turned, reckoned as function values. -/
namespace Go.Proofs.YtohjlfhmnmcndaaGreat
open Go.RowKit

set_option maxHeartbeats 1000000 in
theorem denied1_at (g:Nat) (cb:Array Value) (f:Vl→Vl→Vl) (b:Nat) (p q:Vl) (W:World) (hb:b<W.heap.size) (hc:W.cell? ⟨b,0,none⟩=some (.func (.func g) #[] cb))
  (eg:∀ args w,(callFunc g args).run Tryz.prog w = .ok (.enter g args) w) (hd:∀ W',Below W.heap.size W W'→Calls Tryz.prog g (#[agV p,agV q] ++ cb) W' fun e w'=>e = .returned (agV (f p q))∧Below W'.heap.size W' w') :
  Calls Tryz.prog 245 #[agV p,agV q,.pointer (some ⟨b,0,none⟩)] W fun e w'=>e = .returned (agV (notP (f p q)))∧Below W.heap.size W w':=by
 have e:notP (f p q)=(tk (not3 (cls (f p q).1 (f p q).2.1)),tn (not3 (cls (f p q).1 (f p q).2.1)),⟨#[]⟩):=rfl
 rw [e]
 clear e
 generalize f p q=r at *
 have con:=hd _ (below3 (Below.refl _ (((W.alloc (.cells #[.int .i64 p.1,.int .i64 p.2.1,.string p.2.2] 24)).alloc (.cells #[.int .i64 q.1,.int .i64 q.2.1,.string q.2.2] 24)).alloc (.cells #[.int .i64 0,.int .i64 0,.string ⟨#[]⟩] 24))))
 have A0:=((Box.new W (.int .i64 p.1) (.int .i64 p.2.1) (.string p.2.2) 24).alloc (.cells #[.int .i64 q.1,.int .i64 q.2.1,.string q.2.2] 24)).alloc (.cells #[.int .i64 0,.int .i64 0,.string ⟨#[]⟩] 24)
 have B0:=(Box.new (W.alloc (.cells #[.int .i64 p.1,.int .i64 p.2.1,.string p.2.2] 24)) (.int .i64 q.1) (.int .i64 q.2.1) (.string q.2.2) 24).alloc (.cells #[.int .i64 0,.int .i64 0,.string ⟨#[]⟩] 24)
 have R0:=Box.new ((W.alloc (.cells #[.int .i64 p.1,.int .i64 p.2.1,.string p.2.2] 24)).alloc (.cells #[.int .i64 q.1,.int .i64 q.2.1,.string q.2.2] 24)) (.int .i64 0) (.int .i64 0) (.string ⟨#[]⟩) 24
 have hA:Below W.heap.size W (((W.alloc (.cells #[.int .i64 p.1,.int .i64 p.2.1,.string p.2.2] 24)).alloc (.cells #[.int .i64 q.1,.int .i64 q.2.1,.string q.2.2] 24)).alloc (.cells #[.int .i64 0,.int .i64 0,.string ⟨#[]⟩] 24)):=below3 (Below.refl _ _)
 have c3:=(hA.cell (p:=⟨b,0,none⟩) hb).trans hc
 simp only [World.size_alloc] at B0 R0
 clear hd A0 B0
 go_enter Tryz.func245,Tryz.ntmps245
 go_wp2_with (go_at_fn g; refine con.mono ?_)
 rintro e w1 ⟨rfl,hb1⟩
 have R1:=R0.next hb1
 have hb1':=chain hA hb1
 have z1:=hb1.size
 simp at z1
 go_wp2_with fail
 refine (not_any _ _ _ _).mono ?_
 rintro e w2 ⟨rfl,hb2⟩
 have ⟨r0,r1,r2,r3,r4,r5,r6⟩:=R1.next hb2
 have hb2':=chain hb1' hb2
 clear con R0 R1
 go_wp2_with fail
 exact bodyPost_ret (v:=.agg #[.int .i64 (tk (not3 (cls r.1 r.2.1))),.int .i64 (tn (not3 (cls r.1 r.2.1))),.string ⟨#[]⟩]) (by simp [results,Tryz.results245,go_sem,r1,r2,r3]) rfl ⟨rfl,below_set3 hb2' (by omega)⟩

set_option maxHeartbeats 1000000 in
theorem turned1_at (g:Nat) (cb:Array Value) (f:Vl→Vl→Vl) (b:Nat) (p q:Vl) (W:World) (hb:b<W.heap.size) (hc:W.cell? ⟨b,0,none⟩=some (.func (.func g) #[] cb))
  (eg:∀ args w,(callFunc g args).run Tryz.prog w = .ok (.enter g args) w) (hd:∀ W',Below W.heap.size W W'→Calls Tryz.prog g (#[agV q,agV p] ++ cb) W' fun e w'=>e = .returned (agV (f q p))∧Below W'.heap.size W' w') :
  Calls Tryz.prog 246 #[agV p,agV q,.pointer (some ⟨b,0,none⟩)] W fun e w'=>e = .returned (agV (f q p))∧Below W.heap.size W w':=by
 generalize f q p=r at *
 have con:=hd _ (below3 (Below.refl _ (((W.alloc (.cells #[.int .i64 p.1,.int .i64 p.2.1,.string p.2.2] 24)).alloc (.cells #[.int .i64 q.1,.int .i64 q.2.1,.string q.2.2] 24)).alloc (.cells #[.int .i64 0,.int .i64 0,.string ⟨#[]⟩] 24))))
 have A0:=((Box.new W (.int .i64 p.1) (.int .i64 p.2.1) (.string p.2.2) 24).alloc (.cells #[.int .i64 q.1,.int .i64 q.2.1,.string q.2.2] 24)).alloc (.cells #[.int .i64 0,.int .i64 0,.string ⟨#[]⟩] 24)
 have B0:=(Box.new (W.alloc (.cells #[.int .i64 p.1,.int .i64 p.2.1,.string p.2.2] 24)) (.int .i64 q.1) (.int .i64 q.2.1) (.string q.2.2) 24).alloc (.cells #[.int .i64 0,.int .i64 0,.string ⟨#[]⟩] 24)
 have R0:=Box.new ((W.alloc (.cells #[.int .i64 p.1,.int .i64 p.2.1,.string p.2.2] 24)).alloc (.cells #[.int .i64 q.1,.int .i64 q.2.1,.string q.2.2] 24)) (.int .i64 0) (.int .i64 0) (.string ⟨#[]⟩) 24
 have hA:Below W.heap.size W (((W.alloc (.cells #[.int .i64 p.1,.int .i64 p.2.1,.string p.2.2] 24)).alloc (.cells #[.int .i64 q.1,.int .i64 q.2.1,.string q.2.2] 24)).alloc (.cells #[.int .i64 0,.int .i64 0,.string ⟨#[]⟩] 24)):=below3 (Below.refl _ _)
 have c3:=(hA.cell (p:=⟨b,0,none⟩) hb).trans hc
 simp only [World.size_alloc] at B0 R0
 clear hd A0 B0
 go_enter Tryz.func246,Tryz.ntmps246
 go_wp2_with (go_at_fn g; refine con.mono ?_)
 rintro e w1 ⟨rfl,hb1⟩
 have ⟨r0,r1,r2,r3,r4,r5,r6⟩:=R0.next hb1
 have hb1':=chain hA hb1
 have z1:=hb1.size
 simp at z1
 clear con R0
 go_wp2_with fail
 exact bodyPost_ret (v:=agV r) (by simp [results,Tryz.results246,go_sem,r1,r2,r3]) rfl ⟨rfl,below_set3 hb1' (by omega)⟩

set_option maxHeartbeats 1000000 in
theorem reckoned1_at (c:Int) (b:Nat) (p q:Vl) (W:World) (hb:b<W.heap.size) (hc:W.cell? ⟨b,0,none⟩=some (.int .i32 c)) :
  Calls Tryz.prog 247 #[agV p,agV q,.pointer (some ⟨b,0,none⟩)] W fun e w'=>e = .returned (agV (recP c p q))∧Below W.heap.size W w':=by
 have e:recP c p q=(optK (recO c p.1 p.2.1 q.1 q.2.1),optN (recO c p.1 p.2.1 q.1 q.2.1),⟨#[]⟩):=rfl
 rw [e]
 clear e
 have A0:=((Box.new W (.int .i64 p.1) (.int .i64 p.2.1) (.string p.2.2) 24).alloc (.cells #[.int .i64 q.1,.int .i64 q.2.1,.string q.2.2] 24)).alloc (.cells #[.int .i64 0,.int .i64 0,.string ⟨#[]⟩] 24)
 have B0:=(Box.new (W.alloc (.cells #[.int .i64 p.1,.int .i64 p.2.1,.string p.2.2] 24)) (.int .i64 q.1) (.int .i64 q.2.1) (.string q.2.2) 24).alloc (.cells #[.int .i64 0,.int .i64 0,.string ⟨#[]⟩] 24)
 have R0:=Box.new ((W.alloc (.cells #[.int .i64 p.1,.int .i64 p.2.1,.string p.2.2] 24)).alloc (.cells #[.int .i64 q.1,.int .i64 q.2.1,.string q.2.2] 24)) (.int .i64 0) (.int .i64 0) (.string ⟨#[]⟩) 24
 have hA:Below W.heap.size W (((W.alloc (.cells #[.int .i64 p.1,.int .i64 p.2.1,.string p.2.2] 24)).alloc (.cells #[.int .i64 q.1,.int .i64 q.2.1,.string q.2.2] 24)).alloc (.cells #[.int .i64 0,.int .i64 0,.string ⟨#[]⟩] 24)):=below3 (Below.refl _ _)
 have c3:=(hA.cell (p:=⟨b,0,none⟩) hb).trans hc
 simp only [World.size_alloc] at B0 R0
 clear A0 B0
 go_enter Tryz.func247,Tryz.ntmps247
 go_wp2_with fail
 refine (reckon_any _ _ _ _ _ _ _ _).mono ?_
 rintro e w1 ⟨rfl,hb1⟩
 have ⟨r0,r1,r2,r3,r4,r5,r6⟩:=R0.next hb1
 have hb1':=chain hA hb1
 have z1:=hb1.size
 simp at z1
 clear R0
 go_wp2_with fail
 exact bodyPost_ret (v:=.agg #[.int .i64 (optK (recO c p.1 p.2.1 q.1 q.2.1)),.int .i64 (optN (recO c p.1 p.2.1 q.1 q.2.1)),.string ⟨#[]⟩]) (by simp [results,Tryz.results247,go_sem,r1,r2,r3]) rfl ⟨rfl,below_set3 hb1' (by omega)⟩

theorem denied_at (u:Value) (f:Vl→Vl→Vl) (w:World) (lo:Nat) (hlo:lo≤w.heap.size) (h:Fn2 lo u f w) :
  Calls Tryz.prog 235 #[u] w fun e w'=>∃ v,e = .returned v∧Fn2 lo v (fun a b=>notP (f a b)) w'∧Below w.heap.size w w':=by
 obtain ⟨g,cb,rfl,eg,hd⟩:=h
 have hal:Below w.heap.size w (w.alloc (.cells #[.func (.func g) #[] cb] 240)):=(Below.refl _ _).alloc (Nat.le_refl _) _
 have hF:Fn2 lo (.func (.func 245) #[] #[.pointer (some ⟨w.heap.size,0,none⟩)]) (fun a b=>notP (f a b)) (w.alloc (.cells #[.func (.func g) #[] cb] 240)) :=
  ⟨245,_,rfl,enters_of Tryz.func245 (by kernel_rfl) rfl,fun p q W hp hq hW =>
   denied1_at g cb f w.heap.size p q W (Nat.lt_of_lt_of_le (by simp) hW.1) ((hW.cell (p:=⟨w.heap.size,0,none⟩) hlo (by simp)).trans (by simp)) eg (fun W' hW'=>hd p q W' hp hq (((Since.of hal).trans hW).trans (Since.of hW')))⟩
 clear hd
 go_enter Tryz.func235,Tryz.ntmps235
 go_wp2_with fail
 go_ret
 exact ⟨_,rfl,hF,hal⟩
theorem turned_at (u:Value) (f:Vl→Vl→Vl) (w:World) (lo:Nat) (hlo:lo≤w.heap.size) (h:Fn2 lo u f w) :
  Calls Tryz.prog 237 #[u] w fun e w'=>∃ v,e = .returned v∧Fn2 lo v (fun a b=>f b a) w'∧Below w.heap.size w w':=by
 obtain ⟨g,cb,rfl,eg,hd⟩:=h
 have hal:Below w.heap.size w (w.alloc (.cells #[.func (.func g) #[] cb] 240)):=(Below.refl _ _).alloc (Nat.le_refl _) _
 have hF:Fn2 lo (.func (.func 246) #[] #[.pointer (some ⟨w.heap.size,0,none⟩)]) (fun a b=>f b a) (w.alloc (.cells #[.func (.func g) #[] cb] 240)) :=
  ⟨246,_,rfl,enters_of Tryz.func246 (by kernel_rfl) rfl,fun p q W hp hq hW =>
   turned1_at g cb f w.heap.size p q W (Nat.lt_of_lt_of_le (by simp) hW.1) ((hW.cell (p:=⟨w.heap.size,0,none⟩) hlo (by simp)).trans (by simp)) eg (fun W' hW'=>hd q p W' hq hp (((Since.of hal).trans hW).trans (Since.of hW')))⟩
 clear hd
 go_enter Tryz.func237,Tryz.ntmps237
 go_wp2_with fail
 go_ret
 exact ⟨_,rfl,hF,hal⟩
theorem reckoned_at (c:Int) (w:World) (lo:Nat) (hlo:lo≤w.heap.size) :
  Calls Tryz.prog 238 #[.int .i32 c] w fun e w'=>∃ v,e = .returned v∧Fn2 lo v (recP c) w'∧Below w.heap.size w w':=by
 have hal:Below w.heap.size w (w.alloc (.cells #[.int .i32 c] 21)):=(Below.refl _ _).alloc (Nat.le_refl _) _
 have hF:Fn2 lo (.func (.func 247) #[] #[.pointer (some ⟨w.heap.size,0,none⟩)]) (recP c) (w.alloc (.cells #[.int .i32 c] 21)) :=
  ⟨247,_,rfl,enters_of Tryz.func247 (by kernel_rfl) rfl,fun p q W hp hq hW =>
   reckoned1_at c w.heap.size p q W (Nat.lt_of_lt_of_le (by simp) hW.1) ((hW.cell (p:=⟨w.heap.size,0,none⟩) hlo (by simp)).trans (by simp))⟩
 go_enter Tryz.func238,Tryz.ntmps238
 go_wp2_with fail
 go_ret
 exact ⟨_,rfl,hF,hal⟩

def OfTwo (k:Int):Prop:=∀ w:World,Calls Tryz.prog 210 #[.int .i64 k] w fun e w'=>∃ u,e = .returned u∧Fn2 w.heap.size u (twoP k) w'∧Below w.heap.size w w'
theorem ofTwo_4:OfTwo 4:=by
 intro w
 go_enter Tryz.func210,Tryz.ntmps210
 go_wp2_with fail
 go_ret
 exact ⟨_,rfl,fn_and _ w,Below.refl _ _⟩
theorem ofTwo_5:OfTwo 5:=by
 intro w
 go_enter Tryz.func210,Tryz.ntmps210
 go_wp2_with fail
 go_ret
 exact ⟨_,rfl,fn_or _ w,Below.refl _ _⟩
theorem ofTwo_6:OfTwo 6:=by
 intro w
 go_enter Tryz.func210,Tryz.ntmps210
 go_wp2_with fail
 go_ret
 exact ⟨_,rfl,fn_eq _ w,Below.refl _ _⟩
theorem ofTwo_8:OfTwo 8:=by
 intro w
 go_enter Tryz.func210,Tryz.ntmps210
 go_wp2_with fail
 go_ret
 exact ⟨_,rfl,fn_lt _ w,Below.refl _ _⟩
theorem ofTwo_15:OfTwo 15:=by
 intro w
 go_enter Tryz.func210,Tryz.ntmps210
 go_wp2_with fail
 go_ret
 exact ⟨_,rfl,fn_join _ w,Below.refl _ _⟩
theorem ofTwo_18:OfTwo 18:=by
 intro w
 go_enter Tryz.func210,Tryz.ntmps210
 go_wp2_with fail
 go_ret
 exact ⟨_,rfl,fn_coal _ w,Below.refl _ _⟩
theorem ofTwo_7:OfTwo 7:=by
 intro w
 go_enter Tryz.func210,Tryz.ntmps210
 go_wp2_with fail
 refine (denied_at _ _ w _ (Nat.le_refl _) (fn_eq _ w)).mono ?_
 rintro e w1 ⟨v,rfl,hF,hb1⟩
 go_wp2_with fail
 go_ret
 exact ⟨_,rfl,hF,hb1⟩
theorem ofTwo_11:OfTwo 11:=by
 intro w
 go_enter Tryz.func210,Tryz.ntmps210
 go_wp2_with fail
 refine (denied_at _ _ w _ (Nat.le_refl _) (fn_lt _ w)).mono ?_
 rintro e w1 ⟨v,rfl,hF,hb1⟩
 go_wp2_with fail
 go_ret
 exact ⟨_,rfl,hF,hb1⟩
theorem ofTwo_10:OfTwo 10:=by
 intro w
 go_enter Tryz.func210,Tryz.ntmps210
 go_wp2_with fail
 refine (turned_at _ _ w _ (Nat.le_refl _) (fn_lt _ w)).mono ?_
 rintro e w1 ⟨v,rfl,hF,hb1⟩
 go_wp2_with fail
 go_ret
 exact ⟨_,rfl,hF,hb1⟩
theorem ofTwo_12:OfTwo 12:=by
 intro w
 go_enter Tryz.func210,Tryz.ntmps210
 go_wp2_with fail
 refine (reckoned_at 43 w _ (Nat.le_refl _)).mono ?_
 rintro e w1 ⟨v,rfl,hF,hb1⟩
 go_wp2_with fail
 go_ret
 exact ⟨_,rfl,hF,hb1⟩
theorem ofTwo_13:OfTwo 13:=by
 intro w
 go_enter Tryz.func210,Tryz.ntmps210
 go_wp2_with fail
 refine (reckoned_at 45 w _ (Nat.le_refl _)).mono ?_
 rintro e w1 ⟨v,rfl,hF,hb1⟩
 go_wp2_with fail
 go_ret
 exact ⟨_,rfl,hF,hb1⟩
theorem ofTwo_14:OfTwo 14:=by
 intro w
 go_enter Tryz.func210,Tryz.ntmps210
 go_wp2_with fail
 refine (reckoned_at 42 w _ (Nat.le_refl _)).mono ?_
 rintro e w1 ⟨v,rfl,hF,hb1⟩
 go_wp2_with fail
 go_ret
 exact ⟨_,rfl,hF,hb1⟩
theorem ofTwo_9:OfTwo 9:=by
 intro w
 go_enter Tryz.func210,Tryz.ntmps210
 go_wp2_with fail
 refine (turned_at _ _ w _ (Nat.le_refl _) (fn_lt _ w)).mono ?_
 rintro e w1 ⟨v,rfl,hF,hb1⟩
 go_wp2_with fail
 refine (denied_at _ _ w1 _ hb1.size hF).mono ?_
 rintro e w2 ⟨v2,rfl,hF2,hb2⟩
 go_wp2_with fail
 go_ret
 exact ⟨_,rfl,hF2,chain hb1 hb2⟩
theorem ofTwo_at (k:Int) (h4:4≤k) (h18:k≤15∨k=18):OfTwo k:=by
 obtain rfl | rfl | rfl | rfl | rfl | rfl | rfl | rfl | rfl | rfl | rfl | rfl | rfl:k=4∨k=5∨k=6∨k=7∨k=8∨k=9∨k=10∨k=11∨k=12∨k=13∨k=14∨k=15∨k=18:=by omega
 ·exact ofTwo_4
 ·exact ofTwo_5
 ·exact ofTwo_6
 ·exact ofTwo_7
 ·exact ofTwo_8
 ·exact ofTwo_9
 ·exact ofTwo_10
 ·exact ofTwo_11
 ·exact ofTwo_12
 ·exact ofTwo_13
 ·exact ofTwo_14
 ·exact ofTwo_15
 ·exact ofTwo_18
end Go.Proofs.YtohjlfhmnmcndaaGreat
/- The statements of expressions as plain facts. No program in sight. -/
namespace Go.Proofs.YtohjlfhmnmcndaaGreat

/-! The whole answers. -/
def colsB (cols:List Int):Bool:=cols.all fun c=>decide (1≤c) && decide (c≤4)
def typeTop (cols:List Int) (x:Ex):Int × Int :=
 if 16<cols.length then (0,5) else if colsB cols=false then (0,1) else if (typeX cols x 0 1).2.1=0 then ((typeX cols x 0 1).1,0) else (0,(typeX cols x 0 1).2.1)
def evalX (cols:List Int) (x:Ex) (row:List Vl):Vl × Int :=
 if (typeTop cols x).2≠0 then (vl0,(typeTop cols x).2) else if fitsL cols row≠0 then (vl0,fitsL cols row) else (valX row x,0)
/-- What Type says yes to. -/
structure GoodX (cols:List Int) (x:Ex) (t:Int):Prop where
 few:cols.length≤16
 fit:colsB cols=true
 ty:typP cols x=some t
 size:sizeX x≤200
 deep:deepX x≤20
theorem typeTop_ok (cols:List Int) (x:Ex):(typeTop cols x).2=0↔GoodX cols x (typeTop cols x).1:=by
 unfold typeTop
 by_cases h1:16<cols.length
 ·rw [if_pos h1]
  simp only [show ¬ (5:Int)=0 by decide,false_iff]
  exact fun h=>absurd h.few (by omega)
 rw [if_neg h1]
 by_cases h2:colsB cols=false
 ·rw [if_pos h2]
  simp only [show ¬ (1:Int)=0 by decide,false_iff]
  exact fun h=>absurd h.fit (by simp [h2])
 rw [if_neg h2]
 by_cases h3:(typeX cols x 0 1).2.1=0
 ·rw [if_pos h3]
  simp only [true_iff]
  obtain ⟨q1,q2,q3,q4⟩:=(typeX_ok cols x 0 1 (typeX cols x 0 1).1 (typeX cols x 0 1).2.2).1 (Prod.ext rfl (Prod.ext h3 rfl))
  exact ⟨by omega,by simpa using h2,q1,by omega,by omega⟩
 ·rw [if_neg h3]
  simp only [h3,false_iff]
  intro h
  have:=(typeX_ok cols x 0 1 0 (0+sizeX x)).2 ⟨h.ty,rfl,by have:=h.size; omega,by have:=h.deep; omega⟩
  rw [this] at h3
  simp at h3
theorem GoodX.top {cols:List Int} {x:Ex} {t:Int} (h:GoodX cols x t):typeTop cols x=(t,0):=by
 have:=(typeX_ok cols x 0 1 t (0+sizeX x)).2 ⟨h.ty,rfl,by have:=h.size; omega,by have:=h.deep; omega⟩
 unfold typeTop
 rw [if_neg (by have:=h.few; omega),if_neg (by simp [h.fit]),this]
 simp
theorem GoodX.eval {cols:List Int} {x:Ex} {t:Int} (h:GoodX cols x t) (row:List Vl):evalX cols x row=if fitsL cols row≠0 then (vl0,fitsL cols row) else (valX row x,0):=by
 unfold evalX
 rw [h.top]
 simp
/-- Not known, or the same. -/
def Le (a b:Vl):Prop:=a.1=1∨a=b
theorem Le.refl (a:Vl):Le a a:=.inr rfl
theorem tell_le {a b c d:Vl} (h:Le a c) (h':Le b d):tellB a.1 b.1=false∨(a=c∧b=d):=by
 unfold tellB
 rcases h with h | rfl
 ·left; simp [h]
 ·rcases h' with h' | rfl
  ·left
   by_cases q:a.1=1 <;> simp [h',q]
  ·right; exact ⟨rfl,rfl⟩
theorem lt_le {a b c d:Vl} (h:Le a c) (h':Le b d):ltT a.1 a.2.1 a.2.2 b.1 b.2.1 b.2.2=none∨ltT a.1 a.2.1 a.2.2 b.1 b.2.1 b.2.2=ltT c.1 c.2.1 c.2.2 d.1 d.2.1 d.2.2:=by
 rcases tell_le h h' with q | ⟨rfl,rfl⟩
 ·left; simp [ltT,q]
 ·right; rfl
end Go.Proofs.YtohjlfhmnmcndaaGreat
/- What an expression comes to, as a function value: always, column, either. -/
namespace Go.Proofs.YtohjlfhmnmcndaaGreat
open Go.RowKit

/-- A function value comes to f of each row that fits, as long as all from lo on is as it was. -/
def Asks (cols:List Int) (lo:Nat) (u:Value) (f:List Vl→Vl) (w:World):Prop :=
 ∃ g cb,u = .func (.func g) #[] cb∧(∀ args w,(callFunc g args).run Tryz.prog w = .ok (.enter g args) w) ∧
  ∀ (row:List Vl) (a:Option Addr) (cap:Nat) (W:World),FitP cols row→SlAt W a row→Since lo w W →
   Calls Tryz.prog g (#[.slice a row.length cap] ++ cb) W fun e w'=>e = .returned (agV (f row))∧Below W.heap.size W w'
theorem Asks.next {cols:List Int} {lo:Nat} {u:Value} {f:List Vl→Vl} {w w1:World} (h:Asks cols lo u f w) (hb:Since lo w w1):Asks cols lo u f w1:=by
 obtain ⟨g,cb,e,eg,hd⟩:=h
 exact ⟨g,cb,e,eg,fun row a cap W hf hs hW=>hd row a cap W hf hs (hb.trans hW)⟩
theorem Asks.down {cols:List Int} {lo lo':Nat} {u:Value} {f:List Vl→Vl} {w:World} (h:Asks cols lo u f w) (hl:lo'≤lo):Asks cols lo' u f w:=by
 obtain ⟨g,cb,e,eg,hd⟩:=h
 exact ⟨g,cb,e,eg,fun row a cap W hf hs hW=>hd row a cap W hf hs (hW.up hl)⟩

/-- Three values stored into a box. -/
theorem Box.put3 {W:World} {b:Nat} {x y z:Value} (h:Box W b x y z) (x' y' z':Value):Box (((W.setCell ⟨b,0,none⟩ x').setCell ⟨b,1,none⟩ y').setCell ⟨b,2,none⟩ z') b x' y' z':=by
 obtain ⟨lt,c0,c1,c2,f0,f1,f2⟩:=h
 refine ⟨by simpa using lt,?_,?_,?_,by simpa using f0,by simpa using f1,by simpa using f2⟩
 ·rw [World.cell?_setCell_other _ _ _ _ (by simp),World.cell?_setCell_other _ _ _ _ (by simp)]
  exact World.cell?_setCell_same' _ _ _ (by rw [c0]; rfl)
 ·rw [World.cell?_setCell_other _ _ _ _ (by simp)]
  exact World.cell?_setCell_same' _ _ _ (by rw [World.cell?_setCell_other _ _ _ _ (by simp),c1]; rfl)
 ·exact World.cell?_setCell_same' _ _ _ (by rw [World.cell?_setCell_other _ _ _ _ (by simp),World.cell?_setCell_other _ _ _ _ (by simp),c2]; rfl)

set_option maxHeartbeats 400000 in
theorem always1_at (v:Vl) (b:Nat) (a:Option Addr) (n cap:Nat) (W:World) (hb:b<W.heap.size) (h0:W.cell? ⟨b,0,none⟩=some (.int .i64 v.1)) (h1:W.cell? ⟨b,1,none⟩=some (.int .i64 v.2.1)) (h2:W.cell? ⟨b,2,none⟩=some (.string v.2.2)) :
  Calls Tryz.prog 228 #[.slice a n cap,.pointer (some ⟨b,0,none⟩)] W fun e w'=>e = .returned (agV v)∧Below W.heap.size W w':=by
 have hal:Below W.heap.size W (W.alloc (.cells #[.int .i64 0,.int .i64 0,.string ⟨#[]⟩] 24)):=(Below.refl _ _).alloc (Nat.le_refl _) _
 have c0:=(hal.cell (p:=⟨b,0,none⟩) hb).trans h0
 have c1:=(hal.cell (p:=⟨b,1,none⟩) hb).trans h1
 have c2:=(hal.cell (p:=⟨b,2,none⟩) hb).trans h2
 go_enter Tryz.func228,Tryz.ntmps228
 go_wp2_with fail
 exact bodyPost_ret (v:=agV v) (by simp [results,Tryz.results228,go_sem]) rfl ⟨rfl,(Below.refl _ _).alloc (Nat.le_refl _) _⟩

set_option maxHeartbeats 400000 in
theorem always_at (cols:List Int) (v:Vl) (w:World) :
  Calls Tryz.prog 203 #[agV v] w fun e w'=>∃ u,e = .returned u∧Asks cols w.heap.size u (fun _=>bareP v) w'∧Below w.heap.size w w':=by
 have hal:Below w.heap.size w (w.alloc (.cells #[.int .i64 v.1,.int .i64 v.2.1,.string v.2.2] 24)):=(Below.refl _ _).alloc (Nat.le_refl _) _
 have R:=Box.new w (.int .i64 v.1) (.int .i64 v.2.1) (.string v.2.2) 24
 go_enter Tryz.func203,Tryz.ntmps203
 go_wp2_with fail
 refine (bare_any _ _ _ _).mono ?_
 rintro e w1 ⟨rfl,hb1⟩
 have R1:=R.next hb1
 have P1:=R1.put3 (.int .i64 v.1) (.int .i64 (bareN v.1 v.2.1)) (.string (bareS v.1 v.2.2))
 have hb:=chain hal hb1
 have ⟨r0,r1,r2,r3,r4,r5,r6⟩:=R1
 go_wp2_with fail
 go_ret
 refine ⟨_,rfl,⟨228,_,rfl,enters_of Tryz.func228 (by kernel_rfl) rfl,?_⟩,below_set3 hb (Nat.le_refl _)⟩
 intro row a cap W _ _ hW
 obtain ⟨p0,p1,p2,p3,_,_,_⟩:=P1
 exact always1_at (bareP v) w.heap.size a row.length cap W (Nat.lt_of_lt_of_le p0 hW.1) ((hW.cell (p:=⟨w.heap.size,0,none⟩) (Nat.le_refl _) p0).trans p1) ((hW.cell (p:=⟨w.heap.size,1,none⟩) (Nat.le_refl _) p0).trans p2) ((hW.cell (p:=⟨w.heap.size,2,none⟩) (Nat.le_refl _) p0).trans p3)

set_option maxHeartbeats 400000 in
theorem column1_at (j:Nat) (b:Nat) (a:Option Addr) (row:List Vl) (cap:Nat) (W:World) (hb:b<W.heap.size) (h0:W.cell? ⟨b,0,none⟩=some (.int .i64 j)) (hj:j<row.length) (hs:SlAt W a row) :
  Calls Tryz.prog 229 #[.slice a row.length cap,.pointer (some ⟨b,0,none⟩)] W fun e w'=>e = .returned (agV (bareP row[j]))∧Below W.heap.size W w':=by
 have hal:Below W.heap.size W (W.alloc (.cells #[.int .i64 0,.int .i64 0,.string ⟨#[]⟩] 24)):=(Below.refl _ _).alloc (Nat.le_refl _) _
 have R:=Box.new W (.int .i64 0) (.int .i64 0) (.string ⟨#[]⟩) 24
 have c0:=(hal.cell (p:=⟨b,0,none⟩) hb).trans h0
 have hl:=hs.1
 unfold maxLen at hl
 obtain ⟨b',off,rfl,hbl,x0,x1,x2⟩:=(hs.next hal).elem hj
 generalize row[j]=v at *
 go_enter Tryz.func229,Tryz.ntmps229
 go_wp2_with fail
 refine (bare_any _ _ _ _).mono ?_
 rintro e w1 ⟨rfl,hb1⟩
 have ⟨r0,r1,r2,r3,r4,r5,r6⟩:=R.next hb1
 have hb:=chain hal hb1
 clear x0 x1 x2 c0
 go_wp2_with fail
 exact bodyPost_ret (v:=agV (bareP v)) (by simp [results,Tryz.results229,go_sem,r1,r2,r3,bareP]) rfl ⟨rfl,below_set3 hb (Nat.le_refl _)⟩
theorem column_at (cols:List Int) (c:Int) (w:World) (h0:0≤c) (h1:c.toNat<cols.length) :
  Calls Tryz.prog 204 #[.int .i64 c] w fun e w'=>∃ u,e = .returned u∧Asks cols w.heap.size u (fun row=>bareP (row.getD c.toNat vl0)) w'∧Below w.heap.size w w':=by
 have hal:Below w.heap.size w (w.alloc (.cells #[.int .i64 c] 3)):=(Below.refl _ _).alloc (Nat.le_refl _) _
 obtain ⟨j,rfl⟩:∃ j:Nat,c=j:=⟨c.toNat,by omega⟩
 go_enter Tryz.func204,Tryz.ntmps204
 go_wp2_with fail
 go_ret
 refine ⟨_,rfl,⟨229,_,rfl,enters_of Tryz.func229 (by kernel_rfl) rfl,?_⟩,hal⟩
 intro row a cap W hf hs hW
 have hj:j<row.length:=by have:=hf.len; simp at h1; omega
 have e:row.getD (j:Int).toNat vl0=row[j]:=by simp [List.getD,hj]
 show Calls _ _ _ _ fun e w'=>e = .returned (agV (bareP (row.getD (j:Int).toNat vl0)))∧_
 rw [e]
 exact column1_at j w.heap.size a row cap W (Nat.lt_of_lt_of_le (by simp) hW.1) ((hW.cell (p:=⟨w.heap.size,0,none⟩) (Nat.le_refl _) (by simp)).trans (by simp)) hj hs

set_option maxHeartbeats 1000000 in
theorem either1_at (cols:List Int) (lo:Nat) (f1 f2 f3:List Vl→Vl) (u1 u2 u3:Value) (b:Nat) (a:Option Addr) (row:List Vl) (cap:Nat) (W:World) (hb:b+2<W.heap.size)
  (h0:W.cell? ⟨b,0,none⟩=some u1) (h1:W.cell? ⟨b+1,0,none⟩=some u2) (h2:W.cell? ⟨b+2,0,none⟩=some u3) (a1:Asks cols lo u1 f1 W) (a2:Asks cols lo u2 f2 W) (a3:Asks cols lo u3 f3 W) (hf:FitP cols row) (hs:SlAt W a row) :
  Calls Tryz.prog 231 #[.slice a row.length cap,.pointer (some ⟨b,0,none⟩),.pointer (some ⟨b+1,0,none⟩),.pointer (some ⟨b+2,0,none⟩)] W fun e w'=>e = .returned (agV (if clsP (f1 row) == some true then f2 row else f3 row))∧Below W.heap.size W w':=by
 obtain ⟨g1,cb1,rfl,eg1,d1⟩:=a1
 obtain ⟨g2,cb2,rfl,eg2,d2⟩:=a2
 obtain ⟨g3,cb3,rfl,eg3,d3⟩:=a3
 have hal:Below W.heap.size W (W.alloc (.cells #[.int .i64 0,.int .i64 0,.string ⟨#[]⟩] 24)):=(Below.refl _ _).alloc (Nat.le_refl _) _
 have R:=Box.new W (.int .i64 0) (.int .i64 0) (.string ⟨#[]⟩) 24
 have c1:=(hal.cell (p:=⟨b,0,none⟩) (by show b<_; omega)).trans h0
 have d1:=d1 row a cap _ hf (hs.next hal) (Since.of hal)
 have d2:=fun W' (h:Below W.heap.size W W')=>d2 row a cap W' hf (hs.next h) (Since.of h)
 have d3:=fun W' (h:Below W.heap.size W W')=>d3 row a cap W' hf (hs.next h) (Since.of h)
 generalize f1 row=v1 at *
 generalize f2 row=v2 at *
 generalize f3 row=v3 at *
 by_cases q:(clsP v1 == some true)=true
 ·rw [if_pos q]
  go_enter Tryz.func231,Tryz.ntmps231
  go_wp2_with (go_at_fn g1; refine d1.mono ?_)
  rintro e w1 ⟨rfl,hb1⟩
  have hA:=chain hal hb1
  have R:=R.next hb1
  have q':(cls v1.1 v1.2.1 == some true)=true:=q
  go_wp2_with fail
  refine (true_any _ _ _ _).mono ?_
  rintro e w2 ⟨rfl,hb2⟩
  rw [q']
  have hA:=chain hA hb2
  have R:=R.next hb2
  have c2:=(hA.cell (p:=⟨b+1,0,none⟩) (by show b+1<_; omega)).trans h1
  have d2:=d2 _ hA
  clear d1 c1 d3
  go_wp2_with (go_at_fn g2; refine d2.mono ?_)
  rintro e w3 ⟨rfl,hb3⟩
  have hA:=chain hA hb3
  have ⟨r0,r1,r2,r3,r4,r5,r6⟩:=R.next hb3
  clear d2 c2
  go_wp2_with fail
  exact bodyPost_ret (v:=agV v2) (by simp [results,Tryz.results231,go_sem,r1,r2,r3]) rfl ⟨rfl,below_set3 hA (Nat.le_refl _)⟩
 ·rw [if_neg q]
  go_enter Tryz.func231,Tryz.ntmps231
  go_wp2_with (go_at_fn g1; refine d1.mono ?_)
  rintro e w1 ⟨rfl,hb1⟩
  have hA:=chain hal hb1
  have R:=R.next hb1
  have q':(cls v1.1 v1.2.1 == some true)=false:=Bool.eq_false_iff.mpr q
  go_wp2_with fail
  refine (true_any _ _ _ _).mono ?_
  rintro e w2 ⟨rfl,hb2⟩
  rw [q']
  have hA:=chain hA hb2
  have R:=R.next hb2
  have c3:=(hA.cell (p:=⟨b+2,0,none⟩) (by show b+2<_; omega)).trans h2
  have d3:=d3 _ hA
  clear d1 c1 d2
  go_wp2_with (go_at_fn g3; refine d3.mono ?_)
  rintro e w3 ⟨rfl,hb3⟩
  have hA:=chain hA hb3
  have ⟨r0,r1,r2,r3,r4,r5,r6⟩:=R.next hb3
  clear d3 c3
  go_wp2_with fail
  exact bodyPost_ret (v:=agV v3) (by simp [results,Tryz.results231,go_sem,r1,r2,r3]) rfl ⟨rfl,below_set3 hA (Nat.le_refl _)⟩

theorem cell_old {w:World} {o:Obj} {p:Addr} (h:p.block<w.heap.size):(w.alloc o).cell? p=w.cell? p:=((Below.refl w.heap.size w).alloc (Nat.le_refl _) o).cell h
theorem either_at (cols:List Int) (lo:Nat) (f1 f2 f3:List Vl→Vl) (u1 u2 u3:Value) (w:World) (hlo:lo≤w.heap.size) (a1:Asks cols lo u1 f1 w) (a2:Asks cols lo u2 f2 w) (a3:Asks cols lo u3 f3 w) :
  Calls Tryz.prog 209 #[u1,u2,u3] w fun e w'=>∃ u,e = .returned u∧Asks cols lo u (fun row=>if clsP (f1 row) == some true then f2 row else f3 row) w'∧Below w.heap.size w w':=by
 obtain ⟨x1,y1,rfl⟩:∃ x y,u1 = .func (.func x) #[] y:=by obtain ⟨x,y,e,_⟩:=a1; exact ⟨x,y,e⟩
 obtain ⟨x2,y2,rfl⟩:∃ x y,u2 = .func (.func x) #[] y:=by obtain ⟨x,y,e,_⟩:=a2; exact ⟨x,y,e⟩
 obtain ⟨x3,y3,rfl⟩:∃ x y,u3 = .func (.func x) #[] y:=by obtain ⟨x,y,e,_⟩:=a3; exact ⟨x,y,e⟩
 have h1:Below w.heap.size w (w.alloc (.cells #[.func (.func x1) #[] y1] 179)):=(Below.refl _ _).alloc (Nat.le_refl _) _
 have h2:=h1.alloc h1.size (.cells #[.func (.func x2) #[] y2] 179)
 have h3:=h2.alloc h2.size (.cells #[.func (.func x3) #[] y3] 179)
 have q1:(((w.alloc (.cells #[.func (.func x1) #[] y1] 179)).alloc (.cells #[.func (.func x2) #[] y2] 179)).alloc (.cells #[.func (.func x3) #[] y3] 179)).cell? ⟨w.heap.size,0,none⟩=some (.func (.func x1) #[] y1):=by
  rw [cell_old (by simp only [World.size_alloc]; omega),cell_old (by simp)]; simp
 have q2:(((w.alloc (.cells #[.func (.func x1) #[] y1] 179)).alloc (.cells #[.func (.func x2) #[] y2] 179)).alloc (.cells #[.func (.func x3) #[] y3] 179)).cell? ⟨w.heap.size+1,0,none⟩=some (.func (.func x2) #[] y2):=by
  rw [cell_old (by simp),World.cell?_alloc_at _ _ _ _ (by simp)]; rfl
 have q3:(((w.alloc (.cells #[.func (.func x1) #[] y1] 179)).alloc (.cells #[.func (.func x2) #[] y2] 179)).alloc (.cells #[.func (.func x3) #[] y3] 179)).cell? ⟨w.heap.size+2,0,none⟩=some (.func (.func x3) #[] y3):=by
  rw [World.cell?_alloc_at _ _ _ _ (by simp)]; rfl
 have z3:(((w.alloc (.cells #[.func (.func x1) #[] y1] 179)).alloc (.cells #[.func (.func x2) #[] y2] 179)).alloc (.cells #[.func (.func x3) #[] y3] 179)).heap.size=w.heap.size+3:=by simp
 have n1:=a1.next (Since.of h3)
 have n2:=a2.next (Since.of h3)
 have n3:=a3.next (Since.of h3)
 clear a1 a2 a3
 go_enter Tryz.func209,Tryz.ntmps209
 go_wp2_with fail
 go_ret
 generalize ((w.alloc (.cells #[.func (.func x1) #[] y1] 179)).alloc (.cells #[.func (.func x2) #[] y2] 179)).alloc (.cells #[.func (.func x3) #[] y3] 179)=w3 at *
 refine ⟨_,rfl,⟨231,_,rfl,enters_of Tryz.func231 (by kernel_rfl) rfl,?_⟩,h3⟩
 intro row a cap W hf hs hW
 exact either1_at cols lo f1 f2 f3 _ _ _ w.heap.size a row cap W (by have:=hW.1; omega) ((hW.cell (p:=⟨w.heap.size,0,none⟩) hlo (by show w.heap.size<_; omega)).trans q1) ((hW.cell (p:=⟨w.heap.size+1,0,none⟩) (by show lo≤w.heap.size+1; omega) (by show w.heap.size+1<_; omega)).trans q2) ((hW.cell (p:=⟨w.heap.size+2,0,none⟩) (by show lo≤w.heap.size+2; omega) (by show w.heap.size+2<_; omega)).trans q3) (n1.next hW) (n2.next hW) (n3.next hW) hf hs
end Go.Proofs.YtohjlfhmnmcndaaGreat
/- A region that draws its order and makes variables of its own: whatever only reads what was there, and calls that make memory alone, may be taken first, if what is left goes through in every world that has grown since. -/
namespace Go.Proofs.YtohjlfhmnmcndaaGreat
open Go.RowKit

section
variable {P:Program} {ops:Array Oper} {Q:Exit→Act→World→Prop} {md:Region.Mode} {W0:World}

/-- In every world that has grown out of W0 the operation leaves v in its temporary, and a world that has grown out of that one. -/
def Grows (P:Program) (ops:Array Oper) (W0:World) (o:Oper) (v:Value) (a:Act):Prop :=
 (Region.wanted o (yielded ops a.tmps)=true∧∀ n:Past W0,Oper.quietUpon P (fun w'=>Below n.now.heap.size n.now w') n.now v ((execOp a.eval o).run P n.now)) ∨
 (Region.wanted o (yielded ops a.tmps)=false∧v=undef)

theorem Grows.of_same {o:Oper} {v:Value} {a a':Act} (hy:Grows P ops W0 o v a) (he:execOp a'.eval o=execOp a.eval o)
  (hw:Region.wanted o (yielded ops a'.tmps)=Region.wanted o (yielded ops a.tmps)):Grows P ops W0 o v a':=by
 unfold Grows at *
 rw [he,hw]
 exact hy

theorem Grows.wpOp {i:Nat} {o:Oper} {v:Value} {a:Act} (hi:ops[i]? = some o) (hy:Grows P ops W0 o v a)
  {K:Act→World→Prop} {w:World} (hB:Below W0.heap.size W0 w) (h:∀ w',Below w.heap.size w w'→K (a.put o.dst v) w'):wpOp P ops Q i K a w:=by
 unfold Go.wpOp
 simp only [hi]
 rcases hy with ⟨hw,hv⟩ | ⟨hw,rfl⟩
 ·simp only [hw,if_true]
  left
  have h3:=hv ⟨w,hB⟩
  unfold Oper.wp
  simp only at h3
  generalize (execOp a.eval o).run P w=r at *
  cases r with
  | ok n w' =>
   cases n <;> simp only [Oper.quietUpon] at h3 <;> simp only [Oper.upon]
   case value u =>
    obtain ⟨e1,e2⟩:=h3
    rw [e1,e2]
    exact h _ (Below.refl _ _)
   case skip =>
    obtain ⟨e1,e2⟩:=h3
    rw [e1,← e2]
    exact h _ (Below.refl _ _)
   case enter f args =>
    obtain ⟨e1,hc⟩:=h3
    rw [e1]
    exact hc.mono fun e w'' ⟨he,hw''⟩=>by subst he; exact h _ hw''
  | halt x w'=>simp only [Oper.quietUpon] at h3
 ·simp only [hw,Bool.false_eq_true,if_false]
  exact h _ (Below.refl _ _)

/-- One operation, apart from another one: whether that one's value is there already makes no difference to it. -/
theorem wpOp_putG {Φ:Act→Prop} {j:Nat} {oi oj:Oper} {v:Value} (hj:ops[j]? = some oj) (hap:oi.apart ops oj=true)
  (hsj:∀ cs b,oj.op ≠ .select cs b) (hQ:∀ c a w,Q (.panic c) (a.put oi.dst v) w→Q (.panic c) a w)
  (keep:∀ (a:Act),Φ a→∀ u,Φ (a.put oj.dst u)) (keepD:∀ (a:Act) (d:Deferred),Φ a→Φ { a with defers:=d :: a.defers })
  {K:Act→World→Prop} {a:Act} {w:World} (hy:Φ a) (h:wpOp P ops Q j K (a.put oi.dst v) w) :
  wpOp P ops Q j (fun a' w'=>Φ a'∧K (a'.put oi.dst v) w') a w:=by
 obtain ⟨h1,h2,_⟩:=Oper.apart_spec hap
 unfold wpOp at *
 simp only [hj] at *
 rw [wanted_put oj a oi.dst v h1] at h
 split
 ·rename_i hw
  simp only [hw,if_true] at h
  rcases h with h | ⟨hasks,hlets⟩
  case inr=>exact .inr ⟨by unfold Oper.asks at *; rw [execOp_put oj hsj a oi.dst v h1] at hasks; exact hasks,hlets⟩
  refine .inl ?_
  unfold Oper.wp at *
  rw [execOp_put oj hsj a oi.dst v h1] at h
  generalize (execOp a.eval oj).run P w=r at *
  cases r with
  | ok n w' =>
   cases n <;> simp only [Oper.upon] at h ⊢
   case value u=>exact ⟨keep a hy u,by rw [← Act.put_comm a v u h2]; exact h⟩
   case skip=>exact ⟨keep a hy _,by rw [← Act.put_comm a v undef h2]; exact h⟩
   case defer d =>
    refine ⟨keep _ (keepD a d hy) _,?_⟩
    rw [← Act.put_comm _ v undef h2,← Act.put_defers]
    exact h
   case enter f args =>
    refine Calls.mono h fun e w'' he=>?_
    cases e with
    | returned u=>exact ⟨keep a hy u,by rw [← Act.put_comm a v u h2]; exact he⟩
    | panicked c=>exact hQ _ _ _ he
    | outgrown=>exact he
   case row row args=>exact Rows.mono h fun u w'' he=>⟨keep a hy u,by rw [← Act.put_comm a v u h2]; exact he⟩
  | halt x w' =>
   cases x <;> simp only [Oper.upon] at h ⊢
   case panic u=>exact hQ _ _ _ h
 ·rename_i hw
  simp only [hw] at h
  exact ⟨keep a hy _,by rw [← Act.put_comm a v undef h2]; exact h⟩

/-- Whatever order is picked from here on, and however the world grows ahead of each operation. -/
def wpX (P:Program) (md:Region.Mode) (ops:Array Oper) (Q:Exit→Act→World→Prop) (W0:World):Nat→Array Bool→Act→World→Prop
 | 0,listed,a,w=>Region.ready md ops listed = []∧∀ w',Below w.heap.size w w'→Q .normal a w'
 | fuel+1,listed,a,w=>∀ w',Below w.heap.size w w'→(Region.ready md ops listed = []→Q .normal a w') ∧
  ∀ i ∈ Region.ready md ops listed,wpOp P ops Q i (fun a' w''=>Below W0.heap.size W0 w''∧wpX P md ops Q W0 fuel (listed.setIfInBounds i true) a' w'') a w'

theorem wpX.later:∀ (fuel:Nat) {listed:Array Bool} {a:Act} {w w1:World},wpX P md ops Q W0 fuel listed a w→Below w.heap.size w w1→wpX P md ops Q W0 fuel listed a w1
 | 0,_,_,_,_,h,hb=>⟨h.1,fun w' hw'=>h.2 w' (chain hb hw')⟩
 | _+1,_,_,_,_,h,hb=>fun w' hw'=>h w' (chain hb hw')

theorem wpAny_of_wpX:∀ (fuel:Nat) (listed:Array Bool) (a:Act) (w:World),wpX P md ops Q W0 fuel listed a w→wpAny P md ops Q fuel listed a w
 | 0,_,_,_,h=>⟨h.1,h.2 _ (Below.refl _ _)⟩
 | fuel+1,_,_,w,h=>⟨(h w (Below.refl _ _)).1,fun i hi=>wpOp_mono (fun a' w' h'=>wpAny_of_wpX fuel _ a' w' h'.2) ((h w (Below.refl _ _)).2 i hi)⟩

theorem wpX_first {i:Nat} {oi:Oper} {v:Value} (hi:ops[i]? = some oi) (hsel:∀ (j:Nat) (o:Oper) cs b,ops[j]? = some o→o.op ≠ .select cs b)
  (hQ:∀ c a w,Q (.panic c) (a.put oi.dst v) w→Q (.panic c) a w) :
  ∀ (fuel:Nat) (listed:Array Bool) (a:Act) (w:World),
   (∀ j oj,ops[j]? = some oj→j≠i→listed.getD j true=false→(∀ e ∈ oj.after,Region.binds md e=true→e.on≠i)→oi.apart ops oj=true) →
   i ∈ Region.ready md ops listed→Grows P ops W0 oi v a→Below W0.heap.size W0 w →
   wpX P md ops Q W0 fuel (listed.setIfInBounds i true) (a.put oi.dst v) w→wpX P md ops Q W0 (fuel+1) listed a w:=by
 intro fuel
 induction fuel with
 | zero =>
  intro listed a w _ hr hy hB H w' hw'
  refine ⟨fun h=>(by rw [h] at hr; cases hr),fun j hj=>?_⟩
  by_cases hji:j=i
  ·subst hji
   exact hy.wpOp hi (chain hB hw') fun w'' hw''=>⟨chain (chain hB hw') hw'',H.later 0 (chain hw' hw'')⟩
  ·have:=ready_mono hj hji
   rw [H.1] at this
   cases this
 | succ fuel ih =>
  intro listed a w hfree hr hy hB H w' hw'
  refine ⟨fun h=>(by rw [h] at hr; cases hr),fun j hj=>?_⟩
  by_cases hji:j=i
  ·subst hji
   exact hy.wpOp hi (chain hB hw') fun w'' hw''=>⟨chain (chain hB hw') hw'',H.later (fuel+1) (chain hw' hw'')⟩
  ·have h1:=(H w' hw').2 j (ready_mono hj hji)
   obtain ⟨hjun,oj,hoj,hall⟩:=mem_ready.1 hj
   have hnot:∀ e ∈ oj.after,Region.binds md e=true→e.on≠i:=fun e he hb heq=>by
    have h1:=hall e he hb
    have h0:=(mem_ready.1 hr).1
    rw [heq] at h1
    rcases Nat.lt_or_ge i listed.size with h' | h'
    ·simp [h'] at h0 h1; rw [h0] at h1; cases h1
    ·simp [Array.getElem?_eq_none h'] at h1
   have hap:=hfree j oj hoj hji hjun hnot
   obtain ⟨_,_,h3⟩:=Oper.apart_spec hap
   have h2:=wpOp_putG (Φ:=Grows P ops W0 oi v) hoj hap (fun cs b=>hsel j oj cs b hoj) hQ
    (fun a hy u=>hy.of_same (execOp_put oi (fun cs b=>hsel i oi cs b hi) a oj.dst u h3) (wanted_put oi a oj.dst u h3)) (fun a d hy=>hy.of_same rfl rfl) hy h1
   have hfree':∀ k ok,ops[k]? = some ok→k≠i→(listed.setIfInBounds j true).getD k true=false →
     (∀ e ∈ ok.after,Region.binds md e=true→e.on≠i)→oi.apart ops ok=true:=fun k ok hk hki hun hno=>by
    refine hfree k ok hk hki ?_ hno
    by_cases hjk:j=k
    ·subst hjk; exact hjun
    ·rw [getD_set_ne true hjk] at hun; exact hun
   refine wpOp_mono (fun a' w'' h4=>⟨h4.2.1,ih (listed.setIfInBounds j true) a' w'' hfree' (ready_mono hr (Ne.symm hji)) h4.1 h4.2.1 ?_⟩) h2
   rw [Array.setIfInBounds_comm _ _ hji]
   exact h4.2.2

theorem wpX_take {i:Nat} {oi:Oper} {v:Value} {fuel:Nat} {listed:Array Bool} {a:Act} {w:World} (d:Option Tmp) (hi:ops[i]? = some oi) (hd:oi.dst=d)
  (hs:Region.noSelect ops=true) (hf:Region.free md ops listed i=true) (hr:(Region.ready md ops listed).contains i=true)
  (hQ:∀ c a w,Q (.panic c) (a.put oi.dst v) w→Q (.panic c) a w) (hy:Grows P ops W0 oi v a) (hB:Below W0.heap.size W0 w)
  (h:wpX P md ops Q W0 fuel (listed.setIfInBounds i true) (a.put d v) w):wpX P md ops Q W0 (fuel+1) listed a w:=by
 subst hd
 exact wpX_first hi (Region.noSelect_spec hs) hQ fuel listed a w (Region.free_spec hi hf) (by simpa using hr) hy hB h

theorem wpX_step {rs:List Nat} {fuel:Nat} {listed:Array Bool} {a:Act} {w:World} (hr:Region.ready md ops listed=rs) (hne:rs ≠ [])
  (h:∀ w',Below w.heap.size w w'→∀ i ∈ rs,wpOp P ops Q i (fun a' w''=>Below W0.heap.size W0 w''∧wpX P md ops Q W0 fuel (listed.setIfInBounds i true) a' w'') a w'):wpX P md ops Q W0 (fuel+1) listed a w :=
 fun w' hw'=>⟨fun h0=>absurd (hr ▸ h0) hne,hr ▸ h w' hw'⟩
theorem wpX_done {listed:Array Bool} {a:Act} {w:World} (hr:Region.ready md ops listed = []) (h:∀ w',Below w.heap.size w w'→Q .normal a w'):wpX P md ops Q W0 0 listed a w:=⟨hr,h⟩

theorem wp_region_ext0 {id:Nat} {a:Act} {w:World} (W0:World) (hm:P.follows .mixedOrders=true)
  (h:wpX P .any ops Q W0 ops.size (Array.replicate ops.size false) a w.drew):(Code.region id ops true).wp P Q a w :=
 wp_region_any hm (wpAny_of_wpX _ _ _ _ h)
theorem wp_region_ext {id:Nat} {a:Act} {w:World} (hm:P.follows .mixedOrders=true)
  (h:wpX P .any ops Q w ops.size (Array.replicate ops.size false) a w.drew):(Code.region id ops true).wp P Q a w :=
 wp_region_any hm (wpAny_of_wpX _ _ _ _ h)
end
end Go.Proofs.YtohjlfhmnmcndaaGreat
