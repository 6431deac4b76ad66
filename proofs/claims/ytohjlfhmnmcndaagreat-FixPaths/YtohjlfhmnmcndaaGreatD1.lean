/- Together: W9, W11, Past, Rows2, W10, Z1, Z2, Z3, X0. -/
import Derived.WalkKit
import Derived.BigQuiet
import Derived.Test.YtohjlfhmnmcndaaGreatD0
/- The walks of vals.canTell, vals.Equal, vals.Less. -/
namespace Go.Proofs.YtohjlfhmnmcndaaGreat
open Go.RowKit

def tellB (k k':Int):Bool:=k == k' && k != 1
def eqT (k n:Int) (s:ByteArray) (k' n':Int) (s':ByteArray):Option Bool:=if tellB k k' then some (cmpV k n s k' n' s' == 0) else none
def ltT (k n:Int) (s:ByteArray) (k' n':Int) (s':ByteArray):Option Bool:=if tellB k k' then some (decide (cmpV k n s k' n' s'<0)) else none

set_option maxHeartbeats 400000 in
theorem canTell_any (k n k' n':Int) (s s':ByteArray) (w:World) :
  Calls Tryz.prog 244 #[.agg #[.int .i64 k,.int .i64 n,.string s],.agg #[.int .i64 k',.int .i64 n',.string s']] w fun e w'=>e = .returned (.bool (tellB k k'))∧Below w.heap.size w w':=by
 by_cases h:k=k'
 ·subst h;by_cases h1:k=1
  ·subst h1;go_enter Tryz.func244,Tryz.ntmps244;go_wp2
   go_ret;exact ⟨ret_bool (by simp [tellB]),((Below.refl _ _).alloc (Nat.le_refl _) _).alloc (by simp) _⟩
  ·have b1:(k != 1)=true:=by simpa using h1
   go_enter Tryz.func244,Tryz.ntmps244;go_wp2
   go_ret;exact ⟨ret_bool (by simp [tellB,h1]),((Below.refl _ _).alloc (Nat.le_refl _) _).alloc (by simp) _⟩
 ·have b1:(k == k')=false:=by simpa using h
  go_enter Tryz.func244,Tryz.ntmps244;go_wp2
  go_ret;exact ⟨ret_bool (by simp [tellB,h]),((Below.refl _ _).alloc (Nat.le_refl _) _).alloc (by simp) _⟩
set_option maxRecDepth 100000 in
set_option maxHeartbeats 8000000 in
theorem equal_any (k n k' n' : Int) (s s' : ByteArray) (w : World) :
    Calls Tryz.prog 234 #[.agg #[.int .i64 k, .int .i64 n, .string s], .agg #[.int .i64 k', .int .i64 n', .string s']] w fun e w' => e = .returned (.agg #[.int .i64 (tk (eqT k n s k' n' s')), .int .i64 (tn (eqT k n s k' n' s')), .string ⟨#[]⟩]) ∧ Below w.heap.size w w' := by
  have T := Two3.new w k n k' n' s s'
  have ee : eqT k n s k' n' s' = if tellB k k' then some (cmpV k n s k' n' s' == 0) else none := rfl
  rw [ee]
  clear ee
  cases h : tellB k k' <;> simp only [if_true, if_false, Bool.false_eq_true]
  all_goals (
    go_enter Tryz.func234, Tryz.ntmps234
    go_wp2_with fail
    generalize ((w.alloc (.cells #[.int .i64 k, .int .i64 n, .string s] 24)).alloc (.cells #[.int .i64 k', .int .i64 n', .string s'] 24)).alloc (.cells #[.int .i64 0, .int .i64 0, .string ⟨#[]⟩] 24) = W0 at *
    repeat (first | refine (canTell_any _ _ _ _ _ _ _).mono ?_ | refine (compare_any _ _ _ _ _ _ _).mono ?_ | refine (bool_any _ _).mono ?_ | refine (null_any _).mono ?_
            rintro e w1 ⟨rfl, hb⟩
            replace T := T.next hb
            clear hb
            have ⟨a0, a1, a2, a3, a4, a5, a6⟩ := T.p
            have ⟨b0, b1, b2, b3, b4, b5, b6⟩ := T.q
            have ⟨r0, r1, r2, r3, r4, r5, r6⟩ := T.r
            try simp only [h]
            go_wp2_with fail)
    have HB := T.b
    first | exact bodyPost_ret (v := .agg #[.int .i64 1, .int .i64 0, .string ⟨#[]⟩]) (by simp [results, Tryz.results234, go_sem, r1, r2, r3]) rfl ⟨rfl, below_set3 HB (by omega)⟩ | exact bodyPost_ret (v := .agg #[.int .i64 2, .int .i64 (tn (some (cmpV k n s k' n' s' == 0))), .string ⟨#[]⟩]) (by simp [results, Tryz.results234, go_sem, r1, r2, r3]) rfl ⟨rfl, below_set3 HB (by omega)⟩)

set_option maxRecDepth 100000 in
set_option maxHeartbeats 8000000 in
theorem less_any (k n k' n' : Int) (s s' : ByteArray) (w : World) :
    Calls Tryz.prog 236 #[.agg #[.int .i64 k, .int .i64 n, .string s], .agg #[.int .i64 k', .int .i64 n', .string s']] w fun e w' => e = .returned (.agg #[.int .i64 (tk (ltT k n s k' n' s')), .int .i64 (tn (ltT k n s k' n' s')), .string ⟨#[]⟩]) ∧ Below w.heap.size w w' := by
  have T := Two3.new w k n k' n' s s'
  have ee : ltT k n s k' n' s' = if tellB k k' then some (decide (cmpV k n s k' n' s' < 0)) else none := rfl
  rw [ee]
  clear ee
  cases h : tellB k k' <;> simp only [if_true, if_false, Bool.false_eq_true]
  all_goals (
    go_enter Tryz.func236, Tryz.ntmps236
    go_wp2_with fail
    generalize ((w.alloc (.cells #[.int .i64 k, .int .i64 n, .string s] 24)).alloc (.cells #[.int .i64 k', .int .i64 n', .string s'] 24)).alloc (.cells #[.int .i64 0, .int .i64 0, .string ⟨#[]⟩] 24) = W0 at *
    repeat (first | refine (canTell_any _ _ _ _ _ _ _).mono ?_ | refine (compare_any _ _ _ _ _ _ _).mono ?_ | refine (bool_any _ _).mono ?_ | refine (null_any _).mono ?_
            rintro e w1 ⟨rfl, hb⟩
            replace T := T.next hb
            clear hb
            have ⟨a0, a1, a2, a3, a4, a5, a6⟩ := T.p
            have ⟨b0, b1, b2, b3, b4, b5, b6⟩ := T.q
            have ⟨r0, r1, r2, r3, r4, r5, r6⟩ := T.r
            try simp only [h]
            go_wp2_with fail)
    have HB := T.b
    first | exact bodyPost_ret (v := .agg #[.int .i64 1, .int .i64 0, .string ⟨#[]⟩]) (by simp [results, Tryz.results236, go_sem, r1, r2, r3]) rfl ⟨rfl, below_set3 HB (by omega)⟩ | exact bodyPost_ret (v := .agg #[.int .i64 2, .int .i64 (tn (some (decide (cmpV k n s k' n' s' < 0)))), .string ⟨#[]⟩]) (by simp [results, Tryz.results236, go_sem, r1, r2, r3]) rfl ⟨rfl, below_set3 HB (by omega)⟩)

theorem cmpS_lt {s s':ByteArray} (h:Op.bytesLess s.toList s'.toList=true):cmpS s s' = -1:=by simp [cmpS,h]
theorem cmpS_gt {s s':ByteArray} (h:Op.bytesLess s.toList s'.toList=false) (e:(s.toList == s'.toList)=false):cmpS s s'=1:=by simp [cmpS,h,e]
theorem cmpS_qe {s s':ByteArray} (h:Op.bytesLess s.toList s'.toList=false) (e:(s.toList == s'.toList)=true):cmpS s s'=0:=by simp [cmpS,h,e]

set_option maxHeartbeats 400000 in
theorem ord_lt (k n k' n':Int) (s s':ByteArray) (w:World) (h:k<k') :
  Calls Tryz.prog 50 #[.agg #[.int .i64 k,.int .i64 n,.string s],.agg #[.int .i64 k',.int .i64 n',.string s']] w fun e w'=>e = .returned (.int .i64 (-1))∧Below w.heap.size w w':=by
 go_enter Tryz.func50,Tryz.ntmps50;go_wp2
 go_ret;exact ⟨rfl,((Below.refl _ _).alloc (Nat.le_refl _) _).alloc (by simp) _⟩
set_option maxHeartbeats 400000 in
theorem ord_gt (k n k' n':Int) (s s':ByteArray) (w:World) (h:k'<k) :
  Calls Tryz.prog 50 #[.agg #[.int .i64 k,.int .i64 n,.string s],.agg #[.int .i64 k',.int .i64 n',.string s']] w fun e w'=>e = .returned (.int .i64 (1))∧Below w.heap.size w w':=by
 have h':¬ k<k':=by omega
 go_enter Tryz.func50,Tryz.ntmps50;go_wp2
 go_ret;exact ⟨rfl,((Below.refl _ _).alloc (Nat.le_refl _) _).alloc (by simp) _⟩
set_option maxHeartbeats 400000 in
theorem ord_1 (k n k' n':Int) (s s':ByteArray) (w:World) (h:k=1) (h':k'=1) :
  Calls Tryz.prog 50 #[.agg #[.int .i64 k,.int .i64 n,.string s],.agg #[.int .i64 k',.int .i64 n',.string s']] w fun e w'=>e = .returned (.int .i64 (0))∧Below w.heap.size w w':=by
 subst h;subst h';go_enter Tryz.func50,Tryz.ntmps50;go_wp2
 go_ret;exact ⟨rfl,((Below.refl _ _).alloc (Nat.le_refl _) _).alloc (by simp) _⟩
set_option maxHeartbeats 400000 in
theorem ord_n_lt (k n k' n':Int) (s s':ByteArray) (w:World) (e:k'=k) (h1:(k == 1)=false) (h4:(k == 4)=false) (h4':(k != 4)=true) (h:n<n') :
  Calls Tryz.prog 50 #[.agg #[.int .i64 k,.int .i64 n,.string s],.agg #[.int .i64 k',.int .i64 n',.string s']] w fun e w'=>e = .returned (.int .i64 (-1))∧Below w.heap.size w w':=by
 subst e;go_enter Tryz.func50,Tryz.ntmps50;go_wp2
 go_ret;exact ⟨rfl,((Below.refl _ _).alloc (Nat.le_refl _) _).alloc (by simp) _⟩
set_option maxHeartbeats 400000 in
theorem ord_n_gt (k n k' n':Int) (s s':ByteArray) (w:World) (e:k'=k) (h1:(k == 1)=false) (h4:(k == 4)=false) (h4':(k != 4)=true) (h:n'<n) :
  Calls Tryz.prog 50 #[.agg #[.int .i64 k,.int .i64 n,.string s],.agg #[.int .i64 k',.int .i64 n',.string s']] w fun e w'=>e = .returned (.int .i64 (1))∧Below w.heap.size w w':=by
 subst e;have h':¬ n<n':=by omega
 go_enter Tryz.func50,Tryz.ntmps50;go_wp2
 go_ret;exact ⟨rfl,((Below.refl _ _).alloc (Nat.le_refl _) _).alloc (by simp) _⟩
set_option maxHeartbeats 400000 in
theorem ord_n_eq (k n k' n':Int) (s s':ByteArray) (w:World) (e:k'=k) (h1:(k == 1)=false) (h4:(k == 4)=false) (h4':(k != 4)=true) (h:n'=n) :
  Calls Tryz.prog 50 #[.agg #[.int .i64 k,.int .i64 n,.string s],.agg #[.int .i64 k',.int .i64 n',.string s']] w fun e w'=>e = .returned (.int .i64 (0))∧Below w.heap.size w w':=by
 subst e;subst h;go_enter Tryz.func50,Tryz.ntmps50;go_wp2
 go_ret;exact ⟨rfl,((Below.refl _ _).alloc (Nat.le_refl _) _).alloc (by simp) _⟩
set_option maxHeartbeats 400000 in
theorem ord_s_lt (k n k' n':Int) (s s':ByteArray) (w:World) (e:k=4) (e':k'=4) (h:Op.bytesLess s.toList s'.toList=true) :
  Calls Tryz.prog 50 #[.agg #[.int .i64 k,.int .i64 n,.string s],.agg #[.int .i64 k',.int .i64 n',.string s']] w fun e w'=>e = .returned (.int .i64 (-1))∧Below w.heap.size w w':=by
 subst e;subst e';go_enter Tryz.func50,Tryz.ntmps50;go_wp2
 go_ret;exact ⟨rfl,((Below.refl _ _).alloc (Nat.le_refl _) _).alloc (by simp) _⟩
set_option maxHeartbeats 400000 in
theorem ord_s_gt (k n k' n':Int) (s s':ByteArray) (w:World) (e:k=4) (e':k'=4) (h:Op.bytesLess s.toList s'.toList=false) (h':(s.toList == s'.toList)=false) :
  Calls Tryz.prog 50 #[.agg #[.int .i64 k,.int .i64 n,.string s],.agg #[.int .i64 k',.int .i64 n',.string s']] w fun e w'=>e = .returned (.int .i64 (1))∧Below w.heap.size w w':=by
 subst e;subst e';go_enter Tryz.func50,Tryz.ntmps50;go_wp2
 go_ret;exact ⟨rfl,((Below.refl _ _).alloc (Nat.le_refl _) _).alloc (by simp) _⟩
set_option maxHeartbeats 400000 in
theorem ord_s_eq (k n k' n':Int) (s s':ByteArray) (w:World) (e:k=4) (e':k'=4) (h:Op.bytesLess s.toList s'.toList=false) (h':(s.toList == s'.toList)=true) :
  Calls Tryz.prog 50 #[.agg #[.int .i64 k,.int .i64 n,.string s],.agg #[.int .i64 k',.int .i64 n',.string s']] w fun e w'=>e = .returned (.int .i64 (0))∧Below w.heap.size w w':=by
 subst e;subst e';go_enter Tryz.func50,Tryz.ntmps50;go_wp2
 go_ret;exact ⟨rfl,((Below.refl _ _).alloc (Nat.le_refl _) _).alloc (by simp) _⟩
/-- Of right kinds. -/
theorem refOrder_any (k n k' n':Int) (s s':ByteArray) (w:World) (k1:1≤k) (k4:k≤4) :
  Calls Tryz.prog 50 #[.agg #[.int .i64 k,.int .i64 n,.string s],.agg #[.int .i64 k',.int .i64 n',.string s']] w fun e w'=>e = .returned (.int .i64 (cmpV k n s k' n' s'))∧Below w.heap.size w w':=by
 by_cases e:k=k'
 ·subst e;by_cases h1:k=1
  ·subst h1;rw [cmpV_x (by omega) (by omega) (by omega)];exact ord_1 1 n 1 n' s s' w rfl rfl
  by_cases h4:k=4
  ·subst h4;rw [cmpV_4];cases h:Op.bytesLess s.toList s'.toList
   ·cases h':s.toList == s'.toList
    ·rw [cmpS_gt h h']; exact ord_s_gt 4 n 4 n' s s' w rfl rfl h h'
    ·rw [cmpS_qe h h']; exact ord_s_eq 4 n 4 n' s s' w rfl rfl h h'
   ·rw [cmpS_lt h]; exact ord_s_lt 4 n 4 n' s s' w rfl rfl h
  have b1:(k == 1)=false:=by simpa using h1
  have b4:(k == 4)=false:=by simpa using h4
  have c4:(k != 4)=true:=by simpa using h4
  have e:cmpV k n s k n' s'=cmpI n n':=by
   have:k=2∨k=3:=by omega
   rcases this with rfl | rfl
   ·exact cmpV_2
   ·exact cmpV_3
  rw [e];rcases Int.lt_trichotomy n n' with h | h | h
  ·rw [cmpI_lt h]; exact ord_n_lt k n k n' s s' w rfl b1 b4 c4 h
  ·subst h; rw [cmpI_eq]; exact ord_n_eq k n k n s s' w rfl b1 b4 c4 rfl
  ·rw [cmpI_gt h]; exact ord_n_gt k n k n' s s' w rfl b1 b4 c4 h
 ·rw [cmpV_k e];rcases Int.lt_trichotomy k k' with h | h | h
  ·rw [cmpI_lt h]; exact ord_lt k n k' n' s s' w h
  ·exact absurd h e
  ·rw [cmpI_gt h]; exact ord_gt k n k' n' s s' w h

/-- The worlds in which all that lay in w lies as it did. -/
structure Past (w:World) where
 now:World
 ok:Below w.heap.size w now

theorem chain {w a b:World} (h:Below w.heap.size w a) (k:Below a.heap.size a b):Below w.heap.size w b:=h.trans (k.mono h.size)

theorem wp_region_past {P:Program} {id:Nat} {Q:Exit→Act→World→Prop} {a:Act} {w:World} {l:List Oper} (hm:P.follows .mixedOrders=true) (hB:Region.lexB .any l.toArray=true)
  (h:wpQuiet P l.toArray (fun w'=>∃ n:Past w,w'=n.now) (fun a'=>∀ w',(∃ n:Past w,w'=n.now)→Q .normal a' w') l a):(Code.region id l.toArray true).wp P Q a w :=
 wp_region_quiet (C:=fun w'=>∃ n:Past w,w'=n.now) hm hB ⟨⟨w.drew,(Below.refl _ _).drew⟩,rfl⟩ (by simpa using h)

theorem in_past {P:Program} {f:FuncId} {args:Array Value} {w:World} {n:Past w} {v:Value}
  (h:Calls P f args n.now fun e w'=>e = .returned v∧Below n.now.heap.size n.now w'):Calls P f args n.now fun e w''=>e = .returned v∧∃ m:Past w,w''=m.now :=
 h.mono fun _ w' ⟨he,hb⟩=>⟨he,⟨w',chain n.ok hb⟩,rfl⟩
theorem past_cell {w:World} {p:Addr} {v:Value} (h:w.cell? p=some v) (n:Past w):n.now.cell? p=some v :=
 (n.ok.cell (World.block_lt_of_cell? w p h)).trans h

theorem right_elem {l:List Vl} (h:rightB l=true) {k:Nat} (hk:k<l.length):1≤l[k].1∧l[k].1≤4:=by
 unfold rightB at h;rw [List.all_eq_true] at h;have hw:=h l[k] (List.getElem_mem hk);simp only [beq_iff_eq] at hw;unfold wrongF at hw;by_cases h1:l[k].1=1
 ·omega
 by_cases h2:l[k].1=2
 ·omega
 by_cases h3:l[k].1=3
 ·omega
 by_cases h4:l[k].1=4
 ·omega
 ·simp [h1,h2,h3,h4] at hw
set_option maxHeartbeats 1000000 in
theorem refRows_at (a a':Option Addr) (cap cap':Nat) (l l':List Vl) (w:World) (h:SlAt w a l) (h':SlAt w a' l') (hr:rightB l=true) :
  Calls Tryz.prog 24 #[.slice a l.length cap,.slice a' l'.length cap'] w fun e w'=>e = .returned (.int .i64 (cmpL l l'))∧Below w.heap.size w w':=by
 have hl:=h.1;have hl':=h'.1;unfold maxLen at hl hl';have HR:Hid (rightB l=true):=hr;clear hr;go_enter Tryz.func24,Tryz.ntmps24;go_wp2
 go_loopw [5] (fun i w1=>∃ k:Nat,k≤l.length∧k≤l'.length∧i = .int .i64 k∧Hid (cmpL l l'=cmpL (l.drop k) (l'.drop k))∧Below w.heap.size w w1) (fun i _=>l.length - (intOf i).toNat)
 case atStart=>exact ⟨0,Nat.zero_le _,Nat.zero_le _,rfl,rfl,Below.refl _ _⟩
 case round =>
  obtain ⟨k,hk,hk',rfl,HC,hb⟩:=hrel;have hz:=hb.size;by_cases hlt:k<l.length
  ·have b1:((k:Int) == (l.length:Int))=false:=by simp; omega
   by_cases hlt':k<l'.length
   ·have b2:((k:Int) == (l'.length:Int))=false:=by simp; omega
    have i0:(0:Int)≤(k:Int):=by omega
    have i1:(k:Int)<(l.length:Int):=by omega
    have i2:(k:Int)<(l'.length:Int):=by omega
    obtain ⟨b,off,rfl,hbl,c0,c1,c2⟩:=(h.next hb).elem hlt;obtain ⟨b',off',rfl,hbl',d0,d1,d2⟩:=(h'.next hb).elem hlt';have ⟨g0,g1⟩:=right_elem HR.out hlt;have p0:=past_cell c0;have p1:=past_cell c1;have p2:=past_cell c2;have p3:=past_cell d0;have p4:=past_cell d1;have p5:=past_cell d2;haveI:Nonempty (Past wr):=⟨⟨wr,Below.refl _ _⟩⟩
    by_cases e:cmpP l[k] l'[k]=0
    ·have E:Hid (cmpP l[k] l'[k]=0):=e;have E2:cmpV l[k].1 l[k].2.1 l[k].2.2 l'[k].1 l'[k].2.1 l'[k].2.2=0:=e;clear e;go_wp2_with fail
     refine wp_region_past (by kernel_rfl) (by kernel_rfl) ?_
     repeat (go_big_quiet_step (first | (go_at_call 50; exact in_past (refOrder_any _ _ _ _ _ _ _ g0 g1))))
     refine wpQuiet_nil ?_;rintro _ ⟨⟨w2,hb2⟩,rfl⟩;go_wp2
     go_roundw
     case rel=>exact ⟨k+1,by omega,by omega,by go_num,HC.out.trans (by rw [cmpL_drop l l' k hlt hlt',if_pos E.out]),chain hb hb2⟩
     case measure=>simp [intOf]; omega
    ·have E:Hid (¬ cmpP l[k] l'[k]=0):=e;have E2:(cmpV l[k].1 l[k].2.1 l[k].2.2 l'[k].1 l'[k].2.1 l'[k].2.2 != 0)=true:=by simpa [cmpP] using e
     clear e;go_wp2_with fail
     refine wp_region_past (by kernel_rfl) (by kernel_rfl) ?_
     repeat (go_big_quiet_step (first | (go_at_call 50; exact in_past (refOrder_any _ _ _ _ _ _ _ g0 g1))))
     refine wpQuiet_nil ?_;rintro _ ⟨⟨w2,hb2⟩,rfl⟩;go_wp2
     go_ret;exact ⟨ret_int (by rw [HC.out,cmpL_drop l l' k hlt hlt',if_neg E.out]; rfl),chain hb hb2⟩
   ·have b2:((k:Int) == (l'.length:Int))=true:=by simp; omega
    go_wp2
    go_ret;exact ⟨ret_int (by rw [HC.out,cmpL_long l l' k hlt (by omega)]),hb⟩
  ·have b1:((k:Int) == (l.length:Int))=true:=by simp; omega
   by_cases hlt':k<l'.length
   ·have b2:((k:Int) == (l'.length:Int))=false:=by simp; omega
    go_wp2
    go_ret;exact ⟨ret_int (by rw [HC.out,cmpL_short l l' k (by omega) hlt']),hb⟩
   ·have b2:((k:Int) == (l'.length:Int))=true:=by simp; omega
    go_wp2
    go_ret;exact ⟨ret_int (by rw [HC.out,cmpL_same l l' k (by omega) (by omega)]),hb⟩

def bareN (k n:Int):Int:=if k=2∨k=3 then n else 0
def bareS (k:Int) (s:ByteArray):ByteArray:=if k=4 then s else ⟨#[]⟩
theorem bareS_no {k:Int} {s:ByteArray} (h:¬ k=4):bareS k s=⟨#[]⟩:=by simp [bareS,h]
theorem bareN_no {k n:Int} (h2:¬ k=2) (h3:¬ k=3):bareN k n=0:=by simp [bareN,h2,h3]

set_option maxHeartbeats 400000 in
theorem bare_2 (k n:Int) (s:ByteArray) (w:World) (h:k=2) :
  Calls Tryz.prog 133 #[.agg #[.int .i64 k,.int .i64 n,.string s]] w fun e w'=>e = .returned (.agg #[.int .i64 2,.int .i64 n,.string ⟨#[]⟩])∧Below w.heap.size w w':=by
 subst h;go_enter Tryz.func133,Tryz.ntmps133;go_wp2
 exact bodyPost_ret (v:=.agg #[.int .i64 2,.int .i64 n,.string ⟨#[]⟩]) (by simp [results,Tryz.results133,go_sem]) rfl ⟨rfl,((Below.refl _ _).alloc (Nat.le_refl _) _).alloc (by simp) _⟩
set_option maxHeartbeats 400000 in
theorem bare_3 (k n:Int) (s:ByteArray) (w:World) (h:k=3) :
  Calls Tryz.prog 133 #[.agg #[.int .i64 k,.int .i64 n,.string s]] w fun e w'=>e = .returned (.agg #[.int .i64 3,.int .i64 n,.string ⟨#[]⟩])∧Below w.heap.size w w':=by
 subst h;go_enter Tryz.func133,Tryz.ntmps133;go_wp2
 exact bodyPost_ret (v:=.agg #[.int .i64 3,.int .i64 n,.string ⟨#[]⟩]) (by simp [results,Tryz.results133,go_sem]) rfl ⟨rfl,((Below.refl _ _).alloc (Nat.le_refl _) _).alloc (by simp) _⟩
set_option maxHeartbeats 400000 in
theorem bare_4 (k n:Int) (s:ByteArray) (w:World) (h:k=4) :
  Calls Tryz.prog 133 #[.agg #[.int .i64 k,.int .i64 n,.string s]] w fun e w'=>e = .returned (.agg #[.int .i64 4,.int .i64 0,.string s])∧Below w.heap.size w w':=by
 subst h;go_enter Tryz.func133,Tryz.ntmps133;go_wp2
 exact bodyPost_ret (v:=.agg #[.int .i64 4,.int .i64 0,.string s]) (by simp [results,Tryz.results133,go_sem]) rfl ⟨rfl,((Below.refl _ _).alloc (Nat.le_refl _) _).alloc (by simp) _⟩
set_option maxHeartbeats 400000 in
theorem bare_x (k n:Int) (s:ByteArray) (w:World) (h2:¬ k=2) (h3:¬ k=3) (h4:¬ k=4) :
  Calls Tryz.prog 133 #[.agg #[.int .i64 k,.int .i64 n,.string s]] w fun e w'=>e = .returned (.agg #[.int .i64 k,.int .i64 0,.string ⟨#[]⟩])∧Below w.heap.size w w':=by
 have b2:(k == 2)=false:=by simpa using h2
 have b3:(k == 3)=false:=by simpa using h3
 have b4:(k == 4)=false:=by simpa using h4
 go_enter Tryz.func133,Tryz.ntmps133;go_wp2
 exact bodyPost_ret (v:=.agg #[.int .i64 k,.int .i64 0,.string ⟨#[]⟩]) (by simp [results,Tryz.results133,go_sem]) rfl ⟨rfl,((Below.refl _ _).alloc (Nat.le_refl _) _).alloc (by simp) _⟩
theorem bare_any (k n:Int) (s:ByteArray) (w:World) :
  Calls Tryz.prog 133 #[.agg #[.int .i64 k,.int .i64 n,.string s]] w fun e w'=>e = .returned (.agg #[.int .i64 k,.int .i64 (bareN k n),.string (bareS k s)])∧Below w.heap.size w w':=by
 by_cases h2:k=2
 ·have e:bareN k n=n:=by simp [bareN,h2]
  rw [e,bareS_no (by omega),h2];exact bare_2 2 n s w rfl
 by_cases h3:k=3
 ·have e:bareN k n=n:=by simp [bareN,h3]
  rw [e,bareS_no (by omega),h3];exact bare_3 3 n s w rfl
 rw [bareN_no h2 h3];by_cases h4:k=4
 ·have e:bareS k s=s:=by simp [bareS,h4]
  rw [e,h4];exact bare_4 4 n s w rfl
 rw [bareS_no h4];exact bare_x k n s w h2 h3 h4
set_option maxHeartbeats 400000 in
theorem refBare_2 (k n:Int) (s:ByteArray) (w:World) (h:k=2) :
  Calls Tryz.prog 137 #[.agg #[.int .i64 k,.int .i64 n,.string s]] w fun e w'=>e = .returned (.agg #[.int .i64 2,.int .i64 n,.string ⟨#[]⟩])∧Below w.heap.size w w':=by
 subst h;go_enter Tryz.func137,Tryz.ntmps137;go_wp2
 exact bodyPost_ret (v:=.agg #[.int .i64 2,.int .i64 n,.string ⟨#[]⟩]) (by simp [results,Tryz.results137,go_sem]) rfl ⟨rfl,(((Below.refl _ _).alloc (Nat.le_refl _) _).alloc (by simp) _).alloc (by simp; omega) _⟩
set_option maxHeartbeats 400000 in
theorem refBare_3 (k n:Int) (s:ByteArray) (w:World) (h:k=3) :
  Calls Tryz.prog 137 #[.agg #[.int .i64 k,.int .i64 n,.string s]] w fun e w'=>e = .returned (.agg #[.int .i64 3,.int .i64 n,.string ⟨#[]⟩])∧Below w.heap.size w w':=by
 subst h;go_enter Tryz.func137,Tryz.ntmps137;go_wp2
 exact bodyPost_ret (v:=.agg #[.int .i64 3,.int .i64 n,.string ⟨#[]⟩]) (by simp [results,Tryz.results137,go_sem]) rfl ⟨rfl,(((Below.refl _ _).alloc (Nat.le_refl _) _).alloc (by simp) _).alloc (by simp; omega) _⟩
set_option maxHeartbeats 400000 in
theorem refBare_4 (k n:Int) (s:ByteArray) (w:World) (h:k=4) :
  Calls Tryz.prog 137 #[.agg #[.int .i64 k,.int .i64 n,.string s]] w fun e w'=>e = .returned (.agg #[.int .i64 4,.int .i64 0,.string s])∧Below w.heap.size w w':=by
 subst h;go_enter Tryz.func137,Tryz.ntmps137;go_wp2
 exact bodyPost_ret (v:=.agg #[.int .i64 4,.int .i64 0,.string s]) (by simp [results,Tryz.results137,go_sem]) rfl ⟨rfl,(((Below.refl _ _).alloc (Nat.le_refl _) _).alloc (by simp) _).alloc (by simp; omega) _⟩
set_option maxHeartbeats 400000 in
theorem refBare_x (k n:Int) (s:ByteArray) (w:World) (h2:¬ k=2) (h3:¬ k=3) (h4:¬ k=4) :
  Calls Tryz.prog 137 #[.agg #[.int .i64 k,.int .i64 n,.string s]] w fun e w'=>e = .returned (.agg #[.int .i64 k,.int .i64 0,.string ⟨#[]⟩])∧Below w.heap.size w w':=by
 have b2:(k == 2)=false:=by simpa using h2
 have b3:(k == 3)=false:=by simpa using h3
 have b4:(k == 4)=false:=by simpa using h4
 go_enter Tryz.func137,Tryz.ntmps137;go_wp2
 exact bodyPost_ret (v:=.agg #[.int .i64 k,.int .i64 0,.string ⟨#[]⟩]) (by simp [results,Tryz.results137,go_sem]) rfl ⟨rfl,(((Below.refl _ _).alloc (Nat.le_refl _) _).alloc (by simp) _).alloc (by simp; omega) _⟩
theorem refBare_any (k n:Int) (s:ByteArray) (w:World) :
  Calls Tryz.prog 137 #[.agg #[.int .i64 k,.int .i64 n,.string s]] w fun e w'=>e = .returned (.agg #[.int .i64 k,.int .i64 (bareN k n),.string (bareS k s)])∧Below w.heap.size w w':=by
 by_cases h2:k=2
 ·have e:bareN k n=n:=by simp [bareN,h2]
  rw [e,bareS_no (by omega),h2];exact refBare_2 2 n s w rfl
 by_cases h3:k=3
 ·have e:bareN k n=n:=by simp [bareN,h3]
  rw [e,bareS_no (by omega),h3];exact refBare_3 3 n s w rfl
 rw [bareN_no h2 h3];by_cases h4:k=4
 ·have e:bareS k s=s:=by simp [bareS,h4]
  rw [e,h4];exact refBare_4 4 n s w rfl
 rw [bareS_no h4];exact refBare_x k n s w h2 h3 h4

/-- The first thing that is wrong with values: 0, if nothing is. -/
def wrongL:List Vl→Int
 | []=>0
 | v :: r=>if wrongF v.1 v.2.1 v.2.2=0 then wrongL r else wrongF v.1 v.2.1 v.2.2
def wrongRowF (l:List Vl):Int:=if 8<l.length then 5 else wrongL l
def inW (w:Int):Bool:=decide (-1000000≤w) && decide (w≤1000000)

theorem wrongL_drop (l:List Vl) (k:Nat) (h:k<l.length):wrongL (l.drop k)=if wrongF l[k].1 l[k].2.1 l[k].2.2=0 then wrongL (l.drop (k+1)) else wrongF l[k].1 l[k].2.1 l[k].2.2:=by
 rw [List.drop_eq_getElem_cons h]; rfl
theorem wrongL_end (l:List Vl) (k:Nat) (h:l.length≤k):wrongL (l.drop k)=0:=by rw [List.drop_eq_nil_of_le h]; rfl
theorem wrongL_right:∀ (l:List Vl),wrongL l=0↔rightB l=true
 | []=>by simp [wrongL,rightB]
 | v :: r=>by
  have ih:=wrongL_right r
  unfold rightB at ih ⊢
  by_cases h:wrongF v.1 v.2.1 v.2.2=0 <;> simp [wrongL,h,ih]
theorem wrongRowF_zero (l:List Vl):wrongRowF l=0↔l.length≤8∧rightB l=true:=by
 unfold wrongRowF;by_cases h:8<l.length
 ·rw [if_pos h];constructor
  ·intro h'; omega
  ·rintro ⟨h',_⟩; omega
 ·rw [if_neg h,wrongL_right];exact ⟨fun h'=>⟨by omega,h'⟩,fun h'=>h'.2⟩
set_option maxHeartbeats 1000000 in
theorem wrongRow_at (a:Option Addr) (cap:Nat) (l:List Vl) (w:World) (h:SlAt w a l) :
  Calls Tryz.prog 103 #[.slice a l.length cap] w fun e w'=>e = .returned (.int .i64 (wrongRowF l))∧Below w.heap.size w w':=by
 have hl:=h.1;unfold maxLen at hl;by_cases h8:8<l.length
 ·have e:wrongRowF l=5:=by simp [wrongRowF,h8]
  rw [e];clear e;go_enter Tryz.func103,Tryz.ntmps103;go_wp2
  go_ret;exact ⟨rfl,Below.refl _ _⟩
 ·have e:wrongRowF l=wrongL l:=by simp [wrongRowF,h8]
  rw [e];clear e;go_enter Tryz.func103,Tryz.ntmps103;go_wp2_with fail
  go_loopw [11] (fun i w1=>∃ k:Nat,k≤l.length∧i = .int .i64 k∧Hid (wrongL l=wrongL (l.drop k))∧Below w.heap.size w w1) (fun i _=>l.length - (intOf i).toNat)
  case atStart=>exact ⟨0,Nat.zero_le _,rfl,rfl,Below.refl _ _⟩
  case round =>
   obtain ⟨k,hk,rfl,HC,hb⟩:=hrel;have hz:=hb.size;by_cases hlt:k<l.length
   ·obtain ⟨b,off,rfl,hbl,c0,c1,c2⟩:=(h.next hb).elem hlt;by_cases hw:wrongF l[k].1 l[k].2.1 l[k].2.2=0
    ·have Hw:Hid (wrongF l[k].1 l[k].2.1 l[k].2.2=0):=hw;clear hw;go_wp2_with fail
     refine (wrong_any _ _ _ _).mono ?_;rintro e w1 ⟨rfl,hb1⟩;rw [Hw.out];go_wp2
     go_roundw
     case rel=>exact ⟨k+1,by omega,by go_num,HC.out.trans (by rw [wrongL_drop l k hlt,if_pos Hw.out]),hb.trans (((Below.refl _ _).alloc hz _).trans (hb1.mono (by simp; omega)))⟩
     case measure=>simp [intOf]; omega
    ·have Hw:Hid (¬ wrongF l[k].1 l[k].2.1 l[k].2.2=0):=hw;have hne:(wrongF l[k].1 l[k].2.1 l[k].2.2 != 0)=true:=by simpa using hw
     clear hw;go_wp2_with fail
     refine (wrong_any _ _ _ _).mono ?_;rintro e w1 ⟨rfl,hb1⟩;go_wp2
     go_ret;exact ⟨ret_int (by rw [HC.out,wrongL_drop l k hlt,if_neg Hw.out]),hb.trans (((Below.refl _ _).alloc hz _).trans (hb1.mono (by simp; omega)))⟩
   ·go_wp2
    go_ret;exact ⟨ret_int (by rw [HC.out,wrongL_end l k (by omega)]),hb⟩
set_option maxHeartbeats 1000000 in
theorem refRow_at (a:Option Addr) (cap:Nat) (l:List Vl) (w:World) (h:SlAt w a l) :
  Calls Tryz.prog 47 #[.slice a l.length cap] w fun e w'=>e = .returned (.int .i64 (wrongRowF l))∧Below w.heap.size w w':=by
 have hl:=h.1;unfold maxLen at hl;by_cases h8:8<l.length
 ·have e:wrongRowF l=5:=by simp [wrongRowF,h8]
  rw [e];clear e;go_enter Tryz.func47,Tryz.ntmps47;go_wp2
  go_ret;exact ⟨rfl,Below.refl _ _⟩
 ·have e:wrongRowF l=wrongL l:=by simp [wrongRowF,h8]
  rw [e];clear e;go_enter Tryz.func47,Tryz.ntmps47;go_wp2_with fail
  go_loopw [11] (fun i w1=>∃ k:Nat,k≤l.length∧i = .int .i64 k∧Hid (wrongL l=wrongL (l.drop k))∧Below w.heap.size w w1) (fun i _=>l.length - (intOf i).toNat)
  case atStart=>exact ⟨0,Nat.zero_le _,rfl,rfl,Below.refl _ _⟩
  case round =>
   obtain ⟨k,hk,rfl,HC,hb⟩:=hrel;have hz:=hb.size;by_cases hlt:k<l.length
   ·obtain ⟨b,off,rfl,hbl,c0,c1,c2⟩:=(h.next hb).elem hlt;by_cases hw:wrongF l[k].1 l[k].2.1 l[k].2.2=0
    ·have Hw:Hid (wrongF l[k].1 l[k].2.1 l[k].2.2=0):=hw;clear hw;go_wp2_with fail
     refine (refWrong_any _ _ _ _).mono ?_;rintro e w1 ⟨rfl,hb1⟩;rw [Hw.out];go_wp2
     go_roundw
     case rel=>exact ⟨k+1,by omega,by go_num,HC.out.trans (by rw [wrongL_drop l k hlt,if_pos Hw.out]),hb.trans (((Below.refl _ _).alloc hz _).trans (hb1.mono (by simp; omega)))⟩
     case measure=>simp [intOf]; omega
    ·have Hw:Hid (¬ wrongF l[k].1 l[k].2.1 l[k].2.2=0):=hw;have hne:(wrongF l[k].1 l[k].2.1 l[k].2.2 != 0)=true:=by simpa using hw
     clear hw;go_wp2_with fail
     refine (refWrong_any _ _ _ _).mono ?_;rintro e w1 ⟨rfl,hb1⟩;go_wp2
     go_ret;exact ⟨ret_int (by rw [HC.out,wrongL_drop l k hlt,if_neg Hw.out]),hb.trans (((Below.refl _ _).alloc hz _).trans (hb1.mono (by simp; omega)))⟩
   ·go_wp2
    go_ret;exact ⟨ret_int (by rw [HC.out,wrongL_end l k (by omega)]),hb⟩
set_option maxHeartbeats 400000 in
theorem zInRange_any (n:Int) (w:World) :
  Calls Tryz.prog 92 #[.int .i64 n] w fun e w'=>e = .returned (.bool (inW n))∧w'=w:=by
 by_cases h0:-1000000≤n
 ·have e:inW n=decide (n≤1000000):=by simp [inW,h0]
  rw [e];go_enter Tryz.func92,Tryz.ntmps92;go_wp2
  go_ret;exact ⟨rfl,rfl⟩
 ·have e:inW n=false:=by simp [inW,h0]
  rw [e];go_enter Tryz.func92,Tryz.ntmps92;go_wp2
  go_ret;exact ⟨rfl,rfl⟩
set_option maxHeartbeats 400000 in
theorem refBig_any (n:Int) (w:World) :
  Calls Tryz.prog 48 #[.int .i64 n] w fun e w'=>e = .returned (.bool (!inW n))∧w'=w:=by
 by_cases h0:n < -1000000
 ·have e:inW n=false:=by simp [inW]; omega
  rw [e];go_enter Tryz.func48,Tryz.ntmps48;go_wp2
  go_ret;exact ⟨rfl,rfl⟩
 ·have e:(!inW n)=decide (1000000<n):=by
   have:-1000000≤n:=by omega
   by_cases h1:1000000<n
   ·have:¬ n≤1000000:=by omega
    simp [inW, *]
   ·have:n≤1000000:=by omega
    simp [inW, *]
  rw [e];go_enter Tryz.func48,Tryz.ntmps48;go_wp2
  go_ret;exact ⟨rfl,rfl⟩

/-- A row with its weight. -/
abbrev Zp:Type:=List Vl × Int
/-- A row's two cells at a place. -/
def ElAt (W:World) (b off:Nat) (x:Zp):Prop :=
 W.cell? ⟨b,off+1,none⟩=some (.int .i64 x.2)∧∃ a cap,W.cell? ⟨b,off,none⟩=some (.slice a x.1.length cap)∧SlAt W a x.1
theorem ElAt.next {W w1:World} {b off:Nat} {x:Zp} (h:ElAt W b off x) (hlt:b<W.heap.size) (hb:Below W.heap.size W w1):ElAt w1 b off x:=by
 obtain ⟨h1,a,cap,h2,h3⟩:=h;exact ⟨(hb.cell (p:=⟨b,_,none⟩) hlt).trans h1,a,cap,(hb.cell (p:=⟨b,_,none⟩) hlt).trans h2,h3.next hb⟩
/-- A slice holds these rows: it is empty, or leads to them. -/
def ZsAt (W:World) (a:Option Addr) (l:List Zp):Prop :=
 l.length≤maxLen∧(l = []∨∃ b off,a=some ⟨b,off,none⟩∧b<W.heap.size∧∀ (i:Nat) (h:i<l.length),ElAt W b (off+i*2) l[i])
theorem ZsAt.next {W w1:World} {a:Option Addr} {l:List Zp} (h:ZsAt W a l) (hb:Below W.heap.size W w1):ZsAt w1 a l:=by
 obtain ⟨h0,h | ⟨b,off,e,hlt,hr⟩⟩:=h
 ·exact ⟨h0,.inl h⟩
 ·exact ⟨h0,.inr ⟨b,off,e,Nat.lt_of_lt_of_le hlt hb.size,fun i hi=>(hr i hi).next hlt hb⟩⟩
theorem ZsAt.elem {W:World} {a:Option Addr} {l:List Zp} (h:ZsAt W a l) {k:Nat} (hk:k<l.length) :
  ∃ b off,a=some ⟨b,off,none⟩∧b<W.heap.size∧ElAt W b (off+k*2) l[k]:=by
 obtain ⟨_,h | ⟨b,off,e,hlt,hr⟩⟩:=h
 ·subst h; simp at hk
 ·exact ⟨b,off,e,hlt,hr k hk⟩
/-- .. at two places. -/
theorem ZsAt.elem2 {W:World} {a:Option Addr} {l:List Zp} (h:ZsAt W a l) {j k:Nat} (hj:j<l.length) (hk:k<l.length) :
  ∃ b off,a=some ⟨b,off,none⟩∧b<W.heap.size∧ElAt W b (off+j*2) l[j]∧ElAt W b (off+k*2) l[k]:=by
 obtain ⟨_,h | ⟨b,off,e,hlt,hr⟩⟩:=h
 ·subst h; simp at hk
 ·exact ⟨b,off,e,hlt,hr j hj,hr k hk⟩
/-- What is wrong with rows behind a row: 0, if nothing is. -/
def goW:Option (List Vl)→List Zp→Int
 | _,[]=>0
 | p,x :: r=>if wrongRowF x.1=0 then (if x.2=0∨inW x.2=false then 3 else if ∃ q,p=some q∧0≤cmpL q x.1 then 2 else goW (some x.1) r) else wrongRowF x.1
def wrongZ (l:List Zp):Int:=if 400<l.length then 5 else goW none l
def prevOf (l:List Zp) (k:Nat):Option (List Vl):=if k=0 then none else (l[k - 1]?).map (·.1)
theorem prevOf_succ (l:List Zp) (k:Nat) (h:k<l.length):prevOf l (k+1)=some l[k].1:=by simp [prevOf,h]
theorem prevOf_pos (l:List Zp) (k:Nat) (h:k<l.length) (h0:0<k):prevOf l k=some (l[k - 1]'(by omega)).1:=by
 obtain ⟨j,rfl⟩:∃ j,k=j+1:=⟨k - 1,by omega⟩
 exact prevOf_succ l j (by omega)
theorem goW_end (l:List Zp) (k:Nat) (h:l.length≤k):goW (prevOf l k) (l.drop k)=0:=by rw [List.drop_eq_nil_of_le h]; rfl
theorem goW_row (l:List Zp) (k:Nat) (h:k<l.length) (hw:¬ wrongRowF l[k].1=0):goW (prevOf l k) (l.drop k)=wrongRowF l[k].1:=by
 rw [List.drop_eq_getElem_cons h,goW,if_neg hw]
theorem goW_zero (l:List Zp) (k:Nat) (h:k<l.length) (hw:wrongRowF l[k].1=0) (h0:l[k].2=0∨inW l[k].2=false):goW (prevOf l k) (l.drop k)=3:=by
 rw [List.drop_eq_getElem_cons h,goW,if_pos hw,if_pos h0]
theorem goW_form (l:List Zp) (k:Nat) (h:k<l.length) (hw:wrongRowF l[k].1=0) (h0:¬ l[k].2=0) (h1:inW l[k].2=true) (hp:0<k) (hc:0≤cmpL (l[k - 1]'(by omega)).1 l[k].1):goW (prevOf l k) (l.drop k)=2:=by
 rw [List.drop_eq_getElem_cons h,goW,if_pos hw,if_neg (by simp [h0,h1]),if_pos ⟨_,prevOf_pos l k h hp,hc⟩]
theorem goW_next (l:List Zp) (k:Nat) (h:k<l.length) (hw:wrongRowF l[k].1=0) (h0:¬ l[k].2=0) (h1:inW l[k].2=true) (hc:∀ _:0<k,¬ 0≤cmpL (l[k - 1]'(by omega)).1 l[k].1):goW (prevOf l k) (l.drop k)=goW (prevOf l (k+1)) (l.drop (k+1)):=by
 rw [List.drop_eq_getElem_cons h,goW,if_pos hw,if_neg (by simp [h0,h1]),prevOf_succ l k h];rw [if_neg];rintro ⟨q,hq,hc'⟩;by_cases hp:0<k
 ·rw [prevOf_pos l k h hp] at hq;injection hq with hq
  subst hq;exact hc hp hc'
 ·have:k=0:=by omega
  subst this;simp [prevOf] at hq
theorem chain2 {w wr w2:World} {o:Obj} (hb:Below w.heap.size w wr) (h2:Below (wr.alloc o).heap.size (wr.alloc o) w2):Below w.heap.size w w2 :=
 hb.trans (((Below.refl _ _).alloc hb.size _).trans (h2.mono (by have:=hb.size; simp; omega)))
theorem chain1 {w wr w2:World} (hb:Below w.heap.size w wr) (h2:Below wr.heap.size wr w2):Below w.heap.size w w2 :=
 hb.trans (h2.mono hb.size)

set_option maxHeartbeats 2000000 in
theorem zWrong_at (a:Option Addr) (cap:Nat) (l:List Zp) (w:World) (h:ZsAt w a l) :
  Calls Tryz.prog 69 #[.slice a l.length cap] w fun e w'=>e = .returned (.int .i64 (wrongZ l))∧Below w.heap.size w w':=by
 have hl:=h.1;unfold maxLen at hl;by_cases h8:400<l.length
 ·have e:wrongZ l=5:=by simp [wrongZ,h8]
  rw [e];clear e;go_enter Tryz.func69,Tryz.ntmps69;go_wp2
  go_ret;exact ⟨rfl,Below.refl _ _⟩
 ·have e:wrongZ l=goW none l:=by simp [wrongZ,h8]
  rw [e];clear e;go_enter Tryz.func69,Tryz.ntmps69;go_wp2_with fail
  go_loopw [11] (fun i w1=>∃ k:Nat,k≤l.length∧i = .int .i64 k∧Hid (goW none l=goW (prevOf l k) (l.drop k))∧Below w.heap.size w w1) (fun i _=>l.length - (intOf i).toNat)
  case atStart=>exact ⟨0,Nat.zero_le _,rfl,rfl,Below.refl _ _⟩
  case round =>
   obtain ⟨k,hk,rfl,HC,hb⟩:=hrel;have hz:=hb.size;by_cases hlt:k<l.length
   ·obtain ⟨b,off,rfl,hbl,c1,ar,cr,c0,sr⟩:=(h.next hb).elem hlt;have HZ:Hid (ZsAt w (some ⟨b,off,none⟩) l):=h;clear h;by_cases hw:wrongRowF l[k].1=0
    ·have Hw:Hid (wrongRowF l[k].1=0):=hw;clear hw;go_wp2_with fail
     refine (wrongRow_at _ _ _ _ (sr.next ((Below.refl _ _).alloc (Nat.le_refl _) _))).mono ?_;rintro e w1 ⟨rfl,hb1⟩;rw [Hw.out];have hb1':=chain2 hb hb1;have hz1:wr.heap.size<w1.heap.size:=by have:=hb1.size; simp at this; omega
     have e0:w1.cell? ⟨wr.heap.size,0,none⟩=some (.slice ar l[k].1.length cr):=(hb1.cell (p:=⟨wr.heap.size,0,none⟩) (by simp)).trans (by simp);have e1:w1.cell? ⟨wr.heap.size,1,none⟩=some (.int .i64 l[k].2):=(hb1.cell (p:=⟨wr.heap.size,1,none⟩) (by simp)).trans (by simp);by_cases h0:l[k].2=0
     ·have HN:Hid (goW none l=3):=HC.out.trans (goW_zero l k hlt Hw.out (.inl h0));go_wp2
      go_ret;exact ⟨ret_int HN.out.symm,hb1'⟩
     ·have g0:(l[k].2 == 0)=false:=by simpa using h0
      cases h1:inW l[k].2
      ·have HN:Hid (goW none l=3):=HC.out.trans (goW_zero l k hlt Hw.out (.inr h1));have H1:Hid (inW l[k].2=false):=h1;clear h1;go_wp2_with fail
       refine (zInRange_any _ _).mono ?_;rintro e w2 ⟨rfl,rfl⟩;rw [H1.out];go_wp2
       go_ret;exact ⟨ret_int HN.out.symm,hb1'⟩
      ·have H1:Hid (inW l[k].2=true):=h1;clear h1;by_cases hp:0<k
       ·obtain ⟨b',off',hh,hbl',⟨d1,ap,cp,d0,sp⟩,-⟩:=(HZ.out.next hb1').elem2 (j:=k - 1) (k:=k) (by omega) hlt;simp only [Option.some.injEq,Addr.mk.injEq] at hh;obtain ⟨rfl,rfl,-⟩:=hh;have sr1:=(sr.next ((Below.refl _ _).alloc (Nat.le_refl _) _)).next hb1;have i0:(0:Int)<(k:Int):=by omega
        have i1:(0:Int)≤(k:Int) - 1:=by omega
        have i2:(k:Int) - 1<(l.length:Int):=by omega
        have i3:((k:Int) - 1).toNat=k - 1:=by omega
        have p0:=past_cell d0;have p1:=past_cell e0;have p2:=past_cell e1;haveI:Nonempty (Past w1):=⟨⟨w1,Below.refl _ _⟩⟩
        by_cases hc:0≤cmpL (l[k - 1]'(by omega)).1 l[k].1
        ·have HN:Hid (goW none l=2):=HC.out.trans (goW_form l k hlt Hw.out h0 H1.out hp hc);go_wp2_with fail
         refine (zInRange_any _ _).mono ?_;rintro e w2 ⟨rfl,rfl⟩;rw [H1.out];go_wp2_with fail
         refine wp_region_past (by kernel_rfl) (by kernel_rfl) ?_
         repeat (go_big_quiet_step (first | (go_at_call 73; exact in_past (rows_at _ _ _ _ _ _ _ (sp.next (Past.ok _)) (sr1.next (Past.ok _))))))
         refine wpQuiet_nil ?_;rintro _ ⟨⟨w2,hb2⟩,rfl⟩;go_wp2
         go_ret;exact ⟨ret_int HN.out.symm,chain1 hb1' hb2⟩
        ·have HN:Hid (goW none l=goW (prevOf l (k+1)) (l.drop (k+1))):=HC.out.trans (goW_next l k hlt Hw.out h0 H1.out (fun _=>hc));have hc':cmpL (l[k - 1]'(by omega)).1 l[k].1<0:=by omega
         go_wp2_with fail
         refine (zInRange_any _ _).mono ?_;rintro e w2 ⟨rfl,rfl⟩;rw [H1.out];go_wp2_with fail
         refine wp_region_past (by kernel_rfl) (by kernel_rfl) ?_
         repeat (go_big_quiet_step (first | (go_at_call 73; exact in_past (rows_at _ _ _ _ _ _ _ (sp.next (Past.ok _)) (sr1.next (Past.ok _))))))
         refine wpQuiet_nil ?_;rintro _ ⟨⟨w2,hb2⟩,rfl⟩;go_wp2
         go_roundw
         case rel=>exact ⟨k+1,by omega,by go_num,HN.out,chain1 hb1' hb2⟩
         case measure=>simp [intOf]; omega
       ·have k0:k=0:=by omega
        subst k0;have HN:Hid (goW none l=goW (prevOf l (0+1)) (l.drop (0+1))):=HC.out.trans (goW_next l 0 hlt Hw.out h0 H1.out (fun h=>absurd h hp));haveI:Nonempty (Past w1):=⟨⟨w1,Below.refl _ _⟩⟩
        go_wp2_with fail
        refine (zInRange_any _ _).mono ?_;rintro e w2 ⟨rfl,rfl⟩;rw [H1.out];go_wp2_with fail
        refine wp_region_past (by kernel_rfl) (by kernel_rfl) ?_
        repeat (go_big_quiet_step (fail))
        refine wpQuiet_nil ?_;rintro _ ⟨⟨w2,hb2⟩,rfl⟩;go_wp2
        go_roundw
        case rel=>exact ⟨0+1,by omega,by go_num,HN.out,chain1 hb1' hb2⟩
        case measure=>simp [intOf]; omega
    ·have Hw:Hid (¬ wrongRowF l[k].1=0):=hw;have hne:(wrongRowF l[k].1 != 0)=true:=by simpa using hw
     have HN:Hid (goW none l=wrongRowF l[k].1):=HC.out.trans (goW_row l k hlt hw);clear hw;go_wp2_with fail
     refine (wrongRow_at _ _ _ _ (sr.next ((Below.refl _ _).alloc (Nat.le_refl _) _))).mono ?_;rintro e w1 ⟨rfl,hb1⟩;go_wp2
     go_ret;exact ⟨ret_int HN.out.symm,chain2 hb hb1⟩
   ·go_wp2
    go_ret;exact ⟨ret_int (by rw [HC.out,goW_end l k (by omega)]),hb⟩

theorem Tryz.info42:(Tryz.prog.info? 58).map (fun i=>(i.zero,i.size,i.bytes))=some (some (.agg #[.slice none 0 0,.int .i64 0]),2,32):=by kernel_rfl
theorem Tryz.info49:(Tryz.prog.info? 24).map (fun i=>(i.zero,i.size,i.bytes))=some (some (.agg #[.int .i64 0,.int .i64 0,.string ⟨#[]⟩]),3,32):=by kernel_rfl

def bareP (v:Vl):Vl:=(v.1,bareN v.1 v.2.1,bareS v.1 v.2.2)
def bareL (l:List Vl):List Vl:=l.map bareP

/-- The block to which a slice of values leads is one of values. -/
def TyAt (W:World) (a:Option Addr):Prop:=∀ b off,a=some ⟨b,off,none⟩→∃ c z,W.heap[b]? = some (.cells c 24 z)
theorem TyAt.next {W w1:World} {a:Option Addr} (h:TyAt W a) (hb:Below W.heap.size W w1):TyAt w1 a:=by
 intro b off e;obtain ⟨c,z,h1⟩:=h b off e;have hlt:b<W.heap.size:=by
  rcases Nat.lt_or_ge b W.heap.size with h | h
  ·exact h
  ·rw [Array.getElem?_eq_none h] at h1; cases h1
 exact ⟨c,z,(hb.block b hlt).trans h1⟩
theorem grown_of_below {W w1:World} (hb:Below W.heap.size W w1) (row:Option Nat):W.grownBy w1 row:=⟨hb.os,hb.tape,hb.output,hb.size,fun k hk _=>hb.block k hk⟩
theorem own_next {W w1:World} {base e size n:Nat} {v:Value} {xs:List Value} (h:W.ownsRow base e size v n xs) (hb:Below W.heap.size W w1):w1.ownsRow base e size v n xs:=by
 refine h.kept (grown_of_below hb none) ?_;cases v.ownBlock <;> simp
/-- Cells that hold rows with weights, whose values lie in blocks of values. -/
def EncT (W:World) (xs:List Value) (l:List Zp):Prop :=
 xs.length=l.length*2∧∀ (i:Nat) (h:i<l.length),∃ a cap,xs[i*2]? = some (.slice a l[i].1.length cap)∧xs[i*2+1]? = some (.int .i64 l[i].2)∧SlAt W a l[i].1∧TyAt W a
theorem EncT.next {W w1:World} {xs:List Value} {l:List Zp} (h:EncT W xs l) (hb:Below W.heap.size W w1):EncT w1 xs l :=
 ⟨h.1,fun i hi=>by
  obtain ⟨a,cap,h1,h2,h3,h4⟩:=h.2 i hi
  exact ⟨a,cap,h1,h2,h3.next hb,h4.next hb⟩⟩
/-- A slice of a call's own holds these rows. -/
def OwnZ (base:Nat) (W:World) (v:Value) (l:List Zp):Prop:=∃ xs,W.ownsRow base 58 2 v l.length xs∧EncT W xs l
theorem OwnZ.next {base:Nat} {W w1:World} {v:Value} {l:List Zp} (h:OwnZ base W v l) (hb:Below W.heap.size W w1):OwnZ base w1 v l:=by
 obtain ⟨xs,h1,h2⟩:=h;exact ⟨xs,own_next h1 hb,h2.next hb⟩
theorem OwnZ.mono {base base':Nat} {W:World} {v:Value} {l:List Zp} (h:OwnZ base W v l) (hb:base'≤base):OwnZ base' W v l:=by
 obtain ⟨xs,⟨h0,h1⟩,h2⟩:=h;refine ⟨xs,⟨h0,?_⟩,h2⟩;rcases h1 with h1 | ⟨g,cap,cur,e,hg,h3⟩
 ·exact .inl h1
 ·exact .inr ⟨g,cap,cur,e,Nat.le_trans hb hg,h3⟩
theorem OwnZ.zs {base:Nat} {W:World} {v:Value} {l:List Zp} (h:OwnZ base W v l):∃ a cap,v = .slice a l.length cap∧ZsAt W a l:=by
 obtain ⟨xs,h1,h2⟩:=h;have h1':=h1;obtain ⟨hx,h1 | ⟨g,cap,cur,e,hg,hh,hn,hc,hs,ht⟩⟩:=h1
 ·obtain ⟨rfl,h0⟩:=h1;have:l = []:=List.eq_nil_of_length_eq_zero h0;subst this;exact ⟨none,0,rfl,Nat.zero_le _,.inl rfl⟩
 ·subst e;refine ⟨_,cap,rfl,Nat.le_trans hn hc,.inr ⟨g,0,rfl,?_,?_⟩⟩
  ·exact (h1'.lt g rfl).2
  ·intro i hi;obtain ⟨a,cp,e0,e1,e2,e3⟩:=h2.2 i hi;refine ⟨?_,a,cp,?_,e2⟩
   ·rw [h1'.cellAt _ (by omega),← e1]; congr 1; omega
   ·rw [h1'.cellAt _ (by omega),← e0]; congr 1; omega
theorem sl_grown {W w1:World} {base n:Nat} {v:Value} {xs:List Value} {a:Option Addr} {r:List Vl} (h:SlAt W a r) (ht:TyAt W a) (ho:W.ownsRow base 58 2 v n xs) (hg:W.grownBy w1 v.ownBlock):SlAt w1 a r∧TyAt w1 a:=by
 have key:∀ b off,a=some ⟨b,off,none⟩→w1.heap[b]? = W.heap[b]?:=by
  intro b off e;obtain ⟨c,z,h1⟩:=ht b off e;have hlt:b<W.heap.size:=by
   rcases Nat.lt_or_ge b W.heap.size with h | h
   ·exact h
   ·rw [Array.getElem?_eq_none h] at h1; cases h1
  refine hg.block b hlt ?_;obtain ⟨_,⟨rfl,_⟩ | ⟨g,cap,cur,rfl,_,hh,_⟩⟩:=ho
  ·simp [Value.ownBlock]
  ·simp only [Value.ownBlock];intro e;injection e with e
   subst e;rw [hh] at h1;simp at h1
 refine ⟨⟨h.1,?_⟩,?_⟩
 ·rcases h.2 with h | ⟨b,off,e,hr,hlt⟩
  ·exact .inl h
  ·refine .inr ⟨b,off,e,fun i hi=>?_,Nat.lt_of_lt_of_le hlt hg.size⟩;have k:=key b off e;obtain ⟨c0,c1,c2⟩:=hr i hi;exact ⟨(World.cell?_of_block (a:=⟨b,_,none⟩) k).trans c0,(World.cell?_of_block (a:=⟨b,_,none⟩) k).trans c1,(World.cell?_of_block (a:=⟨b,_,none⟩) k).trans c2⟩
 ·intro b off e;obtain ⟨c,z,h1⟩:=ht b off e;exact ⟨c,z,(key b off e).trans h1⟩
/-- One row more. -/
theorem own_push {W w1:World} {base:Nat} {v v':Value} {xs:List Value} {l:List Zp} {a:Option Addr} {cap:Nat} {r:List Vl} {x:Int}
  (ho:W.ownsRow base 58 2 v l.length xs) (he:EncT W xs l) (hs:SlAt W a r) (ht:TyAt W a)
  (ho':w1.ownsRow base 58 2 v' (l.length+1) (xs ++ [.slice a r.length cap,.int .i64 x])) (hg:W.grownBy w1 v.ownBlock):OwnZ base w1 v' (l ++ [(r,x)]):=by
 refine ⟨_,by simpa using ho',by simp [he.1]; omega,?_⟩;intro i hi;by_cases hi':i<l.length
 ·obtain ⟨a',c',h1,h2,h3,h4⟩:=he.2 i hi';have g:=sl_grown h3 h4 ho hg;have lx:=he.1;refine ⟨a',c',?_,?_,?_,g.2⟩
  ·rw [List.getElem?_append_left (by omega),h1,List.getElem_append_left hi']
  ·rw [List.getElem?_append_left (by omega),h2,List.getElem_append_left hi']
  ·rw [List.getElem_append_left hi']; exact g.1
 ·have:i=l.length:=by simp at hi; omega
  subst this;have lx:=he.1;have g:=sl_grown hs ht ho hg;refine ⟨a,cap,?_,?_,?_,g.2⟩
  ·rw [List.getElem?_append_right (by omega)]; simp [lx]
  ·rw [List.getElem?_append_right (by omega)]; simp [lx]
  ·simpa using g.1
/-- What the making of bare values has come to: k of them are there. -/
def BareTo (W:World) (B n:Nat) (l:List Vl) (k:Nat):Prop:=∃ xs,W.ownsRow B 24 3 (.slice (some ⟨B,0,none⟩) n n) n xs∧∀ (j:Nat) (h:j<l.length),j<k→xs[j*3]? = some (.int .i64 (bareP l[j]).1)∧xs[j*3+1]? = some (.int .i64 (bareP l[j]).2.1)∧xs[j*3+2]? = some (.string (bareP l[j]).2.2)
theorem BareTo.step {W:World} {B n:Nat} {l:List Vl} {k:Nat} (h:BareTo W B n l k) (hk:k<l.length) (hn:n=l.length) :
  BareTo (((W.setCell ⟨B,k*3,none⟩ (.int .i64 (bareP l[k]).1)).setCell ⟨B,k*3+1,none⟩ (.int .i64 (bareP l[k]).2.1)).setCell ⟨B,k*3+2,none⟩ (.string (bareP l[k]).2.2)) B n l (k+1):=by
 obtain ⟨xs,h1,h2⟩:=h;have lx:=h1.1;refine ⟨_,((((h1.stored (k*3) _).1.stored (k*3+1) _).1).stored (k*3+2) _).1,?_⟩;intro j hj hjk;by_cases e:j=k
 ·subst e;refine ⟨?_,?_,?_⟩ <;> simp [List.getElem?_set,lx,hn] <;> omega
 ·obtain ⟨g0,g1,g2⟩:=h2 j hj (by omega);refine ⟨?_,?_,?_⟩
  ·rw [List.getElem?_set_ne (by omega),List.getElem?_set_ne (by omega),List.getElem?_set_ne (by omega)]; exact g0
  ·rw [List.getElem?_set_ne (by omega),List.getElem?_set_ne (by omega),List.getElem?_set_ne (by omega)]; exact g1
  ·rw [List.getElem?_set_ne (by omega),List.getElem?_set_ne (by omega),List.getElem?_set_ne (by omega)]; exact g2
theorem BareTo.next {W w1:World} {B n:Nat} {l:List Vl} {k:Nat} (h:BareTo W B n l k) (hb:Below W.heap.size W w1):BareTo w1 B n l k:=by
 obtain ⟨xs,h1,h2⟩:=h;exact ⟨xs,own_next h1 hb,h2⟩
theorem BareTo.cells {W:World} {B n:Nat} {l:List Vl} {k:Nat} (h:BareTo W B n l k) (hk:k<n):(∃ u0 u1 u2,W.cell? ⟨B,k*3,none⟩=some u0∧W.cell? ⟨B,k*3+1,none⟩=some u1∧W.cell? ⟨B,k*3+2,none⟩=some u2)∧W.frozen? ⟨B,k*3,none⟩=false∧W.frozen? ⟨B,k*3+1,none⟩=false∧W.frozen? ⟨B,k*3+2,none⟩=false∧B<W.heap.size:=by
 obtain ⟨xs,h1,h2⟩:=h;have lx:=h1.1;refine ⟨⟨xs[k*3]'(by omega),xs[k*3+1]'(by omega),xs[k*3+2]'(by omega),?_,?_,?_⟩,h1.frozenAt _,h1.frozenAt _,h1.frozenAt _,(h1.lt B rfl).2⟩
 ·rw [h1.cellAt _ (by omega)]; exact List.getElem?_eq_getElem (by omega)
 ·rw [h1.cellAt _ (by omega)]; exact List.getElem?_eq_getElem (by omega)
 ·rw [h1.cellAt _ (by omega)]; exact List.getElem?_eq_getElem (by omega)
theorem BareTo.done {W:World} {B n:Nat} {l:List Vl} (h:BareTo W B n l l.length) (hn:n=l.length) (h8:l.length≤8):SlAt W (some ⟨B,0,none⟩) (bareL l)∧TyAt W (some ⟨B,0,none⟩):=by
 obtain ⟨xs,h1,h2⟩:=h;subst hn;refine ⟨⟨by simp [bareL,maxLen]; omega,.inr ⟨B,0,rfl,?_,(h1.lt B rfl).2⟩⟩,?_⟩
 ·intro i hi;have hi':i<l.length:=by simpa [bareL] using hi
  obtain ⟨g0,g1,g2⟩:=h2 i hi' hi';simp only [bareL,List.getElem_map];refine ⟨?_,?_,?_⟩
  ·rw [h1.cellAt _ (by omega),← g0]; congr 1; omega
  ·rw [h1.cellAt _ (by omega),← g1]; congr 1; omega
  ·rw [h1.cellAt _ (by omega),← g2]; congr 1; omega
 ·intro b off e;obtain ⟨_,⟨e',_⟩ | ⟨g,cap,cur,e',_,hh,_⟩⟩:=h1
  ·cases e'
  ·simp only [Value.slice.injEq,Option.some.injEq,Addr.mk.injEq] at e e';obtain ⟨rfl,_⟩:=e;rw [← e'.1.1] at hh;exact ⟨_,_,hh⟩
set_option maxHeartbeats 400000 in
theorem bareRow_at (a:Option Addr) (cap:Nat) (l:List Vl) (w:World) (h:SlAt w a l) (h8:l.length≤8) :
  Calls Tryz.prog 104 #[.slice a l.length cap] w fun e w'=>e = .returned (.slice (some ⟨w.heap.size,0,none⟩) l.length l.length)∧(SlAt w' (some ⟨w.heap.size,0,none⟩) (bareL l)∧TyAt w' (some ⟨w.heap.size,0,none⟩))∧Below w.heap.size w w':=by
 obtain ⟨i0,hi,hz0,hz1,hz2⟩:=info_parts Tryz.info49;go_enter Tryz.func104,Tryz.ntmps104;go_wp2_with (first | (at_make; refine wpList_make_full _ rfl _ _ 56 rfl w.heap.size 24 i0 _ 3 Tryz.underlying56 hi hz0 hz1 .i64 .i64 l.length l.length l.length rfl rfl rfl rfl (by rw [hz2]; omega) (by unfold maxLen; omega) (Nat.le_refl _) ?_))
 intro w1 hown hgrow;have hb0:Below w.heap.size w w1:=(Below.refl _ _).grown hgrow (Nat.le_refl _) (by simp);have hB0:BareTo w1 w.heap.size l.length l 0:=⟨_,hown,fun j _ hj=>absurd hj (Nat.not_lt_zero _)⟩
 clear hown hgrow;go_wp2_with fail
 go_loopw [11] (fun i wr=>∃ k:Nat,k≤l.length∧i = .int .i64 k∧BareTo wr w.heap.size l.length l k∧Below w.heap.size w wr) (fun i _=>l.length - (intOf i).toNat)
 case atStart=>exact ⟨0,Nat.zero_le _,rfl,hB0,hb0⟩
 case round =>
  obtain ⟨k,hk,rfl,HB,hb⟩:=hrel;have hz:=hb.size;by_cases hlt:k<l.length
  ·obtain ⟨b,off,rfl,hbl,c0,c1,c2⟩:=(h.next hb).elem hlt;have i0:(0:Int)≤(k:Int):=by omega
   have i1:(k:Int)<(l.length:Int):=by omega
   go_wp2_with fail
   refine (bare_any _ _ _ _).mono ?_;rintro e w2 ⟨rfl,hb2⟩;have HB2:=(HB.next ((Below.refl _ _).alloc (Nat.le_refl _) _)).next hb2;obtain ⟨⟨u0,u1,u2,d0,d1,d2⟩,f0,f1,f2,hlb⟩:=HB2.cells hlt;go_wp2
   go_roundw
   case rel =>
    refine ⟨k+1,by omega,by go_num,?_,?_⟩
    ·exact HB2.step hlt rfl
    ·exact (((chain2 hb hb2).setCell (p:=⟨w.heap.size,k*3,none⟩) (Nat.le_refl _) _).setCell (p:=⟨w.heap.size,k*3+1,none⟩) (Nat.le_refl _) _).setCell (p:=⟨w.heap.size,k*3+2,none⟩) (Nat.le_refl _) _
   case measure=>simp [intOf]; omega
  ·have e:k=l.length:=by omega
   subst e;go_wp2
   go_ret;exact ⟨rfl,HB.done rfl h8,hb⟩
end Go.Proofs.YtohjlfhmnmcndaaGreat
namespace Go.Proofs.YtohjlfhmnmcndaaGreat

/-- An expression. -/
inductive Ex where
 | mk (k:Int) (v:Vl) (c:Int) (ks:List Ex)
def Ex.k:Ex→Int | .mk k _ _ _=>k
def Ex.v:Ex→Vl | .mk _ v _ _=>v
def Ex.c:Ex→Int | .mk _ _ c _=>c
def Ex.ks:Ex→List Ex | .mk _ _ _ ks=>ks

mutual
theorem Ex.ind {P:Ex→Prop} (h:∀ k v c ks,(∀ x ∈ ks,P x)→P (.mk k v c ks)):∀ x,P x
 | .mk k v c ks=>h k v c ks (Ex.inds h ks)
theorem Ex.inds {P:Ex→Prop} (h:∀ k v c ks,(∀ x ∈ ks,P x)→P (.mk k v c ks)):∀ ks:List Ex,∀ x ∈ ks,P x
 | [],_,hx=>by simp at hx
 | y :: r,x,hx=>by
  rcases List.mem_cons.mp hx with e | hx
  ·exact e ▸ Ex.ind h y
  ·exact Ex.inds h r x hx
end

/-! Types. -/
def kidsN (k:Int):Nat:=if k=1∨k=2 then 0 else if k=3∨k=16 then 1 else if k=17 then 3 else 2
def nodeW (k:Int) (len:Nat) (n d:Int):Int:=if 200<n∨20<d then 4 else if k<1∨18<k then 1 else if len≠kidsN k then 5 else 0
def tog (a b:Int):Option Int:=if a=b∨b=1 then some a else if a=1 then some b else none
def resT:Option Int→Int × Int | some t=>(t,0) | none=>(0,9)
def allO (t:Int) (ts:List Int):Option Int:=if ts.all (fun k=>(tog k t).isSome) then some t else none
def kidsT (k:Int) (ts:List Int):Option Int :=
 if k=3∨k=4∨k=5 then allO 2 ts
 else if 6≤k∧k≤11 then (if (tog (ts.getD 0 0) (ts.getD 1 0)).isSome then some 2 else none)
 else if k=12∨k=13∨k=14 then allO 3 ts
 else if k=15 then allO 4 ts
 else if k=16 then some 2
 else if k=17 then (if (tog (ts.getD 0 0) 2).isSome then tog (ts.getD 1 0) (ts.getD 2 0) else none)
 else tog (ts.getD 0 0) (ts.getD 1 0)
def wrongP (v:Vl):Int:=wrongF v.1 v.2.1 v.2.2
def litT (v:Vl):Int × Int:=if wrongP v=0 then (v.1,0) else (0,wrongP v)
def colT (cols:List Int) (c:Int):Int × Int:=if c<0∨cols.length≤c then (0,7) else (cols.getD c.toNat 0,0)
def nodeT (cols:List Int) (k:Int) (v:Vl) (c:Int) (ts:List Int):Int × Int :=
 if k=1 then litT v else if k=2 then colT cols c else resT (kidsT k ts)
mutual
/-- Type, what is wrong, how many nodes so far. -/
def typeX (cols:List Int):Ex→Int→Int→Int × Int × Int
 | .mk k v c ks,n,d =>
  if nodeW k ks.length (n+1) d≠0 then (0,nodeW k ks.length (n+1) d,n+1)
  else if (typesX cols ks [] (n+1) (d+1)).1≠0 then (0,(typesX cols ks [] (n+1) (d+1)).1,(typesX cols ks [] (n+1) (d+1)).2.2)
  else ((nodeT cols k v c (typesX cols ks [] (n+1) (d+1)).2.1).1,(nodeT cols k v c (typesX cols ks [] (n+1) (d+1)).2.1).2,(typesX cols ks [] (n+1) (d+1)).2.2)
def typesX (cols:List Int):List Ex→List Int→Int→Int→Int × List Int × Int
 | [],acc,n,_=>(0,acc,n)
 | x :: r,acc,n,d =>
  if (typeX cols x n d).2.1≠0 then ((typeX cols x n d).2.1,acc,(typeX cols x n d).2.2)
  else typesX cols r (acc ++ [(typeX cols x n d).1]) (typeX cols x n d).2.2 d
end
mutual
def sizeX:Ex→Nat | .mk _ _ _ ks=>1+sizesX ks
def sizesX:List Ex→Nat | []=>0 | x :: r=>sizeX x+sizesX r
end
mutual
def deepX:Ex→Nat | .mk _ _ _ ks=>1+deepsX ks
def deepsX:List Ex→Nat | []=>0 | x :: r=>max (deepX x) (deepsX r)
end
mutual
/-- The type alone: nothing is counted. -/
def typP (cols:List Int):Ex→Option Int
 | .mk k v c ks=>if k<1∨18<k∨ks.length≠kidsN k then none else
  (typsP cols ks).bind fun ts=>if (nodeT cols k v c ts).2=0 then some (nodeT cols k v c ts).1 else none
def typsP (cols:List Int):List Ex→Option (List Int)
 | []=>some []
 | x :: r=>(typP cols x).bind fun t=>(typsP cols r).map fun ts=>t :: ts
end

theorem sizeX_pos:∀ x:Ex,1≤sizeX x | .mk _ _ _ ks=>by rw [sizeX]; omega
theorem typesX_ok (cols:List Int):∀ (ks:List Ex),(∀ x ∈ ks,∀ n d t n',typeX cols x n d=(t,0,n')↔typP cols x=some t∧n'=n+sizeX x∧n'≤200∧d+deepX x≤21) →
  ∀ acc n d ts n',n≤200→d≤21→(typesX cols ks acc n d=(0,acc ++ ts,n')↔typsP cols ks=some ts∧n'=n+sizesX ks∧n'≤200∧d+deepsX ks≤21)
 | [],_,acc,n,d,ts,n',hn,hd=>by
  simp only [typesX,typsP,sizesX,deepsX,Prod.mk.injEq,true_and,Option.some.injEq]
  constructor
  ·rintro ⟨h,rfl⟩
   have:ts = []:=by simpa using h
   exact ⟨this.symm,by simp,hn,by simpa using hd⟩
  ·rintro ⟨rfl,h,_⟩
   exact ⟨by simp,by simpa using h.symm⟩
 | x :: r,hx,acc,n,d,ts,n',hn,hd=>by
  have ih:=typesX_ok cols r (fun y hy=>hx y (List.mem_cons_of_mem _ hy))
  have h0:=hx x (List.mem_cons_self ..) n d
  rcases hq:typeX cols x n d with ⟨t,e,m⟩
  rw [typesX,hq,typsP,sizesX,deepsX]
  have hs:=sizeX_pos x
  by_cases he:e=0
  ·subst he
   have h1:=(h0 t m).1 hq
   obtain ⟨p1,p2,p3,p4⟩:=h1
   simp only [ne_eq,not_true,if_false,p1,Option.bind_some]
   constructor
   ·intro h
    match ts,h with
    | [],h =>
     exfalso
     have:=congrArg (fun z=>z.2.1.length) h
     have hl:∀ (l:List Ex) acc n d,(typesX cols l acc n d).1=0→acc.length≤(typesX cols l acc n d).2.1.length:=by
      intro l
      induction l with
      | nil=>intro acc n d _; simp [typesX]
      | cons y l ihl =>
       intro acc n d h
       rw [typesX] at h ⊢
       split at h
       ·rename_i hne
        exact absurd h hne
       ·rename_i hne
        rw [if_neg hne]
        have:=ihl _ _ _ h
        simp at this
        omega
     have h2:=hl r (acc ++ [t]) m d (by rw [h])
     rw [h] at h2
     simp at h2
     omega
    | u :: us,h =>
     have hu:u=t:=by
      have hl:∀ (l:List Ex) acc n d,(typesX cols l acc n d).1=0→acc <+: (typesX cols l acc n d).2.1:=by
       intro l
       induction l with
       | nil=>intro acc n d _; simp [typesX]
       | cons y l ihl =>
        intro acc n d h
        rw [typesX] at h ⊢
        split at h
        ·rename_i hne
         exact absurd h hne
        ·rename_i hne
         rw [if_neg hne]
         exact (List.prefix_append _ _).trans (ihl _ _ _ h)
      have h2:=hl r (acc ++ [t]) m d (by rw [h])
      rw [h] at h2
      simp only [List.prefix_append_right_inj] at h2
      exact (List.cons_prefix_cons.mp h2).1.symm
     subst hu
     have h':typesX cols r (acc ++ [u]) m d=(0,(acc ++ [u]) ++ us,n'):=by simpa using h
     obtain ⟨q1,q2,q3,q4⟩:=(ih (acc ++ [u]) m d us n' p3 hd).1 h'
     refine ⟨by simp [q1],by omega,q3,by omega⟩
   ·rintro ⟨q1,q2,q3,q4⟩
    rw [Option.map_eq_some_iff] at q1
    obtain ⟨us,q1,rfl⟩:=q1
    have:=(ih (acc ++ [t]) m d us n' p3 hd).2 ⟨q1,by omega,q3,by omega⟩
    simpa using this
  ·simp only [ne_eq,he,not_false_eq_true,if_true,Prod.mk.injEq,false_and,false_iff]
   rintro ⟨q1,q2,q3,q4⟩
   rw [Option.bind_eq_some_iff] at q1
   obtain ⟨u,q1,_⟩:=q1
   have:=(h0 u (n+sizeX x)).2 ⟨q1,rfl,by omega,by omega⟩
   rw [hq] at this
   simp at this
   exact he this.2.1

theorem typeX_ok (cols:List Int):∀ x n d t n',typeX cols x n d=(t,0,n')↔typP cols x=some t∧n'=n+sizeX x∧n'≤200∧d+deepX x≤21:=by
 refine Ex.ind fun k v c ks ih n d t n'=>?_
 have hk:=typesX_ok cols ks (fun x hx=>ih x hx) [] (n+1) (d+1);rw [typeX,typP,sizeX,deepX];by_cases hw:nodeW k ks.length (n+1) d=0
 ·have hw':¬ (200<n+1∨20<d)∧¬ (k<1∨18<k)∧ks.length=kidsN k:=by
   unfold nodeW at hw;by_cases h1:200<n+1∨20<d
   ·simp [h1] at hw
   by_cases h2:k<1∨18<k
   ·simp [h1,h2] at hw
   by_cases h3:ks.length=kidsN k
   ·exact ⟨h1,h2,h3⟩
   ·simp [h1,h2,h3] at hw
  obtain ⟨h1,h2,h3⟩:=hw';rw [if_neg (by simp [hw]),if_neg (show ¬ (k<1∨18<k∨ks.length≠kidsN k) by simp [h3]; omega)];rcases hq:typesX cols ks [] (n+1) (d+1) with ⟨e,ts,m⟩
  by_cases he:e=0
  ·subst he;obtain ⟨p1,p2,p3,p4⟩:=(hk ts m (by omega) (by omega)).1 (by simpa using hq);simp only [ne_eq,not_true,if_false,p1,Option.bind_some];by_cases hn:(nodeT cols k v c ts).2=0
   ·simp only [hn,if_true,Prod.mk.injEq,true_and,Option.some.injEq];constructor
    ·rintro ⟨rfl,rfl⟩;exact ⟨rfl,by omega,p3,by omega⟩
    ·rintro ⟨rfl,q2,q3,q4⟩;exact ⟨rfl,by omega⟩
   ·simp [hn]
  ·simp only [ne_eq,he,not_false_eq_true,if_true,Prod.mk.injEq,false_and,and_false,false_iff];rintro ⟨q1,q2,q3,q4⟩;rw [Option.bind_eq_some_iff] at q1;obtain ⟨us,q1,_⟩:=q1;have:=(hk us (n+1+sizesX ks) (by omega) (by omega)).2 ⟨q1,rfl,by omega,by omega⟩;rw [hq] at this;simp at this;exact he this.1
 ·rw [if_pos hw];simp only [Prod.mk.injEq,hw,false_and,and_false,false_iff];rintro ⟨q1,q2,q3,q4⟩;apply hw
  split at q1
  ·simp at q1
  ·rename_i hc
   unfold nodeW;rw [if_neg (by omega),if_neg (by omega),if_neg (by simp; omega)]
/-- What the count is, where all goes well. -/
theorem typeX_n {cols:List Int} {x:Ex} {n d:Int} (h:(typeX cols x n d).2.1=0):(typeX cols x n d).2.2≤200∧n<(typeX cols x n d).2.2:=by
 have:=(typeX_ok cols x n d (typeX cols x n d).1 (typeX cols x n d).2.2).1 (by rw [← h]);have:=sizeX_pos x;omega
end Go.Proofs.YtohjlfhmnmcndaaGreat
