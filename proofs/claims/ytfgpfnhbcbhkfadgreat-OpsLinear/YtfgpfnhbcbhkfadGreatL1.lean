/- The statements' own small functions: num, col, alive, plus. -/
import Derived.Test.YtfgpfnhbcbhkfadGreatK8
import Derived.Laws.StructEq
namespace Go.Proofs.YtfgpfnhbcbhkfadGreat
open Go.RowKit Go.Lib Go.Shelf

theorem num_at (n : Int) (w : World) :
    Calls Tryz.prog 60 #[.int .i64 n] w fun e w' => e = .returned (.agg #[.int .i64 3, .int .i64 n, .string ⟨#[]⟩]) ∧ Below w.heap.size w w' := by
  go_enter Tryz.func60, Tryz.ntmps60
  go_wp2_with fail
  exact bodyPost_ret (v := .agg #[.int .i64 3, .int .i64 n, .string ⟨#[]⟩]) (by simp [results, Tryz.results60, go_sem]) rfl ⟨rfl, (Below.refl _ _).alloc (Nat.le_refl _) _⟩
theorem col_at (c : Int) (w : World) :
    Calls Tryz.prog 61 #[.int .i64 c] w fun e w' => e = .returned (exV 2 vl0 c none 0 0) ∧ Below w.heap.size w w' := by
  go_enter Tryz.func61, Tryz.ntmps61
  go_wp2_with fail
  exact bodyPost_ret (v := exV 2 vl0 c none 0 0) (by simp [results, Tryz.results61, go_sem, vl0]) rfl ⟨rfl, (Below.refl _ _).alloc (Nat.le_refl _) _⟩
theorem ks_two (w : World) {B : Nat} {x y : Ex} (ax : Option Addr) (cx : Nat) (ay : Option Addr) (cy : Nat) (hB : B ≤ w.heap.size) (kx : KsAt B w ax x.ks) (ky : KsAt B w ay y.ks) :
    KsAt (w.heap.size + 1) (w.alloc (.cells #[.int .i64 x.k, .int .i64 x.v.1, .int .i64 x.v.2.1, .string x.v.2.2, .int .i64 x.c, .slice ax x.ks.length cx, .int .i64 y.k, .int .i64 y.v.1, .int .i64 y.v.2.1, .string y.v.2.2, .int .i64 y.c, .slice ay y.ks.length cy] 27)) (some ⟨w.heap.size, 0, none⟩) [x, y] := by
  have hal : Below w.heap.size w (w.alloc (.cells #[.int .i64 x.k, .int .i64 x.v.1, .int .i64 x.v.2.1, .string x.v.2.2, .int .i64 x.c, .slice ax x.ks.length cx, .int .i64 y.k, .int .i64 y.v.1, .int .i64 y.v.2.1, .string y.v.2.2, .int .i64 y.c, .slice ay y.ks.length cy] 27)) := (Below.refl _ _).alloc (Nat.le_refl _) _
  have Kx := (KsAt.next hal hB kx).up (Nat.le_succ_of_le hB)
  have Ky := (KsAt.next hal hB ky).up (Nat.le_succ_of_le hB)
  refine .some w.heap.size 0 _ (fun i => if i = 0 then ax else ay) (fun i => if i = 0 then cx else cy) (Nat.lt_succ_self _) (fun i hi => ?_) (fun i hi => ?_)
  · match i, hi with
    | 0, _ => exact ⟨by simp, by simp, by simp, by simp, by simp, by simp⟩
    | 1, _ => exact ⟨by simp, by simp, by simp, by simp, by simp, by simp⟩
  · match i, hi with
    | 0, _ => exact Kx
    | 1, _ => exact Ky

set_option maxHeartbeats 400000 in
theorem plus_at (a b : Option Addr) (ca cb : Nat) (l l' : List Zp) (w : World) (h : ZsAt w a l) (h' : ZsAt w b l') (hn : a = none → ca = 0) :
    Calls Tryz.prog 24 #[.slice a l.length ca, .slice b l'.length cb] w fun e w' => ∃ v, e = .returned (.tuple #[v, .bool (bothE 1 l l' == 0)]) ∧ OwnZ w.heap.size w' v (bothZ 1 l l') ∧ Below w.heap.size w w' := by
  have con := add_at a b ca cb l l' w h h' hn
  generalize bothE 1 l l' = t at *
  generalize bothZ 1 l l' = z at *
  go_enter Tryz.func24, Tryz.ntmps24
  go_wp2_with fail
  refine con.mono ?_
  rintro e w1 ⟨v, rfl, O, hb⟩
  obtain ⟨a1, c1, rfl, _⟩ := O.zs
  go_wp2_with fail
  exact bodyPost_ret (v := .tuple #[.slice a1 z.length c1, .bool (t == 0)]) (by simp [results, Tryz.results24, go_sem]) rfl ⟨_, rfl, O, hb⟩

/-! ### alive -/
def zA : List Zp := [([(3, 1, ⟨#[]⟩)], 2), ([(3, 2, ⟨#[]⟩)], 1)]
def xA : Ex := mk2 8 (.mk 2 vl0 0 []) (.mk 1 (3, 2, ⟨#[]⟩) 0 [])
theorem wrong_zA : wrongZ zA = 0 := by
  rw [wrongZ_iff]
  refine ⟨by decide, ?_, ?_⟩
  · intro x hx
    simp only [zA, List.mem_cons, List.not_mem_nil, or_false] at hx
    rcases hx with rfl | rfl
    · exact ⟨by rfl, by decide, by rfl⟩
    · exact ⟨by rfl, by decide, by rfl⟩
  · simp only [Rise, zA, List.pairwise_cons, List.mem_cons, List.not_mem_nil, or_false, forall_eq, List.Pairwise.nil, and_true, false_imp_iff, implies_true]
    simp [cmpL, cmpP, cmpV, cmpI]
theorem filtE_A : filtE [3] xA zA = 0 := by
  have h1 : condE [3] xA = 0 := by rfl
  have h2 : inpE [3] zA = 0 := by
    rw [inpE_ok]
    refine ⟨by decide, wrong_zA, ?_⟩
    intro x hx
    simp only [zA, List.mem_cons, List.not_mem_nil, or_false] at hx
    rcases hx with rfl | rfl
    · exact (fitsL_ok _ _).1 (by rfl)
    · exact (fitsL_ok _ _).1 (by rfl)
  unfold filtE
  rw [h1, h2]
  rfl
theorem rise_A : Rise zA := ((wrongZ_iff zA).1 wrong_zA).2.2
theorem filtZ_A : filtZ [3] xA zA = [([(3, 1, ⟨#[]⟩)], 2)] := by
  unfold filtZ
  rw [if_pos filtE_A]
  have e : filtL xA zA = [([(3, 1, ⟨#[]⟩)], 2)] := by rfl
  rw [e, canon_rise (by simp [Rise])]
  rfl
def sA : List Zp := [([(3, 1, ⟨#[]⟩)], 4), ([(3, 2, ⟨#[]⟩)], 2)]
theorem both_A : bothE 1 zA zA = 0 ∧ bothZ 1 zA zA = sA := by
  have hr : Rise sA := by
    simp only [Rise, sA, List.pairwise_cons, List.mem_cons, List.not_mem_nil, or_false, forall_eq, List.Pairwise.nil, and_true, false_imp_iff, implies_true]
    simp [cmpL, cmpP, cmpV, cmpI]
  refine plus_of wrong_zA wrong_zA ⟨hr, ?_, ?_⟩ ?_ ?_
  · intro x hx
    simp only [sA, List.mem_cons, List.not_mem_nil, or_false] at hx
    rcases hx with rfl | rfl <;> decide
  · intro x hx
    simp only [sA, List.mem_cons, List.not_mem_nil, or_false] at hx
    rcases hx with rfl | rfl <;> rfl
  · rw [wrongZ_iff]
    refine ⟨by decide, ?_, hr⟩
    intro x hx
    simp only [sA, List.mem_cons, List.not_mem_nil, or_false] at hx
    rcases hx with rfl | rfl
    · exact ⟨by rfl, by decide, by rfl⟩
    · exact ⟨by rfl, by decide, by rfl⟩
  · intro k
    simp only [wt, sA, zA]
    split <;> split <;> omega
theorem zs_two {W : World} {b a1 a2 : Nat} {x1 x2 : Int} {r1 r2 : List Vl} (hb : b < W.heap.size) (h0 : W.cell? ⟨b, 0, none⟩ = some (.slice (some ⟨a1, 0, none⟩) r1.length r1.length)) (h1 : W.cell? ⟨b, 1, none⟩ = some (.int .i64 x1)) (h2 : W.cell? ⟨b, 2, none⟩ = some (.slice (some ⟨a2, 0, none⟩) r2.length r2.length)) (h3 : W.cell? ⟨b, 3, none⟩ = some (.int .i64 x2))
    (s1 : SlAt W (some ⟨a1, 0, none⟩) r1) (s2 : SlAt W (some ⟨a2, 0, none⟩) r2) : ZsAt W (some ⟨b, 0, none⟩) [(r1, x1), (r2, x2)] := by
  refine ⟨by simp [maxLen], .inr ⟨b, 0, rfl, hb, fun i hi => ?_⟩⟩
  match i, hi with
  | 0, _ => exact ⟨h1, _, _, h0, s1⟩
  | 1, _ => exact ⟨h3, _, _, h2, s2⟩

set_option maxRecDepth 100000 in
set_option maxHeartbeats 4000000 in
theorem alive_at (w : World) : Calls Tryz.prog 23 #[] w fun e w' => e = .returned (.bool true) ∧ Below w.heap.size w w' := by
  go_enter Tryz.func23, Tryz.ntmps23
  go_wp2_with fail
  refine (num_at 1 w).mono ?_
  rintro e w1 ⟨rfl, hb1⟩
  go_wp2_with fail
  have h2 : Below w1.heap.size w1 (w1.alloc (.cells #[.int .i64 3, .int .i64 1, .string ⟨#[]⟩] 24)) := (Below.refl _ _).alloc (Nat.le_refl _) _
  have s1 : SlAt (w1.alloc (.cells #[.int .i64 3, .int .i64 1, .string ⟨#[]⟩] 24)) (some ⟨w1.heap.size, 0, none⟩) [(3, 1, ⟨#[]⟩)] :=
    ⟨by unfold maxLen; simp, .inr ⟨w1.heap.size, 0, rfl, fun i hi => by
      match i, hi with
      | 0, _ => exact ⟨by simp, by simp, by simp⟩, by simp⟩⟩
  generalize w1.alloc (.cells #[.int .i64 3, .int .i64 1, .string ⟨#[]⟩] 24) = w2 at *
  have hA := chain hb1 h2
  refine (num_at 2 w2).mono ?_
  rintro e w3 ⟨rfl, hb3⟩
  have hA := chain hA hb3
  have s1 := s1.next hb3
  go_wp2_with fail
  have h4 : Below w3.heap.size w3 (w3.alloc (.cells #[.int .i64 3, .int .i64 2, .string ⟨#[]⟩] 24)) := (Below.refl _ _).alloc (Nat.le_refl _) _
  have s2 : SlAt (w3.alloc (.cells #[.int .i64 3, .int .i64 2, .string ⟨#[]⟩] 24)) (some ⟨w3.heap.size, 0, none⟩) [(3, 2, ⟨#[]⟩)] :=
    ⟨by unfold maxLen; simp, .inr ⟨w3.heap.size, 0, rfl, fun i hi => by
      match i, hi with
      | 0, _ => exact ⟨by simp, by simp, by simp⟩, by simp⟩⟩
  have s1 := s1.next h4
  have z4 : (w3.alloc (.cells #[.int .i64 3, .int .i64 2, .string ⟨#[]⟩] 24)).heap.size = w3.heap.size + 1 := by simp
  generalize w3.alloc (.cells #[.int .i64 3, .int .i64 2, .string ⟨#[]⟩] 24) = w4 at *
  have hA := chain hA h4
  have h5 : Below w4.heap.size w4 (w4.alloc (.cells #[.slice (some ⟨w1.heap.size, 0, none⟩) 1 1, .int .i64 2, .slice (some ⟨w3.heap.size, 0, none⟩) 1 1, .int .i64 1] 53)) := (Below.refl _ _).alloc (Nat.le_refl _) _
  have zs : ZsAt (w4.alloc (.cells #[.slice (some ⟨w1.heap.size, 0, none⟩) 1 1, .int .i64 2, .slice (some ⟨w3.heap.size, 0, none⟩) 1 1, .int .i64 1] 53)) (some ⟨w4.heap.size, 0, none⟩) zA :=
    zs_two (by simp) (by simp) (by simp) (by simp) (by simp) (s1.next h5) (s2.next h5)
  have z5 : (w4.alloc (.cells #[.slice (some ⟨w1.heap.size, 0, none⟩) 1 1, .int .i64 2, .slice (some ⟨w3.heap.size, 0, none⟩) 1 1, .int .i64 1] 53)).heap.size = w4.heap.size + 1 := by simp
  rw [z4] at zs
  generalize w4.alloc (.cells #[.slice (some ⟨w1.heap.size, 0, none⟩) 1 1, .int .i64 2, .slice (some ⟨w3.heap.size, 0, none⟩) 1 1, .int .i64 1] 53) = w5 at *
  have hA := chain hA h5
  clear s1 s2
  refine (col_at 0 w5).mono ?_
  rintro e w6 ⟨rfl, hb6⟩
  have hA := chain hA hb6
  have zs := zs.next hb6
  have hS := hb6
  go_wp2_with fail
  refine (num_at 2 w6).mono ?_
  rintro e w7 ⟨rfl, hb7⟩
  have hA := chain hA hb7
  have zs := zs.next hb7
  go_wp2_with fail
  have K8 : KsAt (w7.heap.size + 1) (w7.alloc (.cells #[.int .i64 2, .int .i64 vl0.1, .int .i64 vl0.2.1, .string vl0.2.2, .int .i64 0, .slice none 0 0, .int .i64 1, .int .i64 3, .int .i64 2, .string ⟨#[]⟩, .int .i64 0, .slice none 0 0] 27)) (some ⟨w7.heap.size, 0, none⟩) xA.ks := ks_two w7 (B := w7.heap.size) (x := .mk 2 vl0 0 []) (y := .mk 1 (3, 2, ⟨#[]⟩) 0 []) none 0 none 0 (Nat.le_refl _) (.nil _) (.nil _)
  have h8 : Below w7.heap.size w7 (w7.alloc (.cells #[.int .i64 2, .int .i64 vl0.1, .int .i64 vl0.2.1, .string vl0.2.2, .int .i64 0, .slice none 0 0, .int .i64 1, .int .i64 3, .int .i64 2, .string ⟨#[]⟩, .int .i64 0, .slice none 0 0] 27)) := (Below.refl _ _).alloc (Nat.le_refl _) _
  have z8 : (w7.alloc (.cells #[.int .i64 2, .int .i64 vl0.1, .int .i64 vl0.2.1, .string vl0.2.2, .int .i64 0, .slice none 0 0, .int .i64 1, .int .i64 3, .int .i64 2, .string ⟨#[]⟩, .int .i64 0, .slice none 0 0] 27)).heap.size = w7.heap.size + 1 := by simp
  generalize w7.alloc (.cells #[.int .i64 2, .int .i64 vl0.1, .int .i64 vl0.2.1, .string vl0.2.2, .int .i64 0, .slice none 0 0, .int .i64 1, .int .i64 3, .int .i64 2, .string ⟨#[]⟩, .int .i64 0, .slice none 0 0] 27) = w8 at *
  have hA := chain hA h8
  have zs := zs.next h8
  have h9 : Below w8.heap.size w8 (w8.alloc (.cells #[.int .i64 8, .int .i64 0, .int .i64 0, .string ⟨#[]⟩, .int .i64 0, .slice (some ⟨w7.heap.size, 0, none⟩) 2 2] 27)) := (Below.refl _ _).alloc (Nat.le_refl _) _
  have z9 : (w8.alloc (.cells #[.int .i64 8, .int .i64 0, .int .i64 0, .string ⟨#[]⟩, .int .i64 0, .slice (some ⟨w7.heap.size, 0, none⟩) 2 2] 27)).heap.size = w8.heap.size + 1 := by simp
  generalize w8.alloc (.cells #[.int .i64 8, .int .i64 0, .int .i64 0, .string ⟨#[]⟩, .int .i64 0, .slice (some ⟨w7.heap.size, 0, none⟩) 2 2] 27) = w9 at *
  have hA := chain hA h9
  have zs := zs.next h9
  have K9 := KsAt.next h9 (by omega) K8
  have hA10 : Below w9.heap.size w9 (w9.alloc (.cells #[.int .i64 3] 3)) := (Below.refl _ _).alloc (Nat.le_refl _) _
  have z10 : (w9.alloc (.cells #[.int .i64 3] 3)).heap.size = w9.heap.size + 1 := by simp
  have IC : IsAt (w9.alloc (.cells #[.int .i64 3] 3)).heap.size (w9.alloc (.cells #[.int .i64 3] 3)) (some ⟨w9.heap.size, 0, none⟩) [3] :=
    ⟨by unfold maxLen; simp, .inr ⟨w9.heap.size, 0, rfl, by omega, fun i hi => by
      match i, hi with
      | 0, _ => simp⟩⟩
  generalize w9.alloc (.cells #[.int .i64 3] 3) = w10 at *
  have hA := chain hA hA10
  have zs := zs.next hA10
  have K10 := (KsAt.next hA10 (by omega) K9).up (show w7.heap.size + 1 ≤ w10.heap.size by omega)
  have e9 : w9.heap.size = w7.heap.size + 1 + 1 := by omega
  rw [e9] at IC
  have con : Calls Tryz.prog 9 #[.slice (some ⟨w7.heap.size + 1 + 1, 0, none⟩) 1 1, .agg #[.int .i64 8, .int .i64 0, .int .i64 0, .string ⟨#[]⟩, .int .i64 0, .slice (some ⟨w7.heap.size, 0, none⟩) 2 2], .slice (some ⟨w3.heap.size + 1, 0, none⟩) 2 2] w10 fun e w' => ∃ v, e = .returned (.tuple #[v, .int .i64 (filtE [3] xA zA)]) ∧ OwnZ w10.heap.size w' v (filtZ [3] xA zA) ∧ Below w10.heap.size w10 w' :=
    filter_at [3] xA _ 1 (some ⟨w7.heap.size, 0, none⟩) 2 _ 2 zA w10 IC K10 zs
  rw [filtE_A, filtZ_A] at con
  refine con.mono ?_
  rintro e w11 ⟨v11, rfl, O11, hb11⟩
  have hA := chain hA hb11
  have zs := zs.next hb11
  obtain ⟨a11, c11, rfl, zf⟩ := O11.zs
  clear con IC K8 K9 K10 O11
  have con : Calls Tryz.prog 62 #[.slice (some ⟨w3.heap.size + 1, 0, none⟩) 2 2, .slice (some ⟨w3.heap.size + 1, 0, none⟩) 2 2] w11 fun e w' => ∃ v, e = .returned (.tuple #[v, .int .i64 (bothE 1 zA zA)]) ∧ OwnZ w11.heap.size w' v (bothZ 1 zA zA) ∧ Below w11.heap.size w11 w' :=
    add_at _ _ 2 2 zA zA w11 zs zs (fun h => by cases h)
  rw [both_A.1, both_A.2] at con
  go_wp2_with fail
  refine con.mono ?_
  rintro e w12 ⟨v12, rfl, O12, hb12⟩
  have hA := chain hA hb12
  have zf := zf.next hb12
  obtain ⟨a12, c12, rfl, zp⟩ := O12.zs
  obtain ⟨b1, o1, rfl, l1, y1, _⟩ := zf.elem (k := 0) (by simp)
  obtain ⟨b2, o2, rfl, l2, y2, _⟩ := zp.elem (k := 0) (by simp [sA])
  simp only [Nat.zero_mul, Nat.add_zero, List.getElem_cons_zero, sA] at y1 y2
  clear con zs O12 zf zp
  go_wp2_with fail
  go_ret
  exact ⟨rfl, hA⟩
end Go.Proofs.YtfgpfnhbcbhkfadGreat
