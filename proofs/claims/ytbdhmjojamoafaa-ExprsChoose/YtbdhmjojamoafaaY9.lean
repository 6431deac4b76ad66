/- denied, turned, reckoned as function values. -/
import Derived.Test.YtbdhmjojamoafaaY8
namespace Go.Proofs.Ytbdhmjojamoafaa
open Go.RowKit

set_option maxHeartbeats 1000000 in
theorem denied1_at (g : Nat) (cb : Array Value) (f : Vl → Vl → Vl) (b : Nat) (p q : Vl) (W : World) (hb : b < W.heap.size) (hc : W.cell? ⟨b, 0, none⟩ = some (.func (.func g) #[] cb))
    (eg : ∀ args w, (callFunc g args).run Try.prog w = .ok (.enter g args) w) (hd : ∀ W', Below W.heap.size W W' → Calls Try.prog g (#[agV p, agV q] ++ cb) W' fun e w' => e = .returned (agV (f p q)) ∧ Below W'.heap.size W' w') :
    Calls Try.prog 80 #[agV p, agV q, .pointer (some ⟨b, 0, none⟩)] W fun e w' => e = .returned (agV (notP (f p q))) ∧ Below W.heap.size W w' := by
  have e : notP (f p q) = (tk (not3 (cls (f p q).1 (f p q).2.1)), tn (not3 (cls (f p q).1 (f p q).2.1)), ⟨#[]⟩) := rfl
  rw [e]
  clear e
  generalize f p q = r at *
  have con := hd _ (below3 (Below.refl _ (((W.alloc (.cells #[.int .i64 p.1, .int .i64 p.2.1, .string p.2.2] 24)).alloc (.cells #[.int .i64 q.1, .int .i64 q.2.1, .string q.2.2] 24)).alloc (.cells #[.int .i64 0, .int .i64 0, .string ⟨#[]⟩] 24))))
  have A0 := ((Box.new W (.int .i64 p.1) (.int .i64 p.2.1) (.string p.2.2) 24).alloc (.cells #[.int .i64 q.1, .int .i64 q.2.1, .string q.2.2] 24)).alloc (.cells #[.int .i64 0, .int .i64 0, .string ⟨#[]⟩] 24)
  have B0 := (Box.new (W.alloc (.cells #[.int .i64 p.1, .int .i64 p.2.1, .string p.2.2] 24)) (.int .i64 q.1) (.int .i64 q.2.1) (.string q.2.2) 24).alloc (.cells #[.int .i64 0, .int .i64 0, .string ⟨#[]⟩] 24)
  have R0 := Box.new ((W.alloc (.cells #[.int .i64 p.1, .int .i64 p.2.1, .string p.2.2] 24)).alloc (.cells #[.int .i64 q.1, .int .i64 q.2.1, .string q.2.2] 24)) (.int .i64 0) (.int .i64 0) (.string ⟨#[]⟩) 24
  have hA : Below W.heap.size W (((W.alloc (.cells #[.int .i64 p.1, .int .i64 p.2.1, .string p.2.2] 24)).alloc (.cells #[.int .i64 q.1, .int .i64 q.2.1, .string q.2.2] 24)).alloc (.cells #[.int .i64 0, .int .i64 0, .string ⟨#[]⟩] 24)) := below3 (Below.refl _ _)
  have c3 := (hA.cell (p := ⟨b, 0, none⟩) hb).trans hc
  simp only [World.size_alloc] at B0 R0
  clear hd A0 B0
  go_enter Try.func80, Try.ntmps80
  go_wp2_with (go_at_fn g; refine con.mono ?_)
  rintro e w1 ⟨rfl, hb1⟩
  have R1 := R0.next hb1
  have hb1' := chain hA hb1
  have z1 := hb1.size
  simp at z1
  go_wp2_with fail
  refine (not_any _ _ _ _).mono ?_
  rintro e w2 ⟨rfl, hb2⟩
  have ⟨r0, r1, r2, r3, r4, r5, r6⟩ := R1.next hb2
  have hb2' := chain hb1' hb2
  clear con R0 R1
  go_wp2_with fail
  exact bodyPost_ret (v := .agg #[.int .i64 (tk (not3 (cls r.1 r.2.1))), .int .i64 (tn (not3 (cls r.1 r.2.1))), .string ⟨#[]⟩]) (by simp [results, Try.results80, go_sem, r1, r2, r3]) rfl ⟨rfl, below_set3 hb2' (by omega)⟩

set_option maxHeartbeats 1000000 in
theorem turned1_at (g : Nat) (cb : Array Value) (f : Vl → Vl → Vl) (b : Nat) (p q : Vl) (W : World) (hb : b < W.heap.size) (hc : W.cell? ⟨b, 0, none⟩ = some (.func (.func g) #[] cb))
    (eg : ∀ args w, (callFunc g args).run Try.prog w = .ok (.enter g args) w) (hd : ∀ W', Below W.heap.size W W' → Calls Try.prog g (#[agV q, agV p] ++ cb) W' fun e w' => e = .returned (agV (f q p)) ∧ Below W'.heap.size W' w') :
    Calls Try.prog 81 #[agV p, agV q, .pointer (some ⟨b, 0, none⟩)] W fun e w' => e = .returned (agV (f q p)) ∧ Below W.heap.size W w' := by
  generalize f q p = r at *
  have con := hd _ (below3 (Below.refl _ (((W.alloc (.cells #[.int .i64 p.1, .int .i64 p.2.1, .string p.2.2] 24)).alloc (.cells #[.int .i64 q.1, .int .i64 q.2.1, .string q.2.2] 24)).alloc (.cells #[.int .i64 0, .int .i64 0, .string ⟨#[]⟩] 24))))
  have A0 := ((Box.new W (.int .i64 p.1) (.int .i64 p.2.1) (.string p.2.2) 24).alloc (.cells #[.int .i64 q.1, .int .i64 q.2.1, .string q.2.2] 24)).alloc (.cells #[.int .i64 0, .int .i64 0, .string ⟨#[]⟩] 24)
  have B0 := (Box.new (W.alloc (.cells #[.int .i64 p.1, .int .i64 p.2.1, .string p.2.2] 24)) (.int .i64 q.1) (.int .i64 q.2.1) (.string q.2.2) 24).alloc (.cells #[.int .i64 0, .int .i64 0, .string ⟨#[]⟩] 24)
  have R0 := Box.new ((W.alloc (.cells #[.int .i64 p.1, .int .i64 p.2.1, .string p.2.2] 24)).alloc (.cells #[.int .i64 q.1, .int .i64 q.2.1, .string q.2.2] 24)) (.int .i64 0) (.int .i64 0) (.string ⟨#[]⟩) 24
  have hA : Below W.heap.size W (((W.alloc (.cells #[.int .i64 p.1, .int .i64 p.2.1, .string p.2.2] 24)).alloc (.cells #[.int .i64 q.1, .int .i64 q.2.1, .string q.2.2] 24)).alloc (.cells #[.int .i64 0, .int .i64 0, .string ⟨#[]⟩] 24)) := below3 (Below.refl _ _)
  have c3 := (hA.cell (p := ⟨b, 0, none⟩) hb).trans hc
  simp only [World.size_alloc] at B0 R0
  clear hd A0 B0
  go_enter Try.func81, Try.ntmps81
  go_wp2_with (go_at_fn g; refine con.mono ?_)
  rintro e w1 ⟨rfl, hb1⟩
  have ⟨r0, r1, r2, r3, r4, r5, r6⟩ := R0.next hb1
  have hb1' := chain hA hb1
  have z1 := hb1.size
  simp at z1
  clear con R0
  go_wp2_with fail
  exact bodyPost_ret (v := agV r) (by simp [results, Try.results81, go_sem, r1, r2, r3]) rfl ⟨rfl, below_set3 hb1' (by omega)⟩

set_option maxHeartbeats 1000000 in
theorem reckoned1_at (c : Int) (b : Nat) (p q : Vl) (W : World) (hb : b < W.heap.size) (hc : W.cell? ⟨b, 0, none⟩ = some (.int .i32 c)) :
    Calls Try.prog 82 #[agV p, agV q, .pointer (some ⟨b, 0, none⟩)] W fun e w' => e = .returned (agV (recP c p q)) ∧ Below W.heap.size W w' := by
  have e : recP c p q = (optK (recO c p.1 p.2.1 q.1 q.2.1), optN (recO c p.1 p.2.1 q.1 q.2.1), ⟨#[]⟩) := rfl
  rw [e]
  clear e
  have A0 := ((Box.new W (.int .i64 p.1) (.int .i64 p.2.1) (.string p.2.2) 24).alloc (.cells #[.int .i64 q.1, .int .i64 q.2.1, .string q.2.2] 24)).alloc (.cells #[.int .i64 0, .int .i64 0, .string ⟨#[]⟩] 24)
  have B0 := (Box.new (W.alloc (.cells #[.int .i64 p.1, .int .i64 p.2.1, .string p.2.2] 24)) (.int .i64 q.1) (.int .i64 q.2.1) (.string q.2.2) 24).alloc (.cells #[.int .i64 0, .int .i64 0, .string ⟨#[]⟩] 24)
  have R0 := Box.new ((W.alloc (.cells #[.int .i64 p.1, .int .i64 p.2.1, .string p.2.2] 24)).alloc (.cells #[.int .i64 q.1, .int .i64 q.2.1, .string q.2.2] 24)) (.int .i64 0) (.int .i64 0) (.string ⟨#[]⟩) 24
  have hA : Below W.heap.size W (((W.alloc (.cells #[.int .i64 p.1, .int .i64 p.2.1, .string p.2.2] 24)).alloc (.cells #[.int .i64 q.1, .int .i64 q.2.1, .string q.2.2] 24)).alloc (.cells #[.int .i64 0, .int .i64 0, .string ⟨#[]⟩] 24)) := below3 (Below.refl _ _)
  have c3 := (hA.cell (p := ⟨b, 0, none⟩) hb).trans hc
  simp only [World.size_alloc] at B0 R0
  clear A0 B0
  go_enter Try.func82, Try.ntmps82
  go_wp2_with fail
  refine (reckon_any _ _ _ _ _ _ _ _).mono ?_
  rintro e w1 ⟨rfl, hb1⟩
  have ⟨r0, r1, r2, r3, r4, r5, r6⟩ := R0.next hb1
  have hb1' := chain hA hb1
  have z1 := hb1.size
  simp at z1
  clear R0
  go_wp2_with fail
  exact bodyPost_ret (v := .agg #[.int .i64 (optK (recO c p.1 p.2.1 q.1 q.2.1)), .int .i64 (optN (recO c p.1 p.2.1 q.1 q.2.1)), .string ⟨#[]⟩]) (by simp [results, Try.results82, go_sem, r1, r2, r3]) rfl ⟨rfl, below_set3 hb1' (by omega)⟩

theorem denied_at (u : Value) (f : Vl → Vl → Vl) (w : World) (lo : Nat) (hlo : lo ≤ w.heap.size) (h : Fn2 lo u f w) :
    Calls Try.prog 72 #[u] w fun e w' => ∃ v, e = .returned v ∧ Fn2 lo v (fun a b => notP (f a b)) w' ∧ Below w.heap.size w w' := by
  obtain ⟨g, cb, rfl, eg, hd⟩ := h
  have hal : Below w.heap.size w (w.alloc (.cells #[.func (.func g) #[] cb] 85)) := (Below.refl _ _).alloc (Nat.le_refl _) _
  have hF : Fn2 lo (.func (.func 80) #[] #[.pointer (some ⟨w.heap.size, 0, none⟩)]) (fun a b => notP (f a b)) (w.alloc (.cells #[.func (.func g) #[] cb] 85)) :=
    ⟨80, _, rfl, enters_of Try.func80 (by kernel_rfl) rfl, fun p q W hp hq hW =>
      denied1_at g cb f w.heap.size p q W (Nat.lt_of_lt_of_le (by simp) hW.1) ((hW.cell (p := ⟨w.heap.size, 0, none⟩) hlo (by simp)).trans (by simp)) eg (fun W' hW' => hd p q W' hp hq (((Since.of hal).trans hW).trans (Since.of hW')))⟩
  clear hd
  go_enter Try.func72, Try.ntmps72
  go_wp2_with fail
  go_ret
  exact ⟨_, rfl, hF, hal⟩
theorem turned_at (u : Value) (f : Vl → Vl → Vl) (w : World) (lo : Nat) (hlo : lo ≤ w.heap.size) (h : Fn2 lo u f w) :
    Calls Try.prog 74 #[u] w fun e w' => ∃ v, e = .returned v ∧ Fn2 lo v (fun a b => f b a) w' ∧ Below w.heap.size w w' := by
  obtain ⟨g, cb, rfl, eg, hd⟩ := h
  have hal : Below w.heap.size w (w.alloc (.cells #[.func (.func g) #[] cb] 85)) := (Below.refl _ _).alloc (Nat.le_refl _) _
  have hF : Fn2 lo (.func (.func 81) #[] #[.pointer (some ⟨w.heap.size, 0, none⟩)]) (fun a b => f b a) (w.alloc (.cells #[.func (.func g) #[] cb] 85)) :=
    ⟨81, _, rfl, enters_of Try.func81 (by kernel_rfl) rfl, fun p q W hp hq hW =>
      turned1_at g cb f w.heap.size p q W (Nat.lt_of_lt_of_le (by simp) hW.1) ((hW.cell (p := ⟨w.heap.size, 0, none⟩) hlo (by simp)).trans (by simp)) eg (fun W' hW' => hd q p W' hq hp (((Since.of hal).trans hW).trans (Since.of hW')))⟩
  clear hd
  go_enter Try.func74, Try.ntmps74
  go_wp2_with fail
  go_ret
  exact ⟨_, rfl, hF, hal⟩
theorem reckoned_at (c : Int) (w : World) (lo : Nat) (hlo : lo ≤ w.heap.size) :
    Calls Try.prog 75 #[.int .i32 c] w fun e w' => ∃ v, e = .returned v ∧ Fn2 lo v (recP c) w' ∧ Below w.heap.size w w' := by
  have hal : Below w.heap.size w (w.alloc (.cells #[.int .i32 c] 21)) := (Below.refl _ _).alloc (Nat.le_refl _) _
  have hF : Fn2 lo (.func (.func 82) #[] #[.pointer (some ⟨w.heap.size, 0, none⟩)]) (recP c) (w.alloc (.cells #[.int .i32 c] 21)) :=
    ⟨82, _, rfl, enters_of Try.func82 (by kernel_rfl) rfl, fun p q W hp hq hW =>
      reckoned1_at c w.heap.size p q W (Nat.lt_of_lt_of_le (by simp) hW.1) ((hW.cell (p := ⟨w.heap.size, 0, none⟩) hlo (by simp)).trans (by simp))⟩
  go_enter Try.func75, Try.ntmps75
  go_wp2_with fail
  go_ret
  exact ⟨_, rfl, hF, hal⟩

def OfTwo (k : Int) : Prop := ∀ w : World, Calls Try.prog 59 #[.int .i64 k] w fun e w' => ∃ u, e = .returned u ∧ Fn2 w.heap.size u (twoP k) w' ∧ Below w.heap.size w w'
theorem ofTwo_4 : OfTwo 4 := by
  intro w
  go_enter Try.func59, Try.ntmps59
  go_wp2_with fail
  go_ret
  exact ⟨_, rfl, fn_and _ w, Below.refl _ _⟩
theorem ofTwo_5 : OfTwo 5 := by
  intro w
  go_enter Try.func59, Try.ntmps59
  go_wp2_with fail
  go_ret
  exact ⟨_, rfl, fn_or _ w, Below.refl _ _⟩
theorem ofTwo_6 : OfTwo 6 := by
  intro w
  go_enter Try.func59, Try.ntmps59
  go_wp2_with fail
  go_ret
  exact ⟨_, rfl, fn_eq _ w, Below.refl _ _⟩
theorem ofTwo_8 : OfTwo 8 := by
  intro w
  go_enter Try.func59, Try.ntmps59
  go_wp2_with fail
  go_ret
  exact ⟨_, rfl, fn_lt _ w, Below.refl _ _⟩
theorem ofTwo_15 : OfTwo 15 := by
  intro w
  go_enter Try.func59, Try.ntmps59
  go_wp2_with fail
  go_ret
  exact ⟨_, rfl, fn_join _ w, Below.refl _ _⟩
theorem ofTwo_18 : OfTwo 18 := by
  intro w
  go_enter Try.func59, Try.ntmps59
  go_wp2_with fail
  go_ret
  exact ⟨_, rfl, fn_coal _ w, Below.refl _ _⟩
theorem ofTwo_7 : OfTwo 7 := by
  intro w
  go_enter Try.func59, Try.ntmps59
  go_wp2_with fail
  refine (denied_at _ _ w _ (Nat.le_refl _) (fn_eq _ w)).mono ?_
  rintro e w1 ⟨v, rfl, hF, hb1⟩
  go_wp2_with fail
  go_ret
  exact ⟨_, rfl, hF, hb1⟩
theorem ofTwo_11 : OfTwo 11 := by
  intro w
  go_enter Try.func59, Try.ntmps59
  go_wp2_with fail
  refine (denied_at _ _ w _ (Nat.le_refl _) (fn_lt _ w)).mono ?_
  rintro e w1 ⟨v, rfl, hF, hb1⟩
  go_wp2_with fail
  go_ret
  exact ⟨_, rfl, hF, hb1⟩
theorem ofTwo_10 : OfTwo 10 := by
  intro w
  go_enter Try.func59, Try.ntmps59
  go_wp2_with fail
  refine (turned_at _ _ w _ (Nat.le_refl _) (fn_lt _ w)).mono ?_
  rintro e w1 ⟨v, rfl, hF, hb1⟩
  go_wp2_with fail
  go_ret
  exact ⟨_, rfl, hF, hb1⟩
theorem ofTwo_12 : OfTwo 12 := by
  intro w
  go_enter Try.func59, Try.ntmps59
  go_wp2_with fail
  refine (reckoned_at 43 w _ (Nat.le_refl _)).mono ?_
  rintro e w1 ⟨v, rfl, hF, hb1⟩
  go_wp2_with fail
  go_ret
  exact ⟨_, rfl, hF, hb1⟩
theorem ofTwo_13 : OfTwo 13 := by
  intro w
  go_enter Try.func59, Try.ntmps59
  go_wp2_with fail
  refine (reckoned_at 45 w _ (Nat.le_refl _)).mono ?_
  rintro e w1 ⟨v, rfl, hF, hb1⟩
  go_wp2_with fail
  go_ret
  exact ⟨_, rfl, hF, hb1⟩
theorem ofTwo_14 : OfTwo 14 := by
  intro w
  go_enter Try.func59, Try.ntmps59
  go_wp2_with fail
  refine (reckoned_at 42 w _ (Nat.le_refl _)).mono ?_
  rintro e w1 ⟨v, rfl, hF, hb1⟩
  go_wp2_with fail
  go_ret
  exact ⟨_, rfl, hF, hb1⟩
theorem ofTwo_9 : OfTwo 9 := by
  intro w
  go_enter Try.func59, Try.ntmps59
  go_wp2_with fail
  refine (turned_at _ _ w _ (Nat.le_refl _) (fn_lt _ w)).mono ?_
  rintro e w1 ⟨v, rfl, hF, hb1⟩
  go_wp2_with fail
  refine (denied_at _ _ w1 _ hb1.size hF).mono ?_
  rintro e w2 ⟨v2, rfl, hF2, hb2⟩
  go_wp2_with fail
  go_ret
  exact ⟨_, rfl, hF2, chain hb1 hb2⟩
theorem ofTwo_at (k : Int) (h4 : 4 ≤ k) (h18 : k ≤ 15 ∨ k = 18) : OfTwo k := by
  obtain rfl | rfl | rfl | rfl | rfl | rfl | rfl | rfl | rfl | rfl | rfl | rfl | rfl : k = 4 ∨ k = 5 ∨ k = 6 ∨ k = 7 ∨ k = 8 ∨ k = 9 ∨ k = 10 ∨ k = 11 ∨ k = 12 ∨ k = 13 ∨ k = 14 ∨ k = 15 ∨ k = 18 := by omega
  · exact ofTwo_4
  · exact ofTwo_5
  · exact ofTwo_6
  · exact ofTwo_7
  · exact ofTwo_8
  · exact ofTwo_9
  · exact ofTwo_10
  · exact ofTwo_11
  · exact ofTwo_12
  · exact ofTwo_13
  · exact ofTwo_14
  · exact ofTwo_15
  · exact ofTwo_18
end Go.Proofs.Ytbdhmjojamoafaa
