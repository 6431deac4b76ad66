/- Ready, and conditions. -/
import Derived.Test.YtfgpfnhbcbhkfadGreatK3
import Derived.Test.YtfgpfnhbcbhkfadGreatY6
import Derived.Test.YtfgpfnhbcbhkfadGreatQ1
namespace Go.Proofs.YtfgpfnhbcbhkfadGreat
open Go.RowKit

set_option maxHeartbeats 1000000 in
theorem readyOk_at (cols : List Int) (x : Ex) (ca : Option Addr) (ccap : Nat) (a : Option Addr) (cap : Nat) (w : World) (hk : KsAt w.heap.size w a x.ks) (hc : IsAt w.heap.size w ca cols) (h0 : (typeTop cols x).2 = 0) :
    Calls Tryz.prog 65 #[.slice ca cols.length ccap, exV x.k x.v x.c a x.ks.length cap] w fun e w' => ∃ u, e = .returned (.tuple #[.int .i64 (typeTop cols x).1, u, .int .i64 0]) ∧ Asks cols w.heap.size u (fun row => valX row x) w' ∧ Below w.heap.size w w' := by
  have S0 := Six.new w x.k x.v x.c a x.ks.length cap 27
  have hal : Below w.heap.size w (w.alloc (.cells #[.int .i64 x.k, .int .i64 x.v.1, .int .i64 x.v.2.1, .string x.v.2.2, .int .i64 x.c, .slice a x.ks.length cap] 27)) := (Below.refl _ _).alloc (Nat.le_refl _) _
  have z1 : (w.alloc (.cells #[.int .i64 x.k, .int .i64 x.v.1, .int .i64 x.v.2.1, .string x.v.2.2, .int .i64 x.c, .slice a x.ks.length cap] 27)).heap.size = w.heap.size + 1 := by simp
  have con := type_at cols x ca ccap a cap _ ((KsAt.next hal (Nat.le_refl _) hk).up hal.size) ((hc.next hal (Nat.le_refl _)).up hal.size)
  have ra := ready_any cols x _ (typ_of h0)
  rw [h0] at con
  generalize (typeTop cols x).1 = t at *
  go_enter Tryz.func65, Tryz.ntmps65
  go_wp2_with fail
  generalize w.alloc (.cells #[.int .i64 x.k, .int .i64 x.v.1, .int .i64 x.v.2.1, .string x.v.2.2, .int .i64 x.c, .slice a x.ks.length cap] 27) = w1 at *
  refine con.mono ?_
  rintro e w2 ⟨rfl, hb2⟩
  have hA := chain hal hb2
  obtain ⟨s0, s1, s2, s3, s4, s5⟩ := S0.next hb2 (by omega)
  simp only [Nat.zero_add] at s1 s2 s3 s4 s5
  have con2 := ra w.heap.size a cap w2 (KsAt.next hA (Nat.le_refl _) hk) hA.size
  clear con ra S0
  go_wp2_with fail
  refine con2.mono ?_
  rintro e w3 ⟨u, rfl, hA3, hb3⟩
  clear s0 s1 s2 s3 s4 s5 con2
  obtain ⟨g, cb, rfl⟩ : ∃ g cb, u = .func (.func g) #[] cb := by obtain ⟨g, cb, e, _⟩ := hA3; exact ⟨g, cb, e⟩
  go_wp2_with fail
  exact bodyPost_ret (v := .tuple #[.int .i64 t, .func (.func g) #[] cb, .int .i64 0]) (by simp [results, Tryz.results65, go_sem]) rfl ⟨_, rfl, hA3.down hA.size, chain hA hb3⟩

set_option maxHeartbeats 1000000 in
theorem readyBad_at (cols : List Int) (x : Ex) (ca : Option Addr) (ccap : Nat) (a : Option Addr) (cap : Nat) (w : World) (hk : KsAt w.heap.size w a x.ks) (hc : IsAt w.heap.size w ca cols) (h0 : ¬ (typeTop cols x).2 = 0) :
    Calls Tryz.prog 65 #[.slice ca cols.length ccap, exV x.k x.v x.c a x.ks.length cap] w fun e w' => e = .returned (.tuple #[.int .i64 0, .nilFunc, .int .i64 (typeTop cols x).2]) ∧ Below w.heap.size w w' := by
  have hal : Below w.heap.size w (w.alloc (.cells #[.int .i64 x.k, .int .i64 x.v.1, .int .i64 x.v.2.1, .string x.v.2.2, .int .i64 x.c, .slice a x.ks.length cap] 27)) := (Below.refl _ _).alloc (Nat.le_refl _) _
  have con := type_at cols x ca ccap a cap _ ((KsAt.next hal (Nat.le_refl _) hk).up hal.size) ((hc.next hal (Nat.le_refl _)).up hal.size)
  have q : ((typeTop cols x).2 != 0) = true := by simpa using h0
  generalize (typeTop cols x).1 = t at *
  generalize (typeTop cols x).2 = t2 at *
  go_enter Tryz.func65, Tryz.ntmps65
  go_wp2_with fail
  generalize w.alloc (.cells #[.int .i64 x.k, .int .i64 x.v.1, .int .i64 x.v.2.1, .string x.v.2.2, .int .i64 x.c, .slice a x.ks.length cap] 27) = w1 at *
  refine con.mono ?_
  rintro e w2 ⟨rfl, hb2⟩
  have hA := chain hal hb2
  clear con
  go_wp2_with fail
  exact bodyPost_ret (v := .tuple #[.int .i64 0, .nilFunc, .int .i64 t2]) (by simp [results, Tryz.results65, go_sem]) rfl ⟨rfl, hA⟩

/-- A function value tells whether x is true of each row that fits, as long as all from lo on is as it was. -/
def Conds (cols : List Int) (lo : Nat) (u : Value) (x : Ex) (w : World) : Prop :=
  ∃ g cb, u = .func (.func g) #[] cb ∧ (∀ args w, (callFunc g args).run Tryz.prog w = .ok (.enter g args) w) ∧
    ∀ (row : List Vl) (a : Option Addr) (cap : Nat) (W : World), FitP cols row → SlAt W a row → Since lo w W →
      Calls Tryz.prog g (#[.slice a row.length cap] ++ cb) W fun e w' => e = .returned (.bool (holdsP x row)) ∧ Below W.heap.size W w'
theorem Conds.next {cols : List Int} {lo : Nat} {u : Value} {x : Ex} {w w1 : World} (h : Conds cols lo u x w) (hb : Since lo w w1) : Conds cols lo u x w1 := by
  obtain ⟨g, cb, e, eg, hd⟩ := h
  exact ⟨g, cb, e, eg, fun row a cap W hf hs hW => hd row a cap W hf hs (hb.trans hW)⟩
theorem Conds.down {cols : List Int} {lo lo' : Nat} {u : Value} {x : Ex} {w : World} (h : Conds cols lo u x w) (hl : lo' ≤ lo) : Conds cols lo' u x w := by
  obtain ⟨g, cb, e, eg, hd⟩ := h
  exact ⟨g, cb, e, eg, fun row a cap W hf hs hW => hd row a cap W hf hs (hW.up hl)⟩

set_option maxHeartbeats 400000 in
theorem cond1_at (cols : List Int) (lo : Nat) (x : Ex) (u : Value) (b : Nat) (a : Option Addr) (row : List Vl) (cap : Nat) (W : World) (h0 : W.cell? ⟨b, 0, none⟩ = some u) (hA : Asks cols lo u (fun row => valX row x) W) (hf : FitP cols row) (hs : SlAt W a row) :
    Calls Tryz.prog 66 #[.slice a row.length cap, .pointer (some ⟨b, 0, none⟩)] W fun e w' => e = .returned (.bool (holdsP x row)) ∧ Below W.heap.size W w' := by
  obtain ⟨g, cb, rfl, eg, d⟩ := hA
  have d := d row a cap W hf hs (Since.refl _ _)
  dsimp only at d
  unfold holdsP
  generalize valX row x = v at *
  show Calls _ _ _ _ fun e w' => e = .returned (.bool (cls v.1 v.2.1 == some true)) ∧ _
  go_enter Tryz.func66, Tryz.ntmps66
  go_wp2_with (go_at_fn g; refine d.mono ?_; rintro e w1 ⟨rfl, hb1⟩)
  refine (true_any _ _ _ _).mono ?_
  rintro e w2 ⟨rfl, hb2⟩
  go_wp2_with fail
  go_ret
  exact ⟨rfl, chain hb1 hb2⟩

set_option maxHeartbeats 1000000 in
theorem condOk_at (cols : List Int) (x : Ex) (ca : Option Addr) (ccap : Nat) (a : Option Addr) (cap : Nat) (w : World) (hk : KsAt w.heap.size w a x.ks) (hc : IsAt w.heap.size w ca cols) (h : condE cols x = 0) :
    Calls Tryz.prog 30 #[.slice ca cols.length ccap, exV x.k x.v x.c a x.ks.length cap] w fun e w' => ∃ u, e = .returned (.tuple #[u, .int .i64 0]) ∧ Conds cols w.heap.size u x w' ∧ Below w.heap.size w w' := by
  obtain ⟨h0, ht⟩ := condE_ok h
  have S0 := Six.new w x.k x.v x.c a x.ks.length cap 27
  have hal : Below w.heap.size w (w.alloc (.cells #[.int .i64 x.k, .int .i64 x.v.1, .int .i64 x.v.2.1, .string x.v.2.2, .int .i64 x.c, .slice a x.ks.length cap] 27)) := (Below.refl _ _).alloc (Nat.le_refl _) _
  have con := readyOk_at cols x ca ccap a cap _ ((KsAt.next hal (Nat.le_refl _) hk).up hal.size) ((hc.next hal (Nat.le_refl _)).up hal.size) h0
  clear h h0
  generalize (typeTop cols x).1 = t at *
  go_enter Tryz.func30, Tryz.ntmps30
  go_wp2_with fail
  generalize w.alloc (.cells #[.int .i64 x.k, .int .i64 x.v.1, .int .i64 x.v.2.1, .string x.v.2.2, .int .i64 x.c, .slice a x.ks.length cap] 27) = w1 at *
  refine con.mono ?_
  rintro e w2 ⟨u, rfl, hA2, hb2⟩
  have hA := chain hal hb2
  clear con S0
  have hA2 := hA2.down hal.size
  obtain ⟨g, cb, rfl⟩ : ∃ g cb, u = .func (.func g) #[] cb := by obtain ⟨g, cb, e, _⟩ := hA2; exact ⟨g, cb, e⟩
  have hal3 : Below w2.heap.size w2 (w2.alloc (.cells #[.func (.func g) #[] cb] 103)) := (Below.refl _ _).alloc (Nat.le_refl _) _
  have fin : ∀ W, Since w.heap.size (w2.alloc (.cells #[.func (.func g) #[] cb] 103)) W → ∀ (row : List Vl) (a : Option Addr) (cap : Nat), FitP cols row → SlAt W a row → Calls Tryz.prog 66 #[.slice a row.length cap, .pointer (some ⟨w2.heap.size, 0, none⟩)] W fun e w' => e = .returned (.bool (holdsP x row)) ∧ Below W.heap.size W w' := fun W hW row a cap hf hs =>
    cond1_at cols w.heap.size x _ w2.heap.size a row cap W ((hW.cell (p := ⟨w2.heap.size, 0, none⟩) hA.size (by simp)).trans (by simp)) ((hA2.next (Since.of hal3)).next hW) hf hs
  have HF : Hid _ := fin
  clear fin hA2
  rcases ht with rfl | rfl
  · go_wp2_with fail
    exact bodyPost_ret (v := .tuple #[.func (.func 66) #[] #[.pointer (some ⟨w2.heap.size, 0, none⟩)], .int .i64 0]) (by simp [results, Tryz.results30, go_sem]) rfl ⟨_, rfl, ⟨66, _, rfl, enters_of Tryz.func66 (by kernel_rfl) rfl, fun row a cap W hf hs hW => HF.out W hW row a cap hf hs⟩, chain hA hal3⟩
  · go_wp2_with fail
    exact bodyPost_ret (v := .tuple #[.func (.func 66) #[] #[.pointer (some ⟨w2.heap.size, 0, none⟩)], .int .i64 0]) (by simp [results, Tryz.results30, go_sem]) rfl ⟨_, rfl, ⟨66, _, rfl, enters_of Tryz.func66 (by kernel_rfl) rfl, fun row a cap W hf hs hW => HF.out W hW row a cap hf hs⟩, chain hA hal3⟩

set_option maxHeartbeats 1000000 in
theorem condBad_at (cols : List Int) (x : Ex) (ca : Option Addr) (ccap : Nat) (a : Option Addr) (cap : Nat) (w : World) (hk : KsAt w.heap.size w a x.ks) (hc : IsAt w.heap.size w ca cols) (h : ¬ condE cols x = 0) :
    Calls Tryz.prog 30 #[.slice ca cols.length ccap, exV x.k x.v x.c a x.ks.length cap] w fun e w' => e = .returned (.tuple #[.nilFunc, .int .i64 (condE cols x)]) ∧ Below w.heap.size w w' := by
  have hal : Below w.heap.size w (w.alloc (.cells #[.int .i64 x.k, .int .i64 x.v.1, .int .i64 x.v.2.1, .string x.v.2.2, .int .i64 x.c, .slice a x.ks.length cap] 27)) := (Below.refl _ _).alloc (Nat.le_refl _) _
  have hk' := (KsAt.next hal (Nat.le_refl _) hk).up hal.size
  have hc' := (hc.next hal (Nat.le_refl _)).up hal.size
  by_cases h0 : (typeTop cols x).2 = 0
  · have e : condE cols x = 9 := by
      unfold condE at h ⊢
      rw [if_neg (by simpa using h0)] at h ⊢
      by_cases q : (typeTop cols x).1 ≠ 2 ∧ (typeTop cols x).1 ≠ 1
      · rw [if_pos q]
      · rw [if_neg q] at h; exact absurd rfl h
    have ht : ¬ (typeTop cols x).1 = 2 ∧ ¬ (typeTop cols x).1 = 1 := by
      unfold condE at h
      rw [if_neg (by simpa using h0)] at h
      by_cases q : (typeTop cols x).1 ≠ 2 ∧ (typeTop cols x).1 ≠ 1
      · exact q
      · rw [if_neg q] at h; exact absurd rfl h
    rw [e]
    have con := readyOk_at cols x ca ccap a cap _ hk' hc' h0
    clear h h0 e
    generalize (typeTop cols x).1 = t at *
    have t2 : (t != 2) = true := by simpa using ht.1
    have t1 : (t != 1) = true := by simpa using ht.2
    go_enter Tryz.func30, Tryz.ntmps30
    go_wp2_with fail
    generalize w.alloc (.cells #[.int .i64 x.k, .int .i64 x.v.1, .int .i64 x.v.2.1, .string x.v.2.2, .int .i64 x.c, .slice a x.ks.length cap] 27) = w1 at *
    refine con.mono ?_
    rintro e w2 ⟨u, rfl, hA2, hb2⟩
    have hA := chain hal hb2
    clear con
    obtain ⟨g, cb, rfl⟩ : ∃ g cb, u = .func (.func g) #[] cb := by obtain ⟨g, cb, e, _⟩ := hA2; exact ⟨g, cb, e⟩
    have hal3 : Below w2.heap.size w2 (w2.alloc (.cells #[.func (.func g) #[] cb] 103)) := (Below.refl _ _).alloc (Nat.le_refl _) _
    clear hA2
    go_wp2_with fail
    exact bodyPost_ret (v := .tuple #[.nilFunc, .int .i64 9]) (by simp [results, Tryz.results30, go_sem]) rfl ⟨rfl, chain hA hal3⟩
  · have e : condE cols x = (typeTop cols x).2 := by unfold condE; rw [if_pos h0]
    rw [e]
    have con := readyBad_at cols x ca ccap a cap _ hk' hc' h0
    have q : ((typeTop cols x).2 != 0) = true := by simpa using h0
    clear h e h0
    generalize (typeTop cols x).2 = t2 at *
    go_enter Tryz.func30, Tryz.ntmps30
    go_wp2_with fail
    generalize w.alloc (.cells #[.int .i64 x.k, .int .i64 x.v.1, .int .i64 x.v.2.1, .string x.v.2.2, .int .i64 x.c, .slice a x.ks.length cap] 27) = w1 at *
    refine con.mono ?_
    rintro e w2 ⟨rfl, hb2⟩
    have hA := chain hal hb2
    have hal3 : Below w2.heap.size w2 (w2.alloc (.cells #[.nilFunc] 103)) := (Below.refl _ _).alloc (Nat.le_refl _) _
    clear con
    go_wp2_with fail
    exact bodyPost_ret (v := .tuple #[.nilFunc, .int .i64 t2]) (by simp [results, Tryz.results30, go_sem]) rfl ⟨rfl, chain hA hal3⟩
end Go.Proofs.YtfgpfnhbcbhkfadGreat
