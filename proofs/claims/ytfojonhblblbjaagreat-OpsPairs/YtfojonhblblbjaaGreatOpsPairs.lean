/- The walk of tidelaw4.OpsPairs. -/
import Derived.Test.YtfojonhblblbjaaGreatC2
import Derived.Test.YtfojonhblblbjaaGreatB8
import Derived.Laws.EntriesVeiled
namespace Go.Proofs.YtfojonhblblbjaaGreat
open Go.RowKit Go.Lib Go.Shelf

set_option maxRecDepth 100000 in
set_option maxHeartbeats 8000000 in
theorem pairs_walk (la : Option Addr) (lcap : Nat) (left : List Int) (ra : Option Addr) (rcap : Nat) (right : List Int) (x : Ex) (xa : Option Addr) (xcap : Nat) (a : Option Addr) (ca : Nat) (l : List Zp) (b : Option Addr) (cb : Nat) (r : List Zp) (w : World)
    (hcl : IsAt w.heap.size w la left) (hcr : IsAt w.heap.size w ra right) (hx : KsAt w.heap.size w xa x.ks) (h : ZsAt w a l) (h' : ZsAt w b r) (_na : a = none → ca = 0) (_nb : b = none → cb = 0) (hll : left.length ≤ 100000000000000) (hrl : right.length ≤ 100000000000000) :
    Calls Tryz.prog 4 #[.slice la left.length lcap, .slice ra right.length rcap, exV x.k x.v x.c xa x.ks.length xcap, .slice a l.length ca, .slice b r.length cb] w fun e w' => e = .returned (.bool true) ∧ Below w.heap.size w w' := by
  have h1 : Below w.heap.size w (w.alloc (.cells #[.int .i64 x.k, .int .i64 x.v.1, .int .i64 x.v.2.1, .string x.v.2.2, .int .i64 x.c, .slice xa x.ks.length xcap] 27)) := (Below.refl _ _).alloc (Nat.le_refl _) _
  have S1 : Hid (Six (w.alloc (.cells #[.int .i64 x.k, .int .i64 x.v.1, .int .i64 x.v.2.1, .string x.v.2.2, .int .i64 x.c, .slice xa x.ks.length xcap] 27)) w.heap.size 0 x.k x.v x.c xa x.ks.length xcap) := Six.new w x.k x.v x.c xa x.ks.length xcap 27
  have z1 : (w.alloc (.cells #[.int .i64 x.k, .int .i64 x.v.1, .int .i64 x.v.2.1, .string x.v.2.2, .int .i64 x.c, .slice xa x.ks.length xcap] 27)).heap.size = w.heap.size + 1 := by simp
  go_enter Tryz.func4, Tryz.ntmps4
  go_wp2_with fail
  generalize w.alloc (.cells #[.int .i64 x.k, .int .i64 x.v.1, .int .i64 x.v.2.1, .string x.v.2.2, .int .i64 x.c, .slice xa x.ks.length xcap] 27) = w1 at *
  have h2 : Below w1.heap.size w1 (w1.alloc (.cells #[.func (.func 16) #[] #[], .func (.func 17) #[] #[], .func (.func 18) #[] #[], .func (.func 19) #[] #[]] 36)) := (Below.refl _ _).alloc (Nat.le_refl _) _
  have q2 := heap_new w1 #[.func (.func 16) #[] #[], .func (.func 17) #[] #[], .func (.func 18) #[] #[], .func (.func 19) #[] #[]] 36
  generalize w1.alloc (.cells #[.func (.func 16) #[] #[], .func (.func 17) #[] #[], .func (.func 18) #[] #[], .func (.func 19) #[] #[]] 36) = w2 at *
  have hA2 := chain h1 h2
  have l2 := lt_of_heap q2
  have FN : Hid (∀ k, k < 4 → ∃ g, w2.cell? ⟨w1.heap.size, k, none⟩ = some (.func (.func g) #[] #[]) ∧ (∀ args w, (callFunc g args).run Tryz.prog w = .ok (.enter g args) w) ∧ ∀ W, Below w2.heap.size w2 W → Calls Tryz.prog g #[.slice la left.length lcap, .slice ra right.length rcap, exV x.k x.v x.c xa x.ks.length xcap, .slice a l.length ca, .slice b r.length cb] W fun e w' => ∃ v, e = .returned (.tuple #[v, .int .i64 (pairE k left right x l r)]) ∧ OwnZ W.heap.size w' v (pairZ k left right x l r) ∧ Below W.heap.size W w') := fun k hk => by
    match k, hk with
    | 0, _ => exact ⟨_, cell_of (i := 0) q2 rfl, enters_of Tryz.func16 (by kernel_rfl) rfl, fun W hW => by
        have hA := chain hA2 hW
        exact join_at left right x la lcap ra rcap xa xcap a ca l b cb r W ((hcl.next hA (Nat.le_refl _)).up hA.size) ((hcr.next hA (Nat.le_refl _)).up hA.size) ((KsAt.next hA (Nat.le_refl _) hx).up hA.size) (h.next hA) (h'.next hA) hll hrl⟩
    | 1, _ => exact ⟨_, cell_of (i := 1) q2 rfl, enters_of Tryz.func17 (by kernel_rfl) rfl, fun W hW => by
        have hA := chain hA2 hW
        exact semi_at left right x la lcap ra rcap xa xcap a ca l b cb r W ((hcl.next hA (Nat.le_refl _)).up hA.size) ((hcr.next hA (Nat.le_refl _)).up hA.size) ((KsAt.next hA (Nat.le_refl _) hx).up hA.size) (h.next hA) (h'.next hA) hll hrl⟩
    | 2, _ => exact ⟨_, cell_of (i := 2) q2 rfl, enters_of Tryz.func18 (by kernel_rfl) rfl, fun W hW => by
        have hA := chain hA2 hW
        exact anti_at left right x la lcap ra rcap xa xcap a ca l b cb r W ((hcl.next hA (Nat.le_refl _)).up hA.size) ((hcr.next hA (Nat.le_refl _)).up hA.size) ((KsAt.next hA (Nat.le_refl _) hx).up hA.size) (h.next hA) (h'.next hA) hll hrl⟩
    | 3, _ => exact ⟨_, cell_of (i := 3) q2 rfl, enters_of Tryz.func19 (by kernel_rfl) rfl, fun W hW => by
        have hA := chain hA2 hW
        exact left_at left right x la lcap ra rcap xa xcap a ca l b cb r W ((hcl.next hA (Nat.le_refl _)).up hA.size) ((hcr.next hA (Nat.le_refl _)).up hA.size) ((KsAt.next hA (Nat.le_refl _) hx).up hA.size) (h.next hA) (h'.next hA) hll hrl⟩
  have FR : Hid (∀ k : Nat, k < 4 → ∀ W, Below w2.heap.size w2 W → Calls Tryz.prog 20 #[.int .i64 (k : Int), .slice la left.length lcap, .slice ra right.length rcap, exV x.k x.v x.c xa x.ks.length xcap, .slice a l.length ca, .slice b r.length cb] W fun e w' => ∃ v, e = .returned (.tuple #[v, .int .i64 (pairE k left right x l r)]) ∧ (∃ ua uc, v = .slice ua (pairZ k left right x l r).length uc ∧ ZsAt w' ua (pairZ k left right x l r)) ∧ Below W.heap.size W w') := fun k hk W hW => by
    have hA := chain hA2 hW
    match k, hk with
    | 0, _ => exact refPairs0_at left right x la lcap ra rcap xa xcap a ca l b cb r W ((hcl.next hA (Nat.le_refl _)).up hA.size) ((hcr.next hA (Nat.le_refl _)).up hA.size) ((KsAt.next hA (Nat.le_refl _) hx).up hA.size) (h.next hA) (h'.next hA) hll hrl
    | 1, _ => exact refPairs1_at left right x la lcap ra rcap xa xcap a ca l b cb r W ((hcl.next hA (Nat.le_refl _)).up hA.size) ((hcr.next hA (Nat.le_refl _)).up hA.size) ((KsAt.next hA (Nat.le_refl _) hx).up hA.size) (h.next hA) (h'.next hA) hll hrl
    | 2, _ => exact refPairs2_at left right x la lcap ra rcap xa xcap a ca l b cb r W ((hcl.next hA (Nat.le_refl _)).up hA.size) ((hcr.next hA (Nat.le_refl _)).up hA.size) ((KsAt.next hA (Nat.le_refl _) hx).up hA.size) (h.next hA) (h'.next hA) hll hrl
    | 3, _ => exact refPairs3_at left right x la lcap ra rcap xa xcap a ca l b cb r W ((hcl.next hA (Nat.le_refl _)).up hA.size) ((hcr.next hA (Nat.le_refl _)).up hA.size) ((KsAt.next hA (Nat.le_refl _) hx).up hA.size) (h.next hA) (h'.next hA) hll hrl
  clear q2
  go_loopw [19] (fun i wr => ∃ k : Nat, k ≤ 4 ∧ i = .int .i64 k ∧ Below w2.heap.size w2 wr) (fun i _ => 4 - (intOf i).toNat)
  case atStart => exact ⟨0, by omega, rfl, Below.refl _ _⟩
  case round =>
    obtain ⟨k, hk, rfl, hb⟩ := hrel
    have hS := chain h2 hb
    by_cases hlt : k < 4
    · have hkz : (k : Int) < 4 := by omega
      obtain ⟨g, cg, eg, hg⟩ := FN.out k hlt
      have cg := (hb.cell (p := ⟨w1.heap.size, k, none⟩) l2).trans cg
      rw [z1] at cg
      have con := hg wr hb
      clear hg
      generalize hpe : pairE k left right x l r = pe at con
      generalize hpz : pairZ k left right x l r = pz at con
      have HPe : Hid (pairE k left right x l r = pe) := hpe
      have HPz : Hid (pairZ k left right x l r = pz) := hpz
      clear hpe hpz
      obtain ⟨s0, s1, s2, s3, s4, s5⟩ := S1.out.next hS (by omega)
      simp only [Nat.zero_add] at s1 s2 s3 s4 s5
      go_wp2_with (go_at_fn g; refine con.mono ?_; rintro e w3 ⟨v3, rfl, O3, hb3⟩; obtain ⟨a3, c3, rfl, zs3⟩ := O3.zs; obtain ⟨t0, t1, t2, t3, t4, t5⟩ := S1.out.next (chain hS hb3) (by omega); simp only [Nat.zero_add] at t1 t2 t3 t4 t5)
      have con2 := FR.out k hlt w3 (chain hb hb3)
      rw [HPe.out, HPz.out] at con2
      clear con s0 s1 s2 s3 s4 s5 t0 t1 t2 t3 t4 t5
      refine con2.mono ?_
      rintro e w4 ⟨v4, rfl, ⟨a4, c4, rfl, zs4⟩, hb4⟩
      clear con2
      have con := same_eq a3 a4 c3 c4 pz w4 (zs3.next hb4) zs4
      have hne : (pe != pe) = false := by simp
      have hB4 := chain (chain hb hb3) hb4
      dsimp only
      go_wp2_with fail
      refine con.mono ?_
      rintro e w5 ⟨rfl, hb5⟩
      clear con
      dsimp only
      go_wp2_with fail
      go_roundw
      case rel => exact ⟨k + 1, by omega, by go_num, chain hB4 hb5⟩
      case measure => simp [intOf]; omega
    · have e : k = 4 := by omega
      subst e
      have hA := chain hA2 hb
      go_wp2_with fail
      go_ret
      exact ⟨rfl, hA⟩
end Go.Proofs.YtfojonhblblbjaaGreat
