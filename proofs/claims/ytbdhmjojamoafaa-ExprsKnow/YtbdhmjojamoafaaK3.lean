/- What an expression comes to, as a function value: ready. -/
import Derived.Test.YtbdhmjojamoafaaK2
import Derived.Test.YtbdhmjojamoafaaY5
import Derived.Deep.RegionWith
import Derived.Laws.EntriesVeiled
namespace Go.Proofs.Ytbdhmjojamoafaa
open Go.RowKit

theorem Asks.congr {cols : List Int} {lo : Nat} {u : Value} {f f' : List Vl → Vl} {w : World} (h : Asks cols lo u f w) (e : ∀ row, FitP cols row → f row = f' row) : Asks cols lo u f' w := by
  obtain ⟨g, cb, eu, eg, hd⟩ := h
  exact ⟨g, cb, eu, eg, fun row a cap W hf hs hW => by rw [← e row hf]; exact hd row a cap W hf hs hW⟩
/-- 'make' of no more than eight functions. -/
theorem make_funcs {n : Nat} (h : n ≤ 8) (w : World) : (Instr.makeSlice 80 (.int .i64 n) (.int .i64 n)).run Try.prog w = .ok (.slice (some ⟨w.heap.size, 0, none⟩) n n) (w.alloc (.cells (Array.replicate n Value.nilFunc) 56)) := by
  obtain rfl | rfl | rfl | rfl | rfl | rfl | rfl | rfl | rfl : n = 0 ∨ n = 1 ∨ n = 2 ∨ n = 3 ∨ n = 4 ∨ n = 5 ∨ n = 6 ∨ n = 7 ∨ n = 8 := by omega
  all_goals kernel_rfl

/-- Functions in a slice in a variable, the first j of them made. -/
structure FTo (cols : List Int) (K kb M : Nat) (W : World) (ks : List Ex) (j : Nat) : Prop where
  lt : K < M ∧ kb < M ∧ K ≠ kb ∧ M ≤ W.heap.size
  box : W.cell? ⟨kb, 0, none⟩ = some (.slice (some ⟨K, 0, none⟩) ks.length ks.length)
  room : ∀ i, i < ks.length → (∃ u, W.cell? ⟨K, i, none⟩ = some u) ∧ W.frozen? ⟨K, i, none⟩ = false
  done : ∀ i (h : i < ks.length), i < j → ∃ u, W.cell? ⟨K, i, none⟩ = some u ∧ Asks cols M u (fun row => valX row ks[i]) W
theorem FTo.next {cols : List Int} {K kb M : Nat} {W w1 : World} {ks : List Ex} {j : Nat} (h : FTo cols K kb M W ks j) (hb : Below W.heap.size W w1) : FTo cols K kb M w1 ks j := by
  obtain ⟨h1, h2, h3, h4⟩ := h
  have z := hb.size
  refine ⟨⟨h1.1, h1.2.1, h1.2.2.1, by omega⟩, (hb.cell (p := ⟨kb, 0, none⟩) (by show kb < _; omega)).trans h2, fun i hi => ?_, fun i hi hj => ?_⟩
  · obtain ⟨⟨u, hu⟩, hf⟩ := h3 i hi
    exact ⟨⟨u, (hb.cell (p := ⟨K, i, none⟩) (by show K < _; omega)).trans hu⟩, (hb.frozen (p := ⟨K, i, none⟩) (by show K < _; omega)).trans hf⟩
  · obtain ⟨u, hu, ha⟩ := h4 i hi hj
    exact ⟨u, (hb.cell (p := ⟨K, i, none⟩) (by show K < _; omega)).trans hu, ha.next (Since.of hb)⟩
theorem FTo.store {cols : List Int} {K kb M : Nat} {W : World} {ks : List Ex} {j : Nat} (h : FTo cols K kb M W ks j) (hj : j < ks.length) {u : Value} (ha : Asks cols M u (fun row => valX row ks[j]) W) : FTo cols K kb M (W.setCell ⟨K, j, none⟩ u) ks (j + 1) := by
  obtain ⟨h1, h2, h3, h4⟩ := h
  have hS : Since M W (W.setCell ⟨K, j, none⟩ u) := (Since.refl M W).set K j u (by omega)
  have same : (W.setCell ⟨K, j, none⟩ u).cell? ⟨K, j, none⟩ = some u := World.cell?_setCell_same' _ _ _ (by obtain ⟨⟨u', hu⟩, _⟩ := h3 j hj; rw [hu]; rfl)
  refine ⟨⟨h1.1, h1.2.1, h1.2.2.1, by simpa using h1.2.2.2⟩, ?_, fun i hi => ?_, fun i hi hij => ?_⟩
  · rw [World.cell?_setCell_other _ _ _ _ (by intro e; injection e with e; omega)]; exact h2
  · obtain ⟨⟨u', hu⟩, hf⟩ := h3 i hi
    refine ⟨?_, by rw [World.frozen?_setCell]; exact hf⟩
    by_cases e : i = j
    · subst e; exact ⟨_, same⟩
    · exact ⟨u', by rw [World.cell?_setCell_other _ _ _ _ (by intro e; injection e with _ e; omega)]; exact hu⟩
  · by_cases e : i = j
    · subst e; exact ⟨u, same, ha.next hS⟩
    · obtain ⟨u', hu, ha'⟩ := h4 i hi (by omega)
      exact ⟨u', by rw [World.cell?_setCell_other _ _ _ _ (by intro e; injection e with _ e; omega)]; exact hu, ha'.next hS⟩
theorem FTo.kids {cols : List Int} {K kb M lo : Nat} {W : World} {ks : List Ex} (h : FTo cols K kb M W ks ks.length) (h1 : lo ≤ K) (h2 : lo ≤ kb) : KidsF cols lo W kb ks := by
  obtain ⟨l1, l2, _, l4⟩ := h
  refine ⟨K, h2, by omega, h1, by omega, l2, fun i hi => ?_⟩
  obtain ⟨u, hu, ha⟩ := l4 i hi hi
  exact ⟨u, hu, ha.down (by omega)⟩
theorem FTo.new {cols : List Int} {w : World} {n : Nat} (ks : List Ex) (hn : n = ks.length) (T T' : TypeId) {o : Obj} :
    FTo cols (w.heap.size + 1) (w.heap.size + 2) (w.heap.size + 3) (((w.alloc o).alloc (.cells (Array.replicate n Value.nilFunc) T)).alloc (.cells #[.slice (some ⟨w.heap.size + 1, 0, none⟩) n n] T')) ks 0 := by
  subst hn
  refine ⟨⟨by omega, by omega, by omega, by simp⟩, ?_, fun i hi => ⟨⟨Value.nilFunc, ?_⟩, ?_⟩, fun i _ h => absurd h (Nat.not_lt_zero _)⟩
  · rw [World.cell?_alloc_at _ _ _ _ (by simp)]; rfl
  · rw [World.cell?_alloc_past _ _ _ (by simp), World.cell?_alloc_at _ _ _ _ (by simp)]
    simp [hi]
  · rw [World.frozen?_alloc_past _ _ _ (by simp)]
    exact World.frozen?_alloc_at _ _ _ _ (by simp)

theorem Fn2.down {lo lo' : Nat} {u : Value} {f : Vl → Vl → Vl} {w : World} (h : Fn2 lo u f w) (hl : lo' ≤ lo) : Fn2 lo' u f w := by
  obtain ⟨g, cb, e, eg, hd⟩ := h
  exact ⟨g, cb, e, eg, fun p q W hp hq hW => hd p q W hp hq (hW.up hl)⟩
theorem vals_at (row : List Vl) (ks : List Ex) (i : Nat) (hi : i < ks.length) : (valsX row ks).getD i vl0 = valX row ks[i] := by
  rw [valsX_map]
  simp [List.getD, hi]
/-- What ready is asked for. -/
def ReadyAt (cols : List Int) (x : Ex) : Prop :=
  ∀ (B : Nat) (a : Option Addr) (cap : Nat) (w : World), KsAt B w a x.ks → B ≤ w.heap.size →
    Calls Try.prog 38 #[exV x.k x.v x.c a x.ks.length cap] w fun e w' => ∃ u, e = .returned u ∧ Asks cols w.heap.size u (fun row => valX row x) w' ∧ Below w.heap.size w w'

set_option maxHeartbeats 4000000 in
theorem ready_at (cols : List Int) (k : Int) (v : Vl) (c : Int) (ks : List Ex) (t : Int) (ht : typP cols (.mk k v c ks) = some t) (ih : ∀ x ∈ ks, ReadyAt cols x) : ReadyAt cols (.mk k v c ks) := by
  obtain ⟨h1, h18, hl, ts, hts, hn⟩ := typP_node ht
  intro B a cap w hk hB
  simp only [Ex.k, Ex.v, Ex.c, Ex.ks] at hk ⊢
  have hl3 : ks.length ≤ 8 := by have := kidsN_le k; omega
  have HL : Hid (ks.length = kidsN k) := hl
  have hmk := make_funcs hl3
  have S0 := Six.new w k v c a ks.length cap 27
  have HI : Hid (∀ x ∈ ks, ReadyAt cols x) := ih
  clear hl ih
  obtain ⟨s0, s1, s2, s3, s4, s5⟩ := S0
  simp only [Nat.zero_add] at s1 s2 s3 s4 s5
  have S1 : Six (w.alloc (.cells #[.int .i64 k, .int .i64 v.1, .int .i64 v.2.1, .string v.2.2, .int .i64 c, .slice a ks.length cap] 27)) w.heap.size 0 k v c a ks.length cap := ⟨s0, s1, s2, s3, s4, s5⟩
  have F0 : FTo cols (w.heap.size + 1) (w.heap.size + 2) (w.heap.size + 3) (((w.alloc (.cells #[.int .i64 k, .int .i64 v.1, .int .i64 v.2.1, .string v.2.2, .int .i64 c, .slice a ks.length cap] 27)).alloc (.cells (Array.replicate ks.length Value.nilFunc) 56)).alloc (.cells #[.slice (some ⟨w.heap.size + 1, 0, none⟩) ks.length ks.length] 80)) ks 0 := FTo.new ks rfl _ _
  have hA : Below w.heap.size w (((w.alloc (.cells #[.int .i64 k, .int .i64 v.1, .int .i64 v.2.1, .string v.2.2, .int .i64 c, .slice a ks.length cap] 27)).alloc (.cells (Array.replicate ks.length Value.nilFunc) 56)).alloc (.cells #[.slice (some ⟨w.heap.size + 1, 0, none⟩) ks.length ks.length] 80)) := (((Below.refl _ _).alloc (Nat.le_refl _) _).alloc (by simp) _).alloc (by simp; omega) _
  have S3 : Six (((w.alloc (.cells #[.int .i64 k, .int .i64 v.1, .int .i64 v.2.1, .string v.2.2, .int .i64 c, .slice a ks.length cap] 27)).alloc (.cells (Array.replicate ks.length Value.nilFunc) 56)).alloc (.cells #[.slice (some ⟨w.heap.size + 1, 0, none⟩) ks.length ks.length] 80)) w.heap.size 0 k v c a ks.length cap := (S1.next ((Below.refl _ _).alloc (Nat.le_refl _) _) (by simp)).next ((Below.refl _ _).alloc (Nat.le_refl _) _) (by simp; omega)
  clear S1
  go_enter Try.func38, Try.ntmps38
  go_wp2_with fail
  generalize ((w.alloc (.cells #[.int .i64 k, .int .i64 v.1, .int .i64 v.2.1, .string v.2.2, .int .i64 c, .slice a ks.length cap] 27)).alloc (.cells (Array.replicate ks.length Value.nilFunc) 56)).alloc (.cells #[.slice (some ⟨w.heap.size + 1, 0, none⟩) ks.length ks.length] 80) = w3 at *
  clear s0 s1 s2 s3 s4 s5 hmk
  go_loopw [14] (fun i wr => ∃ j : Nat, j ≤ ks.length ∧ i = .int .i64 j ∧ FTo cols (w.heap.size + 1) (w.heap.size + 2) (w.heap.size + 3) wr ks j ∧ Six wr w.heap.size 0 k v c a ks.length cap ∧ Below w.heap.size w wr) (fun i _ => ks.length - (intOf i).toNat)
  case atStart => exact ⟨0, Nat.zero_le _, rfl, F0, S3, hA⟩
  case round =>
    clear F0 S3 hA
    obtain ⟨j, hj, rfl, F, S, hb⟩ := hrel
    have hz := hb.size
    have hzF := F.lt.2.2.2
    by_cases hlt : j < ks.length
    · obtain ⟨b, off, ai, ci, rfl, hbl, sx, kx⟩ := (KsAt.next hb hB hk).elem hlt
      obtain ⟨x0, x1, x2, x3, x4, x5⟩ := sx
      have hal : Below wr.heap.size wr (wr.alloc (.cells #[.int .i64 ks[j].k, .int .i64 ks[j].v.1, .int .i64 ks[j].v.2.1, .string ks[j].v.2.2, .int .i64 ks[j].c, .slice ai ks[j].ks.length ci] 27)) := (Below.refl _ _).alloc (Nat.le_refl _) _
      have hd : Below (wr.alloc (.cells #[.int .i64 ks[j].k, .int .i64 ks[j].v.1, .int .i64 ks[j].v.2.1, .string ks[j].v.2.2, .int .i64 ks[j].c, .slice ai ks[j].ks.length ci] 27)).heap.size (wr.alloc (.cells #[.int .i64 ks[j].k, .int .i64 ks[j].v.1, .int .i64 ks[j].v.2.1, .string ks[j].v.2.2, .int .i64 ks[j].c, .slice ai ks[j].ks.length ci] 27)) (wr.alloc (.cells #[.int .i64 ks[j].k, .int .i64 ks[j].v.1, .int .i64 ks[j].v.2.1, .string ks[j].v.2.2, .int .i64 ks[j].c, .slice ai ks[j].ks.length ci] 27)).drew := (Below.refl _ _).drew
      have con := HI.out ks[j] (List.getElem_mem _) B ai ci (wr.alloc (.cells #[.int .i64 ks[j].k, .int .i64 ks[j].v.1, .int .i64 ks[j].v.2.1, .string ks[j].v.2.2, .int .i64 ks[j].c, .slice ai ks[j].ks.length ci] 27)).drew (KsAt.next (hal.trans (hd.mono hal.size)) (by omega) kx) (by have := hal.size; have := hd.size; omega)
      have Fk := F.next hal
      have bx := Fk.box
      obtain ⟨⟨uo, ro⟩, fo⟩ := Fk.room j hlt
      have Sk := Six.new wr ks[j].k ks[j].v ks[j].c ai ks[j].ks.length ci 27
      obtain ⟨k0, k1, k2, k3, k4, k5⟩ := Sk
      simp only [Nat.zero_add] at k1 k2 k3 k4 k5
      have hjz : (j : Int) < ks.length := by omega
      go_wp2_with fail
      clear x0 x1 x2 x3 x4 x5 kx
      have hal2 := hal
      have zk : (wr.alloc (.cells #[.int .i64 ks[j].k, .int .i64 ks[j].v.1, .int .i64 ks[j].v.2.1, .string ks[j].v.2.2, .int .i64 ks[j].c, .slice ai ks[j].ks.length ci] 27)).heap.size = wr.heap.size + 1 := by simp
      generalize wr.alloc (.cells #[.int .i64 ks[j].k, .int .i64 ks[j].v.1, .int .i64 ks[j].v.2.1, .string ks[j].v.2.2, .int .i64 ks[j].c, .slice ai ks[j].ks.length ci] 27) = wk at *
      go_region_with (go_at_call 38; refine con.mono ?_; rintro e w1 ⟨u, rfl, hA1, hb1⟩; have F1 := (Fk.next hd).next hb1; have q1 := F1.box; obtain ⟨⟨un, q2⟩, q3⟩ := F1.room j hlt; obtain ⟨ug, ucb, eu⟩ : ∃ g cb, u = .func (.func g) #[] cb := (by obtain ⟨g, cb, e, _⟩ := hA1; exact ⟨g, cb, e⟩); subst eu)
      all_goals (
        go_wp2_with fail
        go_roundw
        case rel =>
          refine ⟨j + 1, by omega, by go_num, F1.store hlt (hA1.down (by show w.heap.size + 3 ≤ wk.drew.heap.size; have := hd.size; omega)), ((S.next hal2 (by omega)).next (hd.trans (hb1.mono hd.size)) (by omega)).far _ _ _ (by omega), ?_⟩
          exact (chain (chain hb hal2) (hd.trans (hb1.mono hd.size))).setCell (p := ⟨w.heap.size + 1, j, none⟩) (by show w.heap.size ≤ w.heap.size + 1; omega) _
        case measure => simp [intOf]; omega)
    · have e : j = ks.length := by omega
      subst e
      obtain ⟨s0, s1, s2, s3, s4, s5⟩ := S
      simp only [Nat.zero_add] at s1 s2 s3 s4 s5
      by_cases k1 : k = 1
      · subst k1
        go_wp2_with fail
        refine (always_at cols v wr).mono ?_
        rintro e w1 ⟨u, rfl, hA1, hb1⟩
        go_wp2_with fail
        go_ret
        exact ⟨_, rfl, (hA1.down hz).congr (fun row _ => by rw [valX, nodeV, if_pos rfl]), chain hb hb1⟩
      have n1 : (k == 1) = false := by simpa using k1
      by_cases k2 : k = 2
      · subst k2
        unfold nodeT at hn
        rw [if_neg (by decide), if_pos rfl] at hn
        obtain ⟨q0, q1, _⟩ := colT_ok hn
        clear hn
        go_wp2_with fail
        refine (column_at cols c wr q0 q1).mono ?_
        rintro e w1 ⟨u, rfl, hA1, hb1⟩
        go_wp2_with fail
        go_ret
        exact ⟨_, rfl, (hA1.down hz).congr (fun row _ => by rw [valX, nodeV, if_neg (by decide), if_pos rfl]), chain hb hb1⟩
      have n2 : (k == 2) = false := by simpa using k2
      have KF : KidsF cols w.heap.size wr (w.heap.size + 2) ks := F.kids (by omega) (by omega)
      by_cases k3 : k = 3
      · subst k3
        have l1 : ks.length = 1 := HL.out
        have HK : Hid (KidsF cols w.heap.size wr (w.heap.size + 2) ks) := KF
        have H1 : Hid (ks.length = 1) := l1
        clear KF l1
        go_wp2_with fail
        go_ret
        refine ⟨_, rfl, ⟨53, _, rfl, enters_of Try.func53 (by kernel_rfl) rfl, ?_⟩, hb⟩
        intro row a cap W hf hs hW
        have e : valX row (.mk 3 v c ks) = notP (valX row (ks[0]'(by rw [H1.out]; omega))) := by rw [valX, nodeV, if_neg (by decide), if_neg (by decide), if_pos rfl, vals_at row ks 0 (by rw [H1.out]; omega)]
        show Calls _ _ _ _ fun e w' => e = .returned (agV (valX row (.mk 3 v c ks))) ∧ _
        rw [e]
        exact ready1_at cols w.heap.size (w.heap.size + 2) ks a row cap W (HK.out.next hW) (by rw [H1.out]; omega) hf hs
      have n3 : (k == 3) = false := by simpa using k3
      by_cases k16 : k = 16
      · subst k16
        have l1 : ks.length = 1 := HL.out
        have HK : Hid (KidsF cols w.heap.size wr (w.heap.size + 2) ks) := KF
        have H1 : Hid (ks.length = 1) := l1
        clear KF l1
        go_wp2_with fail
        go_ret
        refine ⟨_, rfl, ⟨55, _, rfl, enters_of Try.func55 (by kernel_rfl) rfl, ?_⟩, hb⟩
        intro row a cap W hf hs hW
        have e : valX row (.mk 16 v c ks) = tri (some ((valX row (ks[0]'(by rw [H1.out]; omega))).1 == 1)) := by rw [valX, nodeV, if_neg (by decide), if_neg (by decide), if_neg (by decide), if_pos rfl, vals_at row ks 0 (by rw [H1.out]; omega)]
        show Calls _ _ _ _ fun e w' => e = .returned (agV (valX row (.mk 16 v c ks))) ∧ _
        rw [e]
        exact ready2_at cols w.heap.size (w.heap.size + 2) ks a row cap W (HK.out.next hW) (by rw [H1.out]; omega) hf hs
      have n16 : (k == 16) = false := by simpa using k16
      by_cases k17 : k = 17
      · subst k17
        have l3 : ks.length = 3 := HL.out
        have m0 : 0 < ks.length := by omega
        have m1 : 1 < ks.length := by omega
        have m2 : 2 < ks.length := by omega
        have bx := F.box
        obtain ⟨u0, c0, A0⟩ := F.done 0 m0 m0
        obtain ⟨u1, c1, A1⟩ := F.done 1 m1 m1
        obtain ⟨u2, c2, A2⟩ := F.done 2 m2 m2
        have A0 := A0.down (show w.heap.size ≤ w.heap.size + 3 by omega)
        have A1 := A1.down (show w.heap.size ≤ w.heap.size + 3 by omega)
        have A2 := A2.down (show w.heap.size ≤ w.heap.size + 3 by omega)
        obtain ⟨g0, cb0, rfl⟩ : ∃ g cb, u0 = .func (.func g) #[] cb := by obtain ⟨g, cb, e, _⟩ := A0; exact ⟨g, cb, e⟩
        obtain ⟨g1, cb1, rfl⟩ : ∃ g cb, u1 = .func (.func g) #[] cb := by obtain ⟨g, cb, e, _⟩ := A1; exact ⟨g, cb, e⟩
        obtain ⟨g2, cb2, rfl⟩ : ∃ g cb, u2 = .func (.func g) #[] cb := by obtain ⟨g, cb, e, _⟩ := A2; exact ⟨g, cb, e⟩
        have p0 := past_cell bx
        have p1 := past_cell c0
        have p2 := past_cell c1
        have p3 := past_cell c2
        have z0 : (0 : Int) < (ks.length : Int) := by omega
        have z1 : (1 : Int) < (ks.length : Int) := by omega
        have z2 : (2 : Int) < (ks.length : Int) := by omega
        have H3 : Hid (ks.length = 3) := l3
        clear l3 KF
        go_wp2_with fail
        have hB0 : Below wr.heap.size wr wr.drew := (Below.refl _ _).drew
        refine wp_region_ext (by kernel_rfl) ?_
        refine wpX_take (some 45) (i := 0) (v := .slice (some ⟨w.heap.size + 1, 0, none⟩) ks.length ks.length) rfl rfl (by kernel_rfl) (by kernel_rfl) (by kernel_rfl) (fun _ _ _ h => h) (Or.inl ⟨rfl, fun n => ?_⟩) hB0 ?_
        · go_simp
        simp only [Act.put, List.setIfInBounds_toArray, List.set_cons_zero, List.set_cons_succ]
        refine wpX_take (some 46) (i := 1) (v := .pointer (some ⟨w.heap.size + 1, 0, none⟩)) rfl rfl (by kernel_rfl) (by kernel_rfl) (by kernel_rfl) (fun _ _ _ h => h) (Or.inl ⟨rfl, fun n => ?_⟩) hB0 ?_
        · go_simp
        simp only [Act.put, List.setIfInBounds_toArray, List.set_cons_zero, List.set_cons_succ]
        refine wpX_take (some 47) (i := 2) (v := .func (.func g0) #[] cb0) rfl rfl (by kernel_rfl) (by kernel_rfl) (by kernel_rfl) (fun _ _ _ h => h) (Or.inl ⟨rfl, fun n => ?_⟩) hB0 ?_
        · go_simp
        simp only [Act.put, List.setIfInBounds_toArray, List.set_cons_zero, List.set_cons_succ]
        refine wpX_take (some 48) (i := 3) (v := .slice (some ⟨w.heap.size + 1, 0, none⟩) ks.length ks.length) rfl rfl (by kernel_rfl) (by kernel_rfl) (by kernel_rfl) (fun _ _ _ h => h) (Or.inl ⟨rfl, fun n => ?_⟩) hB0 ?_
        · go_simp
        simp only [Act.put, List.setIfInBounds_toArray, List.set_cons_zero, List.set_cons_succ]
        refine wpX_take (some 49) (i := 4) (v := .pointer (some ⟨w.heap.size + 1, 1, none⟩)) rfl rfl (by kernel_rfl) (by kernel_rfl) (by kernel_rfl) (fun _ _ _ h => h) (Or.inl ⟨rfl, fun n => ?_⟩) hB0 ?_
        · go_simp
        simp only [Act.put, List.setIfInBounds_toArray, List.set_cons_zero, List.set_cons_succ]
        refine wpX_take (some 50) (i := 5) (v := .func (.func g1) #[] cb1) rfl rfl (by kernel_rfl) (by kernel_rfl) (by kernel_rfl) (fun _ _ _ h => h) (Or.inl ⟨rfl, fun n => ?_⟩) hB0 ?_
        · go_simp
        simp only [Act.put, List.setIfInBounds_toArray, List.set_cons_zero, List.set_cons_succ]
        refine wpX_take (some 51) (i := 6) (v := .slice (some ⟨w.heap.size + 1, 0, none⟩) ks.length ks.length) rfl rfl (by kernel_rfl) (by kernel_rfl) (by kernel_rfl) (fun _ _ _ h => h) (Or.inl ⟨rfl, fun n => ?_⟩) hB0 ?_
        · go_simp
        simp only [Act.put, List.setIfInBounds_toArray, List.set_cons_zero, List.set_cons_succ]
        refine wpX_take (some 52) (i := 7) (v := .pointer (some ⟨w.heap.size + 1, 2, none⟩)) rfl rfl (by kernel_rfl) (by kernel_rfl) (by kernel_rfl) (fun _ _ _ h => h) (Or.inl ⟨rfl, fun n => ?_⟩) hB0 ?_
        · go_simp
        simp only [Act.put, List.setIfInBounds_toArray, List.set_cons_zero, List.set_cons_succ]
        refine wpX_take (some 53) (i := 8) (v := .func (.func g2) #[] cb2) rfl rfl (by kernel_rfl) (by kernel_rfl) (by kernel_rfl) (fun _ _ _ h => h) (Or.inl ⟨rfl, fun n => ?_⟩) hB0 ?_
        · go_simp
        simp only [Act.put, List.setIfInBounds_toArray, List.set_cons_zero, List.set_cons_succ]
        clear p0 p1 p2 p3
        refine wpX_step (rs := [9]) (by kernel_rfl) (by simp) ?_
        intro w5 hb5 i hi
        obtain rfl : i = 9 := by simpa using hi
        clear hi
        have D5 := hB0.trans (hb5.mono hB0.size)
        refine wpOp_step rfl (fun K hK => ?_)
        go_simp
        refine (either_at cols w.heap.size _ _ _ _ _ _ w5 (by have := D5.size; omega) (A0.next (Since.of D5)) (A1.next (Since.of D5)) (A2.next (Since.of D5))).mono ?_
        rintro e w6 ⟨u, rfl, hA6, hb6⟩
        have D6 := D5.trans (hb6.mono D5.size)
        refine hK _ _ ⟨D6, ?_⟩
        clear hK K
        refine wpX_step (rs := [10]) (by kernel_rfl) (by simp) ?_
        intro w7 hb7 i hi
        obtain rfl : i = 10 := by simpa using hi
        clear hi
        have D7 := D6.trans (hb7.mono D6.size)
        refine wpOp_step rfl (fun K hK => ?_)
        go_simp
        refine hK _ _ ⟨D7, ?_⟩
        clear hK K
        refine wpX_done (by kernel_rfl) ?_
        intro w8 hb8
        have D8 := D7.trans (hb8.mono D7.size)
        go_wp2_with fail
        go_ret
        refine ⟨_, rfl, (hA6.next (Since.of (chain hb7 hb8))).congr (fun row _ => ?_), chain hb D8⟩
        rw [valX, nodeV, if_neg k1, if_neg k2, if_neg k3, if_neg k16, if_pos (show (17 : Int) = 17 from rfl), vals_at row ks 0 m0, vals_at row ks 1 m1, vals_at row ks 2 m2]
      have n17 : (k == 17) = false := by simpa using k17
      have l2 : ks.length = 2 := by rw [HL.out]; unfold kidsN; rw [if_neg (by omega), if_neg (by omega), if_neg k17]
      have H2 : Hid (ks.length = 2) := l2
      have HK : Hid (KidsF cols w.heap.size wr (w.heap.size + 2) ks) := KF
      clear l2 KF
      go_wp2_with fail
      refine (ofTwo_at k (by omega) (by omega) wr).mono ?_
      rintro e w1 ⟨u, rfl, hF, hb1⟩
      obtain ⟨g0, cb0, rfl⟩ : ∃ g cb, u = .func (.func g) #[] cb := by obtain ⟨g, cb, e, _⟩ := hF; exact ⟨g, cb, e⟩
      have hal : Below w1.heap.size w1 (w1.alloc (.cells #[.func (.func g0) #[] cb0] 85)) := (Below.refl _ _).alloc (Nat.le_refl _) _
      have hb1' := chain hb hb1
      go_wp2_with fail
      go_ret
      refine ⟨_, rfl, ⟨60, _, rfl, enters_of Try.func60 (by kernel_rfl) rfl, ?_⟩, chain hb1' hal⟩
      intro row a cap W hf hs hW
      have m0 : 0 < ks.length := by rw [H2.out]; omega
      have m1 : 1 < ks.length := by rw [H2.out]; omega
      have e : valX row (.mk k v c ks) = twoP k (valX row ks[0]) (valX row ks[1]) := by rw [valX, nodeV, if_neg k1, if_neg k2, if_neg k3, if_neg k16, if_neg k17, vals_at row ks 0 m0, vals_at row ks 1 m1]
      show Calls _ _ _ _ fun e w' => e = .returned (agV (valX row (.mk k v c ks))) ∧ _
      rw [e]
      have zz := hb1'.size
      exact ready3_at cols w.heap.size (w.heap.size + 2) w1.heap.size k ks a row cap W _ ((hW.cell (p := ⟨w1.heap.size, 0, none⟩) zz (by simp)).trans (by simp)) (((hF.down (by omega)).next (Since.of hal)).next hW) (((HK.out.next (Since.of hb1)).next (Since.of hal)).next hW) m1 hf hs
        (valX_of hf _ _ (typsP_at hts 0 m0)).1 (valX_of hf _ _ (typsP_at hts 1 m1)).1
theorem ready_any (cols : List Int) : ∀ x t, typP cols x = some t → ReadyAt cols x := by
  refine Ex.ind fun k v c ks ih t ht => ready_at cols k v c ks t ht fun x hx => ?_
  obtain ⟨_, _, _, ts, hts, _⟩ := typP_node ht
  obtain ⟨i, hi, rfl⟩ := List.getElem_of_mem hx
  exact ih _ hx _ (typsP_at hts i hi)
end Go.Proofs.Ytbdhmjojamoafaa
