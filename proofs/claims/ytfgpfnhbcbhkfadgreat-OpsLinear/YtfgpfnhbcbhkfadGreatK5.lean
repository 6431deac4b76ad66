/- Lists of expressions: what they come to, each time in new memory. -/
import Derived.Test.YtfgpfnhbcbhkfadGreatK4
import Derived.Test.YtfgpfnhbcbhkfadGreatZ3
namespace Go.Proofs.YtfgpfnhbcbhkfadGreat
open Go.RowKit

/-- What the making of values has come to: k of them are there. -/
def VTo (W : World) (B n : Nat) (f : Nat → Vl) (k : Nat) : Prop := ∃ xs, W.ownsRow B 24 3 (.slice (some ⟨B, 0, none⟩) n n) n xs ∧ ∀ j : Nat, j < n → j < k → xs[j * 3]? = some (.int .i64 (f j).1) ∧ xs[j * 3 + 1]? = some (.int .i64 (f j).2.1) ∧ xs[j * 3 + 2]? = some (.string (f j).2.2)
theorem VTo.step {W : World} {B n : Nat} {f : Nat → Vl} {k : Nat} (h : VTo W B n f k) (hk : k < n) :
    VTo (((W.setCell ⟨B, k * 3, none⟩ (.int .i64 (f k).1)).setCell ⟨B, k * 3 + 1, none⟩ (.int .i64 (f k).2.1)).setCell ⟨B, k * 3 + 2, none⟩ (.string (f k).2.2)) B n f (k + 1) := by
  obtain ⟨xs, h1, h2⟩ := h
  have lx := h1.1
  refine ⟨_, ((((h1.stored (k * 3) _).1.stored (k * 3 + 1) _).1).stored (k * 3 + 2) _).1, ?_⟩
  intro j hj hjk
  by_cases e : j = k
  · subst e
    refine ⟨?_, ?_, ?_⟩ <;> simp [List.getElem?_set, lx] <;> omega
  · obtain ⟨g0, g1, g2⟩ := h2 j hj (by omega)
    refine ⟨?_, ?_, ?_⟩
    · rw [List.getElem?_set_ne (by omega), List.getElem?_set_ne (by omega), List.getElem?_set_ne (by omega)]; exact g0
    · rw [List.getElem?_set_ne (by omega), List.getElem?_set_ne (by omega), List.getElem?_set_ne (by omega)]; exact g1
    · rw [List.getElem?_set_ne (by omega), List.getElem?_set_ne (by omega), List.getElem?_set_ne (by omega)]; exact g2
theorem VTo.next {W w1 : World} {B n : Nat} {f : Nat → Vl} {k : Nat} (h : VTo W B n f k) (hb : Below W.heap.size W w1) : VTo w1 B n f k := by
  obtain ⟨xs, h1, h2⟩ := h
  exact ⟨xs, own_next h1 hb, h2⟩
theorem VTo.cells {W : World} {B n : Nat} {f : Nat → Vl} {k : Nat} (h : VTo W B n f k) (hk : k < n) : (∃ u0 u1 u2, W.cell? ⟨B, k * 3, none⟩ = some u0 ∧ W.cell? ⟨B, k * 3 + 1, none⟩ = some u1 ∧ W.cell? ⟨B, k * 3 + 2, none⟩ = some u2) ∧ W.frozen? ⟨B, k * 3, none⟩ = false ∧ W.frozen? ⟨B, k * 3 + 1, none⟩ = false ∧ W.frozen? ⟨B, k * 3 + 2, none⟩ = false ∧ B < W.heap.size := by
  obtain ⟨xs, h1, h2⟩ := h
  have lx := h1.1
  refine ⟨⟨xs[k * 3]'(by omega), xs[k * 3 + 1]'(by omega), xs[k * 3 + 2]'(by omega), ?_, ?_, ?_⟩, h1.frozenAt _, h1.frozenAt _, h1.frozenAt _, (h1.lt B rfl).2⟩
  · rw [h1.cellAt _ (by omega)]; exact List.getElem?_eq_getElem (by omega)
  · rw [h1.cellAt _ (by omega)]; exact List.getElem?_eq_getElem (by omega)
  · rw [h1.cellAt _ (by omega)]; exact List.getElem?_eq_getElem (by omega)
theorem VTo.done {W : World} {B n : Nat} {f : Nat → Vl} (h : VTo W B n f n) (vs : List Vl) (hn : n = vs.length) (hv : ∀ j (hj : j < vs.length), f j = vs[j]) (h8 : vs.length ≤ 100) : SlAt W (some ⟨B, 0, none⟩) vs ∧ TyAt W (some ⟨B, 0, none⟩) := by
  obtain ⟨xs, h1, h2⟩ := h
  subst hn
  refine ⟨⟨by unfold maxLen; omega, .inr ⟨B, 0, rfl, ?_, (h1.lt B rfl).2⟩⟩, ?_⟩
  · intro i hi
    obtain ⟨g0, g1, g2⟩ := h2 i hi hi
    rw [hv i hi] at g0 g1 g2
    refine ⟨?_, ?_, ?_⟩
    · rw [h1.cellAt _ (by omega), ← g0]; congr 1; omega
    · rw [h1.cellAt _ (by omega), ← g1]; congr 1; omega
    · rw [h1.cellAt _ (by omega), ← g2]; congr 1; omega
  · intro b off e
    obtain ⟨_, ⟨e', _⟩ | ⟨g, cap, cur, e', _, hh, _⟩⟩ := h1
    · cases e'
    · simp only [Value.slice.injEq, Option.some.injEq, Addr.mk.injEq] at e e'
      obtain ⟨rfl, _⟩ := e
      rw [← e'.1.1] at hh
      exact ⟨_, _, hh⟩

/-- A slice of new memory holds these values. -/
def RowNew (B : Nat) (W : World) (l : List Vl) : Prop := SlAt W (some ⟨B, 0, none⟩) l ∧ TyAt W (some ⟨B, 0, none⟩)
/-- A function value makes rows of what xs come to, as long as all from lo on is as it was. -/
def ListF (cols : List Int) (lo : Nat) (u : Value) (xs : List Ex) (w : World) : Prop :=
  ∃ g cb, u = .func (.func g) #[] cb ∧ (∀ args w, (callFunc g args).run Tryz.prog w = .ok (.enter g args) w) ∧
    ∀ (row : List Vl) (a : Option Addr) (cap : Nat) (W : World), FitP cols row → SlAt W a row → Since lo w W →
      Calls Tryz.prog g (#[.slice a row.length cap] ++ cb) W fun e w' => e = .returned (.slice (some ⟨W.heap.size, 0, none⟩) xs.length xs.length) ∧ RowNew W.heap.size w' (rowX xs row) ∧ Below W.heap.size W w'
theorem ListF.next {cols : List Int} {lo : Nat} {u : Value} {xs : List Ex} {w w1 : World} (h : ListF cols lo u xs w) (hb : Since lo w w1) : ListF cols lo u xs w1 := by
  obtain ⟨g, cb, e, eg, hd⟩ := h
  exact ⟨g, cb, e, eg, fun row a cap W hf hs hW => hd row a cap W hf hs (hb.trans hW)⟩
theorem ListF.down {cols : List Int} {lo lo' : Nat} {u : Value} {xs : List Ex} {w : World} (h : ListF cols lo u xs w) (hl : lo' ≤ lo) : ListF cols lo' u xs w := by
  obtain ⟨g, cb, e, eg, hd⟩ := h
  exact ⟨g, cb, e, eg, fun row a cap W hf hs hW => hd row a cap W hf hs (hW.up hl)⟩

set_option maxHeartbeats 1000000 in
theorem list1_at (cols : List Int) (lo : Nat) (vb : Nat) (xs : List Ex) (a : Option Addr) (row : List Vl) (cap : Nat) (W : World) (hK : KidsF cols lo W vb xs) (h8 : xs.length ≤ 8) (hf : FitP cols row) (hs : SlAt W a row) :
    Calls Tryz.prog 79 #[.slice a row.length cap, .pointer (some ⟨vb, 0, none⟩)] W fun e w' => e = .returned (.slice (some ⟨W.heap.size, 0, none⟩) xs.length xs.length) ∧ RowNew W.heap.size w' (rowX xs row) ∧ Below W.heap.size W w' := by
  obtain ⟨i0, hi, hz0, hz1, hz2⟩ := info_parts Tryz.info49
  obtain ⟨K, k1, k2, k3, k4, k5, k6⟩ := hK
  have HK : Hid (∀ (i : Nat) (h : i < xs.length), ∃ u, W.cell? ⟨K, i, none⟩ = some u ∧ Asks cols lo u (fun row => valX row xs[i]) W) := k6
  go_enter Tryz.func79, Tryz.ntmps79
  go_wp2_with (first | (at_make; refine wpList_make_full _ rfl _ _ 51 rfl W.heap.size 24 i0 _ 3 Tryz.underlying51 hi hz0 hz1 .i64 .i64 xs.length xs.length xs.length rfl rfl rfl rfl (by rw [hz2]; omega) (by unfold maxLen; omega) (Nat.le_refl _) ?_))
  intro w1 hown hgrow
  have hb0 : Below W.heap.size W w1 := (Below.refl _ _).grown hgrow (Nat.le_refl _) (by simp)
  have hB0 : VTo w1 W.heap.size xs.length (fun j => valX row (xs.getD j (.mk 0 vl0 0 []))) 0 := ⟨_, hown, fun j _ hj => absurd hj (Nat.not_lt_zero _)⟩
  have c1 := (hb0.cell (p := ⟨vb, 0, none⟩) k2).trans k5
  clear hown hgrow k5 k6
  go_wp2_with fail
  clear c1
  go_loopw [12] (fun i wr => ∃ k : Nat, k ≤ xs.length ∧ i = .int .i64 k ∧ VTo wr W.heap.size xs.length (fun j => valX row (xs.getD j (.mk 0 vl0 0 []))) k ∧ Below W.heap.size W wr) (fun i _ => xs.length - (intOf i).toNat)
  case atStart => exact ⟨0, Nat.zero_le _, rfl, hB0, hb0⟩
  case round =>
    obtain ⟨k, hk, rfl, HB, hb⟩ := hrel
    have hz := hb.size
    by_cases hlt : k < xs.length
    · obtain ⟨u, cu, A⟩ := HK.out k hlt
      have cu := (hb.cell (p := ⟨K, k, none⟩) k4).trans cu
      obtain ⟨g, cb, rfl, eg, d⟩ := A
      have d := d row a cap wr hf (hs.next hb) (Since.of hb)
      dsimp only at d
      have ev : valX row xs[k] = (fun j => valX row (xs.getD j (.mk 0 vl0 0 []))) k := by simp [List.getD, hlt]
      rw [ev] at d
      generalize (fun j => valX row (xs.getD j (.mk 0 vl0 0 []))) = f at *
      have i0 : (0 : Int) ≤ (k : Int) := by omega
      have i1 : (k : Int) < (xs.length : Int) := by omega
      go_wp2_with (go_at_fn g; refine d.mono ?_; rintro e w2 ⟨rfl, hb2⟩; have HB2 := HB.next hb2; obtain ⟨⟨u0, u1, u2, d0, d1, d2⟩, f0, f1, f2, hlb⟩ := HB2.cells hlt; have zz := hb2.size)
      go_roundw
      case rel =>
        refine ⟨k + 1, by omega, by go_num, ?_, ?_⟩
        · exact HB2.step hlt
        · exact (((chain hb hb2).setCell (p := ⟨W.heap.size, k * 3, none⟩) (Nat.le_refl _) _).setCell (p := ⟨W.heap.size, k * 3 + 1, none⟩) (Nat.le_refl _) _).setCell (p := ⟨W.heap.size, k * 3 + 2, none⟩) (Nat.le_refl _) _
      case measure => simp [intOf]; omega
    · have e : k = xs.length := by omega
      subst e
      go_wp2_with fail
      go_ret
      exact ⟨rfl, HB.done (rowX xs row) (by simp [rowX]) (fun j hj => by simp [rowX] at hj; simp [rowX, List.getD, hj]) (by simp [rowX]; omega), hb⟩

theorem FTo.new2 {cols : List Int} {w : World} {n : Nat} (ks : List Ex) (hn : n = ks.length) (T T' : TypeId) :
    FTo cols w.heap.size (w.heap.size + 1) (w.heap.size + 2) ((w.alloc (.cells (Array.replicate n Value.nilFunc) T)).alloc (.cells #[.slice (some ⟨w.heap.size, 0, none⟩) n n] T')) ks 0 := by
  subst hn
  refine ⟨⟨by omega, by omega, by omega, by simp⟩, ?_, fun i hi => ⟨⟨Value.nilFunc, ?_⟩, ?_⟩, fun i _ h => absurd h (Nat.not_lt_zero _)⟩
  · rw [World.cell?_alloc_at _ _ _ _ (by simp)]; rfl
  · rw [World.cell?_alloc_past _ _ _ (by simp), World.cell?_alloc_at _ _ _ _ rfl]
    simp [hi]
  · rw [World.frozen?_alloc_past _ _ _ (by simp)]
    exact World.frozen?_alloc_at _ _ _ _ rfl

set_option maxHeartbeats 2000000 in
theorem list_at (cols : List Int) (xs : List Ex) (ca : Option Addr) (ccap : Nat) (xa : Option Addr) (xcap : Nat) (w : World) (hk : KsAt w.heap.size w xa xs) (hc : IsAt w.heap.size w ca cols) :
    Calls Tryz.prog 39 #[.slice ca cols.length ccap, .slice xa xs.length xcap] w fun e w' => ∃ u, e = .returned (.tuple #[u, .int .i64 (listE cols xs)]) ∧ ((listE cols xs = 0 ∧ ListF cols w.heap.size u xs w') ∨ (¬ listE cols xs = 0 ∧ u = .nilFunc)) ∧ Below w.heap.size w w' := by
  by_cases h8 : 8 < xs.length
  · have e : listE cols xs = 5 := by simp [listE, h8]
    rw [e]
    have hz : (8 : Int) < (xs.length : Int) := by omega
    go_enter Tryz.func39, Tryz.ntmps39
    go_wp2_with fail
    exact bodyPost_ret (v := .tuple #[.nilFunc, .int .i64 5]) (by simp [results, Tryz.results39, go_sem]) rfl ⟨_, rfl, .inr ⟨by decide, rfl⟩, Below.refl _ _⟩
  · have e : listE cols xs = typesE cols xs := by simp [listE, h8]
    have HE : Hid (listE cols xs = typesE cols xs) := e
    generalize listE cols xs = le at *
    clear e
    have hmk := make_funcs (show xs.length ≤ 8 by omega)
    have F0 : FTo cols w.heap.size (w.heap.size + 1) (w.heap.size + 2) ((w.alloc (.cells (Array.replicate xs.length Value.nilFunc) 103)).alloc (.cells #[.slice (some ⟨w.heap.size, 0, none⟩) xs.length xs.length] 116)) xs 0 := FTo.new2 xs rfl _ _
    have hA : Below w.heap.size w ((w.alloc (.cells (Array.replicate xs.length Value.nilFunc) 103)).alloc (.cells #[.slice (some ⟨w.heap.size, 0, none⟩) xs.length xs.length] 116)) := ((Below.refl _ _).alloc (Nat.le_refl _) _).alloc (by simp) _
    have hz : ¬ (8 : Int) < (xs.length : Int) := by omega
    go_enter Tryz.func39, Tryz.ntmps39
    go_wp2_with fail
    generalize (w.alloc (.cells (Array.replicate xs.length Value.nilFunc) 103)).alloc (.cells #[.slice (some ⟨w.heap.size, 0, none⟩) xs.length xs.length] 116) = w2 at *
    clear hmk
    go_loopw [20] (fun i wr => ∃ j : Nat, j ≤ xs.length ∧ i = .int .i64 j ∧ FTo cols w.heap.size (w.heap.size + 1) (w.heap.size + 2) wr xs j ∧ Hid (typesE cols xs = typesE cols (xs.drop j)) ∧ Below w.heap.size w wr) (fun i _ => xs.length - (intOf i).toNat)
    case atStart => exact ⟨0, Nat.zero_le _, rfl, F0, rfl, hA⟩
    case round =>
      clear F0 hA
      obtain ⟨j, hj, rfl, F, HT, hb⟩ := hrel
      have hz := hb.size
      have hzF := F.lt.2.2.2
      by_cases hlt : j < xs.length
      · obtain ⟨b, off, ai, ci, rfl, hbl, sx, kx⟩ := (KsAt.next hb (Nat.le_refl _) hk).elem hlt
        obtain ⟨x0, x1, x2, x3, x4, x5⟩ := sx
        have hal : Below wr.heap.size wr (wr.alloc (.cells #[.int .i64 xs[j].k, .int .i64 xs[j].v.1, .int .i64 xs[j].v.2.1, .string xs[j].v.2.2, .int .i64 xs[j].c, .slice ai xs[j].ks.length ci] 27)) := (Below.refl _ _).alloc (Nat.le_refl _) _
        have Fk := F.next hal
        have Sk := Six.new wr xs[j].k xs[j].v xs[j].c ai xs[j].ks.length ci 27
        have zk : (wr.alloc (.cells #[.int .i64 xs[j].k, .int .i64 xs[j].v.1, .int .i64 xs[j].v.2.1, .string xs[j].v.2.2, .int .i64 xs[j].c, .slice ai xs[j].ks.length ci] 27)).heap.size = wr.heap.size + 1 := by simp
        have kk := (KsAt.next hal hz kx).up (show w.heap.size ≤ (wr.alloc (.cells #[.int .i64 xs[j].k, .int .i64 xs[j].v.1, .int .i64 xs[j].v.2.1, .string xs[j].v.2.2, .int .i64 xs[j].c, .slice ai xs[j].ks.length ci] 27)).heap.size by omega)
        have cc := ((hc.next hb (Nat.le_refl _)).next hal hz).up (show w.heap.size ≤ (wr.alloc (.cells #[.int .i64 xs[j].k, .int .i64 xs[j].v.1, .int .i64 xs[j].v.2.1, .string xs[j].v.2.2, .int .i64 xs[j].c, .slice ai xs[j].ks.length ci] 27)).heap.size by omega)
        obtain ⟨k0, k1, k2, k3, k4, k5⟩ := Sk
        simp only [Nat.zero_add] at k1 k2 k3 k4 k5
        have hjz : (j : Int) < xs.length := by omega
        by_cases h0 : (typeTop cols xs[j]).2 = 0
        · have con := readyOk_at cols xs[j] ca ccap ai ci _ kk cc h0
          have H0 : Hid ((typeTop cols xs[j]).2 = 0) := h0
          clear h0
          generalize (typeTop cols xs[j]).1 = t at *
          go_wp2_with fail
          clear x0 x1 x2 x3 x4 x5 kx k0 k1 k2 k3 k4 k5 kk cc
          generalize wr.alloc (.cells #[.int .i64 xs[j].k, .int .i64 xs[j].v.1, .int .i64 xs[j].v.2.1, .string xs[j].v.2.2, .int .i64 xs[j].c, .slice ai xs[j].ks.length ci] 27) = wk at *
          refine con.mono ?_
          rintro e w3 ⟨u, rfl, hA3, hb3⟩
          clear con
          have F3 := Fk.next hb3
          have q1 := F3.box
          obtain ⟨⟨un, q2⟩, q3⟩ := F3.room j hlt
          obtain ⟨ug, ucb, rfl⟩ : ∃ g cb, u = .func (.func g) #[] cb := by obtain ⟨g, cb, e, _⟩ := hA3; exact ⟨g, cb, e⟩
          go_wp2_with fail
          go_roundw
          case rel => exact ⟨j + 1, by omega, by go_num, F3.store hlt (hA3.down (by omega)), HT.out.trans (typesE_next cols xs j hlt H0.out), (chain (chain hb hal) hb3).setCell (p := ⟨w.heap.size, j, none⟩) (Nat.le_refl _) _⟩
          case measure => simp [intOf]; omega
        · have con := readyBad_at cols xs[j] ca ccap ai ci _ kk cc h0
          have HN : Hid (le = (typeTop cols xs[j]).2) := HE.out.trans (HT.out.trans (typesE_bad cols xs j hlt h0))
          have q : ((typeTop cols xs[j]).2 != 0) = true := by simpa using h0
          generalize (typeTop cols xs[j]).2 = t2 at *
          go_wp2_with fail
          clear x0 x1 x2 x3 x4 x5 kx k0 k1 k2 k3 k4 k5 kk cc
          generalize wr.alloc (.cells #[.int .i64 xs[j].k, .int .i64 xs[j].v.1, .int .i64 xs[j].v.2.1, .string xs[j].v.2.2, .int .i64 xs[j].c, .slice ai xs[j].ks.length ci] 27) = wk at *
          refine con.mono ?_
          rintro e w3 ⟨rfl, hb3⟩
          clear con
          go_wp2_with fail
          exact bodyPost_ret (v := .tuple #[.nilFunc, .int .i64 t2]) (by simp [results, Tryz.results39, go_sem]) rfl ⟨_, by rw [HN.out], .inr ⟨by rw [HN.out]; exact h0, rfl⟩, chain (chain hb hal) hb3⟩
      · have e : j = xs.length := by omega
        subst e
        have HN : Hid (le = 0) := HE.out.trans (HT.out.trans (typesE_end cols xs _ (Nat.le_refl _)))
        have KF : Hid (KidsF cols w.heap.size wr (w.heap.size + 1) xs) := F.kids (Nat.le_refl _) (by omega)
        go_wp2_with fail
        refine bodyPost_ret (v := .tuple #[.func (.func 79) #[] #[.pointer (some ⟨w.heap.size + 1, 0, none⟩)], .int .i64 0]) (by simp [results, Tryz.results39, go_sem]) rfl ⟨_, by rw [HN.out], .inl ⟨HN.out, 79, _, rfl, enters_of Tryz.func79 (by kernel_rfl) rfl, fun row a cap W hf hs hW => ?_⟩, hb⟩
        exact list1_at cols w.heap.size (w.heap.size + 1) xs a row cap W (KF.out.next hW) (by omega) hf hs
end Go.Proofs.YtfgpfnhbcbhkfadGreat
