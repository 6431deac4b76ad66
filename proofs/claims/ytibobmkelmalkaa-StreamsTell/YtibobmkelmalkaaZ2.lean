/- Rows with weights in memory; the walks of zsets.Wrong and of its fellow in the document's answer. -/
import Derived.Test.YtibobmkelmalkaaZ1
namespace Go.Proofs.Ytibobmkelmalkaa
open Go.RowKit

/-- A row with its weight. -/
abbrev Zp : Type := List Vl × Int
/-- A row's two cells at a place. -/
def ElAt (W : World) (b off : Nat) (x : Zp) : Prop :=
  W.cell? ⟨b, off + 1, none⟩ = some (.int .i64 x.2) ∧ ∃ a cap, W.cell? ⟨b, off, none⟩ = some (.slice a x.1.length cap) ∧ SlAt W a x.1
theorem ElAt.next {W w1 : World} {b off : Nat} {x : Zp} (h : ElAt W b off x) (hlt : b < W.heap.size) (hb : Below W.heap.size W w1) : ElAt w1 b off x := by
  obtain ⟨h1, a, cap, h2, h3⟩ := h
  exact ⟨(hb.cell (p := ⟨b, _, none⟩) hlt).trans h1, a, cap, (hb.cell (p := ⟨b, _, none⟩) hlt).trans h2, h3.next hb⟩
/-- A slice holds these rows: it is empty, or leads to them. -/
def ZsAt (W : World) (a : Option Addr) (l : List Zp) : Prop :=
  l.length ≤ maxLen ∧ (l = [] ∨ ∃ b off, a = some ⟨b, off, none⟩ ∧ b < W.heap.size ∧ ∀ (i : Nat) (h : i < l.length), ElAt W b (off + i * 2) l[i])
theorem ZsAt.next {W w1 : World} {a : Option Addr} {l : List Zp} (h : ZsAt W a l) (hb : Below W.heap.size W w1) : ZsAt w1 a l := by
  obtain ⟨h0, h | ⟨b, off, e, hlt, hr⟩⟩ := h
  · exact ⟨h0, .inl h⟩
  · exact ⟨h0, .inr ⟨b, off, e, Nat.lt_of_lt_of_le hlt hb.size, fun i hi => (hr i hi).next hlt hb⟩⟩
theorem ZsAt.elem {W : World} {a : Option Addr} {l : List Zp} (h : ZsAt W a l) {k : Nat} (hk : k < l.length) :
    ∃ b off, a = some ⟨b, off, none⟩ ∧ b < W.heap.size ∧ ElAt W b (off + k * 2) l[k] := by
  obtain ⟨_, h | ⟨b, off, e, hlt, hr⟩⟩ := h
  · subst h; simp at hk
  · exact ⟨b, off, e, hlt, hr k hk⟩
/-- .. at two places. -/
theorem ZsAt.elem2 {W : World} {a : Option Addr} {l : List Zp} (h : ZsAt W a l) {j k : Nat} (hj : j < l.length) (hk : k < l.length) :
    ∃ b off, a = some ⟨b, off, none⟩ ∧ b < W.heap.size ∧ ElAt W b (off + j * 2) l[j] ∧ ElAt W b (off + k * 2) l[k] := by
  obtain ⟨_, h | ⟨b, off, e, hlt, hr⟩⟩ := h
  · subst h; simp at hk
  · exact ⟨b, off, e, hlt, hr j hj, hr k hk⟩

/-- What is wrong with rows behind a row: 0, if nothing is. -/
def goW : Option (List Vl) → List Zp → Int
  | _, [] => 0
  | p, x :: r => if wrongRowF x.1 = 0 then (if x.2 = 0 ∨ inW x.2 = false then 3 else if ∃ q, p = some q ∧ 0 ≤ cmpL q x.1 then 2 else goW (some x.1) r) else wrongRowF x.1
def wrongZ (l : List Zp) : Int := if 400 < l.length then 5 else goW none l
def prevOf (l : List Zp) (k : Nat) : Option (List Vl) := if k = 0 then none else (l[k - 1]?).map (·.1)
theorem prevOf_succ (l : List Zp) (k : Nat) (h : k < l.length) : prevOf l (k + 1) = some l[k].1 := by simp [prevOf, h]
theorem prevOf_pos (l : List Zp) (k : Nat) (h : k < l.length) (h0 : 0 < k) : prevOf l k = some (l[k - 1]'(by omega)).1 := by
  obtain ⟨j, rfl⟩ : ∃ j, k = j + 1 := ⟨k - 1, by omega⟩
  exact prevOf_succ l j (by omega)
theorem goW_end (l : List Zp) (k : Nat) (h : l.length ≤ k) : goW (prevOf l k) (l.drop k) = 0 := by rw [List.drop_eq_nil_of_le h]; rfl
theorem goW_row (l : List Zp) (k : Nat) (h : k < l.length) (hw : ¬ wrongRowF l[k].1 = 0) : goW (prevOf l k) (l.drop k) = wrongRowF l[k].1 := by
  rw [List.drop_eq_getElem_cons h, goW, if_neg hw]
theorem goW_zero (l : List Zp) (k : Nat) (h : k < l.length) (hw : wrongRowF l[k].1 = 0) (h0 : l[k].2 = 0 ∨ inW l[k].2 = false) : goW (prevOf l k) (l.drop k) = 3 := by
  rw [List.drop_eq_getElem_cons h, goW, if_pos hw, if_pos h0]
theorem goW_form (l : List Zp) (k : Nat) (h : k < l.length) (hw : wrongRowF l[k].1 = 0) (h0 : ¬ l[k].2 = 0) (h1 : inW l[k].2 = true) (hp : 0 < k) (hc : 0 ≤ cmpL (l[k - 1]'(by omega)).1 l[k].1) : goW (prevOf l k) (l.drop k) = 2 := by
  rw [List.drop_eq_getElem_cons h, goW, if_pos hw, if_neg (by simp [h0, h1]), if_pos ⟨_, prevOf_pos l k h hp, hc⟩]
theorem goW_next (l : List Zp) (k : Nat) (h : k < l.length) (hw : wrongRowF l[k].1 = 0) (h0 : ¬ l[k].2 = 0) (h1 : inW l[k].2 = true) (hc : ∀ _ : 0 < k, ¬ 0 ≤ cmpL (l[k - 1]'(by omega)).1 l[k].1) : goW (prevOf l k) (l.drop k) = goW (prevOf l (k + 1)) (l.drop (k + 1)) := by
  rw [List.drop_eq_getElem_cons h, goW, if_pos hw, if_neg (by simp [h0, h1]), prevOf_succ l k h]
  rw [if_neg]
  rintro ⟨q, hq, hc'⟩
  by_cases hp : 0 < k
  · rw [prevOf_pos l k h hp] at hq
    injection hq with hq
    subst hq
    exact hc hp hc'
  · have : k = 0 := by omega
    subst this
    simp [prevOf] at hq

theorem chain2 {w wr w2 : World} {o : Obj} (hb : Below w.heap.size w wr) (h2 : Below (wr.alloc o).heap.size (wr.alloc o) w2) : Below w.heap.size w w2 :=
  hb.trans (((Below.refl _ _).alloc hb.size _).trans (h2.mono (by have := hb.size; simp; omega)))
theorem chain1 {w wr w2 : World} (hb : Below w.heap.size w wr) (h2 : Below wr.heap.size wr w2) : Below w.heap.size w w2 :=
  hb.trans (h2.mono hb.size)

set_option maxHeartbeats 2000000 in
theorem zWrong_at (a : Option Addr) (cap : Nat) (l : List Zp) (w : World) (h : ZsAt w a l) :
    Calls Try.prog 27 #[.slice a l.length cap] w fun e w' => e = .returned (.int .i64 (wrongZ l)) ∧ Below w.heap.size w w' := by
  have hl := h.1
  unfold maxLen at hl
  by_cases h8 : 400 < l.length
  · have e : wrongZ l = 5 := by simp [wrongZ, h8]
    rw [e]
    clear e
    go_enter Try.func27, Try.ntmps27
    go_wp2_with fail
    go_ret
    exact ⟨rfl, Below.refl _ _⟩
  · have e : wrongZ l = goW none l := by simp [wrongZ, h8]
    rw [e]
    clear e
    go_enter Try.func27, Try.ntmps27
    go_wp2_with fail
    go_loopw [11] (fun i w1 => ∃ k : Nat, k ≤ l.length ∧ i = .int .i64 k ∧ Hid (goW none l = goW (prevOf l k) (l.drop k)) ∧ Below w.heap.size w w1) (fun i _ => l.length - (intOf i).toNat)
    case atStart => exact ⟨0, Nat.zero_le _, rfl, rfl, Below.refl _ _⟩
    case round =>
      obtain ⟨k, hk, rfl, HC, hb⟩ := hrel
      have hz := hb.size
      by_cases hlt : k < l.length
      · obtain ⟨b, off, rfl, hbl, c1, ar, cr, c0, sr⟩ := (h.next hb).elem hlt
        have HZ : Hid (ZsAt w (some ⟨b, off, none⟩) l) := h
        clear h
        by_cases hw : wrongRowF l[k].1 = 0
        · have Hw : Hid (wrongRowF l[k].1 = 0) := hw
          clear hw
          go_wp2_with fail
          refine (wrongRow_at _ _ _ _ (sr.next ((Below.refl _ _).alloc (Nat.le_refl _) _))).mono ?_
          rintro e w1 ⟨rfl, hb1⟩
          rw [Hw.out]
          have hb1' := chain2 hb hb1
          have hz1 : wr.heap.size < w1.heap.size := by have := hb1.size; simp at this; omega
          have e0 : w1.cell? ⟨wr.heap.size, 0, none⟩ = some (.slice ar l[k].1.length cr) := (hb1.cell (p := ⟨wr.heap.size, 0, none⟩) (by simp)).trans (by simp)
          have e1 : w1.cell? ⟨wr.heap.size, 1, none⟩ = some (.int .i64 l[k].2) := (hb1.cell (p := ⟨wr.heap.size, 1, none⟩) (by simp)).trans (by simp)
          by_cases h0 : l[k].2 = 0
          · have HN : Hid (goW none l = 3) := HC.out.trans (goW_zero l k hlt Hw.out (.inl h0))
            go_wp2_with fail
            go_ret
            exact ⟨ret_int HN.out.symm, hb1'⟩
          · have g0 : (l[k].2 == 0) = false := by simpa using h0
            cases h1 : inW l[k].2
            · have HN : Hid (goW none l = 3) := HC.out.trans (goW_zero l k hlt Hw.out (.inr h1))
              have H1 : Hid (inW l[k].2 = false) := h1
              clear h1
              go_wp2_with fail
              refine (zInRange_any _ _).mono ?_
              rintro e w2 ⟨rfl, rfl⟩
              rw [H1.out]
              go_wp2_with fail
              go_ret
              exact ⟨ret_int HN.out.symm, hb1'⟩
            · have H1 : Hid (inW l[k].2 = true) := h1
              clear h1
              by_cases hp : 0 < k
              · obtain ⟨b', off', hh, hbl', ⟨d1, ap, cp, d0, sp⟩, -⟩ := (HZ.out.next hb1').elem2 (j := k - 1) (k := k) (by omega) hlt
                simp only [Option.some.injEq, Addr.mk.injEq] at hh
                obtain ⟨rfl, rfl, -⟩ := hh
                have sr1 := (sr.next ((Below.refl _ _).alloc (Nat.le_refl _) _)).next hb1
                have i0 : (0 : Int) < (k : Int) := by omega
                have i1 : (0 : Int) ≤ (k : Int) - 1 := by omega
                have i2 : (k : Int) - 1 < (l.length : Int) := by omega
                have i3 : ((k : Int) - 1).toNat = k - 1 := by omega
                have p0 := past_cell d0
                have p1 := past_cell e0
                have p2 := past_cell e1
                haveI : Nonempty (Past w1) := ⟨⟨w1, Below.refl _ _⟩⟩
                by_cases hc : 0 ≤ cmpL (l[k - 1]'(by omega)).1 l[k].1
                · have HN : Hid (goW none l = 2) := HC.out.trans (goW_form l k hlt Hw.out h0 H1.out hp hc)
                  go_wp2_with fail
                  refine (zInRange_any _ _).mono ?_
                  rintro e w2 ⟨rfl, rfl⟩
                  rw [H1.out]
                  go_wp2_with fail
                  refine wp_region_past (by kernel_rfl) (by kernel_rfl) ?_
                  repeat (go_big_quiet_step (first | (go_at_call 39; exact in_past (rows_at _ _ _ _ _ _ _ (sp.next (Past.ok _)) (sr1.next (Past.ok _))))))
                  refine wpQuiet_nil ?_
                  rintro _ ⟨⟨w2, hb2⟩, rfl⟩
                  go_wp2_with fail
                  go_ret
                  exact ⟨ret_int HN.out.symm, chain1 hb1' hb2⟩
                · have HN : Hid (goW none l = goW (prevOf l (k + 1)) (l.drop (k + 1))) := HC.out.trans (goW_next l k hlt Hw.out h0 H1.out (fun _ => hc))
                  have hc' : cmpL (l[k - 1]'(by omega)).1 l[k].1 < 0 := by omega
                  go_wp2_with fail
                  refine (zInRange_any _ _).mono ?_
                  rintro e w2 ⟨rfl, rfl⟩
                  rw [H1.out]
                  go_wp2_with fail
                  refine wp_region_past (by kernel_rfl) (by kernel_rfl) ?_
                  repeat (go_big_quiet_step (first | (go_at_call 39; exact in_past (rows_at _ _ _ _ _ _ _ (sp.next (Past.ok _)) (sr1.next (Past.ok _))))))
                  refine wpQuiet_nil ?_
                  rintro _ ⟨⟨w2, hb2⟩, rfl⟩
                  go_wp2_with fail
                  go_roundw
                  case rel => exact ⟨k + 1, by omega, by go_num, HN.out, chain1 hb1' hb2⟩
                  case measure => simp [intOf]; omega
              · have k0 : k = 0 := by omega
                subst k0
                have HN : Hid (goW none l = goW (prevOf l (0 + 1)) (l.drop (0 + 1))) := HC.out.trans (goW_next l 0 hlt Hw.out h0 H1.out (fun h => absurd h hp))
                haveI : Nonempty (Past w1) := ⟨⟨w1, Below.refl _ _⟩⟩
                go_wp2_with fail
                refine (zInRange_any _ _).mono ?_
                rintro e w2 ⟨rfl, rfl⟩
                rw [H1.out]
                go_wp2_with fail
                refine wp_region_past (by kernel_rfl) (by kernel_rfl) ?_
                repeat (go_big_quiet_step (fail))
                refine wpQuiet_nil ?_
                rintro _ ⟨⟨w2, hb2⟩, rfl⟩
                go_wp2_with fail
                go_roundw
                case rel => exact ⟨0 + 1, by omega, by go_num, HN.out, chain1 hb1' hb2⟩
                case measure => simp [intOf]; omega
        · have Hw : Hid (¬ wrongRowF l[k].1 = 0) := hw
          have hne : (wrongRowF l[k].1 != 0) = true := by simpa using hw
          have HN : Hid (goW none l = wrongRowF l[k].1) := HC.out.trans (goW_row l k hlt hw)
          clear hw
          go_wp2_with fail
          refine (wrongRow_at _ _ _ _ (sr.next ((Below.refl _ _).alloc (Nat.le_refl _) _))).mono ?_
          rintro e w1 ⟨rfl, hb1⟩
          go_wp2_with fail
          go_ret
          exact ⟨ret_int HN.out.symm, chain2 hb hb1⟩
      · go_wp2_with fail
        go_ret
        exact ⟨ret_int (by rw [HC.out, goW_end l k (by omega)]), hb⟩
end Go.Proofs.Ytibobmkelmalkaa
