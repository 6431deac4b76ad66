/- The walks of zsets.Of, zsets.weighedSet and what is built on it. -/
import Derived.Test.YtfgpfnhbcbhkfadGreatZ9
import Derived.Shelf.SlSortCmp.NoneTotal
namespace Go.Proofs.YtfgpfnhbcbhkfadGreat
open Go.RowKit Go.Lib Go.Shelf

theorem sort_none (p : Option Addr) (cap : Nat) (fv : Value) (w : World) : Calls Tryz.prog 106 #[.slice p 0 cap, fv] w fun e w' => e = .returned (.tuple #[]) ∧ w' = w :=
  AnyF.slices_SortFunc_none Tryz.sortZ p cap fv w

set_option maxHeartbeats 1000000 in
theorem summed_none (a : Option Addr) (cap : Nat) (w : World) : Calls Tryz.prog 70 #[.slice a 0 cap] w (Summed [] w) := by
  unfold Summed
  go_enter Tryz.func70, Tryz.ntmps70
  go_wp2_with fail
  refine (clone_at a cap [] w #[] rfl (by simp) (.inl rfl)).mono ?_
  rintro e w1 ⟨v, rfl, hown, hb1⟩
  obtain ⟨a1, c1, rfl⟩ := own_shape hown
  simp only [List.length_nil]
  go_wp2_with fail
  refine (sort_none _ _ _ _).mono ?_
  rintro e w2 ⟨rfl, rfl⟩
  go_wp2_with fail
  refine wp_loop_rounds 1 ?_
  rw [rounds_succ]
  go_wp2_with fail
  go_ret
  exact ⟨[], none, 0, rfl, List.Perm.refl _, List.Pairwise.nil, ⟨by simp [mergedL], .inl rfl⟩, hb1⟩
theorem summed_at (a : Option Addr) (cap : Nat) (l : List Zp) (w : World) (h : ZsAt w a l) (hl : l.length ≤ 200000) (hw : ∀ x ∈ l, bigW x.2 = true) :
    Calls Tryz.prog 70 #[.slice a l.length cap] w (Summed l w) := by
  by_cases hn : 0 < l.length
  · exact summed_some a cap l w h hl hn hw
  · have e : l = [] := List.eq_nil_of_length_eq_zero (by omega)
    subst e
    exact summed_none a cap w
theorem gathered_at (a : Option Addr) (cap : Nat) (l : List Zp) (w : World) (h : ZsAt w a l) (hl : l.length ≤ 200000) (hw : ∀ x ∈ l, bigW x.2 = true) (h8 : ∀ x ∈ l, x.1.length ≤ 8) :
    Calls Tryz.prog 32 #[.slice a l.length cap] w fun e w' => ∃ v, e = .returned (.tuple #[v, .int .i64 (gatherE l)]) ∧ OwnZ w.heap.size w' v (gatherZ l) ∧ Below w.heap.size w w' :=
  gathered_of a cap l w (summed_at a cap l w h hl hw) hl h8

/-- What is wrong with rows that are to make a set. -/
def goO : List Zp → Int
  | [] => 0
  | x :: r => if wrongRowF x.1 = 0 then (if inW x.2 = false then 3 else goO r) else wrongRowF x.1
theorem goO_end (l : List Zp) (k : Nat) (h : l.length ≤ k) : goO (l.drop k) = 0 := by rw [List.drop_eq_nil_of_le h]; rfl
theorem goO_row (l : List Zp) (k : Nat) (h : k < l.length) (hw : ¬ wrongRowF l[k].1 = 0) : goO (l.drop k) = wrongRowF l[k].1 := by
  rw [List.drop_eq_getElem_cons h, goO, if_neg hw]
theorem goO_w (l : List Zp) (k : Nat) (h : k < l.length) (hw : wrongRowF l[k].1 = 0) (h0 : inW l[k].2 = false) : goO (l.drop k) = 3 := by
  rw [List.drop_eq_getElem_cons h, goO, if_pos hw, if_pos h0]
theorem goO_next (l : List Zp) (k : Nat) (h : k < l.length) (hw : wrongRowF l[k].1 = 0) (h0 : inW l[k].2 = true) : goO (l.drop k) = goO (l.drop (k + 1)) := by
  rw [List.drop_eq_getElem_cons h, goO, if_pos hw, if_neg (by simp [h0])]
theorem goO_iff : ∀ l : List Zp, goO l = 0 ↔ ∀ x ∈ l, wrongRowF x.1 = 0 ∧ inW x.2 = true
  | [] => by simp [goO]
  | x :: r => by
    have ih := goO_iff r
    rw [goO]
    by_cases hw : wrongRowF x.1 = 0
    · cases h0 : inW x.2
      · simp [hw, h0]
      · rw [if_pos hw, if_neg (by decide), ih]
        simp [hw, h0]
    · rw [if_neg hw]
      simp [hw]
def ofE (l : List Zp) : Int := if 1600 < l.length then 5 else if goO l = 0 then gatherE l else goO l
def ofZ (l : List Zp) : List Zp := if ofE l = 0 then canon l else []

set_option maxHeartbeats 2000000 in
theorem of_at (a : Option Addr) (cap : Nat) (l : List Zp) (w : World) (h : ZsAt w a l) :
    Calls Tryz.prog 29 #[.slice a l.length cap] w fun e w' => ∃ v, e = .returned (.tuple #[v, .int .i64 (ofE l)]) ∧ OwnZ w.heap.size w' v (ofZ l) ∧ Below w.heap.size w w' := by
  have hl := h.1
  unfold maxLen at hl
  by_cases h16 : 1600 < l.length
  · have e : ofE l = 5 := by simp [ofE, h16]
    have e' : ofZ l = [] := by simp [ofZ, e]
    rw [e, e']
    go_enter Tryz.func29, Tryz.ntmps29
    go_wp2_with fail
    exact bodyPost_ret (v := .tuple #[.slice none 0 0, .int .i64 5]) (by simp [results, Tryz.results29, go_sem]) rfl ⟨_, rfl, own_nil _ _, Below.refl _ _⟩
  · have hof : ofE l = if goO l = 0 then gatherE l else goO l := by simp [ofE, h16]
    have HOf : Hid (ofE l = if goO l = 0 then gatherE l else goO l) := hof
    clear hof
    go_enter Tryz.func29, Tryz.ntmps29
    go_wp2_with fail
    go_loopw [12] (fun i wr => ∃ k : Nat, k ≤ l.length ∧ i = .int .i64 k ∧ Hid (goO l = goO (l.drop k)) ∧ Hid (∀ j (hj : j < l.length), j < k → wrongRowF l[j].1 = 0 ∧ inW l[j].2 = true) ∧ Below w.heap.size w wr) (fun i _ => l.length - (intOf i).toNat)
    case atStart => exact ⟨0, Nat.zero_le _, rfl, rfl, fun j _ hj => absurd hj (Nat.not_lt_zero _), Below.refl _ _⟩
    case round =>
      obtain ⟨k, hk, rfl, HC, HA, hb⟩ := hrel
      have hz := hb.size
      by_cases hlt : k < l.length
      · obtain ⟨b, off, rfl, hbl, c1, ar, cr, c0, sr⟩ := (h.next hb).elem hlt
        have HZ : Hid (ZsAt w (some ⟨b, off, none⟩) l) := h
        clear h
        by_cases hw : wrongRowF l[k].1 = 0
        · have Hw : Hid (wrongRowF l[k].1 = 0) := hw
          clear hw
          go_wp2_with fail
          refine (wrongRow_at _ _ _ _ (sr.next ((Below.refl _ _).alloc (Nat.le_refl _) _))).mono ?_
          rintro e w1 ⟨rfl, hb1⟩
          rw [Hw.out]
          have hb1' := chain2 hb hb1
          have e1 : w1.cell? ⟨wr.heap.size, 1, none⟩ = some (.int .i64 l[k].2) := (hb1.cell (p := ⟨wr.heap.size, 1, none⟩) (by simp)).trans (by simp)
          cases h1 : inW l[k].2
          · have HN : Hid (ofE l = 3) := by
              show ofE l = 3
              have := HC.out.trans (goO_w l k hlt Hw.out h1)
              rw [HOf.out, this]; rfl
            have H1 : Hid (inW l[k].2 = false) := h1
            clear h1
            go_wp2_with fail
            refine (zInRange_any _ _).mono ?_
            rintro e w2 ⟨rfl, rfl⟩
            rw [H1.out]
            go_wp2_with fail
            refine bodyPost_ret (v := .tuple #[.slice none 0 0, .int .i64 3]) (by simp [results, Tryz.results29, go_sem]) rfl ⟨_, by rw [HN.out], ?_, hb1'⟩
            have : ofZ l = [] := by unfold ofZ; rw [HN.out]; rfl
            rw [this]
            exact own_nil _ _
          · have H1 : Hid (inW l[k].2 = true) := h1
            clear h1
            go_wp2_with fail
            refine (zInRange_any _ _).mono ?_
            rintro e w2 ⟨rfl, rfl⟩
            rw [H1.out]
            go_wp2_with fail
            go_roundw
            case rel => exact ⟨k + 1, by omega, by go_num, HC.out.trans (goO_next l k hlt Hw.out H1.out), fun j hj hjk => by
              by_cases e : j = k
              · subst e; exact ⟨Hw.out, H1.out⟩
              · exact HA.out j hj (by omega), hb1'⟩
            case measure => simp [intOf]; omega
        · have Hw : Hid (¬ wrongRowF l[k].1 = 0) := hw
          have hne : (wrongRowF l[k].1 != 0) = true := by simpa using hw
          have HN : Hid (ofE l = wrongRowF l[k].1) := by
            show ofE l = _
            have := HC.out.trans (goO_row l k hlt hw)
            rw [HOf.out, this, if_neg hw]
          clear hw
          go_wp2_with fail
          refine (wrongRow_at _ _ _ _ (sr.next ((Below.refl _ _).alloc (Nat.le_refl _) _))).mono ?_
          rintro e w1 ⟨rfl, hb1⟩
          go_wp2_with fail
          refine bodyPost_ret (v := .tuple #[.slice none 0 0, .int .i64 (wrongRowF l[k].1)]) (by simp [results, Tryz.results29, go_sem]) rfl ⟨_, by rw [HN.out], ?_, chain2 hb hb1⟩
          have : ofZ l = [] := by unfold ofZ; rw [HN.out, if_neg Hw.out]
          rw [this]
          exact own_nil _ _
      · have e : k = l.length := by omega
        subst e
        have g0 : goO l = 0 := HC.out.trans (goO_end l _ (Nat.le_refl _))
        have hall := (goO_iff l).1 g0
        have HN : Hid (ofE l = gatherE l) := by
          show ofE l = _
          rw [HOf.out, if_pos g0]
        have HG : Hid (∀ x ∈ l, wrongRowF x.1 = 0 ∧ inW x.2 = true) := hall
        clear hall g0
        go_wp2_with fail
        refine (gathered_at _ _ _ _ (h.next hb) (by omega) (fun x hx => inW_big (HG.out x hx).2) (fun x hx => ((wrongRowF_zero _).1 (HG.out x hx).1).1)).mono ?_
        rintro e w1 ⟨v, rfl, O1, hb1⟩
        have O1' := O1.mono hb.size
        obtain ⟨a1, c1, rfl, z1⟩ := O1.zs
        go_wp2_with fail
        refine bodyPost_ret (v := .tuple #[.slice a1 (gatherZ l).length c1, .int .i64 (gatherE l)]) (by simp [results, Tryz.results29, go_sem]) rfl ⟨_, by rw [HN.out], ?_, chain1 hb hb1⟩
        have : ofZ l = gatherZ l := by unfold ofZ gatherZ; rw [HN.out]
        rw [this]
        exact O1'

theorem goW_iff : ∀ (l : List Zp) (p : Option (List Vl)), goW p l = 0 ↔ (∀ x ∈ l, wrongRowF x.1 = 0 ∧ x.2 ≠ 0 ∧ inW x.2 = true) ∧ Rise l ∧ ∀ q, p = some q → ∀ x ∈ l, cmpL q x.1 < 0
  | [], p => by simp [goW, Rise]
  | x :: r, p => by
    have ih := goW_iff r (some x.1)
    rw [goW]
    by_cases hw : wrongRowF x.1 = 0
    · rw [if_pos hw]
      by_cases h0 : x.2 = 0 ∨ inW x.2 = false
      · rw [if_pos h0]
        constructor
        · intro h; omega
        · rintro ⟨h, _⟩
          have := h x (by simp)
          rcases h0 with h0 | h0
          · exact absurd h0 this.2.1
          · rw [h0] at this; exact absurd this.2.2 (by decide)
      · rw [if_neg h0]
        have n0 : x.2 ≠ 0 := fun h => h0 (.inl h)
        have n1 : inW x.2 = true := by
          cases h : inW x.2
          · exact absurd (.inr h) h0
          · rfl
        by_cases hc : ∃ q, p = some q ∧ 0 ≤ cmpL q x.1
        · rw [if_pos hc]
          constructor
          · intro h; omega
          · rintro ⟨_, _, h⟩
            obtain ⟨q, e, hq⟩ := hc
            have := h q e x (by simp)
            omega
        · rw [if_neg hc, ih]
          have hc' : ∀ q, p = some q → cmpL q x.1 < 0 := fun q e => by
            by_cases h : 0 ≤ cmpL q x.1
            · exact absurd ⟨q, e, h⟩ hc
            · omega
          constructor
          · rintro ⟨h1, h2, h3⟩
            have h3 := h3 x.1 rfl
            refine ⟨?_, List.pairwise_cons.2 ⟨h3, h2⟩, ?_⟩
            · intro y hy
              rcases List.mem_cons.1 hy with rfl | hy
              · exact ⟨hw, n0, n1⟩
              · exact h1 y hy
            · intro q e y hy
              rcases List.mem_cons.1 hy with rfl | hy
              · exact hc' q e
              · exact cmpL_lt_le (hc' q e) (by have := h3 y hy; omega)
          · rintro ⟨h1, h2, h3⟩
            have p := List.pairwise_cons.1 h2
            exact ⟨fun y hy => h1 y (by simp [hy]), p.2, fun q e y hy => by injection e with e; subst e; exact p.1 y hy⟩
    · rw [if_neg hw]
      constructor
      · intro h; exact absurd h hw
      · rintro ⟨h, _⟩; exact (h x (by simp)).1
theorem wrongZ_iff (l : List Zp) : wrongZ l = 0 ↔ l.length ≤ 400 ∧ (∀ x ∈ l, wrongRowF x.1 = 0 ∧ x.2 ≠ 0 ∧ inW x.2 = true) ∧ Rise l := by
  unfold wrongZ
  by_cases h : 400 < l.length
  · rw [if_pos h]
    constructor
    · intro h; omega
    · rintro ⟨h', _⟩; omega
  · rw [if_neg h, goW_iff]
    constructor
    · rintro ⟨h1, h2, _⟩; exact ⟨by omega, h1, h2⟩
    · rintro ⟨_, h1, h2⟩; exact ⟨h1, h2, fun q e => by cases e⟩

def setZ (f : Int → Int) (l : List Zp) : List Zp := if wrongZ l = 0 then weighL f l else []

def posF (w : Int) : Int := if w < 0 then 0 else w
def oneF (w : Int) : Int := if 0 < w then 1 else 0
end Go.Proofs.YtfgpfnhbcbhkfadGreat
