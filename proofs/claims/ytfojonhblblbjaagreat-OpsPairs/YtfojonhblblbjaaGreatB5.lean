/- Together: Z9, ZA, ZB, ZC, Form, Q1, K4, K5, Y7. -/
import Derived.Shelf.SlSortCmp.NoneTotal
import Derived.Test.YtfojonhblblbjaaGreatB4
import Derived.Test.YtfojonhblblbjaaGreatB2
import Derived.Test.YtfojonhblblbjaaGreatB1
import Derived.Test.YtfojonhblblbjaaGreatB3
/- The walks of zsets.gathered, zsets.Of, zsets.weighedSet and what is built on them. -/
namespace Go.Proofs.YtfojonhblblbjaaGreat
open Go.RowKit Go.Lib Go.Shelf

def outW (z : List Zp) : Bool := z.any fun x => !inW x.2
def gatherE (l : List Zp) : Int := if outW (canon l) = true then 3 else if 400 < (canon l).length then 5 else 0
def gatherZ (l : List Zp) : List Zp := if gatherE l = 0 then canon l else []
theorem outW_weigh (z : List Zp) : outW (weighL (fun w => w) z) = outW z := by
  induction z with
  | nil => rfl
  | cons x r ih =>
    unfold outW at ih ⊢
    rw [weighL]
    split
    · rename_i h0
      rw [ih, List.any_cons, h0]
      simp [inW]
    · rw [List.any_cons, ih, List.any_cons]
theorem outW_no {z : List Zp} {k : Nat} (hk : k < z.length) (h : inW z[k].2 = false) : outW z = true := by
  unfold outW
  rw [List.any_eq_true]
  exact ⟨z[k], List.getElem_mem hk, by simp [h]⟩
theorem outW_ok {z : List Zp} (h : ∀ j (hj : j < z.length), inW z[j].2 = true) : outW z = false := by
  unfold outW
  rw [List.any_eq_false]
  intro x hx
  obtain ⟨j, hj, rfl⟩ := List.getElem_of_mem hx
  simp [h j hj]
theorem own_nil (base : Nat) (W : World) : OwnZ base W (.slice none 0 0) [] := ⟨[], World.ownsRow_nil _ _ _ _, rfl, fun i hi => by simp at hi⟩

theorem eg58 : ∀ args w, (callFunc 72 args).run Tryz.prog w = .ok (.enter 72 args) w := enters_of Tryz.func72 (by kernel_rfl) rfl
theorem makes58 (w : World) : Makes 72 #[] (fun w => w) w := by
  intro x W _ _
  show Calls Tryz.prog 72 #[.int .i64 x] W _
  go_enter Tryz.func72, Tryz.ntmps72
  go_wp2
  go_ret
  exact ⟨rfl, Below.refl _ _⟩

/-- What zsets.summed leaves. -/
def Summed (l : List Zp) (w : World) (e : Ending) (w' : World) : Prop :=
  ∃ s a' c', e = .returned (.slice a' (mergedL s).length c') ∧ s.Perm l ∧ (s.Pairwise fun x y => cmpL x.1 y.1 ≤ 0) ∧ ZsAt w' a' (mergedL s) ∧ Below w.heap.size w w'

set_option maxHeartbeats 2000000 in
theorem gathered_of (a : Option Addr) (cap : Nat) (l : List Zp) (w : World) (hsum : Calls Tryz.prog 70 #[.slice a l.length cap] w (Summed l w)) (hl : l.length ≤ 200000) (h8 : ∀ x ∈ l, x.1.length ≤ 8) :
    Calls Tryz.prog 32 #[.slice a l.length cap] w fun e w' => ∃ v, e = .returned (.tuple #[v, .int .i64 (gatherE l)]) ∧ OwnZ w.heap.size w' v (gatherZ l) ∧ Below w.heap.size w w' := by
  go_enter Tryz.func32, Tryz.ntmps32
  go_wp2_with fail
  refine hsum.mono ?_
  clear hsum
  rintro e w1 ⟨s, a1, c1, rfl, hp, hs, z1, hb1⟩
  have hcan := gather_canon hp hs
  have hm := merged_ok s hs
  have hlen := mergedL_len s
  rw [hp.length_eq] at hlen
  have h81 : ∀ y ∈ mergedL s, y.1.length ≤ 8 := by
    intro y hy
    obtain ⟨x, hx, e⟩ := hm.row y hy
    rw [e]
    exact h8 x (hp.mem_iff.1 hx)
  have HCan : Hid (weighL (fun w => w) (mergedL s) = canon l) := hcan
  clear hcan hm hp hs h8
  generalize mergedL s = m at *
  go_wp2_with fail
  go_loopw [12] (fun i wr => ∃ k : Nat, k ≤ m.length ∧ i = .int .i64 k ∧ Hid (∀ j (hj : j < m.length), j < k → inW m[j].2 = true) ∧ Below w1.heap.size w1 wr) (fun i _ => m.length - (intOf i).toNat)
  case atStart => exact ⟨0, Nat.zero_le _, rfl, fun j _ hj => absurd hj (Nat.not_lt_zero _), Below.refl _ _⟩
  case round =>
    obtain ⟨k, hk, rfl, HI, hb⟩ := hrel
    have hz := hb.size
    by_cases hlt : k < m.length
    · obtain ⟨b, off, rfl, hbl, d1, ar, cr, d0, sr⟩ := (z1.next hb).elem hlt
      cases hin : inW m[k].2
      · have HO : Hid (inW m[k].2 = false) := hin
        have he : Hid (gatherE l = 3) := by
          show gatherE l = 3
          unfold gatherE
          rw [← HCan.out, outW_weigh, if_pos (outW_no hlt hin)]
        clear hin
        go_wp2_with fail
        refine (zInRange_any _ _).mono ?_
        rintro e w2 ⟨rfl, rfl⟩
        rw [HO.out]
        go_wp2_with fail
        refine bodyPost_ret (v := .tuple #[.slice none 0 0, .int .i64 3]) (by simp [results, Tryz.results32, go_sem]) rfl ⟨_, by rw [he.out], ?_, (chain1 hb1 hb).alloc (by have := hb1.size; omega) _⟩
        have hgz : gatherZ l = [] := by unfold gatherZ; rw [he.out]; rfl
        rw [hgz]
        exact own_nil _ _
      · have HO : Hid (inW m[k].2 = true) := hin
        clear hin
        go_wp2_with fail
        refine (zInRange_any _ _).mono ?_
        rintro e w2 ⟨rfl, rfl⟩
        rw [HO.out]
        go_wp2_with fail
        go_roundw
        case rel => exact ⟨k + 1, by omega, by go_num, fun j hj hjk => by
          by_cases e : j = k
          · subst e; exact HO.out
          · exact HI.out j hj (by omega), hb.alloc hz _⟩
        case measure => simp [intOf]; omega
    · have e : k = m.length := by omega
      subst e
      have hall : ∀ x ∈ m, inW x.2 = true := by
        intro x hx
        obtain ⟨j, hj, rfl⟩ := List.getElem_of_mem hx
        exact HI.out j hj hj
      have ho : outW (canon l) = false := by
        rw [← HCan.out, outW_weigh]
        exact outW_ok fun j hj => HI.out j hj hj
      go_wp2_with fail
      refine (weighed_at 72 #[] (fun w => w) a1 c1 m wr (z1.next hb) eg58 (makes58 _) (by omega) h81 hall).mono ?_
      rintro e w3 ⟨v, rfl, O3, hb3⟩
      rw [HCan.out] at O3
      have hb3' := chain1 (chain1 hb1 hb) hb3
      have O3' := O3.mono (Nat.le_trans hb1.size hb.size)
      obtain ⟨a3, c3, rfl, z3⟩ := O3.zs
      by_cases h4 : 400 < (canon l).length
      · have he : Hid (gatherE l = 5) := by
          show gatherE l = 5
          unfold gatherE
          rw [ho, if_neg (by decide), if_pos h4]
        go_wp2_with fail
        refine bodyPost_ret (v := .tuple #[.slice none 0 0, .int .i64 5]) (by simp [results, Tryz.results32, go_sem]) rfl ⟨_, by rw [he.out], ?_, hb3'⟩
        have hgz : gatherZ l = [] := by unfold gatherZ; rw [he.out]; rfl
        rw [hgz]
        exact own_nil _ _
      · have he : Hid (gatherE l = 0) := by
          show gatherE l = 0
          unfold gatherE
          rw [ho, if_neg (by decide), if_neg h4]
        go_wp2_with fail
        refine bodyPost_ret (v := .tuple #[.slice a3 (canon l).length c3, .int .i64 0]) (by simp [results, Tryz.results32, go_sem]) rfl ⟨_, by rw [he.out], ?_, hb3'⟩
        have hgz : gatherZ l = canon l := by unfold gatherZ; rw [he.out]; rfl
        rw [hgz]
        exact O3'
end Go.Proofs.YtfojonhblblbjaaGreat
/- The walks of zsets.Of, zsets.weighedSet and what is built on it. -/
namespace Go.Proofs.YtfojonhblblbjaaGreat
open Go.RowKit Go.Lib Go.Shelf

theorem sort_none (p : Option Addr) (cap : Nat) (fv : Value) (w : World) : Calls Tryz.prog 106 #[.slice p 0 cap, fv] w fun e w' => e = .returned (.tuple #[]) ∧ w' = w :=
  AnyF.slices_SortFunc_none Tryz.sortZ p cap fv w

set_option maxHeartbeats 1000000 in
theorem summed_none (a : Option Addr) (cap : Nat) (w : World) : Calls Tryz.prog 70 #[.slice a 0 cap] w (Summed [] w) := by
  unfold Summed
  go_enter Tryz.func70, Tryz.ntmps70
  go_wp2_with fail
  refine (clone_at a cap [] w #[] rfl (by simp) (.inl rfl)).mono ?_
  rintro e w1 ⟨v, rfl, hown, hb1⟩
  obtain ⟨a1, c1, rfl⟩ := own_shape hown
  simp only [List.length_nil]
  go_wp2_with fail
  refine (sort_none _ _ _ _).mono ?_
  rintro e w2 ⟨rfl, rfl⟩
  go_wp2_with fail
  refine wp_loop_rounds 1 ?_
  rw [rounds_succ]
  go_wp2_with fail
  go_ret
  exact ⟨[], none, 0, rfl, List.Perm.refl _, List.Pairwise.nil, ⟨by simp [mergedL], .inl rfl⟩, hb1⟩
theorem summed_at (a : Option Addr) (cap : Nat) (l : List Zp) (w : World) (h : ZsAt w a l) (hl : l.length ≤ 200000) (hw : ∀ x ∈ l, bigW x.2 = true) :
    Calls Tryz.prog 70 #[.slice a l.length cap] w (Summed l w) := by
  by_cases hn : 0 < l.length
  · exact summed_some a cap l w h hl hn hw
  · have e : l = [] := List.eq_nil_of_length_eq_zero (by omega)
    subst e
    exact summed_none a cap w
theorem gathered_at (a : Option Addr) (cap : Nat) (l : List Zp) (w : World) (h : ZsAt w a l) (hl : l.length ≤ 200000) (hw : ∀ x ∈ l, bigW x.2 = true) (h8 : ∀ x ∈ l, x.1.length ≤ 8) :
    Calls Tryz.prog 32 #[.slice a l.length cap] w fun e w' => ∃ v, e = .returned (.tuple #[v, .int .i64 (gatherE l)]) ∧ OwnZ w.heap.size w' v (gatherZ l) ∧ Below w.heap.size w w' :=
  gathered_of a cap l w (summed_at a cap l w h hl hw) hl h8

/-- What is wrong with rows that are to make a set. -/
def goO : List Zp → Int
  | [] => 0
  | x :: r => if wrongRowF x.1 = 0 then (if inW x.2 = false then 3 else goO r) else wrongRowF x.1
theorem goO_end (l : List Zp) (k : Nat) (h : l.length ≤ k) : goO (l.drop k) = 0 := by rw [List.drop_eq_nil_of_le h]; rfl
theorem goO_row (l : List Zp) (k : Nat) (h : k < l.length) (hw : ¬ wrongRowF l[k].1 = 0) : goO (l.drop k) = wrongRowF l[k].1 := by
  rw [List.drop_eq_getElem_cons h, goO, if_neg hw]
theorem goO_w (l : List Zp) (k : Nat) (h : k < l.length) (hw : wrongRowF l[k].1 = 0) (h0 : inW l[k].2 = false) : goO (l.drop k) = 3 := by
  rw [List.drop_eq_getElem_cons h, goO, if_pos hw, if_pos h0]
theorem goO_next (l : List Zp) (k : Nat) (h : k < l.length) (hw : wrongRowF l[k].1 = 0) (h0 : inW l[k].2 = true) : goO (l.drop k) = goO (l.drop (k + 1)) := by
  rw [List.drop_eq_getElem_cons h, goO, if_pos hw, if_neg (by simp [h0])]
theorem goO_iff : ∀ l : List Zp, goO l = 0 ↔ ∀ x ∈ l, wrongRowF x.1 = 0 ∧ inW x.2 = true
  | [] => by simp [goO]
  | x :: r => by
    have ih := goO_iff r
    rw [goO]
    by_cases hw : wrongRowF x.1 = 0
    · cases h0 : inW x.2
      · simp [hw, h0]
      · rw [if_pos hw, if_neg (by decide), ih]
        simp [hw, h0]
    · rw [if_neg hw]
      simp [hw]
def ofE (l : List Zp) : Int := if 1600 < l.length then 5 else if goO l = 0 then gatherE l else goO l
def ofZ (l : List Zp) : List Zp := if ofE l = 0 then canon l else []

set_option maxHeartbeats 2000000 in
theorem of_at (a : Option Addr) (cap : Nat) (l : List Zp) (w : World) (h : ZsAt w a l) :
    Calls Tryz.prog 29 #[.slice a l.length cap] w fun e w' => ∃ v, e = .returned (.tuple #[v, .int .i64 (ofE l)]) ∧ OwnZ w.heap.size w' v (ofZ l) ∧ Below w.heap.size w w' := by
  have hl := h.1
  unfold maxLen at hl
  by_cases h16 : 1600 < l.length
  · have e : ofE l = 5 := by simp [ofE, h16]
    have e' : ofZ l = [] := by simp [ofZ, e]
    rw [e, e']
    go_enter Tryz.func29, Tryz.ntmps29
    go_wp2_with fail
    exact bodyPost_ret (v := .tuple #[.slice none 0 0, .int .i64 5]) (by simp [results, Tryz.results29, go_sem]) rfl ⟨_, rfl, own_nil _ _, Below.refl _ _⟩
  · have hof : ofE l = if goO l = 0 then gatherE l else goO l := by simp [ofE, h16]
    have HOf : Hid (ofE l = if goO l = 0 then gatherE l else goO l) := hof
    clear hof
    go_enter Tryz.func29, Tryz.ntmps29
    go_wp2_with fail
    go_loopw [12] (fun i wr => ∃ k : Nat, k ≤ l.length ∧ i = .int .i64 k ∧ Hid (goO l = goO (l.drop k)) ∧ Hid (∀ j (hj : j < l.length), j < k → wrongRowF l[j].1 = 0 ∧ inW l[j].2 = true) ∧ Below w.heap.size w wr) (fun i _ => l.length - (intOf i).toNat)
    case atStart => exact ⟨0, Nat.zero_le _, rfl, rfl, fun j _ hj => absurd hj (Nat.not_lt_zero _), Below.refl _ _⟩
    case round =>
      obtain ⟨k, hk, rfl, HC, HA, hb⟩ := hrel
      have hz := hb.size
      by_cases hlt : k < l.length
      · obtain ⟨b, off, rfl, hbl, c1, ar, cr, c0, sr⟩ := (h.next hb).elem hlt
        have HZ : Hid (ZsAt w (some ⟨b, off, none⟩) l) := h
        clear h
        by_cases hw : wrongRowF l[k].1 = 0
        · have Hw : Hid (wrongRowF l[k].1 = 0) := hw
          clear hw
          go_wp2_with fail
          refine (wrongRow_at _ _ _ _ (sr.next ((Below.refl _ _).alloc (Nat.le_refl _) _))).mono ?_
          rintro e w1 ⟨rfl, hb1⟩
          rw [Hw.out]
          have hb1' := chain2 hb hb1
          have e1 : w1.cell? ⟨wr.heap.size, 1, none⟩ = some (.int .i64 l[k].2) := (hb1.cell (p := ⟨wr.heap.size, 1, none⟩) (by simp)).trans (by simp)
          cases h1 : inW l[k].2
          · have HN : Hid (ofE l = 3) := by
              show ofE l = 3
              have := HC.out.trans (goO_w l k hlt Hw.out h1)
              rw [HOf.out, this]; rfl
            have H1 : Hid (inW l[k].2 = false) := h1
            clear h1
            go_wp2_with fail
            refine (zInRange_any _ _).mono ?_
            rintro e w2 ⟨rfl, rfl⟩
            rw [H1.out]
            go_wp2_with fail
            refine bodyPost_ret (v := .tuple #[.slice none 0 0, .int .i64 3]) (by simp [results, Tryz.results29, go_sem]) rfl ⟨_, by rw [HN.out], ?_, hb1'⟩
            have : ofZ l = [] := by unfold ofZ; rw [HN.out]; rfl
            rw [this]
            exact own_nil _ _
          · have H1 : Hid (inW l[k].2 = true) := h1
            clear h1
            go_wp2_with fail
            refine (zInRange_any _ _).mono ?_
            rintro e w2 ⟨rfl, rfl⟩
            rw [H1.out]
            go_wp2_with fail
            go_roundw
            case rel => exact ⟨k + 1, by omega, by go_num, HC.out.trans (goO_next l k hlt Hw.out H1.out), fun j hj hjk => by
              by_cases e : j = k
              · subst e; exact ⟨Hw.out, H1.out⟩
              · exact HA.out j hj (by omega), hb1'⟩
            case measure => simp [intOf]; omega
        · have Hw : Hid (¬ wrongRowF l[k].1 = 0) := hw
          have hne : (wrongRowF l[k].1 != 0) = true := by simpa using hw
          have HN : Hid (ofE l = wrongRowF l[k].1) := by
            show ofE l = _
            have := HC.out.trans (goO_row l k hlt hw)
            rw [HOf.out, this, if_neg hw]
          clear hw
          go_wp2_with fail
          refine (wrongRow_at _ _ _ _ (sr.next ((Below.refl _ _).alloc (Nat.le_refl _) _))).mono ?_
          rintro e w1 ⟨rfl, hb1⟩
          go_wp2_with fail
          refine bodyPost_ret (v := .tuple #[.slice none 0 0, .int .i64 (wrongRowF l[k].1)]) (by simp [results, Tryz.results29, go_sem]) rfl ⟨_, by rw [HN.out], ?_, chain2 hb hb1⟩
          have : ofZ l = [] := by unfold ofZ; rw [HN.out, if_neg Hw.out]
          rw [this]
          exact own_nil _ _
      · have e : k = l.length := by omega
        subst e
        have g0 : goO l = 0 := HC.out.trans (goO_end l _ (Nat.le_refl _))
        have hall := (goO_iff l).1 g0
        have HN : Hid (ofE l = gatherE l) := by
          show ofE l = _
          rw [HOf.out, if_pos g0]
        have HG : Hid (∀ x ∈ l, wrongRowF x.1 = 0 ∧ inW x.2 = true) := hall
        clear hall g0
        go_wp2_with fail
        refine (gathered_at _ _ _ _ (h.next hb) (by omega) (fun x hx => inW_big (HG.out x hx).2) (fun x hx => ((wrongRowF_zero _).1 (HG.out x hx).1).1)).mono ?_
        rintro e w1 ⟨v, rfl, O1, hb1⟩
        have O1' := O1.mono hb.size
        obtain ⟨a1, c1, rfl, z1⟩ := O1.zs
        go_wp2_with fail
        refine bodyPost_ret (v := .tuple #[.slice a1 (gatherZ l).length c1, .int .i64 (gatherE l)]) (by simp [results, Tryz.results29, go_sem]) rfl ⟨_, by rw [HN.out], ?_, chain1 hb hb1⟩
        have : ofZ l = gatherZ l := by unfold ofZ gatherZ; rw [HN.out]
        rw [this]
        exact O1'

theorem goW_iff : ∀ (l : List Zp) (p : Option (List Vl)), goW p l = 0 ↔ (∀ x ∈ l, wrongRowF x.1 = 0 ∧ x.2 ≠ 0 ∧ inW x.2 = true) ∧ Rise l ∧ ∀ q, p = some q → ∀ x ∈ l, cmpL q x.1 < 0
  | [], p => by simp [goW, Rise]
  | x :: r, p => by
    have ih := goW_iff r (some x.1)
    rw [goW]
    by_cases hw : wrongRowF x.1 = 0
    · rw [if_pos hw]
      by_cases h0 : x.2 = 0 ∨ inW x.2 = false
      · rw [if_pos h0]
        constructor
        · intro h; omega
        · rintro ⟨h, _⟩
          have := h x (by simp)
          rcases h0 with h0 | h0
          · exact absurd h0 this.2.1
          · rw [h0] at this; exact absurd this.2.2 (by decide)
      · rw [if_neg h0]
        have n0 : x.2 ≠ 0 := fun h => h0 (.inl h)
        have n1 : inW x.2 = true := by
          cases h : inW x.2
          · exact absurd (.inr h) h0
          · rfl
        by_cases hc : ∃ q, p = some q ∧ 0 ≤ cmpL q x.1
        · rw [if_pos hc]
          constructor
          · intro h; omega
          · rintro ⟨_, _, h⟩
            obtain ⟨q, e, hq⟩ := hc
            have := h q e x (by simp)
            omega
        · rw [if_neg hc, ih]
          have hc' : ∀ q, p = some q → cmpL q x.1 < 0 := fun q e => by
            by_cases h : 0 ≤ cmpL q x.1
            · exact absurd ⟨q, e, h⟩ hc
            · omega
          constructor
          · rintro ⟨h1, h2, h3⟩
            have h3 := h3 x.1 rfl
            refine ⟨?_, List.pairwise_cons.2 ⟨h3, h2⟩, ?_⟩
            · intro y hy
              rcases List.mem_cons.1 hy with rfl | hy
              · exact ⟨hw, n0, n1⟩
              · exact h1 y hy
            · intro q e y hy
              rcases List.mem_cons.1 hy with rfl | hy
              · exact hc' q e
              · exact cmpL_lt_le (hc' q e) (by have := h3 y hy; omega)
          · rintro ⟨h1, h2, h3⟩
            have p := List.pairwise_cons.1 h2
            exact ⟨fun y hy => h1 y (by simp [hy]), p.2, fun q e y hy => by injection e with e; subst e; exact p.1 y hy⟩
    · rw [if_neg hw]
      constructor
      · intro h; exact absurd h hw
      · rintro ⟨h, _⟩; exact (h x (by simp)).1
theorem wrongZ_iff (l : List Zp) : wrongZ l = 0 ↔ l.length ≤ 400 ∧ (∀ x ∈ l, wrongRowF x.1 = 0 ∧ x.2 ≠ 0 ∧ inW x.2 = true) ∧ Rise l := by
  unfold wrongZ
  by_cases h : 400 < l.length
  · rw [if_pos h]
    constructor
    · intro h; omega
    · rintro ⟨h', _⟩; omega
  · rw [if_neg h, goW_iff]
    constructor
    · rintro ⟨h1, h2, _⟩; exact ⟨by omega, h1, h2⟩
    · rintro ⟨_, h1, h2⟩; exact ⟨h1, h2, fun q e => by cases e⟩

def setZ (f : Int → Int) (l : List Zp) : List Zp := if wrongZ l = 0 then weighL f l else []

def posF (w : Int) : Int := if w < 0 then 0 else w
def oneF (w : Int) : Int := if 0 < w then 1 else 0
end Go.Proofs.YtfojonhblblbjaaGreat
/- The walks of zsets.Neg, Positive, Distinct and Weight, and of the document's Same at sets that are the same. -/
namespace Go.Proofs.YtfojonhblblbjaaGreat
open Go.RowKit Go.Lib Go.Shelf

/-- The place of a row. -/
def PlaceOf (l : List Zp) (r : List Vl) (i : Nat) : Prop := i ≤ l.length ∧ (∀ t (h : t < l.length), t < i → cmpL l[t].1 r < 0) ∧ ∀ t (h : t < l.length), i ≤ t → 0 ≤ cmpL l[t].1 r
theorem rise_get {l : List Zp} (h : Rise l) {i j : Nat} (hi : i < l.length) (hj : j < l.length) (hij : i < j) : cmpL l[i].1 l[j].1 < 0 := List.pairwise_iff_getElem.1 h i j hi hj hij
theorem wt_found {l : List Zp} {r : List Vl} {i : Nat} (h : Rise l) (hi : i < l.length) (hc : cmpL l[i].1 r = 0) : wt l r = l[i].2 := by
  rw [← wt_mem h l[i] (List.getElem_mem hi)]
  exact (wt_congr (q := l[i].1) (q' := r) hc l).symm
theorem wt_lost {l : List Zp} {r : List Vl} {i : Nat} (h : Rise l) (hp : PlaceOf l r i) (hc : ∀ hi : i < l.length, ¬ cmpL l[i].1 r = 0) : wt l r = 0 := by
  refine wt_none fun x hx => ?_
  obtain ⟨t, ht, rfl⟩ := List.getElem_of_mem hx
  rcases Nat.lt_trichotomy t i with g | g | g
  · have := hp.2.1 t ht g; omega
  · subst g; exact hc ht
  · have h1 := hp.2.2 i (by omega) (Nat.le_refl _)
    have h2 := rise_get h (i := i) (j := t) (by omega) ht g
    have h3 := cmpL_neg l[i].1 r
    have h4 := cmpL_neg l[t].1 r
    have h5 := cmpL_le_lt (a := r) (b := l[i].1) (c := l[t].1) (by omega) h2
    omega

end Go.Proofs.YtfojonhblblbjaaGreat
/- The walks of the document's Same at sets that are the same, and of tidelaw2.alive. -/
namespace Go.Proofs.YtfojonhblblbjaaGreat
open Go.RowKit Go.Lib Go.Shelf

theorem eql_val (w : World) (k n : Int) (s : ByteArray) :
    (binOp .neq 24 (.agg #[.int .i64 k, .int .i64 n, .string s]) (.agg #[.int .i64 k, .int .i64 n, .string s])).run Tryz.prog w = .ok (.bool false) w := by
  rw [run_neq_struct, run_equalIn_struct w 9999 24 _ _ (by kernel_rfl) (by kernel_rfl)]
  simp [Program.fieldsOf, Tryz.underlying24, go_sem]

set_option maxHeartbeats 2000000 in
theorem same_eq (a a' : Option Addr) (cap cap' : Nat) (z : List Zp) (w : World) (h : ZsAt w a z) (h' : ZsAt w a' z) :
    Calls Tryz.prog 11 #[.slice a z.length cap, .slice a' z.length cap'] w fun e w' => e = .returned (.bool true) ∧ Below w.heap.size w w' := by
  have hl := h.1
  unfold maxLen at hl
  go_enter Tryz.func11, Tryz.ntmps11
  go_wp2_with fail
  go_loopw [14] (fun i wr => ∃ k : Nat, k ≤ z.length ∧ i = .int .i64 k ∧ Below w.heap.size w wr) (fun i _ => z.length - (intOf i).toNat)
  case atStart => exact ⟨0, Nat.zero_le _, rfl, Below.refl _ _⟩
  case round =>
    obtain ⟨k, hk, rfl, hb⟩ := hrel
    by_cases hlt : k < z.length
    · obtain ⟨b, off, rfl, hbl, c1, ar, cr, c0, sr⟩ := (h.next hb).elem hlt
      obtain ⟨b', off', rfl, hbl', d1, br, dr, d0, tr⟩ := (h'.next hb).elem hlt
      have i0 : (0 : Int) ≤ (k : Int) := by omega
      have i1 : (k : Int) < (z.length : Int) := by omega
      have p0 := past_cell c0
      have p1 := past_cell c1
      have p2 := past_cell d0
      have p3 := past_cell d1
      haveI : Nonempty (Past wr) := ⟨⟨wr, Below.refl _ _⟩⟩
      go_wp2_with fail
      refine wp_region_past (by kernel_rfl) (by kernel_rfl) ?_
      repeat (go_big_quiet_step (fail))
      refine wpQuiet_nil ?_
      rintro w2 ⟨⟨v2, hb2⟩, h2⟩
      obtain rfl : w2 = v2 := h2
      have q0 := (hb2.cell (p := ⟨b, _, none⟩) hbl).trans c0
      have q2 := (hb2.cell (p := ⟨b', _, none⟩) hbl').trans d0
      have sr2 := sr.next hb2
      have tr2 := tr.next hb2
      have hb2' := chain1 hb hb2
      have hbl2 := Nat.lt_of_lt_of_le hbl hb2.size
      have hbl2' := Nat.lt_of_lt_of_le hbl' hb2.size
      have hrl := sr.1
      unfold maxLen at hrl
      clear p0 p1 p2 p3 c0 c1 d0 d1 sr tr
      go_wp2_with fail
      go_loopw [49] (fun i ws => ∃ j : Nat, j ≤ z[k].1.length ∧ i = .int .i64 j ∧ Below w2.heap.size w2 ws) (fun i _ => z[k].1.length - (intOf i).toNat)
      case atStart => exact ⟨0, Nat.zero_le _, rfl, Below.refl _ _⟩
      case round =>
        obtain ⟨j, hj, rfl, hs⟩ := hrel
        by_cases hjl : j < z[k].1.length
        · obtain ⟨x, xo, rfl, xl, x0, x1, x2⟩ := (sr2.next hs).elem hjl
          obtain ⟨y, yo, rfl, yl, y0, y1, y2⟩ := (tr2.next hs).elem hjl
          have r0 := past_cell ((hs.cell (p := ⟨b, _, none⟩) hbl2).trans q0)
          have r2 := past_cell ((hs.cell (p := ⟨b', _, none⟩) hbl2').trans q2)
          have j0 : (0 : Int) ≤ (j : Int) := by omega
          have j1 : (j : Int) < (z[k].1.length : Int) := by omega
          have s0 := past_cell x0
          have s1 := past_cell x1
          have s2 := past_cell x2
          have s3 := past_cell y0
          have s4 := past_cell y1
          have s5 := past_cell y2
          have ev := fun w' => eql_val w' z[k].1[j].1 z[k].1[j].2.1 z[k].1[j].2.2
          haveI : Nonempty (Past wr) := ⟨⟨wr, Below.refl _ _⟩⟩
          go_wp2_with fail
          refine wp_region_past (by kernel_rfl) (by kernel_rfl) ?_
          repeat (go_big_quiet_step (fail))
          refine wpQuiet_nil ?_
          rintro w3 ⟨⟨v3, hb3⟩, h3⟩
          obtain rfl : w3 = v3 := h3
          go_wp2_with fail
          go_roundw
          case rel => exact ⟨j + 1, by omega, by go_num, chain1 hs hb3⟩
          case measure => simp [intOf]; omega
        · go_wp2_with fail
          go_roundw
          case rel => exact ⟨k + 1, by omega, by go_num, chain1 hb2' hs⟩
          case measure => simp [intOf]; omega
    · go_wp2_with fail
      go_ret
      exact ⟨rfl, hb⟩
end Go.Proofs.YtfojonhblblbjaaGreat
/- The walk of tidelaw2.ZsetsForm. -/
namespace Go.Proofs.YtfojonhblblbjaaGreat
open Go.RowKit Go.Lib Go.Shelf

theorem putL_mem (r : List Vl) (w : Int) : ∀ z : List Zp, ∀ y ∈ putL z r w, y ∈ z ∨ y.1 = bareL r
  | [] => by
    unfold putL
    split
    · simp
    · intro y hy; simp at hy; subst hy; exact .inr rfl
  | x :: t => by
    have ih := putL_mem r w t
    unfold putL
    split
    · intro y hy
      rcases List.mem_cons.1 hy with rfl | hy
      · exact .inl (by simp)
      · rcases ih y hy with h | h
        · exact .inl (by simp [h])
        · exact .inr h
    · split
      · split
        · intro y hy; exact .inl (by simp [hy])
        · intro y hy
          rcases List.mem_cons.1 hy with rfl | hy
          · exact .inr rfl
          · exact .inl (by simp [hy])
      · split
        · intro y hy; exact .inl hy
        · intro y hy
          rcases List.mem_cons.1 hy with rfl | hy
          · exact .inr rfl
          · exact .inl hy
theorem canonF_row (l : List Zp) : ∀ z : List Zp, ∀ y ∈ l.foldl (fun z x => putL z x.1 x.2) z, y ∈ z ∨ ∃ x ∈ l, y.1 = bareL x.1 := by
  induction l with
  | nil => intro z y hy; exact .inl hy
  | cons x r ih =>
    intro z y hy
    rcases ih _ y hy with h | ⟨u, hu, e⟩
    · rcases putL_mem _ _ _ y h with h | h
      · exact .inl h
      · exact .inr ⟨x, by simp, h⟩
    · exact .inr ⟨u, by simp [hu], e⟩
theorem canon_row (l : List Zp) : ∀ y ∈ canon l, ∃ x ∈ l, y.1 = bareL x.1 := fun y hy => by
  rcases canonF_row l [] y hy with h | h
  · cases h
  · exact h
theorem canon_congr {l t : List Zp} (h : ∀ q, wt l q = wt t q) : canon l = canon t :=
  set_unique _ _ (canon_set l) (canon_set t) fun q => by rw [canon_wt, canon_wt, h]
theorem canon_self {z : List Zp} (h : IsSet z) : canon z = z := (canon_of h fun _ => rfl).symm
theorem gather_ok {l : List Zp} (h : gatherE l = 0) : outW (canon l) = false ∧ (canon l).length ≤ 400 := by
  unfold gatherE at h
  by_cases h1 : outW (canon l) = true
  · rw [if_pos h1] at h; omega
  · rw [if_neg h1] at h
    by_cases h2 : 400 < (canon l).length
    · rw [if_pos h2] at h; omega
    · exact ⟨by simpa using h1, by omega⟩
theorem outW_in {z : List Zp} (h : outW z = false) : ∀ x ∈ z, inW x.2 = true := by
  unfold outW at h
  rw [List.any_eq_false] at h
  intro x hx
  simpa using h x hx
theorem wrong_canon {l : List Zp} (hr : ∀ x ∈ l, wrongRowF x.1 = 0) (h : gatherE l = 0) : wrongZ (canon l) = 0 := by
  obtain ⟨h1, h2⟩ := gather_ok h
  refine (wrongZ_iff _).2 ⟨h2, fun y hy => ?_, (canon_set l).rise⟩
  obtain ⟨x, hx, e⟩ := canon_row l y hy
  refine ⟨?_, (canon_set l).ne y hy, outW_in h1 y hy⟩
  rw [e, wrongRow_bare]
  exact hr x hx
theorem of_ok {l : List Zp} (h : ofE l = 0) : l.length ≤ 1600 ∧ goO l = 0 ∧ gatherE l = 0 := by
  unfold ofE at h
  by_cases h1 : 1600 < l.length
  · rw [if_pos h1] at h; omega
  · rw [if_neg h1] at h
    by_cases h2 : goO l = 0
    · rw [if_pos h2] at h; exact ⟨by omega, h2, h⟩
    · rw [if_neg h2] at h; exact absurd h h2
theorem of_set {z : List Zp} (h : wrongZ z = 0) (hs : IsSet z) : ofE z = 0 ∧ ofZ z = z := by
  obtain ⟨h1, h2, h3⟩ := (wrongZ_iff z).1 h
  have g : goO z = 0 := (goO_iff z).2 fun x hx => ⟨(h2 x hx).1, (h2 x hx).2.2⟩
  have e : ofE z = 0 := by
    unfold ofE gatherE
    rw [if_neg (by omega), if_pos g, canon_self hs]
    have : outW z = false := by
      unfold outW
      rw [List.any_eq_false]
      intro x hx
      simp [(h2 x hx).2.2]
    rw [this, if_neg (by decide), if_neg (by omega)]
  exact ⟨e, by unfold ofZ; rw [if_pos e, canon_self hs]⟩

def piece (at_ : Int) (m : Nat) (x : Zp) : List Zp := if (m : Int) = at_ ∧ 1 < x.2 then [(x.1, x.2 - 1), (x.1, 1)] else [x]
def backF (at_ : Int) : Nat → List Zp → List Zp
  | _, [] => []
  | m, x :: r => backF at_ (m + 1) r ++ piece at_ m x
theorem backF_step (at_ : Int) (l : List Zp) (k : Nat) (h : k < l.length) : backF at_ k (l.drop k) = backF at_ (k + 1) (l.drop (k + 1)) ++ piece at_ k l[k] := by
  rw [List.drop_eq_getElem_cons h]; rfl
theorem piece_wt (at_ : Int) (m : Nat) (x : Zp) (q : List Vl) : wt (piece at_ m x) q = wt [x] q := by
  unfold piece
  split
  · simp only [wt]; split <;> omega
  · rfl
theorem backF_wt (at_ : Int) (q : List Vl) : ∀ (t : List Zp) (m : Nat), wt (backF at_ m t) q = wt t q
  | [], _ => rfl
  | x :: r, m => by
    have ih := backF_wt at_ q r (m + 1)
    rw [backF, wt_append, ih, piece_wt]
    simp only [wt]; omega
theorem backF_in (at_ : Int) : ∀ (t : List Zp) (m : Nat), (∀ x ∈ t, wrongRowF x.1 = 0 ∧ inW x.2 = true) → ∀ x ∈ backF at_ m t, wrongRowF x.1 = 0 ∧ inW x.2 = true
  | [], _, _ => by simp [backF]
  | y :: r, m, h => by
    have ih := backF_in at_ r (m + 1) (fun x hx => h x (by simp [hx]))
    have hy := h y (by simp)
    intro x hx
    rw [backF] at hx
    rcases List.mem_append.1 hx with hx | hx
    · exact ih x hx
    · unfold piece at hx
      have := (inW_iff _).1 hy.2
      split at hx
      · simp at hx
        rcases hx with rfl | rfl
        · exact ⟨hy.1, (inW_iff _).2 (by simp only; omega)⟩
        · exact ⟨hy.1, (inW_iff _).2 (by simp only; omega)⟩
      · simp at hx; subst hx; exact hy
theorem backF_len (at_ : Int) : ∀ (t : List Zp) (m : Nat), (backF at_ m t).length ≤ t.length * 2
  | [], _ => by simp [backF]
  | y :: r, m => by
    have ih := backF_len at_ r (m + 1)
    rw [backF, List.length_append]
    have : (piece at_ m y).length ≤ 2 := by unfold piece; split <;> simp
    simp; omega
theorem back_of {l : List Zp} (at_ : Int) (h : ofE l = 0) (hl : (backF at_ 0 l).length ≤ 1600) : ofE (backF at_ 0 l) = 0 ∧ ofZ (backF at_ 0 l) = canon l := by
  obtain ⟨h1, h2, h3⟩ := of_ok h
  have hc : canon (backF at_ 0 l) = canon l := canon_congr fun q => backF_wt at_ q l 0
  have g : goO (backF at_ 0 l) = 0 := (goO_iff _).2 (backF_in at_ l 0 ((goO_iff l).1 h2))
  have ge : gatherE (backF at_ 0 l) = 0 := by
    unfold gatherE at h3 ⊢
    rw [hc]; exact h3
  have e : ofE (backF at_ 0 l) = 0 := by
    unfold ofE
    rw [if_neg (by omega), if_pos g, ge]
  exact ⟨e, by unfold ofZ; rw [if_pos e, hc]⟩

theorem news2 {W : World} {B : Nat} (hB : W.heap.size = B) (u0 u1 : Value) : ∀ j u, [u0, u1][j]? = some u → (W.alloc (.cells #[u0, u1] 53)).cell? ((⟨B, 0, none⟩ : Addr).add j) = some u := by
  subst hB
  intro j u hj
  have hn := heap_alloc_new W (.cells #[u0, u1] 53)
  match j, hj with
  | 0, hj => simp at hj; subst hj; simp [Addr.add]
  | 1, hj => simp at hj; subst hj; simp [Addr.add]
theorem one2 (a : Option Addr) (m c : Nat) (x : Int) : ∀ u ∈ [Value.slice a m c, .int .i64 x], u.oneCell' = true := by
  intro u hu; simp at hu; rcases hu with rfl | rfl <;> rfl

theorem box_ne {W : World} {base n B : Nat} {v : Value} {xs : List Value} {a : Option Addr} {m c : Nat} {x y : Int} (ho : W.ownsRow base 53 2 v n (xs ++ [.slice a m c, .int .i64 y])) (hbox : W.heap[B]? = some (.cells #[.slice a m c, .int .i64 x] 53 (0, 0))) (hne : y ≠ x) : v.ownBlock ≠ some B := by
  obtain ⟨hl, ⟨rfl, _⟩ | ⟨g, cap, cur, rfl, _, hh, hn, hc, hs, ht⟩⟩ := ho
  · simp [Value.ownBlock]
  · simp only [Value.ownBlock]
    intro e
    injection e with e
    subst e
    rw [hbox] at hh
    simp only [Option.some.injEq, Obj.cells.injEq, and_true] at hh
    subst hh
    simp at hs hl
    have n1 : n = 1 := by omega
    subst n1
    have x0 : xs = [] := List.eq_nil_of_length_eq_zero (by omega)
    subst x0
    simp at ht
    exact hne ht.symm

end Go.Proofs.YtfojonhblblbjaaGreat
/- What is done with sets, plainly: conditions, filters, lists, pairs; sums over sets. No program in sight. -/
namespace Go.Proofs.YtfojonhblblbjaaGreat

/-! ### What is wrong -/
def condE (cols : List Int) (x : Ex) : Int := if (typeTop cols x).2 ≠ 0 then (typeTop cols x).2 else if (typeTop cols x).1 ≠ 2 ∧ (typeTop cols x).1 ≠ 1 then 9 else 0
def fitsZ (cols : List Int) : List Zp → Int
  | [] => 0
  | x :: r => if fitsL cols x.1 = 0 then fitsZ cols r else fitsL cols x.1
def inpE (cols : List Int) (z : List Zp) : Int := if 8 < cols.length then 5 else if wrongZ z ≠ 0 then wrongZ z else fitsZ cols z
def typesE (cols : List Int) : List Ex → Int
  | [] => 0
  | x :: r => if (typeTop cols x).2 = 0 then typesE cols r else (typeTop cols x).2
def listE (cols : List Int) (xs : List Ex) : Int := if 8 < xs.length then 5 else typesE cols xs
theorem fitsZ_end (cols : List Int) (z : List Zp) (k : Nat) (h : z.length ≤ k) : fitsZ cols (z.drop k) = 0 := by rw [List.drop_eq_nil_of_le h]; rfl
theorem fitsZ_bad (cols : List Int) (z : List Zp) (k : Nat) (h : k < z.length) (e : ¬ fitsL cols z[k].1 = 0) : fitsZ cols (z.drop k) = fitsL cols z[k].1 := by
  rw [List.drop_eq_getElem_cons h, fitsZ, if_neg e]
theorem fitsZ_next (cols : List Int) (z : List Zp) (k : Nat) (h : k < z.length) (e : fitsL cols z[k].1 = 0) : fitsZ cols (z.drop k) = fitsZ cols (z.drop (k + 1)) := by
  rw [List.drop_eq_getElem_cons h, fitsZ, if_pos e]
theorem typesE_end (cols : List Int) (z : List Ex) (k : Nat) (h : z.length ≤ k) : typesE cols (z.drop k) = 0 := by rw [List.drop_eq_nil_of_le h]; rfl
theorem typesE_bad (cols : List Int) (z : List Ex) (k : Nat) (h : k < z.length) (e : ¬ (typeTop cols z[k]).2 = 0) : typesE cols (z.drop k) = (typeTop cols z[k]).2 := by
  rw [List.drop_eq_getElem_cons h, typesE, if_neg e]
theorem typesE_next (cols : List Int) (z : List Ex) (k : Nat) (h : k < z.length) (e : (typeTop cols z[k]).2 = 0) : typesE cols (z.drop k) = typesE cols (z.drop (k + 1)) := by
  rw [List.drop_eq_getElem_cons h, typesE, if_pos e]
theorem fitsZ_ok (cols : List Int) : ∀ z : List Zp, fitsZ cols z = 0 ↔ ∀ x ∈ z, FitP cols x.1
  | [] => by simp [fitsZ]
  | x :: r => by
    have ih := fitsZ_ok cols r
    rw [fitsZ]
    by_cases h : fitsL cols x.1 = 0
    · rw [if_pos h, ih]
      simp [(fitsL_ok cols x.1).1 h]
    · rw [if_neg h]
      constructor
      · intro e; exact absurd e h
      · intro e; exact absurd ((fitsL_ok cols x.1).2 (e x (by simp))) h
theorem typesE_ok (cols : List Int) : ∀ z : List Ex, typesE cols z = 0 ↔ ∀ x ∈ z, (typeTop cols x).2 = 0
  | [] => by simp [typesE]
  | x :: r => by
    have ih := typesE_ok cols r
    rw [typesE]
    by_cases h : (typeTop cols x).2 = 0
    · rw [if_pos h, ih]
      simp [h]
    · rw [if_neg h]
      simp [h]
structure InpOk (cols : List Int) (z : List Zp) : Prop where
  cols8 : cols.length ≤ 8
  set : wrongZ z = 0
  fit : ∀ x ∈ z, FitP cols x.1
theorem inpE_ok (cols : List Int) (z : List Zp) : inpE cols z = 0 ↔ InpOk cols z := by
  unfold inpE
  by_cases h8 : 8 < cols.length
  · rw [if_pos h8]
    constructor
    · intro h; omega
    · rintro ⟨h, _, _⟩; omega
  · rw [if_neg h8]
    by_cases hw : wrongZ z = 0
    · rw [if_neg (by simpa using hw), fitsZ_ok]
      exact ⟨fun h => ⟨by omega, hw, h⟩, fun h => h.fit⟩
    · rw [if_pos (by simpa using hw)]
      exact ⟨fun h => absurd h hw, fun h => h.set⟩
theorem condE_ok {cols : List Int} {x : Ex} (h : condE cols x = 0) : (typeTop cols x).2 = 0 ∧ ((typeTop cols x).1 = 1 ∨ (typeTop cols x).1 = 2) := by
  unfold condE at h
  by_cases h1 : (typeTop cols x).2 = 0
  · rw [if_neg (by simpa using h1)] at h
    by_cases h2 : (typeTop cols x).1 ≠ 2 ∧ (typeTop cols x).1 ≠ 1
    · rw [if_pos h2] at h; omega
    · exact ⟨h1, by omega⟩
  · rw [if_pos h1] at h
    exact absurd h h1
theorem typ_of {cols : List Int} {x : Ex} (h : (typeTop cols x).2 = 0) : typP cols x = some (typeTop cols x).1 := ((typeTop_ok cols x).1 h).ty

/-! ### What expressions come to hangs on bare rows alone -/
theorem getD_bare (row : List Vl) (i : Nat) : bareP (row.getD i vl0) = (bareL row).getD i vl0 := by
  simp only [bareL, List.getD, List.getElem?_map]
  cases row[i]? <;> rfl
theorem valX_bare (row row' : List Vl) (h : bareL row = bareL row') : ∀ x, valX row x = valX row' x := by
  refine Ex.ind fun k v c ks ih => ?_
  have e : valsX row ks = valsX row' ks := by
    rw [valsX_map, valsX_map]
    exact List.map_congr_left ih
  rw [valX, valX, e]
  unfold nodeV
  rw [getD_bare, getD_bare, h]
theorem valX_same {row row' : List Vl} (h : cmpL row row' = 0) (x : Ex) : valX row x = valX row' x := valX_bare row row' (bareL_of h) x
def holdsP (x : Ex) (row : List Vl) : Bool := clsP (valX row x) == some true
def rowX (xs : List Ex) (row : List Vl) : List Vl := xs.map (valX row)
theorem holds_same {row row' : List Vl} (h : cmpL row row' = 0) (x : Ex) : holdsP x row = holdsP x row' := by unfold holdsP; rw [valX_same h]
theorem rowX_same {row row' : List Vl} (h : cmpL row row' = 0) (xs : List Ex) : rowX xs row = rowX xs row' := List.map_congr_left fun x _ => valX_same h x
theorem cmpL_append {a a' b b' : List Vl} (h : cmpL a a' = 0) (k : cmpL b b' = 0) : cmpL (a ++ b) (a' ++ b') = 0 := by
  have e : bareL (a ++ b) = bareL (a' ++ b') := by
    have h1 := bareL_of h
    have h2 := bareL_of k
    unfold bareL at *
    rw [List.map_append, List.map_append, h1, h2]
  rw [← cmpL_bare, ← cmpL_bareR, e]
  exact cmpL_refl _

/-! ### Sums over sets -/
def tot (g : List Vl → Int) : List Zp → Int
  | [] => 0
  | x :: r => g x.1 * x.2 + tot g r
def Resp {β : Type} (g : List Vl → β) : Prop := ∀ a b, cmpL a b = 0 → g a = g b
theorem tot_append (g : List Vl → Int) (l t : List Zp) : tot g (l ++ t) = tot g l + tot g t := by
  induction l with
  | nil => simp [tot]
  | cons x r ih => rw [List.cons_append, tot, tot, ih]; omega
theorem tot_put {g : List Vl → Int} (hg : Resp g) (r : List Vl) (w : Int) : ∀ z : List Zp, tot g (putL z r w) = tot g z + g r * w
  | [] => by
    have e : g (bareL r) = g r := hg _ _ (by rw [cmpL_bare]; exact cmpL_refl r)
    unfold putL
    split
    · rename_i h; subst h; simp [tot]
    · simp [tot, e]
  | x :: t => by
    have ih := tot_put hg r w t
    have e : g (bareL r) = g r := hg _ _ (by rw [cmpL_bare]; exact cmpL_refl r)
    unfold putL
    split
    · rw [tot, ih, tot]; omega
    · split
      · rename_i c
        have e2 : g x.1 = g r := hg _ _ c
        split
        · rename_i h0
          rw [tot, e2]
          have : g r * (w + x.2) = 0 := by rw [h0, Int.mul_zero]
          rw [Int.mul_add] at this
          omega
        · rw [tot, tot, e, e2, Int.mul_add]
          omega
      · split
        · rename_i h0; subst h0; simp
        · simp only [tot, e]; omega
theorem tot_canonF {g : List Vl → Int} (hg : Resp g) (l : List Zp) : ∀ z : List Zp, tot g (l.foldl (fun z x => putL z x.1 x.2) z) = tot g z + tot g l := by
  induction l with
  | nil => intro z; simp [tot]
  | cons x r ih => intro z; rw [List.foldl_cons, ih, tot_put hg, tot]; omega
theorem tot_canon {g : List Vl → Int} (hg : Resp g) (l : List Zp) : tot g (canon l) = tot g l := by
  unfold canon
  rw [tot_canonF hg]
  simp [tot]
theorem wt_tot (q : List Vl) (l : List Zp) : wt l q = tot (fun r => if cmpL r q = 0 then 1 else 0) l := by
  induction l with
  | nil => rfl
  | cons x r ih =>
    rw [wt, tot, ih]
    split <;> simp
theorem resp_at (q : List Vl) : Resp (fun r => if cmpL r q = 0 then (1 : Int) else 0) := fun a b h => by simp only [cmpL_left h]
theorem tot_congr {g g' : List Vl → Int} {l : List Zp} (h : ∀ x ∈ l, g x.1 = g' x.1) : tot g l = tot g' l := by
  induction l with
  | nil => rfl
  | cons x r ih => rw [tot, tot, h x (by simp), ih (fun y hy => h y (by simp [hy]))]
theorem tot_add (g g' : List Vl → Int) (l : List Zp) : tot (fun r => g r + g' r) l = tot g l + tot g' l := by
  induction l with
  | nil => rfl
  | cons x r ih => rw [tot, tot, tot, ih, Int.add_mul]; omega
theorem tot_zero (l : List Zp) : tot (fun _ => 0) l = 0 := by
  induction l with
  | nil => rfl
  | cons x r ih => rw [tot, ih]; simp
theorem tot_set {a b : List Zp} (h : ∀ q, wt a q = wt b q) {g : List Vl → Int} (hg : Resp g) : tot g a = tot g b := by
  rw [← tot_canon hg a, ← tot_canon hg b, canon_congr h]

/-! ### Filters and maps -/
def filtL (x : Ex) (z : List Zp) : List Zp := z.filter fun p => holdsP x p.1
def mapL (xs : List Ex) (z : List Zp) : List Zp := z.map fun p => (rowX xs p.1, p.2)
theorem wt_filter (p : List Vl → Bool) (hp : Resp p) (q : List Vl) (l : List Zp) : wt (l.filter fun x => p x.1) q = if p q then wt l q else 0 := by
  induction l with
  | nil => simp [wt]
  | cons x r ih =>
    rw [List.filter_cons]
    by_cases c : cmpL x.1 q = 0
    · have e := hp _ _ c
      by_cases h : p x.1 = true
      · rw [if_pos h, wt, wt, ih]
        rw [e] at h
        rw [if_pos h, if_pos h]
      · rw [if_neg h, ih]
        rw [e] at h
        rw [if_neg h, if_neg h]
    · by_cases h : p x.1 = true
      · rw [if_pos h, wt, if_neg c, ih, wt, if_neg c]; simp
      · rw [if_neg h, ih, wt, if_neg c]; simp
theorem resp_holds (x : Ex) : Resp (holdsP x) := fun _ _ h => holds_same h x
theorem wt_map (xs : List Ex) (q : List Vl) (l : List Zp) : wt (mapL xs l) q = tot (fun r => if cmpL (rowX xs r) q = 0 then 1 else 0) l := by
  induction l with
  | nil => rfl
  | cons x r ih =>
    show wt ((rowX xs x.1, x.2) :: mapL xs r) q = _
    rw [wt, tot, ih]
    split <;> simp
theorem resp_map (xs : List Ex) (q : List Vl) : Resp (fun r => if cmpL (rowX xs r) q = 0 then (1 : Int) else 0) := fun a b h => by simp only [rowX_same h]
theorem canon_rise {l : List Zp} (h : Rise l) : canon l = weighL (fun w => w) l :=
  (canon_of (weighL_set _ _ h) fun q => weighL_wt (fun w => w) rfl q l h).symm
/-- Some rows of a right set make a set. -/
theorem gather_sub {z l : List Zp} (hz : wrongZ z = 0) (hl : l.Sublist z) : gatherE l = 0 := by
  obtain ⟨h1, h2, h3⟩ := (wrongZ_iff z).1 hz
  have hr : Rise l := h3.sublist hl
  have e := canon_rise hr
  have o : outW (canon l) = false := by
    rw [e, outW_weigh]
    exact outW_ok fun j hj => (h2 _ (hl.subset (List.getElem_mem hj))).2.2
  have n : (canon l).length ≤ 400 := by
    rw [e]
    have := weighL_len (fun w => w) l
    have := hl.length_le
    omega
  unfold gatherE
  rw [o, if_neg (by decide), if_neg (by omega)]
theorem filt_gather {z : List Zp} (hz : wrongZ z = 0) (p : Zp → Bool) : gatherE (z.filter p) = 0 := gather_sub hz List.filter_sublist
def filtE (cols : List Int) (x : Ex) (z : List Zp) : Int := if condE cols x ≠ 0 then condE cols x else if inpE cols z ≠ 0 then inpE cols z else 0
def filtZ (cols : List Int) (x : Ex) (z : List Zp) : List Zp := if filtE cols x z = 0 then canon (filtL x z) else []
def mapE (cols : List Int) (xs : List Ex) (z : List Zp) : Int := if listE cols xs ≠ 0 then listE cols xs else if inpE cols z ≠ 0 then inpE cols z else gatherE (mapL xs z)
def mapZ (cols : List Int) (xs : List Ex) (z : List Zp) : List Zp := if mapE cols xs z = 0 then canon (mapL xs z) else []
theorem filtE_ok {cols : List Int} {x : Ex} {z : List Zp} (h : filtE cols x z = 0) : condE cols x = 0 ∧ InpOk cols z := by
  unfold filtE at h
  by_cases h1 : condE cols x = 0
  · rw [if_neg (by simpa using h1)] at h
    by_cases h2 : inpE cols z = 0
    · exact ⟨h1, (inpE_ok _ _).1 h2⟩
    · rw [if_pos h2] at h; exact absurd h h2
  · rw [if_pos h1] at h; exact absurd h h1
theorem mapE_ok {cols : List Int} {xs : List Ex} {z : List Zp} (h : mapE cols xs z = 0) : listE cols xs = 0 ∧ InpOk cols z ∧ gatherE (mapL xs z) = 0 := by
  unfold mapE at h
  by_cases h1 : listE cols xs = 0
  · rw [if_neg (by simpa using h1)] at h
    by_cases h2 : inpE cols z = 0
    · rw [if_neg (by simpa using h2)] at h
      exact ⟨h1, (inpE_ok _ _).1 h2, h⟩
    · rw [if_pos h2] at h; exact absurd h h2
  · rw [if_pos h1] at h; exact absurd h h1
theorem listE_ok {cols : List Int} {xs : List Ex} (h : listE cols xs = 0) : xs.length ≤ 8 ∧ ∀ x ∈ xs, (typeTop cols x).2 = 0 := by
  unfold listE at h
  by_cases h8 : 8 < xs.length
  · rw [if_pos h8] at h; omega
  · rw [if_neg h8, typesE_ok] at h
    exact ⟨by omega, h⟩
theorem filtZ_wt {cols : List Int} {x : Ex} {z : List Zp} (h : filtE cols x z = 0) (q : List Vl) : wt (filtZ cols x z) q = if holdsP x q then wt z q else 0 := by
  unfold filtZ filtL
  rw [if_pos h, canon_wt, wt_filter _ (resp_holds x)]
theorem filtZ_set {cols : List Int} {x : Ex} {z : List Zp} (h : filtE cols x z = 0) : IsSet (filtZ cols x z) := by unfold filtZ; rw [if_pos h]; exact canon_set _
theorem mapZ_wt {cols : List Int} {xs : List Ex} {z : List Zp} (h : mapE cols xs z = 0) (q : List Vl) : wt (mapZ cols xs z) q = tot (fun r => if cmpL (rowX xs r) q = 0 then 1 else 0) z := by
  unfold mapZ
  rw [if_pos h, canon_wt, wt_map]
theorem mapZ_set {cols : List Int} {xs : List Ex} {z : List Zp} (h : mapE cols xs z = 0) : IsSet (mapZ cols xs z) := by unfold mapZ; rw [if_pos h]; exact canon_set _
theorem holds_and (x y : Ex) (row : List Vl) : holdsP (mk2 4 x y) row = (holdsP x row && holdsP y row) := by
  unfold holdsP
  rw [val_mk2 row (by omega) (by omega)]
  show (clsP (tri (and3 _ _)) == some true) = _
  rcases h1 : clsP (valX row x) with _ | _ | _ <;> rcases h2 : clsP (valX row y) with _ | _ | _ <;> rfl
/-- One filter and another one are one by both; a filter twice is one. -/
theorem once_fact (cols : List Int) (x y : Ex) (z : List Zp) (h1 : filtE cols x z = 0) (h2 : filtE cols y (filtZ cols x z) = 0) (h3 : filtE cols x (filtZ cols x z) = 0) (h4 : filtE cols (mk2 4 x y) z = 0) :
    filtZ cols y (filtZ cols x z) = filtZ cols (mk2 4 x y) z ∧ filtZ cols x z = filtZ cols x (filtZ cols x z) := by
  refine ⟨set_unique _ _ (filtZ_set h2) (filtZ_set h4) fun q => ?_, set_unique _ _ (filtZ_set h1) (filtZ_set h3) fun q => ?_⟩
  · rw [filtZ_wt h2, filtZ_wt h1, filtZ_wt h4, holds_and]
    cases holdsP x q <;> cases holdsP y q <;> rfl
  · rw [filtZ_wt h3, filtZ_wt h1]
    cases holdsP x q <;> rfl
end Go.Proofs.YtfojonhblblbjaaGreat
/- Ready, and conditions. -/
namespace Go.Proofs.YtfojonhblblbjaaGreat
open Go.RowKit

set_option maxHeartbeats 1000000 in
theorem readyOk_at (cols : List Int) (x : Ex) (ca : Option Addr) (ccap : Nat) (a : Option Addr) (cap : Nat) (w : World) (hk : KsAt w.heap.size w a x.ks) (hc : IsAt w.heap.size w ca cols) (h0 : (typeTop cols x).2 = 0) :
    Calls Tryz.prog 65 #[.slice ca cols.length ccap, exV x.k x.v x.c a x.ks.length cap] w fun e w' => ∃ u, e = .returned (.tuple #[.int .i64 (typeTop cols x).1, u, .int .i64 0]) ∧ Asks cols w.heap.size u (fun row => valX row x) w' ∧ Below w.heap.size w w' := by
  have S0 := Six.new w x.k x.v x.c a x.ks.length cap 27
  have hal : Below w.heap.size w (w.alloc (.cells #[.int .i64 x.k, .int .i64 x.v.1, .int .i64 x.v.2.1, .string x.v.2.2, .int .i64 x.c, .slice a x.ks.length cap] 27)) := (Below.refl _ _).alloc (Nat.le_refl _) _
  have z1 : (w.alloc (.cells #[.int .i64 x.k, .int .i64 x.v.1, .int .i64 x.v.2.1, .string x.v.2.2, .int .i64 x.c, .slice a x.ks.length cap] 27)).heap.size = w.heap.size + 1 := by simp
  have con := type_at cols x ca ccap a cap _ ((KsAt.next hal (Nat.le_refl _) hk).up hal.size) ((hc.next hal (Nat.le_refl _)).up hal.size)
  have ra := ready_any cols x _ (typ_of h0)
  rw [h0] at con
  generalize (typeTop cols x).1 = t at *
  go_enter Tryz.func65, Tryz.ntmps65
  go_wp2_with fail
  generalize w.alloc (.cells #[.int .i64 x.k, .int .i64 x.v.1, .int .i64 x.v.2.1, .string x.v.2.2, .int .i64 x.c, .slice a x.ks.length cap] 27) = w1 at *
  refine con.mono ?_
  rintro e w2 ⟨rfl, hb2⟩
  have hA := chain hal hb2
  obtain ⟨s0, s1, s2, s3, s4, s5⟩ := S0.next hb2 (by omega)
  simp only [Nat.zero_add] at s1 s2 s3 s4 s5
  have con2 := ra w.heap.size a cap w2 (KsAt.next hA (Nat.le_refl _) hk) hA.size
  clear con ra S0
  go_wp2_with fail
  refine con2.mono ?_
  rintro e w3 ⟨u, rfl, hA3, hb3⟩
  clear s0 s1 s2 s3 s4 s5 con2
  obtain ⟨g, cb, rfl⟩ : ∃ g cb, u = .func (.func g) #[] cb := by obtain ⟨g, cb, e, _⟩ := hA3; exact ⟨g, cb, e⟩
  go_wp2_with fail
  exact bodyPost_ret (v := .tuple #[.int .i64 t, .func (.func g) #[] cb, .int .i64 0]) (by simp [results, Tryz.results65, go_sem]) rfl ⟨_, rfl, hA3.down hA.size, chain hA hb3⟩

set_option maxHeartbeats 1000000 in
theorem readyBad_at (cols : List Int) (x : Ex) (ca : Option Addr) (ccap : Nat) (a : Option Addr) (cap : Nat) (w : World) (hk : KsAt w.heap.size w a x.ks) (hc : IsAt w.heap.size w ca cols) (h0 : ¬ (typeTop cols x).2 = 0) :
    Calls Tryz.prog 65 #[.slice ca cols.length ccap, exV x.k x.v x.c a x.ks.length cap] w fun e w' => e = .returned (.tuple #[.int .i64 0, .nilFunc, .int .i64 (typeTop cols x).2]) ∧ Below w.heap.size w w' := by
  have hal : Below w.heap.size w (w.alloc (.cells #[.int .i64 x.k, .int .i64 x.v.1, .int .i64 x.v.2.1, .string x.v.2.2, .int .i64 x.c, .slice a x.ks.length cap] 27)) := (Below.refl _ _).alloc (Nat.le_refl _) _
  have con := type_at cols x ca ccap a cap _ ((KsAt.next hal (Nat.le_refl _) hk).up hal.size) ((hc.next hal (Nat.le_refl _)).up hal.size)
  have q : ((typeTop cols x).2 != 0) = true := by simpa using h0
  generalize (typeTop cols x).1 = t at *
  generalize (typeTop cols x).2 = t2 at *
  go_enter Tryz.func65, Tryz.ntmps65
  go_wp2_with fail
  generalize w.alloc (.cells #[.int .i64 x.k, .int .i64 x.v.1, .int .i64 x.v.2.1, .string x.v.2.2, .int .i64 x.c, .slice a x.ks.length cap] 27) = w1 at *
  refine con.mono ?_
  rintro e w2 ⟨rfl, hb2⟩
  have hA := chain hal hb2
  clear con
  go_wp2_with fail
  exact bodyPost_ret (v := .tuple #[.int .i64 0, .nilFunc, .int .i64 t2]) (by simp [results, Tryz.results65, go_sem]) rfl ⟨rfl, hA⟩

/-- A function value tells whether x is true of each row that fits, as long as all from lo on is as it was. -/
def Conds (cols : List Int) (lo : Nat) (u : Value) (x : Ex) (w : World) : Prop :=
  ∃ g cb, u = .func (.func g) #[] cb ∧ (∀ args w, (callFunc g args).run Tryz.prog w = .ok (.enter g args) w) ∧
    ∀ (row : List Vl) (a : Option Addr) (cap : Nat) (W : World), FitP cols row → SlAt W a row → Since lo w W →
      Calls Tryz.prog g (#[.slice a row.length cap] ++ cb) W fun e w' => e = .returned (.bool (holdsP x row)) ∧ Below W.heap.size W w'
theorem Conds.next {cols : List Int} {lo : Nat} {u : Value} {x : Ex} {w w1 : World} (h : Conds cols lo u x w) (hb : Since lo w w1) : Conds cols lo u x w1 := by
  obtain ⟨g, cb, e, eg, hd⟩ := h
  exact ⟨g, cb, e, eg, fun row a cap W hf hs hW => hd row a cap W hf hs (hb.trans hW)⟩
theorem Conds.down {cols : List Int} {lo lo' : Nat} {u : Value} {x : Ex} {w : World} (h : Conds cols lo u x w) (hl : lo' ≤ lo) : Conds cols lo' u x w := by
  obtain ⟨g, cb, e, eg, hd⟩ := h
  exact ⟨g, cb, e, eg, fun row a cap W hf hs hW => hd row a cap W hf hs (hW.up hl)⟩

set_option maxHeartbeats 400000 in
theorem cond1_at (cols : List Int) (lo : Nat) (x : Ex) (u : Value) (b : Nat) (a : Option Addr) (row : List Vl) (cap : Nat) (W : World) (h0 : W.cell? ⟨b, 0, none⟩ = some u) (hA : Asks cols lo u (fun row => valX row x) W) (hf : FitP cols row) (hs : SlAt W a row) :
    Calls Tryz.prog 66 #[.slice a row.length cap, .pointer (some ⟨b, 0, none⟩)] W fun e w' => e = .returned (.bool (holdsP x row)) ∧ Below W.heap.size W w' := by
  obtain ⟨g, cb, rfl, eg, d⟩ := hA
  have d := d row a cap W hf hs (Since.refl _ _)
  dsimp only at d
  unfold holdsP
  generalize valX row x = v at *
  show Calls _ _ _ _ fun e w' => e = .returned (.bool (cls v.1 v.2.1 == some true)) ∧ _
  go_enter Tryz.func66, Tryz.ntmps66
  go_wp2_with (go_at_fn g; refine d.mono ?_; rintro e w1 ⟨rfl, hb1⟩)
  refine (true_any _ _ _ _).mono ?_
  rintro e w2 ⟨rfl, hb2⟩
  go_wp2_with fail
  go_ret
  exact ⟨rfl, chain hb1 hb2⟩

set_option maxHeartbeats 1000000 in
theorem condOk_at (cols : List Int) (x : Ex) (ca : Option Addr) (ccap : Nat) (a : Option Addr) (cap : Nat) (w : World) (hk : KsAt w.heap.size w a x.ks) (hc : IsAt w.heap.size w ca cols) (h : condE cols x = 0) :
    Calls Tryz.prog 30 #[.slice ca cols.length ccap, exV x.k x.v x.c a x.ks.length cap] w fun e w' => ∃ u, e = .returned (.tuple #[u, .int .i64 0]) ∧ Conds cols w.heap.size u x w' ∧ Below w.heap.size w w' := by
  obtain ⟨h0, ht⟩ := condE_ok h
  have S0 := Six.new w x.k x.v x.c a x.ks.length cap 27
  have hal : Below w.heap.size w (w.alloc (.cells #[.int .i64 x.k, .int .i64 x.v.1, .int .i64 x.v.2.1, .string x.v.2.2, .int .i64 x.c, .slice a x.ks.length cap] 27)) := (Below.refl _ _).alloc (Nat.le_refl _) _
  have con := readyOk_at cols x ca ccap a cap _ ((KsAt.next hal (Nat.le_refl _) hk).up hal.size) ((hc.next hal (Nat.le_refl _)).up hal.size) h0
  clear h h0
  generalize (typeTop cols x).1 = t at *
  go_enter Tryz.func30, Tryz.ntmps30
  go_wp2_with fail
  generalize w.alloc (.cells #[.int .i64 x.k, .int .i64 x.v.1, .int .i64 x.v.2.1, .string x.v.2.2, .int .i64 x.c, .slice a x.ks.length cap] 27) = w1 at *
  refine con.mono ?_
  rintro e w2 ⟨u, rfl, hA2, hb2⟩
  have hA := chain hal hb2
  clear con S0
  have hA2 := hA2.down hal.size
  obtain ⟨g, cb, rfl⟩ : ∃ g cb, u = .func (.func g) #[] cb := by obtain ⟨g, cb, e, _⟩ := hA2; exact ⟨g, cb, e⟩
  have hal3 : Below w2.heap.size w2 (w2.alloc (.cells #[.func (.func g) #[] cb] 103)) := (Below.refl _ _).alloc (Nat.le_refl _) _
  have fin : ∀ W, Since w.heap.size (w2.alloc (.cells #[.func (.func g) #[] cb] 103)) W → ∀ (row : List Vl) (a : Option Addr) (cap : Nat), FitP cols row → SlAt W a row → Calls Tryz.prog 66 #[.slice a row.length cap, .pointer (some ⟨w2.heap.size, 0, none⟩)] W fun e w' => e = .returned (.bool (holdsP x row)) ∧ Below W.heap.size W w' := fun W hW row a cap hf hs =>
    cond1_at cols w.heap.size x _ w2.heap.size a row cap W ((hW.cell (p := ⟨w2.heap.size, 0, none⟩) hA.size (by simp)).trans (by simp)) ((hA2.next (Since.of hal3)).next hW) hf hs
  have HF : Hid _ := fin
  clear fin hA2
  rcases ht with rfl | rfl
  · go_wp2_with fail
    exact bodyPost_ret (v := .tuple #[.func (.func 66) #[] #[.pointer (some ⟨w2.heap.size, 0, none⟩)], .int .i64 0]) (by simp [results, Tryz.results30, go_sem]) rfl ⟨_, rfl, ⟨66, _, rfl, enters_of Tryz.func66 (by kernel_rfl) rfl, fun row a cap W hf hs hW => HF.out W hW row a cap hf hs⟩, chain hA hal3⟩
  · go_wp2_with fail
    exact bodyPost_ret (v := .tuple #[.func (.func 66) #[] #[.pointer (some ⟨w2.heap.size, 0, none⟩)], .int .i64 0]) (by simp [results, Tryz.results30, go_sem]) rfl ⟨_, rfl, ⟨66, _, rfl, enters_of Tryz.func66 (by kernel_rfl) rfl, fun row a cap W hf hs hW => HF.out W hW row a cap hf hs⟩, chain hA hal3⟩

set_option maxHeartbeats 1000000 in
theorem condBad_at (cols : List Int) (x : Ex) (ca : Option Addr) (ccap : Nat) (a : Option Addr) (cap : Nat) (w : World) (hk : KsAt w.heap.size w a x.ks) (hc : IsAt w.heap.size w ca cols) (h : ¬ condE cols x = 0) :
    Calls Tryz.prog 30 #[.slice ca cols.length ccap, exV x.k x.v x.c a x.ks.length cap] w fun e w' => e = .returned (.tuple #[.nilFunc, .int .i64 (condE cols x)]) ∧ Below w.heap.size w w' := by
  have hal : Below w.heap.size w (w.alloc (.cells #[.int .i64 x.k, .int .i64 x.v.1, .int .i64 x.v.2.1, .string x.v.2.2, .int .i64 x.c, .slice a x.ks.length cap] 27)) := (Below.refl _ _).alloc (Nat.le_refl _) _
  have hk' := (KsAt.next hal (Nat.le_refl _) hk).up hal.size
  have hc' := (hc.next hal (Nat.le_refl _)).up hal.size
  by_cases h0 : (typeTop cols x).2 = 0
  · have e : condE cols x = 9 := by
      unfold condE at h ⊢
      rw [if_neg (by simpa using h0)] at h ⊢
      by_cases q : (typeTop cols x).1 ≠ 2 ∧ (typeTop cols x).1 ≠ 1
      · rw [if_pos q]
      · rw [if_neg q] at h; exact absurd rfl h
    have ht : ¬ (typeTop cols x).1 = 2 ∧ ¬ (typeTop cols x).1 = 1 := by
      unfold condE at h
      rw [if_neg (by simpa using h0)] at h
      by_cases q : (typeTop cols x).1 ≠ 2 ∧ (typeTop cols x).1 ≠ 1
      · exact q
      · rw [if_neg q] at h; exact absurd rfl h
    rw [e]
    have con := readyOk_at cols x ca ccap a cap _ hk' hc' h0
    clear h h0 e
    generalize (typeTop cols x).1 = t at *
    have t2 : (t != 2) = true := by simpa using ht.1
    have t1 : (t != 1) = true := by simpa using ht.2
    go_enter Tryz.func30, Tryz.ntmps30
    go_wp2_with fail
    generalize w.alloc (.cells #[.int .i64 x.k, .int .i64 x.v.1, .int .i64 x.v.2.1, .string x.v.2.2, .int .i64 x.c, .slice a x.ks.length cap] 27) = w1 at *
    refine con.mono ?_
    rintro e w2 ⟨u, rfl, hA2, hb2⟩
    have hA := chain hal hb2
    clear con
    obtain ⟨g, cb, rfl⟩ : ∃ g cb, u = .func (.func g) #[] cb := by obtain ⟨g, cb, e, _⟩ := hA2; exact ⟨g, cb, e⟩
    have hal3 : Below w2.heap.size w2 (w2.alloc (.cells #[.func (.func g) #[] cb] 103)) := (Below.refl _ _).alloc (Nat.le_refl _) _
    clear hA2
    go_wp2_with fail
    exact bodyPost_ret (v := .tuple #[.nilFunc, .int .i64 9]) (by simp [results, Tryz.results30, go_sem]) rfl ⟨rfl, chain hA hal3⟩
  · have e : condE cols x = (typeTop cols x).2 := by unfold condE; rw [if_pos h0]
    rw [e]
    have con := readyBad_at cols x ca ccap a cap _ hk' hc' h0
    have q : ((typeTop cols x).2 != 0) = true := by simpa using h0
    clear h e h0
    generalize (typeTop cols x).2 = t2 at *
    go_enter Tryz.func30, Tryz.ntmps30
    go_wp2_with fail
    generalize w.alloc (.cells #[.int .i64 x.k, .int .i64 x.v.1, .int .i64 x.v.2.1, .string x.v.2.2, .int .i64 x.c, .slice a x.ks.length cap] 27) = w1 at *
    refine con.mono ?_
    rintro e w2 ⟨rfl, hb2⟩
    have hA := chain hal hb2
    have hal3 : Below w2.heap.size w2 (w2.alloc (.cells #[.nilFunc] 103)) := (Below.refl _ _).alloc (Nat.le_refl _) _
    clear con
    go_wp2_with fail
    exact bodyPost_ret (v := .tuple #[.nilFunc, .int .i64 t2]) (by simp [results, Tryz.results30, go_sem]) rfl ⟨rfl, chain hA hal3⟩
end Go.Proofs.YtfojonhblblbjaaGreat
/- Lists of expressions: what they come to, each time in new memory. -/
namespace Go.Proofs.YtfojonhblblbjaaGreat
open Go.RowKit

/-- What the making of values has come to: k of them are there. -/
def VTo (W : World) (B n : Nat) (f : Nat → Vl) (k : Nat) : Prop := ∃ xs, W.ownsRow B 24 3 (.slice (some ⟨B, 0, none⟩) n n) n xs ∧ ∀ j : Nat, j < n → j < k → xs[j * 3]? = some (.int .i64 (f j).1) ∧ xs[j * 3 + 1]? = some (.int .i64 (f j).2.1) ∧ xs[j * 3 + 2]? = some (.string (f j).2.2)
theorem VTo.step {W : World} {B n : Nat} {f : Nat → Vl} {k : Nat} (h : VTo W B n f k) (hk : k < n) :
    VTo (((W.setCell ⟨B, k * 3, none⟩ (.int .i64 (f k).1)).setCell ⟨B, k * 3 + 1, none⟩ (.int .i64 (f k).2.1)).setCell ⟨B, k * 3 + 2, none⟩ (.string (f k).2.2)) B n f (k + 1) := by
  obtain ⟨xs, h1, h2⟩ := h
  have lx := h1.1
  refine ⟨_, ((((h1.stored (k * 3) _).1.stored (k * 3 + 1) _).1).stored (k * 3 + 2) _).1, ?_⟩
  intro j hj hjk
  by_cases e : j = k
  · subst e
    refine ⟨?_, ?_, ?_⟩ <;> simp [List.getElem?_set, lx] <;> omega
  · obtain ⟨g0, g1, g2⟩ := h2 j hj (by omega)
    refine ⟨?_, ?_, ?_⟩
    · rw [List.getElem?_set_ne (by omega), List.getElem?_set_ne (by omega), List.getElem?_set_ne (by omega)]; exact g0
    · rw [List.getElem?_set_ne (by omega), List.getElem?_set_ne (by omega), List.getElem?_set_ne (by omega)]; exact g1
    · rw [List.getElem?_set_ne (by omega), List.getElem?_set_ne (by omega), List.getElem?_set_ne (by omega)]; exact g2
theorem VTo.next {W w1 : World} {B n : Nat} {f : Nat → Vl} {k : Nat} (h : VTo W B n f k) (hb : Below W.heap.size W w1) : VTo w1 B n f k := by
  obtain ⟨xs, h1, h2⟩ := h
  exact ⟨xs, own_next h1 hb, h2⟩
theorem VTo.cells {W : World} {B n : Nat} {f : Nat → Vl} {k : Nat} (h : VTo W B n f k) (hk : k < n) : (∃ u0 u1 u2, W.cell? ⟨B, k * 3, none⟩ = some u0 ∧ W.cell? ⟨B, k * 3 + 1, none⟩ = some u1 ∧ W.cell? ⟨B, k * 3 + 2, none⟩ = some u2) ∧ W.frozen? ⟨B, k * 3, none⟩ = false ∧ W.frozen? ⟨B, k * 3 + 1, none⟩ = false ∧ W.frozen? ⟨B, k * 3 + 2, none⟩ = false ∧ B < W.heap.size := by
  obtain ⟨xs, h1, h2⟩ := h
  have lx := h1.1
  refine ⟨⟨xs[k * 3]'(by omega), xs[k * 3 + 1]'(by omega), xs[k * 3 + 2]'(by omega), ?_, ?_, ?_⟩, h1.frozenAt _, h1.frozenAt _, h1.frozenAt _, (h1.lt B rfl).2⟩
  · rw [h1.cellAt _ (by omega)]; exact List.getElem?_eq_getElem (by omega)
  · rw [h1.cellAt _ (by omega)]; exact List.getElem?_eq_getElem (by omega)
  · rw [h1.cellAt _ (by omega)]; exact List.getElem?_eq_getElem (by omega)
theorem VTo.done {W : World} {B n : Nat} {f : Nat → Vl} (h : VTo W B n f n) (vs : List Vl) (hn : n = vs.length) (hv : ∀ j (hj : j < vs.length), f j = vs[j]) (h8 : vs.length ≤ 100) : SlAt W (some ⟨B, 0, none⟩) vs ∧ TyAt W (some ⟨B, 0, none⟩) := by
  obtain ⟨xs, h1, h2⟩ := h
  subst hn
  refine ⟨⟨by unfold maxLen; omega, .inr ⟨B, 0, rfl, ?_, (h1.lt B rfl).2⟩⟩, ?_⟩
  · intro i hi
    obtain ⟨g0, g1, g2⟩ := h2 i hi hi
    rw [hv i hi] at g0 g1 g2
    refine ⟨?_, ?_, ?_⟩
    · rw [h1.cellAt _ (by omega), ← g0]; congr 1; omega
    · rw [h1.cellAt _ (by omega), ← g1]; congr 1; omega
    · rw [h1.cellAt _ (by omega), ← g2]; congr 1; omega
  · intro b off e
    obtain ⟨_, ⟨e', _⟩ | ⟨g, cap, cur, e', _, hh, _⟩⟩ := h1
    · cases e'
    · simp only [Value.slice.injEq, Option.some.injEq, Addr.mk.injEq] at e e'
      obtain ⟨rfl, _⟩ := e
      rw [← e'.1.1] at hh
      exact ⟨_, _, hh⟩

/-- A slice of new memory holds these values. -/
def RowNew (B : Nat) (W : World) (l : List Vl) : Prop := SlAt W (some ⟨B, 0, none⟩) l ∧ TyAt W (some ⟨B, 0, none⟩)
/-- A function value makes rows of what xs come to, as long as all from lo on is as it was. -/
def ListF (cols : List Int) (lo : Nat) (u : Value) (xs : List Ex) (w : World) : Prop :=
  ∃ g cb, u = .func (.func g) #[] cb ∧ (∀ args w, (callFunc g args).run Tryz.prog w = .ok (.enter g args) w) ∧
    ∀ (row : List Vl) (a : Option Addr) (cap : Nat) (W : World), FitP cols row → SlAt W a row → Since lo w W →
      Calls Tryz.prog g (#[.slice a row.length cap] ++ cb) W fun e w' => e = .returned (.slice (some ⟨W.heap.size, 0, none⟩) xs.length xs.length) ∧ RowNew W.heap.size w' (rowX xs row) ∧ Below W.heap.size W w'
theorem ListF.next {cols : List Int} {lo : Nat} {u : Value} {xs : List Ex} {w w1 : World} (h : ListF cols lo u xs w) (hb : Since lo w w1) : ListF cols lo u xs w1 := by
  obtain ⟨g, cb, e, eg, hd⟩ := h
  exact ⟨g, cb, e, eg, fun row a cap W hf hs hW => hd row a cap W hf hs (hb.trans hW)⟩
theorem ListF.down {cols : List Int} {lo lo' : Nat} {u : Value} {xs : List Ex} {w : World} (h : ListF cols lo u xs w) (hl : lo' ≤ lo) : ListF cols lo' u xs w := by
  obtain ⟨g, cb, e, eg, hd⟩ := h
  exact ⟨g, cb, e, eg, fun row a cap W hf hs hW => hd row a cap W hf hs (hW.up hl)⟩

set_option maxHeartbeats 1000000 in
theorem list1_at (cols : List Int) (lo : Nat) (vb : Nat) (xs : List Ex) (a : Option Addr) (row : List Vl) (cap : Nat) (W : World) (hK : KidsF cols lo W vb xs) (h8 : xs.length ≤ 8) (hf : FitP cols row) (hs : SlAt W a row) :
    Calls Tryz.prog 79 #[.slice a row.length cap, .pointer (some ⟨vb, 0, none⟩)] W fun e w' => e = .returned (.slice (some ⟨W.heap.size, 0, none⟩) xs.length xs.length) ∧ RowNew W.heap.size w' (rowX xs row) ∧ Below W.heap.size W w' := by
  obtain ⟨i0, hi, hz0, hz1, hz2⟩ := info_parts Tryz.info49
  obtain ⟨K, k1, k2, k3, k4, k5, k6⟩ := hK
  have HK : Hid (∀ (i : Nat) (h : i < xs.length), ∃ u, W.cell? ⟨K, i, none⟩ = some u ∧ Asks cols lo u (fun row => valX row xs[i]) W) := k6
  go_enter Tryz.func79, Tryz.ntmps79
  go_wp2_with (first | (at_make; refine wpList_make_full _ rfl _ _ 51 rfl W.heap.size 24 i0 _ 3 Tryz.underlying51 hi hz0 hz1 .i64 .i64 xs.length xs.length xs.length rfl rfl rfl rfl (by rw [hz2]; omega) (by unfold maxLen; omega) (Nat.le_refl _) ?_))
  intro w1 hown hgrow
  have hb0 : Below W.heap.size W w1 := (Below.refl _ _).grown hgrow (Nat.le_refl _) (by simp)
  have hB0 : VTo w1 W.heap.size xs.length (fun j => valX row (xs.getD j (.mk 0 vl0 0 []))) 0 := ⟨_, hown, fun j _ hj => absurd hj (Nat.not_lt_zero _)⟩
  have c1 := (hb0.cell (p := ⟨vb, 0, none⟩) k2).trans k5
  clear hown hgrow k5 k6
  go_wp2_with fail
  clear c1
  go_loopw [12] (fun i wr => ∃ k : Nat, k ≤ xs.length ∧ i = .int .i64 k ∧ VTo wr W.heap.size xs.length (fun j => valX row (xs.getD j (.mk 0 vl0 0 []))) k ∧ Below W.heap.size W wr) (fun i _ => xs.length - (intOf i).toNat)
  case atStart => exact ⟨0, Nat.zero_le _, rfl, hB0, hb0⟩
  case round =>
    obtain ⟨k, hk, rfl, HB, hb⟩ := hrel
    have hz := hb.size
    by_cases hlt : k < xs.length
    · obtain ⟨u, cu, A⟩ := HK.out k hlt
      have cu := (hb.cell (p := ⟨K, k, none⟩) k4).trans cu
      obtain ⟨g, cb, rfl, eg, d⟩ := A
      have d := d row a cap wr hf (hs.next hb) (Since.of hb)
      dsimp only at d
      have ev : valX row xs[k] = (fun j => valX row (xs.getD j (.mk 0 vl0 0 []))) k := by simp [List.getD, hlt]
      rw [ev] at d
      generalize (fun j => valX row (xs.getD j (.mk 0 vl0 0 []))) = f at *
      have i0 : (0 : Int) ≤ (k : Int) := by omega
      have i1 : (k : Int) < (xs.length : Int) := by omega
      go_wp2_with (go_at_fn g; refine d.mono ?_; rintro e w2 ⟨rfl, hb2⟩; have HB2 := HB.next hb2; obtain ⟨⟨u0, u1, u2, d0, d1, d2⟩, f0, f1, f2, hlb⟩ := HB2.cells hlt; have zz := hb2.size)
      go_roundw
      case rel =>
        refine ⟨k + 1, by omega, by go_num, ?_, ?_⟩
        · exact HB2.step hlt
        · exact (((chain hb hb2).setCell (p := ⟨W.heap.size, k * 3, none⟩) (Nat.le_refl _) _).setCell (p := ⟨W.heap.size, k * 3 + 1, none⟩) (Nat.le_refl _) _).setCell (p := ⟨W.heap.size, k * 3 + 2, none⟩) (Nat.le_refl _) _
      case measure => simp [intOf]; omega
    · have e : k = xs.length := by omega
      subst e
      go_wp2_with fail
      go_ret
      exact ⟨rfl, HB.done (rowX xs row) (by simp [rowX]) (fun j hj => by simp [rowX] at hj; simp [rowX, List.getD, hj]) (by simp [rowX]; omega), hb⟩

theorem FTo.new2 {cols : List Int} {w : World} {n : Nat} (ks : List Ex) (hn : n = ks.length) (T T' : TypeId) :
    FTo cols w.heap.size (w.heap.size + 1) (w.heap.size + 2) ((w.alloc (.cells (Array.replicate n Value.nilFunc) T)).alloc (.cells #[.slice (some ⟨w.heap.size, 0, none⟩) n n] T')) ks 0 := by
  subst hn
  refine ⟨⟨by omega, by omega, by omega, by simp⟩, ?_, fun i hi => ⟨⟨Value.nilFunc, ?_⟩, ?_⟩, fun i _ h => absurd h (Nat.not_lt_zero _)⟩
  · rw [World.cell?_alloc_at _ _ _ _ (by simp)]; rfl
  · rw [World.cell?_alloc_past _ _ _ (by simp), World.cell?_alloc_at _ _ _ _ rfl]
    simp [hi]
  · rw [World.frozen?_alloc_past _ _ _ (by simp)]
    exact World.frozen?_alloc_at _ _ _ _ rfl

set_option maxHeartbeats 2000000 in
theorem list_at (cols : List Int) (xs : List Ex) (ca : Option Addr) (ccap : Nat) (xa : Option Addr) (xcap : Nat) (w : World) (hk : KsAt w.heap.size w xa xs) (hc : IsAt w.heap.size w ca cols) :
    Calls Tryz.prog 39 #[.slice ca cols.length ccap, .slice xa xs.length xcap] w fun e w' => ∃ u, e = .returned (.tuple #[u, .int .i64 (listE cols xs)]) ∧ ((listE cols xs = 0 ∧ ListF cols w.heap.size u xs w') ∨ (¬ listE cols xs = 0 ∧ u = .nilFunc)) ∧ Below w.heap.size w w' := by
  by_cases h8 : 8 < xs.length
  · have e : listE cols xs = 5 := by simp [listE, h8]
    rw [e]
    have hz : (8 : Int) < (xs.length : Int) := by omega
    go_enter Tryz.func39, Tryz.ntmps39
    go_wp2_with fail
    exact bodyPost_ret (v := .tuple #[.nilFunc, .int .i64 5]) (by simp [results, Tryz.results39, go_sem]) rfl ⟨_, rfl, .inr ⟨by decide, rfl⟩, Below.refl _ _⟩
  · have e : listE cols xs = typesE cols xs := by simp [listE, h8]
    have HE : Hid (listE cols xs = typesE cols xs) := e
    generalize listE cols xs = le at *
    clear e
    have hmk := make_funcs (show xs.length ≤ 8 by omega)
    have F0 : FTo cols w.heap.size (w.heap.size + 1) (w.heap.size + 2) ((w.alloc (.cells (Array.replicate xs.length Value.nilFunc) 103)).alloc (.cells #[.slice (some ⟨w.heap.size, 0, none⟩) xs.length xs.length] 116)) xs 0 := FTo.new2 xs rfl _ _
    have hA : Below w.heap.size w ((w.alloc (.cells (Array.replicate xs.length Value.nilFunc) 103)).alloc (.cells #[.slice (some ⟨w.heap.size, 0, none⟩) xs.length xs.length] 116)) := ((Below.refl _ _).alloc (Nat.le_refl _) _).alloc (by simp) _
    have hz : ¬ (8 : Int) < (xs.length : Int) := by omega
    go_enter Tryz.func39, Tryz.ntmps39
    go_wp2_with fail
    generalize (w.alloc (.cells (Array.replicate xs.length Value.nilFunc) 103)).alloc (.cells #[.slice (some ⟨w.heap.size, 0, none⟩) xs.length xs.length] 116) = w2 at *
    clear hmk
    go_loopw [20] (fun i wr => ∃ j : Nat, j ≤ xs.length ∧ i = .int .i64 j ∧ FTo cols w.heap.size (w.heap.size + 1) (w.heap.size + 2) wr xs j ∧ Hid (typesE cols xs = typesE cols (xs.drop j)) ∧ Below w.heap.size w wr) (fun i _ => xs.length - (intOf i).toNat)
    case atStart => exact ⟨0, Nat.zero_le _, rfl, F0, rfl, hA⟩
    case round =>
      clear F0 hA
      obtain ⟨j, hj, rfl, F, HT, hb⟩ := hrel
      have hz := hb.size
      have hzF := F.lt.2.2.2
      by_cases hlt : j < xs.length
      · obtain ⟨b, off, ai, ci, rfl, hbl, sx, kx⟩ := (KsAt.next hb (Nat.le_refl _) hk).elem hlt
        obtain ⟨x0, x1, x2, x3, x4, x5⟩ := sx
        have hal : Below wr.heap.size wr (wr.alloc (.cells #[.int .i64 xs[j].k, .int .i64 xs[j].v.1, .int .i64 xs[j].v.2.1, .string xs[j].v.2.2, .int .i64 xs[j].c, .slice ai xs[j].ks.length ci] 27)) := (Below.refl _ _).alloc (Nat.le_refl _) _
        have Fk := F.next hal
        have Sk := Six.new wr xs[j].k xs[j].v xs[j].c ai xs[j].ks.length ci 27
        have zk : (wr.alloc (.cells #[.int .i64 xs[j].k, .int .i64 xs[j].v.1, .int .i64 xs[j].v.2.1, .string xs[j].v.2.2, .int .i64 xs[j].c, .slice ai xs[j].ks.length ci] 27)).heap.size = wr.heap.size + 1 := by simp
        have kk := (KsAt.next hal hz kx).up (show w.heap.size ≤ (wr.alloc (.cells #[.int .i64 xs[j].k, .int .i64 xs[j].v.1, .int .i64 xs[j].v.2.1, .string xs[j].v.2.2, .int .i64 xs[j].c, .slice ai xs[j].ks.length ci] 27)).heap.size by omega)
        have cc := ((hc.next hb (Nat.le_refl _)).next hal hz).up (show w.heap.size ≤ (wr.alloc (.cells #[.int .i64 xs[j].k, .int .i64 xs[j].v.1, .int .i64 xs[j].v.2.1, .string xs[j].v.2.2, .int .i64 xs[j].c, .slice ai xs[j].ks.length ci] 27)).heap.size by omega)
        obtain ⟨k0, k1, k2, k3, k4, k5⟩ := Sk
        simp only [Nat.zero_add] at k1 k2 k3 k4 k5
        have hjz : (j : Int) < xs.length := by omega
        by_cases h0 : (typeTop cols xs[j]).2 = 0
        · have con := readyOk_at cols xs[j] ca ccap ai ci _ kk cc h0
          have H0 : Hid ((typeTop cols xs[j]).2 = 0) := h0
          clear h0
          generalize (typeTop cols xs[j]).1 = t at *
          go_wp2_with fail
          clear x0 x1 x2 x3 x4 x5 kx k0 k1 k2 k3 k4 k5 kk cc
          generalize wr.alloc (.cells #[.int .i64 xs[j].k, .int .i64 xs[j].v.1, .int .i64 xs[j].v.2.1, .string xs[j].v.2.2, .int .i64 xs[j].c, .slice ai xs[j].ks.length ci] 27) = wk at *
          refine con.mono ?_
          rintro e w3 ⟨u, rfl, hA3, hb3⟩
          clear con
          have F3 := Fk.next hb3
          have q1 := F3.box
          obtain ⟨⟨un, q2⟩, q3⟩ := F3.room j hlt
          obtain ⟨ug, ucb, rfl⟩ : ∃ g cb, u = .func (.func g) #[] cb := by obtain ⟨g, cb, e, _⟩ := hA3; exact ⟨g, cb, e⟩
          go_wp2_with fail
          go_roundw
          case rel => exact ⟨j + 1, by omega, by go_num, F3.store hlt (hA3.down (by omega)), HT.out.trans (typesE_next cols xs j hlt H0.out), (chain (chain hb hal) hb3).setCell (p := ⟨w.heap.size, j, none⟩) (Nat.le_refl _) _⟩
          case measure => simp [intOf]; omega
        · have con := readyBad_at cols xs[j] ca ccap ai ci _ kk cc h0
          have HN : Hid (le = (typeTop cols xs[j]).2) := HE.out.trans (HT.out.trans (typesE_bad cols xs j hlt h0))
          have q : ((typeTop cols xs[j]).2 != 0) = true := by simpa using h0
          generalize (typeTop cols xs[j]).2 = t2 at *
          go_wp2_with fail
          clear x0 x1 x2 x3 x4 x5 kx k0 k1 k2 k3 k4 k5 kk cc
          generalize wr.alloc (.cells #[.int .i64 xs[j].k, .int .i64 xs[j].v.1, .int .i64 xs[j].v.2.1, .string xs[j].v.2.2, .int .i64 xs[j].c, .slice ai xs[j].ks.length ci] 27) = wk at *
          refine con.mono ?_
          rintro e w3 ⟨rfl, hb3⟩
          clear con
          go_wp2_with fail
          exact bodyPost_ret (v := .tuple #[.nilFunc, .int .i64 t2]) (by simp [results, Tryz.results39, go_sem]) rfl ⟨_, by rw [HN.out], .inr ⟨by rw [HN.out]; exact h0, rfl⟩, chain (chain hb hal) hb3⟩
      · have e : j = xs.length := by omega
        subst e
        have HN : Hid (le = 0) := HE.out.trans (HT.out.trans (typesE_end cols xs _ (Nat.le_refl _)))
        have KF : Hid (KidsF cols w.heap.size wr (w.heap.size + 1) xs) := F.kids (Nat.le_refl _) (by omega)
        go_wp2_with fail
        refine bodyPost_ret (v := .tuple #[.func (.func 79) #[] #[.pointer (some ⟨w.heap.size + 1, 0, none⟩)], .int .i64 0]) (by simp [results, Tryz.results39, go_sem]) rfl ⟨_, by rw [HN.out], .inl ⟨HN.out, 79, _, rfl, enters_of Tryz.func79 (by kernel_rfl) rfl, fun row a cap W hf hs hW => ?_⟩, hb⟩
        exact list1_at cols w.heap.size (w.heap.size + 1) xs a row cap W (KF.out.next hW) (by omega) hf hs
end Go.Proofs.YtfojonhblblbjaaGreat
/- The walk of exprs.Fits. -/
namespace Go.Proofs.YtfojonhblblbjaaGreat
open Go.RowKit

theorem fitsG_end (cols : List Int) (row : List Vl) (k : Nat) (h : row.length ≤ k) : fitsG (cols.drop k) (row.drop k) = 0 := by
  rw [List.drop_eq_nil_of_le h]; cases cols.drop k <;> rfl
theorem fitsG_wrong (cols : List Int) (row : List Vl) (k : Nat) (h : k < row.length) (h' : k < cols.length) (e : ¬ wrongP row[k] = 0) : fitsG (cols.drop k) (row.drop k) = wrongP row[k] := by
  rw [List.drop_eq_getElem_cons h, List.drop_eq_getElem_cons h', fitsG, if_pos e]
theorem fitsG_type (cols : List Int) (row : List Vl) (k : Nat) (h : k < row.length) (h' : k < cols.length) (e : wrongP row[k] = 0) (e1 : ¬ row[k].1 = 1) (e2 : ¬ row[k].1 = cols[k]) : fitsG (cols.drop k) (row.drop k) = 9 := by
  rw [List.drop_eq_getElem_cons h, List.drop_eq_getElem_cons h', fitsG, if_neg (by simp [e]), if_pos ⟨e1, e2⟩]
theorem fitsG_next (cols : List Int) (row : List Vl) (k : Nat) (h : k < row.length) (h' : k < cols.length) (e : wrongP row[k] = 0) (e1 : row[k].1 = 1 ∨ row[k].1 = cols[k]) : fitsG (cols.drop k) (row.drop k) = fitsG (cols.drop (k + 1)) (row.drop (k + 1)) := by
  rw [List.drop_eq_getElem_cons h, List.drop_eq_getElem_cons h', fitsG, if_neg (by simp [e]), if_neg (by omega)]

set_option maxHeartbeats 2000000 in
theorem fits_at (cols : List Int) (row : List Vl) (ca : Option Addr) (ccap : Nat) (ra : Option Addr) (rcap : Nat) (w : World) (hc : IsAt w.heap.size w ca cols) (hs : SlAt w ra row) :
    Calls Tryz.prog 69 #[.slice ca cols.length ccap, .slice ra row.length rcap] w fun e w' => e = .returned (.int .i64 (fitsL cols row)) ∧ Below w.heap.size w w' := by
  have hl := hs.1
  unfold maxLen at hl
  generalize hr : fitsL cols row = r
  have HR : Hid (fitsL cols row = r) := hr
  clear hr
  by_cases hlen : row.length = cols.length
  · have HG : Hid (fitsG cols row = r) := by show fitsG cols row = r; rw [← HR.out, fitsL, if_neg (by simp [hlen])]
    have HL : Hid (row.length = cols.length) := hlen
    have q : ((row.length : Int) != (cols.length : Int)) = false := by simp; omega
    clear HR hlen
    go_enter Tryz.func69, Tryz.ntmps69
    go_wp2_with fail
    go_loopw [15] (fun i wr => ∃ j : Nat, j ≤ row.length ∧ i = .int .i64 j ∧ Hid (fitsG cols row = fitsG (cols.drop j) (row.drop j)) ∧ Below w.heap.size w wr) (fun i _ => row.length - (intOf i).toNat)
    case atStart => exact ⟨0, Nat.zero_le _, rfl, rfl, Below.refl _ _⟩
    case round =>
      obtain ⟨j, hj, rfl, HE, hb⟩ := hrel
      have hz := hb.size
      by_cases hlt : j < row.length
      · have hlt' : j < cols.length := by have := HL.out; omega
        obtain ⟨b, off, rfl, hbl, r0, r1, r2⟩ := (hs.next hb).elem hlt
        obtain ⟨b', off', rfl, hbl', c0⟩ := (hc.next hb (Nat.le_refl _)).elem hlt'
        generalize hv : row[j] = v at *
        generalize hcj : cols[j] = cj at *
        have HV : Hid (row[j] = v) := hv
        have HC : Hid (cols[j] = cj) := hcj
        clear hv hcj
        obtain ⟨k, n, s⟩ := v
        have A0 := Box.new wr (.int .i64 k) (.int .i64 n) (.string s) 24
        have d0 : (wr.alloc (.cells #[.int .i64 k, .int .i64 n, .string s] 24)).cell? ⟨b', off' + j, none⟩ = some (.int .i64 cj) := by
          rw [World.cell?_alloc_lt _ _ _ (by show b' < wr.heap.size; omega)]; exact c0
        go_wp2_with fail
        refine (wrong_any _ _ _ _).mono ?_
        rintro e w1 ⟨rfl, hb1⟩
        have hb1' := hb.trans (below1 hb1 |>.mono hz)
        have A1 := A0.next hb1
        have c1 := (hb1.cell (p := ⟨b', off' + j, none⟩) (by simp; omega)).trans d0
        clear r0 r1 r2 c0 A0 d0
        by_cases hw : wrongF k n s = 0
        · rw [hw]
          have HW : Hid (wrongP row[j] = 0) := by show wrongP row[j] = 0; rw [HV.out]; exact hw
          clear hw
          have p0 := past_cell A1.c0
          have p1 := past_cell c1
          haveI : Nonempty (Past w1) := ⟨⟨_, Below.refl _ _⟩⟩
          by_cases k1 : k = 1
          · subst k1
            have HN : Hid (fitsG (cols.drop j) (row.drop j) = fitsG (cols.drop (j + 1)) (row.drop (j + 1))) := fitsG_next cols row j hlt hlt' HW.out (.inl (by rw [HV.out]))
            go_wp2_with fail
            refine wp_region_past (by kernel_rfl) (by kernel_rfl) ?_
            repeat (go_big_quiet_step (fail))
            refine wpQuiet_nil ?_
            rintro w2 ⟨⟨v2, hb2⟩, h2⟩
            obtain rfl : w2 = v2 := h2
            clear p0 p1 A1 c1
            go_wp2_with fail
            go_roundw
            case rel => exact ⟨j + 1, by omega, by go_num, HE.out.trans HN.out, chain hb1' hb2⟩
            case measure => simp [intOf]; omega
          have q1 : (k != 1) = true := by simpa using k1
          by_cases kc : k = cj
          · subst kc
            have HN : Hid (fitsG (cols.drop j) (row.drop j) = fitsG (cols.drop (j + 1)) (row.drop (j + 1))) := fitsG_next cols row j hlt hlt' HW.out (.inr (by rw [HV.out, HC.out]))
            go_wp2_with fail
            refine wp_region_past (by kernel_rfl) (by kernel_rfl) ?_
            repeat (go_big_quiet_step (fail))
            refine wpQuiet_nil ?_
            rintro w2 ⟨⟨v2, hb2⟩, h2⟩
            obtain rfl : w2 = v2 := h2
            clear p0 p1 A1 c1
            go_wp2_with fail
            go_roundw
            case rel => exact ⟨j + 1, by omega, by go_num, HE.out.trans HN.out, chain hb1' hb2⟩
            case measure => simp [intOf]; omega
          have q2 : (k != cj) = true := by simpa using kc
          have er : r = 9 := by rw [← HG.out, HE.out, fitsG_type cols row j hlt hlt' HW.out (by rw [HV.out]; exact k1) (by rw [HV.out, HC.out]; exact kc)]
          subst er
          clear HG HE
          go_wp2_with fail
          refine wp_region_past (by kernel_rfl) (by kernel_rfl) ?_
          repeat (go_big_quiet_step (fail))
          refine wpQuiet_nil ?_
          rintro w2 ⟨⟨v2, hb2⟩, h2⟩
          obtain rfl : w2 = v2 := h2
          clear p0 p1 A1 c1
          go_wp2_with fail
          go_ret
          exact ⟨rfl, chain hb1' hb2⟩
        · have er : r = wrongF k n s := by rw [← HG.out, HE.out, fitsG_wrong cols row j hlt hlt' (by rw [HV.out]; exact hw), HV.out]; rfl
          subst er
          clear HG HE
          have q3 : (wrongF k n s != 0) = true := by simpa using hw
          go_wp2_with fail
          go_ret
          exact ⟨rfl, hb1'⟩
      · have er : r = 0 := by rw [← HG.out, HE.out, fitsG_end cols row j (by omega)]
        subst er
        clear HG HE
        go_wp2_with fail
        go_ret
        exact ⟨rfl, hb⟩
  · have er : r = 8 := by rw [← HR.out, fitsL, if_pos hlen]
    subst er
    have q : ((row.length : Int) != (cols.length : Int)) = true := by simp; omega
    clear HR
    go_enter Tryz.func69, Tryz.ntmps69
    go_wp2_with fail
    go_ret
    exact ⟨rfl, Below.refl _ _⟩
end Go.Proofs.YtfojonhblblbjaaGreat
