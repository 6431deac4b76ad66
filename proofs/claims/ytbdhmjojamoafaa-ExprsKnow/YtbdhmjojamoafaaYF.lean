/- The statements' own walks over expressions: uses, plain. -/
import Derived.Test.YtbdhmjojamoafaaYD
namespace Go.Proofs.Ytbdhmjojamoafaa
open Go.RowKit

theorem usesL_drop (j : Int) (ks : List Ex) (i : Nat) (h : i < ks.length) : usesL j (ks.drop i) = (usesX j ks[i] || usesL j (ks.drop (i + 1))) := by
  rw [List.drop_eq_getElem_cons h, usesL]
theorem plainL_drop (ks : List Ex) (i : Nat) (h : i < ks.length) : plainL (ks.drop i) = (plainX ks[i] && plainL (ks.drop (i + 1))) := by
  rw [List.drop_eq_getElem_cons h, plainL]

def UsesAt (j : Int) (x : Ex) : Prop :=
  ∀ (B : Nat) (a : Option Addr) (cap : Nat) (w : World), KsAt B w a x.ks → B ≤ w.heap.size →
    Calls Try.prog 20 #[exV x.k x.v x.c a x.ks.length cap, .int .i64 j] w fun e w' => e = .returned (.bool (usesX j x)) ∧ Below w.heap.size w w'

set_option maxHeartbeats 1000000 in
theorem uses_at (j : Int) (k : Int) (v : Vl) (c : Int) (ks : List Ex) (hl3 : ks.length ≤ 3) (ih : ∀ x ∈ ks, UsesAt j x) : UsesAt j (.mk k v c ks) := by
  intro B a cap w hk hB
  simp only [Ex.k, Ex.v, Ex.c, Ex.ks] at hk ⊢
  generalize hr : usesX j (.mk k v c ks) = r
  have HR : Hid (usesX j (.mk k v c ks) = r) := hr
  clear hr
  by_cases h1 : k = 2 ∧ c = j
  · obtain ⟨rfl, rfl⟩ := h1
    have er : r = true := by rw [← HR.out, usesX]; simp
    subst er
    go_enter Try.func20, Try.ntmps20
    go_wp2_with fail
    go_ret
    exact ⟨rfl, (Below.refl _ _).alloc (Nat.le_refl _) _⟩
  · have HU : Hid (usesL j ks = r) := by
      show usesL j ks = r
      rw [← HR.out, usesX]
      have : (k == 2 && c == j) = false := by
        by_cases q : k = 2
        · have : ¬ c = j := fun e => h1 ⟨q, e⟩
          simp [q, this]
        · simp [q]
      rw [this, Bool.false_or]
    clear HR
    have hcase : (k == 2) = false ∨ ((k == 2) = true ∧ (c == j) = false) := by
      by_cases q : k = 2
      · right
        exact ⟨by simpa using q, by simpa using fun e : c = j => h1 ⟨q, e⟩⟩
      · left; simpa using q
    clear h1
    rcases hcase with q | ⟨q, q'⟩
    all_goals
      go_enter Try.func20, Try.ntmps20
      go_wp2_with fail
      have hal : Below w.heap.size w (w.alloc (.cells #[.int .i64 k, .int .i64 v.1, .int .i64 v.2.1, .string v.2.2, .int .i64 c, .slice a ks.length cap] 27)) := (Below.refl _ _).alloc (Nat.le_refl _) _
      generalize w.alloc (.cells #[.int .i64 k, .int .i64 v.1, .int .i64 v.2.1, .string v.2.2, .int .i64 c, .slice a ks.length cap] 27) = w0 at *
      go_loopw [19] (fun i wr => ∃ n : Nat, n ≤ ks.length ∧ i = .int .i64 n ∧ Hid (usesL j ks = usesL j (ks.drop n)) ∧ Below w.heap.size w wr) (fun i _ => ks.length - (intOf i).toNat)
      case atStart => exact ⟨0, Nat.zero_le _, rfl, rfl, hal⟩
      case round =>
        obtain ⟨n, hn, rfl, HE, hb⟩ := hrel
        have hz := hb.size
        by_cases hlt : n < ks.length
        · obtain ⟨b, off, ai, ci, rfl, hbl, sx, kx⟩ := (KsAt.next hb hB hk).elem hlt
          obtain ⟨x0, x1, x2, x3, x4, x5⟩ := sx
          have hal2 : Below wr.heap.size wr (wr.alloc (.cells #[.int .i64 ks[n].k, .int .i64 ks[n].v.1, .int .i64 ks[n].v.2.1, .string ks[n].v.2.2, .int .i64 ks[n].c, .slice ai ks[n].ks.length ci] 27)) := (Below.refl _ _).alloc (Nat.le_refl _) _
          have con := ih ks[n] (List.getElem_mem _) B ai ci _ (KsAt.next hal2 (by omega) kx) (Nat.le_trans (Nat.le_trans hB hz) hal2.size)
          have HD : Hid (usesL j (ks.drop n) = (usesX j ks[n] || usesL j (ks.drop (n + 1)))) := usesL_drop j ks n hlt
          generalize usesX j ks[n] = u at *
          go_wp2_with fail
          refine con.mono ?_
          clear con x0 x1 x2 x3 x4 x5
          rintro e w5 ⟨rfl, hb5⟩
          have hb5' := chain hb (chain hal2 hb5)
          cases u
          · go_wp2_with fail
            go_roundw
            case rel => exact ⟨n + 1, by omega, by go_num, by rw [HE.out, HD.out, Bool.false_or]; rfl, hb5'⟩
            case measure => simp [intOf]; omega
          · have er : r = true := by rw [← HU.out, HE.out, HD.out, Bool.true_or]
            subst er
            go_wp2_with fail
            go_ret
            exact ⟨rfl, hb5'⟩
        · have er : r = false := by rw [← HU.out, HE.out, List.drop_eq_nil_of_le (by omega)]; rfl
          subst er
          go_wp2_with fail
          go_ret
          exact ⟨rfl, hb⟩
theorem uses_any {cols : List Int} (j : Int) : ∀ x t, typP cols x = some t → UsesAt j x := by
  refine Ex.ind fun k v c ks ih t ht => ?_
  obtain ⟨_, _, hl, ts, hts, _⟩ := typP_node ht
  refine uses_at j k v c ks (by rw [hl]; exact kidsN_le k) fun x hx => ?_
  obtain ⟨i, hi, rfl⟩ := List.mem_iff_getElem.mp hx
  exact ih _ hx _ (typsP_at hts i hi)

def PlainAt (x : Ex) : Prop :=
  ∀ (B : Nat) (a : Option Addr) (cap : Nat) (w : World), KsAt B w a x.ks → B ≤ w.heap.size →
    Calls Try.prog 21 #[exV x.k x.v x.c a x.ks.length cap] w fun e w' => e = .returned (.bool (plainX x)) ∧ Below w.heap.size w w'

set_option maxHeartbeats 1000000 in
theorem plain_at (k : Int) (v : Vl) (c : Int) (ks : List Ex) (hl3 : ks.length ≤ 3) (ih : ∀ x ∈ ks, PlainAt x) : PlainAt (.mk k v c ks) := by
  intro B a cap w hk hB
  simp only [Ex.k, Ex.v, Ex.c, Ex.ks] at hk ⊢
  generalize hr : plainX (.mk k v c ks) = r
  have HR : Hid (plainX (.mk k v c ks) = r) := hr
  clear hr
  by_cases h1 : 16 ≤ k
  · have er : r = false := by rw [← HR.out, plainX, decide_eq_false (by omega), Bool.false_and]
    subst er
    clear HR
    go_enter Try.func21, Try.ntmps21
    go_wp2_with fail
    go_ret
    exact ⟨rfl, (Below.refl _ _).alloc (Nat.le_refl _) _⟩
  · have HU : Hid (plainL ks = r) := by
      show plainL ks = r
      rw [← HR.out, plainX, decide_eq_true (by omega), Bool.true_and]
    clear HR
    go_enter Try.func21, Try.ntmps21
    go_wp2_with fail
    have hal : Below w.heap.size w (w.alloc (.cells #[.int .i64 k, .int .i64 v.1, .int .i64 v.2.1, .string v.2.2, .int .i64 c, .slice a ks.length cap] 27)) := (Below.refl _ _).alloc (Nat.le_refl _) _
    generalize w.alloc (.cells #[.int .i64 k, .int .i64 v.1, .int .i64 v.2.1, .string v.2.2, .int .i64 c, .slice a ks.length cap] 27) = w0 at *
    go_loopw [11] (fun i wr => ∃ n : Nat, n ≤ ks.length ∧ i = .int .i64 n ∧ Hid (plainL ks = plainL (ks.drop n)) ∧ Below w.heap.size w wr) (fun i _ => ks.length - (intOf i).toNat)
    case atStart => exact ⟨0, Nat.zero_le _, rfl, rfl, hal⟩
    case round =>
      obtain ⟨n, hn, rfl, HE, hb⟩ := hrel
      have hz := hb.size
      by_cases hlt : n < ks.length
      · obtain ⟨b, off, ai, ci, rfl, hbl, sx, kx⟩ := (KsAt.next hb hB hk).elem hlt
        obtain ⟨x0, x1, x2, x3, x4, x5⟩ := sx
        have hal2 : Below wr.heap.size wr (wr.alloc (.cells #[.int .i64 ks[n].k, .int .i64 ks[n].v.1, .int .i64 ks[n].v.2.1, .string ks[n].v.2.2, .int .i64 ks[n].c, .slice ai ks[n].ks.length ci] 27)) := (Below.refl _ _).alloc (Nat.le_refl _) _
        have con := ih ks[n] (List.getElem_mem _) B ai ci _ (KsAt.next hal2 (by omega) kx) (Nat.le_trans (Nat.le_trans hB hz) hal2.size)
        have HD : Hid (plainL (ks.drop n) = (plainX ks[n] && plainL (ks.drop (n + 1)))) := plainL_drop ks n hlt
        generalize plainX ks[n] = u at *
        go_wp2_with fail
        refine con.mono ?_
        clear con x0 x1 x2 x3 x4 x5
        rintro e w5 ⟨rfl, hb5⟩
        have hb5' := chain hb (chain hal2 hb5)
        cases u
        · have er : r = false := by rw [← HU.out, HE.out, HD.out, Bool.false_and]
          subst er
          go_wp2_with fail
          go_ret
          exact ⟨rfl, hb5'⟩
        · go_wp2_with fail
          go_roundw
          case rel => exact ⟨n + 1, by omega, by go_num, by rw [HE.out, HD.out, Bool.true_and]; rfl, hb5'⟩
          case measure => simp [intOf]; omega
      · have er : r = true := by rw [← HU.out, HE.out, List.drop_eq_nil_of_le (by omega)]; rfl
        subst er
        go_wp2_with fail
        go_ret
        exact ⟨rfl, hb⟩
theorem plain_any {cols : List Int} : ∀ x t, typP cols x = some t → PlainAt x := by
  refine Ex.ind fun k v c ks ih t ht => ?_
  obtain ⟨_, _, hl, ts, hts, _⟩ := typP_node ht
  refine plain_at k v c ks (by rw [hl]; exact kidsN_le k) fun x hx => ?_
  obtain ⟨i, hi, rfl⟩ := List.mem_iff_getElem.mp hx
  exact ih _ hx _ (typsP_at hts i hi)
end Go.Proofs.Ytbdhmjojamoafaa
