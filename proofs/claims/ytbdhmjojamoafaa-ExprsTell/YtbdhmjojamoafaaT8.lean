/- The walk of the document's Of, whole. -/
import Derived.Test.YtbdhmjojamoafaaT6a
import Derived.Test.YtbdhmjojamoafaaT6b
import Derived.Test.YtbdhmjojamoafaaT7a
import Derived.Test.YtbdhmjojamoafaaT7b
import Derived.Test.YtbdhmjojamoafaaT7c
namespace Go.Proofs.Ytbdhmjojamoafaa
open Go.RowKit

theorem cmp_null {k : Int} (h : 6 ≤ k) (h' : k ≤ 11) {a b : Vl} (hn : ((a.1 != 1) && (b.1 != 1)) = false) : twoP k a b = tri none := by
  have t1 : tellB a.1 b.1 = false := by
    unfold tellB
    by_cases q : a.1 = 1
    · simp [q]
    · have q' : b.1 = 1 := by
        have : (a.1 != 1) = true := by simpa using q
        rw [this, Bool.true_and] at hn
        simpa using hn
      have : ¬ a.1 = b.1 := by omega
      simp [this]
  have t2 : tellB b.1 a.1 = false := by
    unfold tellB
    by_cases q : b.1 = 1
    · simp [q]
    · have q' : a.1 = 1 := by
        have : (b.1 != 1) = true := by simpa using q
        rw [this, Bool.and_true] at hn
        simpa using hn
      have : ¬ b.1 = a.1 := by omega
      simp [this]
  have e1 : eqP a b = tri none := by simp [eqP, eqT, t1]
  have e2 : ltP a b = tri none := by simp [ltP, ltT, t1]
  have e3 : ltP b a = tri none := by simp [ltP, ltT, t2]
  obtain rfl | rfl | rfl | rfl | rfl | rfl : k = 6 ∨ k = 7 ∨ k = 8 ∨ k = 9 ∨ k = 10 ∨ k = 11 := by omega
  · exact e1
  · show notP (eqP a b) = _; rw [e1]; rfl
  · exact e2
  · show notP (ltP b a) = _; rw [e3]; rfl
  · exact e3
  · show notP (ltP a b) = _; rw [e2]; rfl
section
variable {a b : Vl} (hk : ((a.1 != 1) && (b.1 != 1)) = true) (he : a.1 = b.1)
include hk he
theorem cmp_tell : tellB a.1 b.1 = true ∧ tellB b.1 a.1 = true := by
  have h : ¬ a.1 = 1 := by
    rw [Bool.and_eq_true] at hk
    simpa using hk.1
  have h' : ¬ b.1 = 1 := by omega
  unfold tellB
  constructor
  · rw [he]; simp [h']
  · rw [he]; simp [h']
theorem cmp_6 : twoP 6 a b = tri (some (cmpV a.1 a.2.1 a.2.2 b.1 b.2.1 b.2.2 == 0)) := by
  show eqP a b = _
  simp [eqP, eqT, (cmp_tell hk he).1]
theorem cmp_7 : twoP 7 a b = tri (some (cmpV a.1 a.2.1 a.2.2 b.1 b.2.1 b.2.2 != 0)) := by
  have : twoP 7 a b = notP (twoP 6 a b) := rfl
  rw [this, cmp_6 hk he]
  cases h : (cmpV a.1 a.2.1 a.2.2 b.1 b.2.1 b.2.2 == 0) <;> simp [bne, h] <;> rfl
theorem cmp_8 : twoP 8 a b = tri (some (decide (cmpV a.1 a.2.1 a.2.2 b.1 b.2.1 b.2.2 < 0))) := by
  show ltP a b = _
  simp [ltP, ltT, (cmp_tell hk he).1]
theorem cmp_10 : twoP 10 a b = tri (some (decide (0 < cmpV a.1 a.2.1 a.2.2 b.1 b.2.1 b.2.2))) := by
  show ltP b a = _
  have e := cmpV_neg b.1 b.2.1 a.1 a.2.1 b.2.2 a.2.2
  have : decide (cmpV b.1 b.2.1 b.2.2 a.1 a.2.1 a.2.2 < 0) = decide (0 < cmpV a.1 a.2.1 a.2.2 b.1 b.2.1 b.2.2) := by
    rw [e]
    exact decide_eq_decide.mpr (by omega)
  simp only [ltP, ltT, (cmp_tell hk he).2, if_true, this]
theorem cmp_9 : twoP 9 a b = tri (some (decide (cmpV a.1 a.2.1 a.2.2 b.1 b.2.1 b.2.2 ≤ 0))) := by
  have : twoP 9 a b = notP (twoP 10 a b) := rfl
  rw [this, cmp_10 hk he]
  generalize cmpV a.1 a.2.1 a.2.2 b.1 b.2.1 b.2.2 = m
  by_cases h : 0 < m
  · rw [decide_eq_true h, decide_eq_false (show ¬ m ≤ 0 by omega)]; rfl
  · rw [decide_eq_false h, decide_eq_true (show m ≤ 0 by omega)]; rfl
theorem cmp_11 : twoP 11 a b = tri (some (decide (0 ≤ cmpV a.1 a.2.1 a.2.2 b.1 b.2.1 b.2.2))) := by
  have : twoP 11 a b = notP (twoP 8 a b) := rfl
  rw [this, cmp_8 hk he]
  generalize cmpV a.1 a.2.1 a.2.2 b.1 b.2.1 b.2.2 = m
  by_cases h : m < 0
  · rw [decide_eq_true h, decide_eq_false (show ¬ 0 ≤ m by omega)]; rfl
  · rw [decide_eq_false h, decide_eq_true (show 0 ≤ m by omega)]; rfl
end

theorem of_any {cols : List Int} {row : List Vl} (hf : FitP cols row) : ∀ x t, typP cols x = some t → OfAt row x := by
  refine Ex.ind fun k v c ks ih t ht => ?_
  obtain ⟨h1, h18, hl, ts, hts, hn⟩ := typP_node ht
  intro B a cap ra rcap w hk hB hs
  simp only [Ex.k, Ex.v, Ex.c, Ex.ks] at hk ⊢
  rw [valX]
  unfold nodeV
  by_cases k1 : k = 1
  · subst k1
    rw [if_pos rfl]
    exact of_1 v c a ks.length cap ra row.length rcap w
  rw [if_neg k1]
  by_cases k2 : k = 2
  · subst k2
    rw [if_pos rfl]
    unfold nodeT at hn
    rw [if_neg (by decide), if_pos rfl] at hn
    obtain ⟨q0, q1, _⟩ := colT_ok hn
    have hlen := hf.len
    have e : row.getD c.toNat vl0 = row[c.toNat]'(by omega) := by simp [List.getD, show c.toNat < row.length by omega]
    rw [e]
    exact of_2 v c a ks.length cap ra rcap w row c.toNat (by omega) (by omega) hs
  rw [if_neg k2]
  have hpos : 0 < ks.length := by
    rw [hl]; unfold kidsN; rw [if_neg (by omega)]
    repeat' split
    all_goals omega
  obtain ⟨b, off, _, _, rfl, _, _, _⟩ := hk.elem hpos
  have kid : ∀ (i : Nat) (hi : i < ks.length) (o : Nat), o = off + i * 6 → KidOf b o ra row.length rcap (valX row ks[i]) w := by
    rintro i hi o rfl
    obtain ⟨b', off', ai, ci, e, hlt, S, K⟩ := hk.elem hi
    simp only [Option.some.injEq, Addr.mk.injEq, and_true] at e
    obtain ⟨rfl, rfl⟩ := e
    exact ⟨ks[i], ai, ci, S, by omega, fun W hW => ih _ (List.getElem_mem _) _ (typsP_at hts i hi) B ai ci ra rcap W (KsAt.next hW hB K) (Nat.le_trans hB hW.size) (hs.next hW)⟩
  have rgt : ∀ (i : Nat) (hi : i < ks.length), Of (ts.getD i 0) (valX row ks[i]) := fun i hi => valX_of hf _ _ (typsP_at hts i hi)
  by_cases k3 : k = 3
  · subst k3
    rw [if_pos rfl]
    have l1 : ks.length = 1 := hl
    have K0 := kid 0 (by omega) off (by omega)
    have R0 := rgt 0 (by omega)
    rw [vals_at row ks 0 (by omega)]
    clear kid rgt
    generalize valX row ks[0] = u0 at *
    rw [l1]
    exact of_3 v c b off cap ra row.length rcap w u0 K0 R0.1
  rw [if_neg k3]
  by_cases k16 : k = 16
  · subst k16
    rw [if_pos rfl]
    have l1 : ks.length = 1 := hl
    have K0 := kid 0 (by omega) off (by omega)
    have R0 := rgt 0 (by omega)
    rw [vals_at row ks 0 (by omega)]
    clear kid rgt
    generalize valX row ks[0] = u0 at *
    rw [l1]
    exact of_16 v c b off cap ra row.length rcap w u0 K0 R0.1
  rw [if_neg k16]
  by_cases k17 : k = 17
  · subst k17
    rw [if_pos rfl]
    have l3 : ks.length = 3 := hl
    have K0 := kid 0 (by omega) off (by omega)
    have K1 := kid 1 (by omega) (off + 6) (by omega)
    have K2 := kid 2 (by omega) (off + 12) (by omega)
    have R0 := rgt 0 (by omega)
    have R1 := rgt 1 (by omega)
    have R2 := rgt 2 (by omega)
    rw [vals_at row ks 0 (by omega), vals_at row ks 1 (by omega), vals_at row ks 2 (by omega)]
    clear kid rgt
    generalize valX row ks[0] = u0 at *
    generalize valX row ks[1] = u1 at *
    generalize valX row ks[2] = u2 at *
    rw [l3]
    by_cases q : (clsP u0 == some true) = true
    · rw [if_pos q]
      exact of_17t v c b off cap ra row.length rcap w u0 K0 R0.1 u1 K1 R1.1 q
    · rw [if_neg q]
      exact of_17f v c b off cap ra row.length rcap w u0 K0 R0.1 u2 K2 R2.1 (Bool.eq_false_iff.mpr q)
  rw [if_neg k17]
  have l2 : ks.length = 2 := by rw [hl]; unfold kidsN; rw [if_neg (by omega), if_neg (by omega), if_neg k17]
  have K0 := kid 0 (by omega) off (by omega)
  have K1 := kid 1 (by omega) (off + 6) (by omega)
  have R0 := rgt 0 (by omega)
  have R1 := rgt 1 (by omega)
  rw [vals_at row ks 0 (by omega), vals_at row ks 1 (by omega)]
  have eqk : 6 ≤ k → k ≤ 11 → ((valX row ks[0]).1 != 1 && (valX row ks[1]).1 != 1) = true → (valX row ks[0]).1 = (valX row ks[1]).1 := by
    intro h6 h11 hh
    rw [Bool.and_eq_true] at hh
    have n0 : ¬ (valX row ks[0]).1 = 1 := by simpa using hh.1
    have n1 : ¬ (valX row ks[1]).1 = 1 := by simpa using hh.2
    unfold nodeT at hn
    rw [if_neg k1, if_neg k2] at hn
    have hn := resT_ok hn
    unfold kidsT at hn
    rw [if_neg (by omega), if_pos ⟨h6, h11⟩] at hn
    rcases ht' : tog (ts.getD 0 0) (ts.getD 1 0) with _ | u
    · rw [ht'] at hn; simp at hn
    · have a1 := (of_tog1 ht' R0).2
      have a2 := (of_tog2 ht' R1).2
      omega
  clear kid rgt
  generalize valX row ks[0] = u0 at *
  generalize valX row ks[1] = u1 at *
  rw [l2]
  by_cases k18 : k = 18
  · subst k18
    have e : twoP 18 u0 u1 = coalP u0 u1 := rfl
    rw [e]
    unfold coalP
    by_cases q : u0.1 = 1
    · rw [if_pos q]
      exact of_18n v c b off cap ra row.length rcap w u0 K0 R0.1 u1 K1 R1.1 (by simpa using q)
    · rw [if_neg q]
      exact of_18k v c b off cap ra row.length rcap w u0 K0 R0.1 (by simpa using q)
  obtain rfl | rfl | rfl | rfl | rfl | rfl | rfl | rfl | rfl | rfl | rfl | rfl : k = 4 ∨ k = 5 ∨ k = 12 ∨ k = 13 ∨ k = 14 ∨ k = 15 ∨ k = 6 ∨ k = 7 ∨ k = 8 ∨ k = 9 ∨ k = 10 ∨ k = 11 := by omega
  · exact of_4 v c b off cap ra row.length rcap w u0 K0 R0.1 u1 K1 R1.1 _ _ rfl rfl
  · exact of_5 v c b off cap ra row.length rcap w u0 K0 R0.1 u1 K1 R1.1 _ _ rfl rfl
  · exact of_12 v c b off cap ra row.length rcap w u0 K0 R0.1 u1 K1 R1.1 _ _ rfl rfl
  · exact of_13 v c b off cap ra row.length rcap w u0 K0 R0.1 u1 K1 R1.1 _ _ rfl rfl
  · exact of_14 v c b off cap ra row.length rcap w u0 K0 R0.1 u1 K1 R1.1 _ _ rfl rfl
  · exact of_15 v c b off cap ra row.length rcap w u0 K0 R0.1 u1 K1 R1.1 _ _ rfl rfl
  · exact of_6 v c b off cap ra row.length rcap w u0 K0 R0.1 u1 K1 R1.1 _ _ rfl rfl (fun h => cmp_6 h (eqk (by decide) (by decide) h)) (fun h => cmp_null (by decide) (by decide) h)
  · exact of_7 v c b off cap ra row.length rcap w u0 K0 R0.1 u1 K1 R1.1 _ _ rfl rfl (fun h => cmp_7 h (eqk (by decide) (by decide) h)) (fun h => cmp_null (by decide) (by decide) h)
  · exact of_8 v c b off cap ra row.length rcap w u0 K0 R0.1 u1 K1 R1.1 _ _ rfl rfl (fun h => cmp_8 h (eqk (by decide) (by decide) h)) (fun h => cmp_null (by decide) (by decide) h)
  · exact of_9 v c b off cap ra row.length rcap w u0 K0 R0.1 u1 K1 R1.1 _ _ rfl rfl (fun h => cmp_9 h (eqk (by decide) (by decide) h)) (fun h => cmp_null (by decide) (by decide) h)
  · exact of_10 v c b off cap ra row.length rcap w u0 K0 R0.1 u1 K1 R1.1 _ _ rfl rfl (fun h => cmp_10 h (eqk (by decide) (by decide) h)) (fun h => cmp_null (by decide) (by decide) h)
  · exact of_11 v c b off cap ra row.length rcap w u0 K0 R0.1 u1 K1 R1.1 _ _ rfl rfl (fun h => cmp_11 h (eqk (by decide) (by decide) h)) (fun h => cmp_null (by decide) (by decide) h)
end Go.Proofs.Ytbdhmjojamoafaa
