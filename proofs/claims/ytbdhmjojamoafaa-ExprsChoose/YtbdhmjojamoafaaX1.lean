/- What expressions come to. No program in sight. -/
import Derived.Test.YtbdhmjojamoafaaX0
import Derived.Test.YtbdhmjojamoafaaW7
import Derived.Test.YtbdhmjojamoafaaW9
import Derived.Test.YtbdhmjojamoafaaW10
import Derived.Test.YtbdhmjojamoafaaW12
namespace Go.Proofs.Ytbdhmjojamoafaa

def tri (o : Option Bool) : Vl := (tk o, tn o, ⟨#[]⟩)
def clsP (v : Vl) : Option Bool := cls v.1 v.2.1
def bareP (v : Vl) : Vl := (v.1, bareN v.1 v.2.1, bareS v.1 v.2.2)
def andP (a b : Vl) : Vl := tri (and3 (clsP a) (clsP b))
def orP (a b : Vl) : Vl := tri (or3 (clsP a) (clsP b))
def notP (a : Vl) : Vl := tri (not3 (clsP a))
def eqP (a b : Vl) : Vl := tri (eqT a.1 a.2.1 a.2.2 b.1 b.2.1 b.2.2)
def ltP (a b : Vl) : Vl := tri (ltT a.1 a.2.1 a.2.2 b.1 b.2.1 b.2.2)
def recP (c : Int) (a b : Vl) : Vl := (optK (recO c a.1 a.2.1 b.1 b.2.1), optN (recO c a.1 a.2.1 b.1 b.2.1), ⟨#[]⟩)
def joinP (a b : Vl) : Vl := (joinK a.1 a.2.2 b.1 b.2.2, 0, joinS a.1 a.2.2 b.1 b.2.2)
def coalP (a b : Vl) : Vl := if a.1 = 1 then b else a
def vl0 : Vl := (0, 0, ⟨#[]⟩)
/-- What a kind of two kids makes of what they come to. -/
def twoP (k : Int) (a b : Vl) : Vl :=
  if k = 4 then andP a b else if k = 5 then orP a b else if k = 6 then eqP a b else if k = 7 then notP (eqP a b)
  else if k = 8 then ltP a b else if k = 11 then notP (ltP a b) else if k = 10 then ltP b a else if k = 9 then notP (ltP b a)
  else if k = 12 then recP 43 a b else if k = 13 then recP 45 a b else if k = 14 then recP 42 a b else if k = 15 then joinP a b else coalP a b
def nodeV (row : List Vl) (k : Int) (v : Vl) (c : Int) (us : List Vl) : Vl :=
  if k = 1 then bareP v else if k = 2 then bareP (row.getD c.toNat vl0) else if k = 3 then notP (us.getD 0 vl0)
  else if k = 16 then tri (some ((us.getD 0 vl0).1 == 1))
  else if k = 17 then (if clsP (us.getD 0 vl0) == some true then us.getD 1 vl0 else us.getD 2 vl0)
  else twoP k (us.getD 0 vl0) (us.getD 1 vl0)
mutual
def valX (row : List Vl) : Ex → Vl | .mk k v c ks => nodeV row k v c (valsX row ks)
def valsX (row : List Vl) : List Ex → List Vl | [] => [] | x :: r => valX row x :: valsX row r
end
theorem valsX_map (row : List Vl) : ∀ ks, valsX row ks = ks.map (valX row)
  | [] => rfl
  | x :: r => by rw [valsX, valsX_map row r]; rfl

/-! Right values. -/
theorem wrong_tri (o : Option Bool) : wrongP (tri o) = 0 := by rcases o with _ | _ | _ <;> rfl
theorem kind_tri (o : Option Bool) : (tri o).1 = 1 ∨ (tri o).1 = 2 := by rcases o with _ | _ <;> simp [tri, tk]
theorem wrong_bare (v : Vl) : wrongP (bareP v) = wrongP v := by
  obtain ⟨k, n, s⟩ := v
  unfold wrongP bareP wrongF bareN bareS
  by_cases h1 : k = 1
  · simp [h1]
  by_cases h2 : k = 2
  · simp [h2]
  by_cases h3 : k = 3
  · simp [h3]
  by_cases h4 : k = 4
  · simp [h4]
  simp [h1, h2, h3, h4]
theorem wrong_rec (c : Int) (a b : Vl) : wrongP (recP c a b) = 0 ∧ ((recP c a b).1 = 1 ∨ (recP c a b).1 = 3) := by
  unfold recP wrongP
  rcases recO c a.1 a.2.1 b.1 b.2.1 with _ | x
  · simp [optK, wrongF]
  · by_cases h : inB x = true
    · have h' := h
      simp only [inB, Bool.and_eq_true, decide_eq_true_eq] at h'
      simp [optK, optN, intK, intN, h, wrongF, h']
    · simp [optK, intK, h, wrongF]
theorem wrong_join (a b : Vl) : wrongP (joinP a b) = 0 ∧ ((joinP a b).1 = 1 ∨ (joinP a b).1 = 4) := by
  unfold joinP wrongP joinK joinS
  by_cases h : joinB a.1 a.2.2 b.1 b.2.2 = true
  · have h' := h
    simp only [joinB, Bool.and_eq_true, decide_eq_true_eq] at h'
    simp [h, wrongF, h']
  · simp [h, wrongF]
theorem wrong_kind {v : Vl} (h : wrongP v = 0) : 1 ≤ v.1 ∧ v.1 ≤ 4 := by
  obtain ⟨k, n, s⟩ := v
  unfold wrongP wrongF at h
  simp only at h ⊢
  by_cases h1 : k = 1
  · omega
  by_cases h2 : k = 2
  · omega
  by_cases h3 : k = 3
  · omega
  by_cases h4 : k = 4
  · omega
  simp [h1, h2, h3, h4] at h
theorem two_cmp {k : Int} (h : 6 ≤ k) (h' : k ≤ 11) (a b : Vl) : ∃ o, twoP k a b = tri o := by
  obtain rfl | rfl | rfl | rfl | rfl | rfl : k = 6 ∨ k = 7 ∨ k = 8 ∨ k = 9 ∨ k = 10 ∨ k = 11 := by omega
  all_goals exact ⟨_, rfl⟩
theorem two_rec {k : Int} (h : 12 ≤ k) (h' : k ≤ 14) (a b : Vl) : ∃ c, twoP k a b = recP c a b := by
  obtain rfl | rfl | rfl : k = 12 ∨ k = 13 ∨ k = 14 := by omega
  all_goals exact ⟨_, rfl⟩
theorem two_coal {k : Int} (h : k < 4 ∨ 15 < k) (a b : Vl) : twoP k a b = coalP a b := by
  unfold twoP
  rw [if_neg (by omega), if_neg (by omega), if_neg (by omega), if_neg (by omega), if_neg (by omega), if_neg (by omega), if_neg (by omega), if_neg (by omega), if_neg (by omega), if_neg (by omega), if_neg (by omega), if_neg (by omega)]
theorem two_cases (k : Int) (a b : Vl) : (∃ o, twoP k a b = tri o) ∨ (∃ c, twoP k a b = recP c a b) ∨ twoP k a b = joinP a b ∨ twoP k a b = coalP a b := by
  by_cases h4 : k = 4
  · subst h4; exact .inl ⟨_, rfl⟩
  by_cases h5 : k = 5
  · subst h5; exact .inl ⟨_, rfl⟩
  by_cases h6 : 6 ≤ k ∧ k ≤ 11
  · exact .inl (two_cmp h6.1 h6.2 a b)
  by_cases h12 : 12 ≤ k ∧ k ≤ 14
  · exact .inr (.inl (two_rec h12.1 h12.2 a b))
  by_cases h15 : k = 15
  · subst h15; exact .inr (.inr (.inl rfl))
  · exact .inr (.inr (.inr (two_coal (by omega) a b)))
theorem wrong_two (k : Int) {a b : Vl} (ha : wrongP a = 0) (hb : wrongP b = 0) : wrongP (twoP k a b) = 0 := by
  rcases two_cases k a b with ⟨o, e⟩ | ⟨c, e⟩ | e | e <;> rw [e]
  · exact wrong_tri _
  · exact (wrong_rec _ _ _).1
  · exact (wrong_join _ _).1
  · unfold coalP; split <;> assumption

/-! Rows that fit. -/
def fitsG : List Int → List Vl → Int
  | c :: cs, v :: vs => if wrongP v ≠ 0 then wrongP v else if v.1 ≠ 1 ∧ v.1 ≠ c then 9 else fitsG cs vs
  | _, _ => 0
def fitsL (cols : List Int) (row : List Vl) : Int := if row.length ≠ cols.length then 8 else fitsG cols row
theorem fitsG_ok : ∀ (cols : List Int) (row : List Vl), row.length = cols.length → (fitsG cols row = 0 ↔ ∀ i (h : i < row.length), wrongP row[i] = 0 ∧ (row[i].1 = 1 ∨ row[i].1 = cols.getD i 0))
  | [], [], _ => by simp [fitsG]
  | [], _ :: _, h => by simp at h
  | _ :: _, [], h => by simp at h
  | c :: cs, v :: vs, h => by
    have ih := fitsG_ok cs vs (by simpa using h)
    rw [fitsG]
    by_cases h1 : wrongP v = 0
    · rw [if_neg (by simp [h1])]
      by_cases h2 : v.1 ≠ 1 ∧ v.1 ≠ c
      · rw [if_pos h2]
        simp only [show ¬ (9 : Int) = 0 by decide, false_iff]
        intro hh
        have := (hh 0 (by simp)).2
        simp at this
        omega
      · rw [if_neg h2, ih]
        constructor
        · intro hh i hi
          match i, hi with
          | 0, _ =>
            refine ⟨h1, ?_⟩
            simp
            omega
          | i + 1, hi =>
            have := hh i (by simpa using hi)
            simpa using this
        · intro hh i hi
          have := hh (i + 1) (by simpa using hi)
          simpa using this
    · rw [if_pos h1]
      constructor
      · intro hh; exact absurd hh h1
      · intro hh; exact absurd (hh 0 (by simp)).1 h1
structure FitP (cols : List Int) (row : List Vl) : Prop where
  len : row.length = cols.length
  one : ∀ i (h : i < row.length), wrongP row[i] = 0 ∧ (row[i].1 = 1 ∨ row[i].1 = cols.getD i 0)
theorem fitsL_ok (cols : List Int) (row : List Vl) : fitsL cols row = 0 ↔ FitP cols row := by
  unfold fitsL
  by_cases h : row.length = cols.length
  · rw [if_neg (by simp [h]), fitsG_ok cols row h]
    exact ⟨fun k => ⟨h, k⟩, fun k => k.2⟩
  · rw [if_pos h]
    simp only [show ¬ (8 : Int) = 0 by decide, false_iff]
    exact fun k => h k.1

/-! What has a type goes not wrong. -/
theorem tog_some {a b t : Int} (h : tog a b = some t) : (a = 1 ∧ t = b) ∨ (b = 1 ∧ t = a) ∨ (a = t ∧ b = t) := by
  unfold tog at h
  split at h
  · rename_i h1; rcases h1 with h1 | h1
    · right; right; simp at h; omega
    · right; left; simp at h; omega
  · split at h
    · left; simp at h; omega
    · simp at h
theorem allO_some {t u : Int} {ts : List Int} (h : allO t ts = some u) : u = t := by
  unfold allO at h
  split at h
  · simpa using h.symm
  · simp at h
def inT (t : Int) : Prop := 1 ≤ t ∧ t ≤ 4
theorem tog_in {a b t : Int} (h : tog a b = some t) (ha : inT a) (hb : inT b) : inT t := by
  rcases tog_some h with ⟨_, rfl⟩ | ⟨_, rfl⟩ | ⟨rfl, _⟩ <;> assumption
theorem typsP_len {cols : List Int} : ∀ {ks : List Ex} {ts : List Int}, typsP cols ks = some ts → ts.length = ks.length
  | [], ts, h => by simp [typsP] at h; simp [h]
  | x :: r, ts, h => by
    rw [typsP, Option.bind_eq_some_iff] at h
    obtain ⟨t, _, h⟩ := h
    rw [Option.map_eq_some_iff] at h
    obtain ⟨us, h, rfl⟩ := h
    simp [typsP_len h]
theorem typsP_at {cols : List Int} : ∀ {ks : List Ex} {ts : List Int}, typsP cols ks = some ts → ∀ (i : Nat) (h : i < ks.length), typP cols ks[i] = some (ts.getD i 0)
  | [], ts, _ => by intro i h; simp at h
  | x :: r, ts, h => by
    rw [typsP, Option.bind_eq_some_iff] at h
    obtain ⟨t, h0, h⟩ := h
    rw [Option.map_eq_some_iff] at h
    obtain ⟨us, h, rfl⟩ := h
    intro i hi
    match i, hi with
    | 0, _ => simpa using h0
    | i + 1, hi => simpa using typsP_at h i (by simpa using hi)
/-- What a typed node is. -/
theorem typP_node {cols : List Int} {k : Int} {v : Vl} {c : Int} {ks : List Ex} {t : Int} (h : typP cols (.mk k v c ks) = some t) :
    1 ≤ k ∧ k ≤ 18 ∧ ks.length = kidsN k ∧ ∃ ts, typsP cols ks = some ts ∧ nodeT cols k v c ts = (t, 0) := by
  rw [typP] at h
  split at h
  · simp at h
  · rename_i hk
    rw [Option.bind_eq_some_iff] at h
    obtain ⟨ts, h1, h2⟩ := h
    split at h2
    · rename_i h3
      refine ⟨by omega, by omega, by omega, ts, h1, ?_⟩
      simp at h2
      exact Prod.ext h2 h3
    · simp at h2
theorem litT_ok {v : Vl} {t : Int} (h : litT v = (t, 0)) : wrongP v = 0 ∧ v.1 = t := by
  unfold litT at h
  split at h
  · rename_i hw; simp at h; exact ⟨hw, h⟩
  · rename_i hw; simp at h; exact absurd h.2 hw
theorem colT_ok {cols : List Int} {c t : Int} (h : colT cols c = (t, 0)) : 0 ≤ c ∧ c.toNat < cols.length ∧ cols.getD c.toNat 0 = t := by
  unfold colT at h
  split at h
  · simp at h
  · rename_i hc
    simp only [Prod.mk.injEq, and_true] at h
    exact ⟨by omega, by omega, h⟩
theorem resT_ok {o : Option Int} {t : Int} (h : resT o = (t, 0)) : o = some t := by
  cases o with
  | none => simp [resT] at h
  | some u => simp [resT] at h; rw [h]
theorem kidsT_in {k : Int} {ts : List Int} {t : Int} (h : kidsT k ts = some t) (hin : ∀ i, i < ts.length → inT (ts.getD i 0)) (hk : 3 ≤ k) (hk' : k ≤ 18) (hl : ts.length = kidsN k) : inT t := by
  have two : 6 ≤ k → k ≠ 16 → 2 ≤ ts.length := by
    intro h6 h16; rw [hl]; unfold kidsN
    rw [if_neg (by omega), if_neg (by omega)]
    split <;> omega
  unfold kidsT at h
  split at h
  · rw [allO_some h]; (unfold inT; omega)
  split at h
  · split at h <;> simp at h; rw [← h]; (unfold inT; omega)
  split at h
  · rw [allO_some h]; (unfold inT; omega)
  split at h
  · rw [allO_some h]; (unfold inT; omega)
  split at h
  · simp at h; rw [← h]; (unfold inT; omega)
  split at h
  · rename_i h17
    have h3 : ts.length = 3 := by rw [hl]; subst h17; rfl
    split at h
    · exact tog_in h (hin 1 (by omega)) (hin 2 (by omega))
    · simp at h
  · exact tog_in h (hin 0 (by have := two (by omega) (by omega); omega)) (hin 1 (by have := two (by omega) (by omega); omega))
theorem typP_in {cols : List Int} (hc : ∀ i, i < cols.length → inT (cols.getD i 0)) : ∀ x t, typP cols x = some t → inT t := by
  refine Ex.ind fun k v c ks ih t h => ?_
  obtain ⟨h1, h18, hl, ts, hts, hn⟩ := typP_node h
  unfold nodeT at hn
  split at hn
  · obtain ⟨q1, q2⟩ := litT_ok hn
    rw [← q2]
    exact wrong_kind q1
  split at hn
  · obtain ⟨q0, q1, q2⟩ := colT_ok hn
    rw [← q2]
    exact hc _ q1
  · have hlen := typsP_len hts
    refine kidsT_in (resT_ok hn) (fun i hi => ?_) (by omega) h18 (by omega)
    exact ih ks[i] (List.getElem_mem _) _ (typsP_at hts i (by omega))

/-- One value of a type, or not known; and right. -/
def Of (t : Int) (u : Vl) : Prop := wrongP u = 0 ∧ (u.1 = 1 ∨ u.1 = t)
theorem of_tri (o : Option Bool) : Of 2 (tri o) := ⟨wrong_tri o, kind_tri o⟩
theorem of_tog1 {a b t : Int} {u : Vl} (h : tog a b = some t) (hu : Of a u) : Of t u := by
  refine ⟨hu.1, ?_⟩
  rcases tog_some h with ⟨q, rfl⟩ | ⟨_, rfl⟩ | ⟨rfl, _⟩
  · left; rcases hu.2 with e | e <;> omega
  · exact hu.2
  · exact hu.2
theorem of_tog2 {a b t : Int} {u : Vl} (h : tog a b = some t) (hu : Of b u) : Of t u := by
  refine ⟨hu.1, ?_⟩
  rcases tog_some h with ⟨_, rfl⟩ | ⟨q, rfl⟩ | ⟨_, rfl⟩
  · exact hu.2
  · left; rcases hu.2 with e | e <;> omega
  · exact hu.2
theorem valX_of {cols : List Int} {row : List Vl} (hf : FitP cols row) : ∀ x t, typP cols x = some t → Of t (valX row x) := by
  refine Ex.ind fun k v c ks ih t h => ?_
  obtain ⟨h1, h18, hl, ts, hts, hn⟩ := typP_node h
  have hlen := typsP_len hts
  have hkid : ∀ i (hi : i < ks.length), Of (ts.getD i 0) ((valsX row ks).getD i vl0) := by
    intro i hi
    have := ih ks[i] (List.getElem_mem _) _ (typsP_at hts i hi)
    rw [valsX_map]
    simpa [List.getD, hi] using this
  rw [valX]
  generalize valsX row ks = us at hkid
  unfold nodeT at hn
  unfold nodeV
  split at hn
  · rename_i hk
    rw [if_pos hk]
    obtain ⟨q1, q2⟩ := litT_ok hn
    exact ⟨(wrong_bare v).trans q1, .inr q2⟩
  rename_i hk1
  rw [if_neg hk1]
  split at hn
  · rename_i hk
    rw [if_pos hk]
    obtain ⟨q0, q1, q2⟩ := colT_ok hn
    have hl' := hf.len
    have := hf.one c.toNat (by omega)
    rw [q2] at this
    have e : row.getD c.toNat vl0 = row[c.toNat]'(by omega) := by simp [List.getD, show c.toNat < row.length by omega]
    rw [e]
    exact ⟨(wrong_bare _).trans this.1, this.2⟩
  rename_i hk2
  rw [if_neg hk2]
  have hn := resT_ok hn
  unfold kidsT at hn
  have l2 : k ≠ 3 → k ≠ 16 → k ≠ 17 → ks.length = 2 := by
    intro h3 h16 h17
    rw [hl]; unfold kidsN
    rw [if_neg (by omega), if_neg (by omega), if_neg h17]
  by_cases hk3 : k = 3
  · rw [if_pos hk3]
    rw [if_pos (by omega)] at hn
    rw [allO_some hn]
    exact of_tri _
  rw [if_neg hk3]
  by_cases hk16 : k = 16
  · rw [if_pos hk16]
    subst hk16
    simp at hn
    rw [← hn]
    exact of_tri _
  rw [if_neg hk16]
  by_cases hk17 : k = 17
  · rw [if_pos hk17]
    subst hk17
    have l3 : ks.length = 3 := hl
    simp only [show ¬ ((17 : Int) = 3 ∨ (17 : Int) = 4 ∨ (17 : Int) = 5) by decide, show ¬ (6 ≤ (17 : Int) ∧ (17 : Int) ≤ 11) by decide, show ¬ ((17 : Int) = 12 ∨ (17 : Int) = 13 ∨ (17 : Int) = 14) by decide, show ¬ (17 : Int) = 15 by decide, show ¬ (17 : Int) = 16 by decide, if_false, if_true] at hn
    split at hn
    · split
      · exact of_tog1 hn (hkid 1 (by omega))
      · exact of_tog2 hn (hkid 2 (by omega))
    · simp at hn
  rw [if_neg hk17]
  have l2 := l2 hk3 hk16 hk17
  have k0 := hkid 0 (by omega)
  have k1 := hkid 1 (by omega)
  by_cases b4 : k = 4
  · rw [if_pos (by omega)] at hn; rw [allO_some hn, b4]; exact of_tri _
  by_cases b5 : k = 5
  · rw [if_pos (by omega)] at hn; rw [allO_some hn, b5]; exact of_tri _
  rw [if_neg (by omega)] at hn
  by_cases b6 : 6 ≤ k ∧ k ≤ 11
  · rw [if_pos b6] at hn
    have ht : t = 2 := by
      split at hn <;> simp at hn; exact hn.symm
    subst ht
    obtain ⟨o, e⟩ := two_cmp b6.1 b6.2 (us.getD 0 vl0) (us.getD 1 vl0)
    rw [e]
    exact of_tri _
  rw [if_neg b6] at hn
  by_cases b12 : k = 12 ∨ k = 13 ∨ k = 14
  · rw [if_pos b12] at hn
    have ht := allO_some hn
    subst ht
    obtain ⟨o, e⟩ := two_rec (by omega) (by omega) (us.getD 0 vl0) (us.getD 1 vl0) (k := k)
    rw [e]
    exact wrong_rec _ _ _
  rw [if_neg b12] at hn
  by_cases b15 : k = 15
  · rw [if_pos b15] at hn
    have ht := allO_some hn
    subst ht
    rw [b15]
    exact wrong_join _ _
  rw [if_neg b15, if_neg hk16, if_neg hk17] at hn
  rw [two_coal (by omega)]
  unfold coalP
  split
  · exact of_tog2 hn k1
  · exact of_tog1 hn k0
end Go.Proofs.Ytbdhmjojamoafaa
