/- Expressions, their types, what they come to. No program in sight. -/
import Derived.Test.YtbdhmjojamoafaaRows1
namespace Go.Proofs.Ytbdhmjojamoafaa

/-- An expression. -/
inductive Ex where
  | mk (k : Int) (v : Vl) (c : Int) (ks : List Ex)
def Ex.k : Ex → Int | .mk k _ _ _ => k
def Ex.v : Ex → Vl | .mk _ v _ _ => v
def Ex.c : Ex → Int | .mk _ _ c _ => c
def Ex.ks : Ex → List Ex | .mk _ _ _ ks => ks

mutual
theorem Ex.ind {P : Ex → Prop} (h : ∀ k v c ks, (∀ x ∈ ks, P x) → P (.mk k v c ks)) : ∀ x, P x
  | .mk k v c ks => h k v c ks (Ex.inds h ks)
theorem Ex.inds {P : Ex → Prop} (h : ∀ k v c ks, (∀ x ∈ ks, P x) → P (.mk k v c ks)) : ∀ ks : List Ex, ∀ x ∈ ks, P x
  | [], _, hx => by simp at hx
  | y :: r, x, hx => by
    rcases List.mem_cons.mp hx with e | hx
    · exact e ▸ Ex.ind h y
    · exact Ex.inds h r x hx
end

/-! Types. -/
def kidsN (k : Int) : Nat := if k = 1 ∨ k = 2 then 0 else if k = 3 ∨ k = 16 then 1 else if k = 17 then 3 else 2
def nodeW (k : Int) (len : Nat) (n d : Int) : Int := if 200 < n ∨ 20 < d then 4 else if k < 1 ∨ 18 < k then 1 else if len ≠ kidsN k then 5 else 0
def tog (a b : Int) : Option Int := if a = b ∨ b = 1 then some a else if a = 1 then some b else none
def resT : Option Int → Int × Int | some t => (t, 0) | none => (0, 9)
def allO (t : Int) (ts : List Int) : Option Int := if ts.all (fun k => (tog k t).isSome) then some t else none
def kidsT (k : Int) (ts : List Int) : Option Int :=
  if k = 3 ∨ k = 4 ∨ k = 5 then allO 2 ts
  else if 6 ≤ k ∧ k ≤ 11 then (if (tog (ts.getD 0 0) (ts.getD 1 0)).isSome then some 2 else none)
  else if k = 12 ∨ k = 13 ∨ k = 14 then allO 3 ts
  else if k = 15 then allO 4 ts
  else if k = 16 then some 2
  else if k = 17 then (if (tog (ts.getD 0 0) 2).isSome then tog (ts.getD 1 0) (ts.getD 2 0) else none)
  else tog (ts.getD 0 0) (ts.getD 1 0)
def wrongP (v : Vl) : Int := wrongF v.1 v.2.1 v.2.2
def litT (v : Vl) : Int × Int := if wrongP v = 0 then (v.1, 0) else (0, wrongP v)
def colT (cols : List Int) (c : Int) : Int × Int := if c < 0 ∨ cols.length ≤ c then (0, 7) else (cols.getD c.toNat 0, 0)
def nodeT (cols : List Int) (k : Int) (v : Vl) (c : Int) (ts : List Int) : Int × Int :=
  if k = 1 then litT v else if k = 2 then colT cols c else resT (kidsT k ts)
mutual
/-- Type, what is wrong, how many nodes so far. -/
def typeX (cols : List Int) : Ex → Int → Int → Int × Int × Int
  | .mk k v c ks, n, d =>
    if nodeW k ks.length (n + 1) d ≠ 0 then (0, nodeW k ks.length (n + 1) d, n + 1)
    else if (typesX cols ks [] (n + 1) (d + 1)).1 ≠ 0 then (0, (typesX cols ks [] (n + 1) (d + 1)).1, (typesX cols ks [] (n + 1) (d + 1)).2.2)
    else ((nodeT cols k v c (typesX cols ks [] (n + 1) (d + 1)).2.1).1, (nodeT cols k v c (typesX cols ks [] (n + 1) (d + 1)).2.1).2, (typesX cols ks [] (n + 1) (d + 1)).2.2)
def typesX (cols : List Int) : List Ex → List Int → Int → Int → Int × List Int × Int
  | [], acc, n, _ => (0, acc, n)
  | x :: r, acc, n, d =>
    if (typeX cols x n d).2.1 ≠ 0 then ((typeX cols x n d).2.1, acc, (typeX cols x n d).2.2)
    else typesX cols r (acc ++ [(typeX cols x n d).1]) (typeX cols x n d).2.2 d
end
mutual
def sizeX : Ex → Nat | .mk _ _ _ ks => 1 + sizesX ks
def sizesX : List Ex → Nat | [] => 0 | x :: r => sizeX x + sizesX r
end
mutual
def deepX : Ex → Nat | .mk _ _ _ ks => 1 + deepsX ks
def deepsX : List Ex → Nat | [] => 0 | x :: r => max (deepX x) (deepsX r)
end
mutual
/-- The type alone: nothing is counted. -/
def typP (cols : List Int) : Ex → Option Int
  | .mk k v c ks => if k < 1 ∨ 18 < k ∨ ks.length ≠ kidsN k then none else
    (typsP cols ks).bind fun ts => if (nodeT cols k v c ts).2 = 0 then some (nodeT cols k v c ts).1 else none
def typsP (cols : List Int) : List Ex → Option (List Int)
  | [] => some []
  | x :: r => (typP cols x).bind fun t => (typsP cols r).map fun ts => t :: ts
end

theorem sizeX_pos : ∀ x : Ex, 1 ≤ sizeX x | .mk _ _ _ ks => by rw [sizeX]; omega
theorem deepX_pos : ∀ x : Ex, 1 ≤ deepX x | .mk _ _ _ ks => by rw [deepX]; omega

theorem typesX_ok (cols : List Int) : ∀ (ks : List Ex), (∀ x ∈ ks, ∀ n d t n', typeX cols x n d = (t, 0, n') ↔ typP cols x = some t ∧ n' = n + sizeX x ∧ n' ≤ 200 ∧ d + deepX x ≤ 21) →
    ∀ acc n d ts n', n ≤ 200 → d ≤ 21 → (typesX cols ks acc n d = (0, acc ++ ts, n') ↔ typsP cols ks = some ts ∧ n' = n + sizesX ks ∧ n' ≤ 200 ∧ d + deepsX ks ≤ 21)
  | [], _, acc, n, d, ts, n', hn, hd => by
    simp only [typesX, typsP, sizesX, deepsX, Prod.mk.injEq, true_and, Option.some.injEq]
    constructor
    · rintro ⟨h, rfl⟩
      have : ts = [] := by simpa using h
      exact ⟨this.symm, by simp, hn, by simpa using hd⟩
    · rintro ⟨rfl, h, _⟩
      exact ⟨by simp, by simpa using h.symm⟩
  | x :: r, hx, acc, n, d, ts, n', hn, hd => by
    have ih := typesX_ok cols r (fun y hy => hx y (List.mem_cons_of_mem _ hy))
    have h0 := hx x (List.mem_cons_self ..) n d
    rcases hq : typeX cols x n d with ⟨t, e, m⟩
    rw [typesX, hq, typsP, sizesX, deepsX]
    have hs := sizeX_pos x
    by_cases he : e = 0
    · subst he
      have h1 := (h0 t m).1 hq
      obtain ⟨p1, p2, p3, p4⟩ := h1
      simp only [ne_eq, not_true, if_false, p1, Option.bind_some]
      constructor
      · intro h
        match ts, h with
        | [], h =>
          exfalso
          have := congrArg (fun z => z.2.1.length) h
          have hl : ∀ (l : List Ex) acc n d, (typesX cols l acc n d).1 = 0 → acc.length ≤ (typesX cols l acc n d).2.1.length := by
            intro l
            induction l with
            | nil => intro acc n d _; simp [typesX]
            | cons y l ihl =>
              intro acc n d h
              rw [typesX] at h ⊢
              split at h
              · rename_i hne
                exact absurd h hne
              · rename_i hne
                rw [if_neg hne]
                have := ihl _ _ _ h
                simp at this
                omega
          have h2 := hl r (acc ++ [t]) m d (by rw [h])
          rw [h] at h2
          simp at h2
          omega
        | u :: us, h =>
          have hu : u = t := by
            have hl : ∀ (l : List Ex) acc n d, (typesX cols l acc n d).1 = 0 → acc <+: (typesX cols l acc n d).2.1 := by
              intro l
              induction l with
              | nil => intro acc n d _; simp [typesX]
              | cons y l ihl =>
                intro acc n d h
                rw [typesX] at h ⊢
                split at h
                · rename_i hne
                  exact absurd h hne
                · rename_i hne
                  rw [if_neg hne]
                  exact (List.prefix_append _ _).trans (ihl _ _ _ h)
            have h2 := hl r (acc ++ [t]) m d (by rw [h])
            rw [h] at h2
            simp only [List.prefix_append_right_inj] at h2
            exact (List.cons_prefix_cons.mp h2).1.symm
          subst hu
          have h' : typesX cols r (acc ++ [u]) m d = (0, (acc ++ [u]) ++ us, n') := by simpa using h
          obtain ⟨q1, q2, q3, q4⟩ := (ih (acc ++ [u]) m d us n' p3 hd).1 h'
          refine ⟨by simp [q1], by omega, q3, by omega⟩
      · rintro ⟨q1, q2, q3, q4⟩
        rw [Option.map_eq_some_iff] at q1
        obtain ⟨us, q1, rfl⟩ := q1
        have := (ih (acc ++ [t]) m d us n' p3 hd).2 ⟨q1, by omega, q3, by omega⟩
        simpa using this
    · simp only [ne_eq, he, not_false_eq_true, if_true, Prod.mk.injEq, false_and, false_iff]
      rintro ⟨q1, q2, q3, q4⟩
      rw [Option.bind_eq_some_iff] at q1
      obtain ⟨u, q1, _⟩ := q1
      have := (h0 u (n + sizeX x)).2 ⟨q1, rfl, by omega, by omega⟩
      rw [hq] at this
      simp at this
      exact he this.2.1

theorem typeX_ok (cols : List Int) : ∀ x n d t n', typeX cols x n d = (t, 0, n') ↔ typP cols x = some t ∧ n' = n + sizeX x ∧ n' ≤ 200 ∧ d + deepX x ≤ 21 := by
  refine Ex.ind fun k v c ks ih n d t n' => ?_
  have hk := typesX_ok cols ks (fun x hx => ih x hx) [] (n + 1) (d + 1)
  rw [typeX, typP, sizeX, deepX]
  by_cases hw : nodeW k ks.length (n + 1) d = 0
  · have hw' : ¬ (200 < n + 1 ∨ 20 < d) ∧ ¬ (k < 1 ∨ 18 < k) ∧ ks.length = kidsN k := by
      unfold nodeW at hw
      by_cases h1 : 200 < n + 1 ∨ 20 < d
      · simp [h1] at hw
      by_cases h2 : k < 1 ∨ 18 < k
      · simp [h1, h2] at hw
      by_cases h3 : ks.length = kidsN k
      · exact ⟨h1, h2, h3⟩
      · simp [h1, h2, h3] at hw
    obtain ⟨h1, h2, h3⟩ := hw'
    rw [if_neg (by simp [hw]), if_neg (show ¬ (k < 1 ∨ 18 < k ∨ ks.length ≠ kidsN k) by simp [h3]; omega)]
    rcases hq : typesX cols ks [] (n + 1) (d + 1) with ⟨e, ts, m⟩
    by_cases he : e = 0
    · subst he
      obtain ⟨p1, p2, p3, p4⟩ := (hk ts m (by omega) (by omega)).1 (by simpa using hq)
      simp only [ne_eq, not_true, if_false, p1, Option.bind_some]
      by_cases hn : (nodeT cols k v c ts).2 = 0
      · simp only [hn, if_true, Prod.mk.injEq, true_and, Option.some.injEq]
        constructor
        · rintro ⟨rfl, rfl⟩
          exact ⟨rfl, by omega, p3, by omega⟩
        · rintro ⟨rfl, q2, q3, q4⟩
          exact ⟨rfl, by omega⟩
      · simp [hn]
    · simp only [ne_eq, he, not_false_eq_true, if_true, Prod.mk.injEq, false_and, and_false, false_iff]
      rintro ⟨q1, q2, q3, q4⟩
      rw [Option.bind_eq_some_iff] at q1
      obtain ⟨us, q1, _⟩ := q1
      have := (hk us (n + 1 + sizesX ks) (by omega) (by omega)).2 ⟨q1, rfl, by omega, by omega⟩
      rw [hq] at this
      simp at this
      exact he this.1
  · rw [if_pos hw]
    simp only [Prod.mk.injEq, hw, false_and, and_false, false_iff]
    rintro ⟨q1, q2, q3, q4⟩
    apply hw
    split at q1
    · simp at q1
    · rename_i hc
      unfold nodeW
      rw [if_neg (by omega), if_neg (by omega), if_neg (by simp; omega)]
/-- What the count is, where all goes well. -/
theorem typeX_n {cols : List Int} {x : Ex} {n d : Int} (h : (typeX cols x n d).2.1 = 0) : (typeX cols x n d).2.2 ≤ 200 ∧ n < (typeX cols x n d).2.2 := by
  have := (typeX_ok cols x n d (typeX cols x n d).1 (typeX cols x n d).2.2).1 (by rw [← h])
  have := sizeX_pos x
  omega
end Go.Proofs.Ytbdhmjojamoafaa
