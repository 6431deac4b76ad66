/- The statements of expressions as plain facts. No program in sight. -/
import Derived.Test.YtbdhmjojamoafaaX1
import Derived.Test.YtbdhmjojamoafaaOrd
namespace Go.Proofs.Ytbdhmjojamoafaa

/-! The whole answers. -/
def colsB (cols : List Int) : Bool := cols.all fun c => decide (1 ≤ c) && decide (c ≤ 4)
def typeTop (cols : List Int) (x : Ex) : Int × Int :=
  if 16 < cols.length then (0, 5) else if colsB cols = false then (0, 1) else if (typeX cols x 0 1).2.1 = 0 then ((typeX cols x 0 1).1, 0) else (0, (typeX cols x 0 1).2.1)
def evalX (cols : List Int) (x : Ex) (row : List Vl) : Vl × Int :=
  if (typeTop cols x).2 ≠ 0 then (vl0, (typeTop cols x).2) else if fitsL cols row ≠ 0 then (vl0, fitsL cols row) else (valX row x, 0)
/-- What Type says yes to. -/
structure Good (cols : List Int) (x : Ex) (t : Int) : Prop where
  few : cols.length ≤ 16
  fit : colsB cols = true
  ty : typP cols x = some t
  size : sizeX x ≤ 200
  deep : deepX x ≤ 20
theorem typeTop_ok (cols : List Int) (x : Ex) : (typeTop cols x).2 = 0 ↔ Good cols x (typeTop cols x).1 := by
  unfold typeTop
  by_cases h1 : 16 < cols.length
  · rw [if_pos h1]
    simp only [show ¬ (5 : Int) = 0 by decide, false_iff]
    exact fun h => absurd h.few (by omega)
  rw [if_neg h1]
  by_cases h2 : colsB cols = false
  · rw [if_pos h2]
    simp only [show ¬ (1 : Int) = 0 by decide, false_iff]
    exact fun h => absurd h.fit (by simp [h2])
  rw [if_neg h2]
  by_cases h3 : (typeX cols x 0 1).2.1 = 0
  · rw [if_pos h3]
    simp only [true_iff]
    obtain ⟨q1, q2, q3, q4⟩ := (typeX_ok cols x 0 1 (typeX cols x 0 1).1 (typeX cols x 0 1).2.2).1 (Prod.ext rfl (Prod.ext h3 rfl))
    exact ⟨by omega, by simpa using h2, q1, by omega, by omega⟩
  · rw [if_neg h3]
    simp only [h3, false_iff]
    intro h
    have := (typeX_ok cols x 0 1 0 (0 + sizeX x)).2 ⟨h.ty, rfl, by have := h.size; omega, by have := h.deep; omega⟩
    rw [this] at h3
    simp at h3
theorem Good.top {cols : List Int} {x : Ex} {t : Int} (h : Good cols x t) : typeTop cols x = (t, 0) := by
  have := (typeX_ok cols x 0 1 t (0 + sizeX x)).2 ⟨h.ty, rfl, by have := h.size; omega, by have := h.deep; omega⟩
  unfold typeTop
  rw [if_neg (by have := h.few; omega), if_neg (by simp [h.fit]), this]
  simp
theorem Good.eval {cols : List Int} {x : Ex} {t : Int} (h : Good cols x t) (row : List Vl) : evalX cols x row = if fitsL cols row ≠ 0 then (vl0, fitsL cols row) else (valX row x, 0) := by
  unfold evalX
  rw [h.top]
  simp
theorem evalX_ok {cols : List Int} {x : Ex} {row : List Vl} (h : (evalX cols x row).2 = 0) : Good cols x (typeTop cols x).1 ∧ FitP cols row ∧ evalX cols x row = (valX row x, 0) := by
  unfold evalX at h ⊢
  by_cases h1 : (typeTop cols x).2 = 0
  · rw [if_neg (by simp [h1])] at h ⊢
    by_cases h2 : fitsL cols row = 0
    · rw [if_neg (by simp [h2])]
      exact ⟨(typeTop_ok cols x).1 h1, (fitsL_ok cols row).1 h2, rfl⟩
    · rw [if_pos h2] at h
      exact absurd h h2
  · rw [if_pos h1] at h
    exact absurd h h1
theorem colsB_at {cols : List Int} (h : colsB cols = true) : ∀ i, i < cols.length → inT (cols.getD i 0) := by
  intro i hi
  unfold colsB at h
  rw [List.all_eq_true] at h
  have := h cols[i] (List.getElem_mem _)
  simp only [Bool.and_eq_true, decide_eq_true_eq] at this
  simpa [List.getD, hi, inT] using this

/-! WHAT IS WELL TYPED GOES NOT WRONG. -/
theorem typed_fact (cols : List Int) (x : Ex) (row : List Vl) :
    ((typeTop cols x).2 ≠ 0 → evalX cols x row = (vl0, (typeTop cols x).2)) ∧
    ((typeTop cols x).2 = 0 → (evalX cols x row).2 ≠ 0 → (evalX cols x row).1 = vl0) ∧
    ((evalX cols x row).2 = 0 → Of (typeTop cols x).1 (evalX cols x row).1) := by
  refine ⟨fun h => ?_, fun h hw => ?_, fun h => ?_⟩
  · unfold evalX; rw [if_pos h]
  · unfold evalX at hw ⊢
    rw [if_neg (by simp [h])] at hw ⊢
    by_cases h2 : fitsL cols row = 0
    · rw [if_neg (by simp [h2])] at hw
      simp at hw
    · rw [if_pos h2]
  · obtain ⟨g, f, e⟩ := evalX_ok h
    rw [e]
    exact valX_of f x _ g.ty

/-! Nodes that are put round others. -/
def mk1 (k : Int) (x : Ex) : Ex := .mk k vl0 0 [x]
def mk2 (k : Int) (x y : Ex) : Ex := .mk k vl0 0 [x, y]
def mk3 (k : Int) (x y z : Ex) : Ex := .mk k vl0 0 [x, y, z]
theorem size_mk1 (k : Int) (x : Ex) : sizeX (mk1 k x) = 1 + sizeX x := by simp [mk1, sizeX, sizesX]
theorem size_mk2 (k : Int) (x y : Ex) : sizeX (mk2 k x y) = 1 + sizeX x + sizeX y := by simp [mk2, sizeX, sizesX]; omega
theorem size_mk3 (k : Int) (x y z : Ex) : sizeX (mk3 k x y z) = 1 + sizeX x + sizeX y + sizeX z := by simp [mk3, sizeX, sizesX]; omega
theorem deep_mk1 (k : Int) (x : Ex) : deepX (mk1 k x) = 1 + deepX x := by simp [mk1, deepX, deepsX]
theorem deep_mk2 (k : Int) (x y : Ex) : deepX (mk2 k x y) = 1 + max (deepX x) (deepX y) := by simp [mk2, deepX, deepsX]
theorem deep_mk3 (k : Int) (x y z : Ex) : deepX (mk3 k x y z) = 1 + max (deepX x) (max (deepX y) (deepX z)) := by simp [mk3, deepX, deepsX]
theorem nodeT_kids {k : Int} (h : 3 ≤ k) (cols : List Int) (v : Vl) (c : Int) (ts : List Int) : nodeT cols k v c ts = resT (kidsT k ts) := by
  unfold nodeT
  rw [if_neg (by omega), if_neg (by omega)]
theorem typP_mk1 {cols : List Int} {k : Int} {x : Ex} {t : Int} (hk : k = 3 ∨ k = 16) : typP cols (mk1 k x) = some t ↔ ∃ tx, typP cols x = some tx ∧ kidsT k [tx] = some t := by
  have e : kidsN k = 1 := by rcases hk with rfl | rfl <;> rfl
  unfold mk1
  rw [typP, if_neg (by simp [e]; omega)]
  simp only [typsP, Option.map_some, Option.bind_eq_some_iff, Option.some.injEq]
  constructor
  · rintro ⟨ts, ⟨tx, h, rfl⟩, h2⟩
    refine ⟨tx, h, ?_⟩
    rw [nodeT_kids (by omega)] at h2
    cases hq : kidsT k [tx] with
    | none => rw [hq] at h2; simp [resT] at h2
    | some u => rw [hq] at h2; simpa [resT] using h2
  · rintro ⟨tx, h, h2⟩
    refine ⟨_, ⟨tx, h, rfl⟩, ?_⟩
    rw [nodeT_kids (by omega), h2]
    simp [resT]
theorem typP_mk2 {cols : List Int} {k : Int} {x y : Ex} {t : Int} (hk : 4 ≤ k) (hk' : k ≤ 15 ∨ k = 18) : typP cols (mk2 k x y) = some t ↔ ∃ tx ty, typP cols x = some tx ∧ typP cols y = some ty ∧ kidsT k [tx, ty] = some t := by
  have e : kidsN k = 2 := by unfold kidsN; rw [if_neg (by omega), if_neg (by omega), if_neg (by omega)]
  unfold mk2
  rw [typP, if_neg (by simp [e]; omega)]
  simp only [typsP, Option.map_some, Option.bind_eq_some_iff, Option.map_eq_some_iff]
  constructor
  · rintro ⟨ts, ⟨tx, h, us, ⟨ty, h', e'⟩, rfl⟩, h2⟩
    simp only [Option.some.injEq] at e'
    subst e'
    refine ⟨tx, ty, h, h', ?_⟩
    rw [nodeT_kids (by omega)] at h2
    cases hq : kidsT k [tx, ty] with
    | none => rw [hq] at h2; simp [resT] at h2
    | some u => rw [hq] at h2; simpa [resT] using h2
  · rintro ⟨tx, ty, h, h', h2⟩
    refine ⟨_, ⟨tx, h, _, ⟨ty, h', rfl⟩, rfl⟩, ?_⟩
    rw [nodeT_kids (by omega), h2]
    simp [resT]
theorem typP_mk3 {cols : List Int} {x y z : Ex} {t : Int} : typP cols (mk3 17 x y z) = some t → ∃ tx ty tz, typP cols x = some tx ∧ typP cols y = some ty ∧ typP cols z = some tz := by
  unfold mk3
  intro h
  obtain ⟨_, _, _, ts, h, _⟩ := typP_node h
  simp only [typsP, Option.map_some, Option.bind_eq_some_iff, Option.map_eq_some_iff] at h
  obtain ⟨tx, h, us, ⟨ty, h', us', ⟨tz, h'', _⟩, _⟩, _⟩ := h
  exact ⟨tx, ty, tz, h, h', h''⟩
theorem kidsT_cmp {k a b : Int} (h : 6 ≤ k) (h' : k ≤ 11) : kidsT k [a, b] = if (tog a b).isSome then some 2 else none := by
  unfold kidsT
  rw [if_neg (by omega), if_pos ⟨h, h'⟩]
  rfl
theorem val_mk1 (row : List Vl) (x : Ex) : valX row (mk1 3 x) = notP (valX row x) := by
  rw [mk1, valX, valsX, valsX]; rfl
theorem val_mk1n (row : List Vl) (x : Ex) : valX row (mk1 16 x) = tri (some ((valX row x).1 == 1)) := by
  rw [mk1, valX, valsX, valsX]; rfl
theorem val_mk2 (row : List Vl) {k : Int} (hk : 4 ≤ k) (hk' : k ≤ 15 ∨ k = 18) (x y : Ex) : valX row (mk2 k x y) = twoP k (valX row x) (valX row y) := by
  rw [mk2, valX, valsX, valsX, valsX]
  unfold nodeV
  rw [if_neg (by omega), if_neg (by omega), if_neg (by omega), if_neg (by omega), if_neg (by omega)]
  rfl
theorem val_mk3 (row : List Vl) (x y z : Ex) : valX row (mk3 17 x y z) = if clsP (valX row x) == some true then valX row y else valX row z := by
  rw [mk3, valX, valsX, valsX, valsX, valsX]; rfl

/-! COMPARISONS ARE EACH OTHER TURNED. -/
def askP (cols : List Int) (row : List Vl) (z : Ex) : Vl := if (evalX cols z row).2 ≠ 0 then (-1, 0, ⟨#[]⟩) else (evalX cols z row).1
theorem ask_good {cols : List Int} {z : Ex} {t : Int} (h : Good cols z t) (row : List Vl) : askP cols row z = if fitsL cols row ≠ 0 then (-1, 0, ⟨#[]⟩) else valX row z := by
  unfold askP
  rw [h.eval]
  by_cases h2 : fitsL cols row = 0
  · rw [h2]; rfl
  · rw [if_pos h2, if_pos h2, if_pos h2]
theorem not_not (o : Option Bool) : notP (notP (tri o)) = tri o := by rcases o with _ | _ | _ <;> rfl
theorem le_or (a b : Vl) : notP (ltP b a) = orP (ltP a b) (eqP a b) := by
  unfold ltP eqP ltT eqT
  have ht : tellB b.1 a.1 = tellB a.1 b.1 := by
    unfold tellB
    by_cases h : a.1 = b.1
    · simp [h]
    · have e1 : (a.1 == b.1) = false := by simpa using h
      have e2 : (b.1 == a.1) = false := by simpa using fun e : b.1 = a.1 => h e.symm
      rw [e1, e2]
      rfl
  rw [ht]
  cases h : tellB a.1 b.1
  · rfl
  · rw [if_pos rfl, if_pos rfl, if_pos rfl]
    rw [cmpV_neg b.1 b.2.1 a.1 a.2.1 b.2.2 a.2.2]
    generalize cmpV a.1 a.2.1 a.2.2 b.1 b.2.1 b.2.2 = m
    by_cases h1 : m < 0
    · have h2 : decide (-m < 0) = false := decide_eq_false (by omega)
      have h3 : decide (m < 0) = true := decide_eq_true h1
      rw [h2, h3]
      cases (m == 0) <;> rfl
    · by_cases h3 : m = 0
      · subst h3; rfl
      · have h2 : decide (-m < 0) = true := decide_eq_true (by omega)
        have h4 : (m == 0) = false := by simpa using h3
        have h5 : decide (m < 0) = false := decide_eq_false h1
        rw [h2, h4, h5]; rfl
theorem turned_fact (cols : List Int) (x y : Ex) (row : List Vl) (h : (typeTop cols (mk2 6 (mk2 6 x y) (mk2 6 x y))).2 = 0) :
    askP cols row (mk1 3 (mk2 8 x y)) = askP cols row (mk2 11 x y) ∧ askP cols row (mk1 3 (mk2 9 x y)) = askP cols row (mk2 10 x y) ∧
    askP cols row (mk1 3 (mk2 6 x y)) = askP cols row (mk2 7 x y) ∧ askP cols row (mk2 8 x y) = askP cols row (mk2 10 y x) ∧
    askP cols row (mk2 9 x y) = askP cols row (mk2 11 y x) ∧ askP cols row (mk2 9 x y) = askP cols row (mk2 5 (mk2 8 x y) (mk2 6 x y)) := by
  have g := (typeTop_ok _ _).1 h
  obtain ⟨g1, g2, g3, g4, g5⟩ := g
  rw [size_mk2, size_mk2] at g4
  rw [deep_mk2, deep_mk2] at g5
  obtain ⟨ta, tb, ha, _, _⟩ := (typP_mk2 (by omega) (by omega)).1 g3
  obtain ⟨tx, ty, hx, hy, hk⟩ := (typP_mk2 (by omega) (by omega)).1 ha
  have hs : (tog tx ty).isSome = true := by
    rw [kidsT_cmp (by omega) (by omega)] at hk
    by_cases h : (tog tx ty).isSome = true
    · exact h
    · rw [if_neg h] at hk; simp at hk
  have hs' : (tog ty tx).isSome = true := by
    unfold tog at hs ⊢
    by_cases e1 : tx = ty
    · simp [e1]
    · by_cases e2 : ty = 1
      · by_cases e3 : tx = 1
        · simp [e2, e3]
        · have e4 : ¬ 1 = tx := fun e => e3 e.symm
          simp [e2, e3, e4]
      · by_cases e3 : tx = 1
        · simp [e3]
        · simp [e1, e2, e3] at hs
  have c2 : ∀ k, 6 ≤ k → k ≤ 11 → typP cols (mk2 k x y) = some 2 := fun k q q' =>
    (typP_mk2 (by omega) (by omega)).2 ⟨tx, ty, hx, hy, by rw [kidsT_cmp q q', if_pos hs]⟩
  have c2' : ∀ k, 6 ≤ k → k ≤ 11 → typP cols (mk2 k y x) = some 2 := fun k q q' =>
    (typP_mk2 (by omega) (by omega)).2 ⟨ty, tx, hy, hx, by rw [kidsT_cmp q q', if_pos hs']⟩
  have G2 : ∀ k, 6 ≤ k → k ≤ 11 → Good cols (mk2 k x y) 2 := fun k q q' => ⟨g1, g2, c2 k q q', by rw [size_mk2]; omega, by rw [deep_mk2]; omega⟩
  have G2' : ∀ k, 6 ≤ k → k ≤ 11 → Good cols (mk2 k y x) 2 := fun k q q' => ⟨g1, g2, c2' k q q', by rw [size_mk2]; omega, by rw [deep_mk2]; omega⟩
  have G1 : ∀ k, 6 ≤ k → k ≤ 11 → Good cols (mk1 3 (mk2 k x y)) 2 := fun k q q' => ⟨g1, g2, (typP_mk1 (.inl rfl)).2 ⟨2, c2 k q q', rfl⟩, by rw [size_mk1, size_mk2]; omega, by rw [deep_mk1, deep_mk2]; omega⟩
  have G3 : Good cols (mk2 5 (mk2 8 x y) (mk2 6 x y)) 2 := ⟨g1, g2, (typP_mk2 (by omega) (by omega)).2 ⟨2, 2, c2 8 (by omega) (by omega), c2 6 (by omega) (by omega), rfl⟩, by rw [size_mk2, size_mk2, size_mk2]; omega, by rw [deep_mk2, deep_mk2, deep_mk2]; omega⟩
  rw [ask_good (G1 8 (by omega) (by omega)), ask_good (G1 9 (by omega) (by omega)), ask_good (G1 6 (by omega) (by omega)), ask_good (G2 11 (by omega) (by omega)), ask_good (G2 10 (by omega) (by omega)),
    ask_good (G2 7 (by omega) (by omega)), ask_good (G2 8 (by omega) (by omega)), ask_good (G2' 10 (by omega) (by omega)), ask_good (G2 9 (by omega) (by omega)), ask_good (G2' 11 (by omega) (by omega)), ask_good G3]
  by_cases hf : fitsL cols row = 0
  · simp only [hf, ne_eq, not_true, if_false, val_mk1]
    rw [val_mk2 row (by omega) (by omega), val_mk2 row (by omega) (by omega), val_mk2 row (by omega) (by omega), val_mk2 row (by omega) (by omega), val_mk2 row (by omega) (by omega), val_mk2 row (by omega) (by omega), val_mk2 row (by omega) (by omega), val_mk2 row (by omega) (by omega), val_mk2 row (by omega) (by omega)]
    refine ⟨rfl, not_not _, rfl, rfl, rfl, le_or _ _⟩
  · simp [hf]

/-! A COLUMN THAT IS NOT SPOKEN OF CHANGES NOTHING. -/
mutual
def usesX (j : Int) : Ex → Bool | .mk k _ c ks => (k == 2 && c == j) || usesL j ks
def usesL (j : Int) : List Ex → Bool | [] => false | x :: r => usesX j x || usesL j r
end
theorem usesL_any (j : Int) : ∀ ks, usesL j ks = ks.any (usesX j)
  | [] => rfl
  | x :: r => by rw [usesL, usesL_any j r]; rfl
theorem valX_uses {cols : List Int} {row : List Vl} {j : Int} {v : Vl} (hj : 0 ≤ j) : ∀ x t, typP cols x = some t → usesX j x = false → valX (row.set j.toNat v) x = valX row x := by
  refine Ex.ind fun k u c ks ih t h hu => ?_
  obtain ⟨h1, h18, hl, ts, hts, hn⟩ := typP_node h
  rw [usesX, usesL_any, Bool.or_eq_false_iff] at hu
  have e : valsX (row.set j.toNat v) ks = valsX row ks := by
    rw [valsX_map, valsX_map]
    refine List.map_congr_left fun x hx => ?_
    obtain ⟨i, hi, rfl⟩ := List.mem_iff_getElem.mp hx
    refine ih _ hx _ (typsP_at hts i hi) ?_
    have := List.any_eq_false.mp hu.2 _ hx
    simpa using this
  rw [valX, valX, e]
  by_cases h2 : k = 2
  · subst h2
    unfold nodeT at hn
    rw [if_neg (by decide), if_pos rfl] at hn
    obtain ⟨q0, q1, _⟩ := colT_ok hn
    have hc : ¬ j.toNat = c.toNat := by
      have := hu.1
      simp at this
      omega
    unfold nodeV
    simp [List.getD, List.getElem?_set_ne hc]
  · unfold nodeV
    simp only [h2, if_false]
theorem columns_fact (cols : List Int) (x : Ex) (row : List Vl) (k : Int) (v : Vl) (h : (evalX cols x row).2 = 0) (hk : 0 ≤ k) (hu : usesX k x = false) (hf : fitsL cols (row.set k.toNat v) = 0) :
    evalX cols x (row.set k.toNat v) = evalX cols x row := by
  obtain ⟨g, f, e⟩ := evalX_ok h
  rw [e, g.eval, hf, valX_uses hk x _ g.ty hu]
  simp

/-! WHO KNOWS MORE IS NOT CONTRADICTED. -/
mutual
def plainX : Ex → Bool | .mk k _ _ ks => decide (k < 16) && plainL ks
def plainL : List Ex → Bool | [] => true | x :: r => plainX x && plainL r
end
theorem plainL_all : ∀ ks, plainL ks = ks.all plainX
  | [] => rfl
  | x :: r => by rw [plainL, plainL_all r]; rfl
/-- Not known, or the same. -/
def Le (a b : Vl) : Prop := a.1 = 1 ∨ a = b
theorem Le.refl (a : Vl) : Le a a := .inr rfl
theorem le_tri {o p : Option Bool} (h : o = none ∨ o = p) : Le (tri o) (tri p) := by
  rcases h with rfl | rfl
  · left; rfl
  · right; rfl
theorem cls_le {a b : Vl} (h : Le a b) : clsP a = none ∨ clsP a = clsP b := by
  rcases h with h | rfl
  · left; unfold clsP cls; rw [if_neg (by omega)]
  · right; rfl
theorem and3_le {a b c d : Option Bool} (h : a = none ∨ a = c) (h' : b = none ∨ b = d) : and3 a b = none ∨ and3 a b = and3 c d := by
  rcases h with rfl | rfl <;> rcases h' with rfl | rfl
  · left; rfl
  · rcases b with _ | _ | _ <;> rcases c with _ | _ | _ <;> simp [and3]
  · rcases a with _ | _ | _ <;> rcases d with _ | _ | _ <;> simp [and3]
  · right; rfl
theorem or3_le {a b c d : Option Bool} (h : a = none ∨ a = c) (h' : b = none ∨ b = d) : or3 a b = none ∨ or3 a b = or3 c d := by
  rcases h with rfl | rfl <;> rcases h' with rfl | rfl
  · left; rfl
  · rcases b with _ | _ | _ <;> rcases c with _ | _ | _ <;> simp [or3]
  · rcases a with _ | _ | _ <;> rcases d with _ | _ | _ <;> simp [or3]
  · right; rfl
theorem tell_le {a b c d : Vl} (h : Le a c) (h' : Le b d) : tellB a.1 b.1 = false ∨ (a = c ∧ b = d) := by
  unfold tellB
  rcases h with h | rfl
  · left; simp [h]
  · rcases h' with h' | rfl
    · left
      by_cases q : a.1 = 1 <;> simp [h', q]
    · right; exact ⟨rfl, rfl⟩
theorem lt_le {a b c d : Vl} (h : Le a c) (h' : Le b d) : ltT a.1 a.2.1 a.2.2 b.1 b.2.1 b.2.2 = none ∨ ltT a.1 a.2.1 a.2.2 b.1 b.2.1 b.2.2 = ltT c.1 c.2.1 c.2.2 d.1 d.2.1 d.2.2 := by
  rcases tell_le h h' with q | ⟨rfl, rfl⟩
  · left; simp [ltT, q]
  · right; rfl
theorem eq_le {a b c d : Vl} (h : Le a c) (h' : Le b d) : eqT a.1 a.2.1 a.2.2 b.1 b.2.1 b.2.2 = none ∨ eqT a.1 a.2.1 a.2.2 b.1 b.2.1 b.2.2 = eqT c.1 c.2.1 c.2.2 d.1 d.2.1 d.2.2 := by
  rcases tell_le h h' with q | ⟨rfl, rfl⟩
  · left; simp [eqT, q]
  · right; rfl
theorem not_le {a c : Vl} (h : Le a c) : Le (notP a) (notP c) := by
  refine le_tri ?_
  rcases cls_le h with q | q <;> rw [q]
  · left; rfl
  · right; rfl
theorem rec_le (s : Int) {a b c d : Vl} (h : Le a c) (h' : Le b d) : Le (recP s a b) (recP s c d) := by
  rcases h with h | rfl
  · left; simp [recP, recO, numB, h, optK]
  · rcases h' with h' | rfl
    · left; simp [recP, recO, numB, h', optK]
    · exact .inr rfl
theorem join_le {a b c d : Vl} (h : Le a c) (h' : Le b d) : Le (joinP a b) (joinP c d) := by
  rcases h with h | rfl
  · left; simp [joinP, joinK, joinB, h]
  · rcases h' with h' | rfl
    · left; simp [joinP, joinK, joinB, h']
    · exact .inr rfl
theorem two_le {k : Int} (h4 : 4 ≤ k) (h15 : k ≤ 15) {a b c d : Vl} (h : Le a c) (h' : Le b d) : Le (twoP k a b) (twoP k c d) := by
  obtain rfl | rfl | rfl | rfl | rfl | rfl | rfl | rfl | rfl | rfl | rfl | rfl : k = 4 ∨ k = 5 ∨ k = 6 ∨ k = 7 ∨ k = 8 ∨ k = 9 ∨ k = 10 ∨ k = 11 ∨ k = 12 ∨ k = 13 ∨ k = 14 ∨ k = 15 := by omega
  · exact le_tri (and3_le (cls_le h) (cls_le h'))
  · exact le_tri (or3_le (cls_le h) (cls_le h'))
  · exact le_tri (eq_le h h')
  · exact not_le (le_tri (eq_le h h'))
  · exact le_tri (lt_le h h')
  · exact not_le (le_tri (lt_le h' h))
  · exact le_tri (lt_le h' h)
  · exact not_le (le_tri (lt_le h h'))
  · exact rec_le _ h h'
  · exact rec_le _ h h'
  · exact rec_le _ h h'
  · exact join_le h h'
theorem valX_know {cols : List Int} {row : List Vl} {j : Nat} {v : Vl} (hj : (row.getD j vl0).1 = 1) : ∀ x t, typP cols x = some t → plainX x = true → Le (valX row x) (valX (row.set j v) x) := by
  refine Ex.ind fun k u c ks ih t h hp => ?_
  obtain ⟨h1, h18, hl, ts, hts, hn⟩ := typP_node h
  rw [plainX, plainL_all, Bool.and_eq_true, decide_eq_true_eq, List.all_eq_true] at hp
  have e : ∀ i, i < ks.length → Le ((valsX row ks).getD i vl0) ((valsX (row.set j v) ks).getD i vl0) := by
    intro i hi
    rw [valsX_map, valsX_map]
    have := ih ks[i] (List.getElem_mem _) _ (typsP_at hts i hi) (hp.2 _ (List.getElem_mem _))
    simpa [List.getD, hi] using this
  rw [valX, valX]
  unfold nodeV
  by_cases k1 : k = 1
  · simp only [k1, if_true]; exact Le.refl _
  by_cases k2 : k = 2
  · subst k2
    simp only [show ¬ (2 : Int) = 1 by decide, if_false, if_true]
    by_cases q : j = c.toNat
    · left
      rw [← q]
      exact hj
    · right
      simp [List.getD, List.getElem?_set_ne q]
  by_cases k3 : k = 3
  · subst k3
    simp only [show ¬ (3 : Int) = 1 by decide, show ¬ (3 : Int) = 2 by decide, if_false, if_true]
    exact not_le (e 0 (by rw [hl]; decide))
  rw [if_neg k1, if_neg k2, if_neg k3, if_neg (by omega), if_neg (by omega), if_neg k1, if_neg k2, if_neg k3, if_neg (by omega), if_neg (by omega)]
  have l2 : ks.length = 2 := by rw [hl]; unfold kidsN; rw [if_neg (by omega), if_neg (by omega), if_neg (by omega)]
  exact two_le (by omega) (by omega) (e 0 (by omega)) (e 1 (by omega))
theorem know_fact (cols : List Int) (x : Ex) (row : List Vl) (k : Int) (v : Vl) (h : (evalX cols x row).2 = 0) (hn : (row.getD k.toNat vl0).1 = 1) (hp : plainX x = true) (hf : fitsL cols (row.set k.toNat v) = 0) :
    (evalX cols x (row.set k.toNat v)).2 = 0 ∧ Le (evalX cols x row).1 (evalX cols x (row.set k.toNat v)).1 := by
  obtain ⟨g, f, e⟩ := evalX_ok h
  rw [e, g.eval, hf]
  simp only [ne_eq, not_true, if_false, true_and]
  exact valX_know hn x _ g.ty hp

/-! WHO CHOOSES TAKES ONE. -/
theorem choose_fact (cols : List Int) (c x y : Ex) (row : List Vl) (h1 : (evalX cols (mk3 17 c x y) row).2 = 0) (h2 : (evalX cols (mk2 18 x y) row).2 = 0) (h3 : (evalX cols (mk3 17 (mk1 16 x) y x) row).2 = 0) :
    (evalX cols c row).2 = 0 ∧ (evalX cols x row).2 = 0 ∧ (evalX cols y row).2 = 0 ∧ wrongP (evalX cols c row).1 = 0 ∧
    (evalX cols (mk3 17 c x y) row).1 = (if clsP (evalX cols c row).1 == some true then (evalX cols x row).1 else (evalX cols y row).1) ∧
    (evalX cols (mk2 18 x y) row).1 = (if (evalX cols x row).1.1 = 1 then (evalX cols y row).1 else (evalX cols x row).1) ∧
    (evalX cols (mk3 17 (mk1 16 x) y x) row).1 = (if (evalX cols x row).1.1 = 1 then (evalX cols y row).1 else (evalX cols x row).1) := by
  obtain ⟨g, f, e1⟩ := evalX_ok h1
  obtain ⟨_, _, e2⟩ := evalX_ok h2
  obtain ⟨_, _, e3⟩ := evalX_ok h3
  obtain ⟨g1, g2, g3, g4, g5⟩ := g
  obtain ⟨tc, tx, ty, hc, hx, hy⟩ := typP_mk3 g3
  rw [size_mk3] at g4
  rw [deep_mk3] at g5
  have Gc : Good cols c tc := ⟨g1, g2, hc, by omega, by omega⟩
  have Gx : Good cols x tx := ⟨g1, g2, hx, by omega, by omega⟩
  have Gy : Good cols y ty := ⟨g1, g2, hy, by omega, by omega⟩
  have hf : fitsL cols row = 0 := (fitsL_ok _ _).2 f
  rw [e1, e2, e3, Gc.eval, Gx.eval, Gy.eval, hf]
  simp only [ne_eq, not_true, if_false, true_and]
  refine ⟨(valX_of f c _ hc).1, val_mk3 _ _ _ _, ?_, ?_⟩
  · rw [val_mk2 row (by omega) (by omega)]; rfl
  · rw [val_mk3, val_mk1n]
    by_cases q : (valX row x).1 = 1
    · rw [if_pos q]
      have : (clsP (tri (some ((valX row x).1 == 1))) == some true) = true := by rw [q]; rfl
      rw [if_pos this]
    · rw [if_neg q]
      have e : ((valX row x).1 == 1) = false := by simpa using q
      rw [e]; rfl
end Go.Proofs.Ytbdhmjojamoafaa
