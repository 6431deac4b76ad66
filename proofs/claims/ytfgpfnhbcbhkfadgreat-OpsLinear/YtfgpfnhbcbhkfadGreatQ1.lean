/- What is done with sets, plainly: conditions, filters, lists, pairs; sums over sets. No program in sight. -/
import Derived.Test.YtfgpfnhbcbhkfadGreatX2
import Derived.Test.YtfgpfnhbcbhkfadGreatForm
namespace Go.Proofs.YtfgpfnhbcbhkfadGreat

/-! ### What is wrong -/
def condE (cols : List Int) (x : Ex) : Int := if (typeTop cols x).2 ≠ 0 then (typeTop cols x).2 else if (typeTop cols x).1 ≠ 2 ∧ (typeTop cols x).1 ≠ 1 then 9 else 0
def fitsZ (cols : List Int) : List Zp → Int
  | [] => 0
  | x :: r => if fitsL cols x.1 = 0 then fitsZ cols r else fitsL cols x.1
def inpE (cols : List Int) (z : List Zp) : Int := if 8 < cols.length then 5 else if wrongZ z ≠ 0 then wrongZ z else fitsZ cols z
def typesE (cols : List Int) : List Ex → Int
  | [] => 0
  | x :: r => if (typeTop cols x).2 = 0 then typesE cols r else (typeTop cols x).2
def listE (cols : List Int) (xs : List Ex) : Int := if 8 < xs.length then 5 else typesE cols xs
theorem fitsZ_end (cols : List Int) (z : List Zp) (k : Nat) (h : z.length ≤ k) : fitsZ cols (z.drop k) = 0 := by rw [List.drop_eq_nil_of_le h]; rfl
theorem fitsZ_bad (cols : List Int) (z : List Zp) (k : Nat) (h : k < z.length) (e : ¬ fitsL cols z[k].1 = 0) : fitsZ cols (z.drop k) = fitsL cols z[k].1 := by
  rw [List.drop_eq_getElem_cons h, fitsZ, if_neg e]
theorem fitsZ_next (cols : List Int) (z : List Zp) (k : Nat) (h : k < z.length) (e : fitsL cols z[k].1 = 0) : fitsZ cols (z.drop k) = fitsZ cols (z.drop (k + 1)) := by
  rw [List.drop_eq_getElem_cons h, fitsZ, if_pos e]
theorem typesE_end (cols : List Int) (z : List Ex) (k : Nat) (h : z.length ≤ k) : typesE cols (z.drop k) = 0 := by rw [List.drop_eq_nil_of_le h]; rfl
theorem typesE_bad (cols : List Int) (z : List Ex) (k : Nat) (h : k < z.length) (e : ¬ (typeTop cols z[k]).2 = 0) : typesE cols (z.drop k) = (typeTop cols z[k]).2 := by
  rw [List.drop_eq_getElem_cons h, typesE, if_neg e]
theorem typesE_next (cols : List Int) (z : List Ex) (k : Nat) (h : k < z.length) (e : (typeTop cols z[k]).2 = 0) : typesE cols (z.drop k) = typesE cols (z.drop (k + 1)) := by
  rw [List.drop_eq_getElem_cons h, typesE, if_pos e]
theorem fitsZ_ok (cols : List Int) : ∀ z : List Zp, fitsZ cols z = 0 ↔ ∀ x ∈ z, FitP cols x.1
  | [] => by simp [fitsZ]
  | x :: r => by
    have ih := fitsZ_ok cols r
    rw [fitsZ]
    by_cases h : fitsL cols x.1 = 0
    · rw [if_pos h, ih]
      simp [(fitsL_ok cols x.1).1 h]
    · rw [if_neg h]
      constructor
      · intro e; exact absurd e h
      · intro e; exact absurd ((fitsL_ok cols x.1).2 (e x (by simp))) h
theorem typesE_ok (cols : List Int) : ∀ z : List Ex, typesE cols z = 0 ↔ ∀ x ∈ z, (typeTop cols x).2 = 0
  | [] => by simp [typesE]
  | x :: r => by
    have ih := typesE_ok cols r
    rw [typesE]
    by_cases h : (typeTop cols x).2 = 0
    · rw [if_pos h, ih]
      simp [h]
    · rw [if_neg h]
      simp [h]
structure InpOk (cols : List Int) (z : List Zp) : Prop where
  cols8 : cols.length ≤ 8
  set : wrongZ z = 0
  fit : ∀ x ∈ z, FitP cols x.1
theorem inpE_ok (cols : List Int) (z : List Zp) : inpE cols z = 0 ↔ InpOk cols z := by
  unfold inpE
  by_cases h8 : 8 < cols.length
  · rw [if_pos h8]
    constructor
    · intro h; omega
    · rintro ⟨h, _, _⟩; omega
  · rw [if_neg h8]
    by_cases hw : wrongZ z = 0
    · rw [if_neg (by simpa using hw), fitsZ_ok]
      exact ⟨fun h => ⟨by omega, hw, h⟩, fun h => h.fit⟩
    · rw [if_pos (by simpa using hw)]
      exact ⟨fun h => absurd h hw, fun h => h.set⟩
theorem condE_ok {cols : List Int} {x : Ex} (h : condE cols x = 0) : (typeTop cols x).2 = 0 ∧ ((typeTop cols x).1 = 1 ∨ (typeTop cols x).1 = 2) := by
  unfold condE at h
  by_cases h1 : (typeTop cols x).2 = 0
  · rw [if_neg (by simpa using h1)] at h
    by_cases h2 : (typeTop cols x).1 ≠ 2 ∧ (typeTop cols x).1 ≠ 1
    · rw [if_pos h2] at h; omega
    · exact ⟨h1, by omega⟩
  · rw [if_pos h1] at h
    exact absurd h h1
theorem typ_of {cols : List Int} {x : Ex} (h : (typeTop cols x).2 = 0) : typP cols x = some (typeTop cols x).1 := ((typeTop_ok cols x).1 h).ty

/-! ### What expressions come to hangs on bare rows alone -/
theorem getD_bare (row : List Vl) (i : Nat) : bareP (row.getD i vl0) = (bareL row).getD i vl0 := by
  simp only [bareL, List.getD, List.getElem?_map]
  cases row[i]? <;> rfl
theorem valX_bare (row row' : List Vl) (h : bareL row = bareL row') : ∀ x, valX row x = valX row' x := by
  refine Ex.ind fun k v c ks ih => ?_
  have e : valsX row ks = valsX row' ks := by
    rw [valsX_map, valsX_map]
    exact List.map_congr_left ih
  rw [valX, valX, e]
  unfold nodeV
  rw [getD_bare, getD_bare, h]
theorem valX_same {row row' : List Vl} (h : cmpL row row' = 0) (x : Ex) : valX row x = valX row' x := valX_bare row row' (bareL_of h) x
def holdsP (x : Ex) (row : List Vl) : Bool := clsP (valX row x) == some true
def rowX (xs : List Ex) (row : List Vl) : List Vl := xs.map (valX row)
theorem holds_same {row row' : List Vl} (h : cmpL row row' = 0) (x : Ex) : holdsP x row = holdsP x row' := by unfold holdsP; rw [valX_same h]
theorem rowX_same {row row' : List Vl} (h : cmpL row row' = 0) (xs : List Ex) : rowX xs row = rowX xs row' := List.map_congr_left fun x _ => valX_same h x
theorem cmpL_append {a a' b b' : List Vl} (h : cmpL a a' = 0) (k : cmpL b b' = 0) : cmpL (a ++ b) (a' ++ b') = 0 := by
  have e : bareL (a ++ b) = bareL (a' ++ b') := by
    have h1 := bareL_of h
    have h2 := bareL_of k
    unfold bareL at *
    rw [List.map_append, List.map_append, h1, h2]
  rw [← cmpL_bare, ← cmpL_bareR, e]
  exact cmpL_refl _

/-! ### Sums over sets -/
def tot (g : List Vl → Int) : List Zp → Int
  | [] => 0
  | x :: r => g x.1 * x.2 + tot g r
def Resp {β : Type} (g : List Vl → β) : Prop := ∀ a b, cmpL a b = 0 → g a = g b
theorem tot_append (g : List Vl → Int) (l t : List Zp) : tot g (l ++ t) = tot g l + tot g t := by
  induction l with
  | nil => simp [tot]
  | cons x r ih => rw [List.cons_append, tot, tot, ih]; omega
theorem tot_put {g : List Vl → Int} (hg : Resp g) (r : List Vl) (w : Int) : ∀ z : List Zp, tot g (putL z r w) = tot g z + g r * w
  | [] => by
    have e : g (bareL r) = g r := hg _ _ (by rw [cmpL_bare]; exact cmpL_refl r)
    unfold putL
    split
    · rename_i h; subst h; simp [tot]
    · simp [tot, e]
  | x :: t => by
    have ih := tot_put hg r w t
    have e : g (bareL r) = g r := hg _ _ (by rw [cmpL_bare]; exact cmpL_refl r)
    unfold putL
    split
    · rw [tot, ih, tot]; omega
    · split
      · rename_i c
        have e2 : g x.1 = g r := hg _ _ c
        split
        · rename_i h0
          rw [tot, e2]
          have : g r * (w + x.2) = 0 := by rw [h0, Int.mul_zero]
          rw [Int.mul_add] at this
          omega
        · rw [tot, tot, e, e2, Int.mul_add]
          omega
      · split
        · rename_i h0; subst h0; simp
        · simp only [tot, e]; omega
theorem tot_canonF {g : List Vl → Int} (hg : Resp g) (l : List Zp) : ∀ z : List Zp, tot g (l.foldl (fun z x => putL z x.1 x.2) z) = tot g z + tot g l := by
  induction l with
  | nil => intro z; simp [tot]
  | cons x r ih => intro z; rw [List.foldl_cons, ih, tot_put hg, tot]; omega
theorem tot_canon {g : List Vl → Int} (hg : Resp g) (l : List Zp) : tot g (canon l) = tot g l := by
  unfold canon
  rw [tot_canonF hg]
  simp [tot]
theorem wt_tot (q : List Vl) (l : List Zp) : wt l q = tot (fun r => if cmpL r q = 0 then 1 else 0) l := by
  induction l with
  | nil => rfl
  | cons x r ih =>
    rw [wt, tot, ih]
    split <;> simp
theorem resp_at (q : List Vl) : Resp (fun r => if cmpL r q = 0 then (1 : Int) else 0) := fun a b h => by simp only [cmpL_left h]
theorem tot_congr {g g' : List Vl → Int} {l : List Zp} (h : ∀ x ∈ l, g x.1 = g' x.1) : tot g l = tot g' l := by
  induction l with
  | nil => rfl
  | cons x r ih => rw [tot, tot, h x (by simp), ih (fun y hy => h y (by simp [hy]))]
theorem tot_add (g g' : List Vl → Int) (l : List Zp) : tot (fun r => g r + g' r) l = tot g l + tot g' l := by
  induction l with
  | nil => rfl
  | cons x r ih => rw [tot, tot, tot, ih, Int.add_mul]; omega
theorem tot_zero (l : List Zp) : tot (fun _ => 0) l = 0 := by
  induction l with
  | nil => rfl
  | cons x r ih => rw [tot, ih]; simp
theorem tot_set {a b : List Zp} (h : ∀ q, wt a q = wt b q) {g : List Vl → Int} (hg : Resp g) : tot g a = tot g b := by
  rw [← tot_canon hg a, ← tot_canon hg b, canon_congr h]

/-! ### Filters and maps -/
def filtL (x : Ex) (z : List Zp) : List Zp := z.filter fun p => holdsP x p.1
def mapL (xs : List Ex) (z : List Zp) : List Zp := z.map fun p => (rowX xs p.1, p.2)
theorem wt_filter (p : List Vl → Bool) (hp : Resp p) (q : List Vl) (l : List Zp) : wt (l.filter fun x => p x.1) q = if p q then wt l q else 0 := by
  induction l with
  | nil => simp [wt]
  | cons x r ih =>
    rw [List.filter_cons]
    by_cases c : cmpL x.1 q = 0
    · have e := hp _ _ c
      by_cases h : p x.1 = true
      · rw [if_pos h, wt, wt, ih]
        rw [e] at h
        rw [if_pos h, if_pos h]
      · rw [if_neg h, ih]
        rw [e] at h
        rw [if_neg h, if_neg h]
    · by_cases h : p x.1 = true
      · rw [if_pos h, wt, if_neg c, ih, wt, if_neg c]; simp
      · rw [if_neg h, ih, wt, if_neg c]; simp
theorem resp_holds (x : Ex) : Resp (holdsP x) := fun _ _ h => holds_same h x
theorem wt_map (xs : List Ex) (q : List Vl) (l : List Zp) : wt (mapL xs l) q = tot (fun r => if cmpL (rowX xs r) q = 0 then 1 else 0) l := by
  induction l with
  | nil => rfl
  | cons x r ih =>
    show wt ((rowX xs x.1, x.2) :: mapL xs r) q = _
    rw [wt, tot, ih]
    split <;> simp
theorem resp_map (xs : List Ex) (q : List Vl) : Resp (fun r => if cmpL (rowX xs r) q = 0 then (1 : Int) else 0) := fun a b h => by simp only [rowX_same h]
theorem canon_rise {l : List Zp} (h : Rise l) : canon l = weighL (fun w => w) l :=
  (canon_of (weighL_set _ _ h) fun q => weighL_wt (fun w => w) rfl q l h).symm
/-- Some rows of a right set make a set. -/
theorem gather_sub {z l : List Zp} (hz : wrongZ z = 0) (hl : l.Sublist z) : gatherE l = 0 := by
  obtain ⟨h1, h2, h3⟩ := (wrongZ_iff z).1 hz
  have hr : Rise l := h3.sublist hl
  have e := canon_rise hr
  have o : outW (canon l) = false := by
    rw [e, outW_weigh]
    exact outW_ok fun j hj => (h2 _ (hl.subset (List.getElem_mem hj))).2.2
  have n : (canon l).length ≤ 400 := by
    rw [e]
    have := weighL_len (fun w => w) l
    have := hl.length_le
    omega
  unfold gatherE
  rw [o, if_neg (by decide), if_neg (by omega)]
theorem filt_gather {z : List Zp} (hz : wrongZ z = 0) (p : Zp → Bool) : gatherE (z.filter p) = 0 := gather_sub hz List.filter_sublist
def filtE (cols : List Int) (x : Ex) (z : List Zp) : Int := if condE cols x ≠ 0 then condE cols x else if inpE cols z ≠ 0 then inpE cols z else 0
def filtZ (cols : List Int) (x : Ex) (z : List Zp) : List Zp := if filtE cols x z = 0 then canon (filtL x z) else []
def mapE (cols : List Int) (xs : List Ex) (z : List Zp) : Int := if listE cols xs ≠ 0 then listE cols xs else if inpE cols z ≠ 0 then inpE cols z else gatherE (mapL xs z)
def mapZ (cols : List Int) (xs : List Ex) (z : List Zp) : List Zp := if mapE cols xs z = 0 then canon (mapL xs z) else []
theorem filtE_ok {cols : List Int} {x : Ex} {z : List Zp} (h : filtE cols x z = 0) : condE cols x = 0 ∧ InpOk cols z := by
  unfold filtE at h
  by_cases h1 : condE cols x = 0
  · rw [if_neg (by simpa using h1)] at h
    by_cases h2 : inpE cols z = 0
    · exact ⟨h1, (inpE_ok _ _).1 h2⟩
    · rw [if_pos h2] at h; exact absurd h h2
  · rw [if_pos h1] at h; exact absurd h h1
theorem mapE_ok {cols : List Int} {xs : List Ex} {z : List Zp} (h : mapE cols xs z = 0) : listE cols xs = 0 ∧ InpOk cols z ∧ gatherE (mapL xs z) = 0 := by
  unfold mapE at h
  by_cases h1 : listE cols xs = 0
  · rw [if_neg (by simpa using h1)] at h
    by_cases h2 : inpE cols z = 0
    · rw [if_neg (by simpa using h2)] at h
      exact ⟨h1, (inpE_ok _ _).1 h2, h⟩
    · rw [if_pos h2] at h; exact absurd h h2
  · rw [if_pos h1] at h; exact absurd h h1
theorem listE_ok {cols : List Int} {xs : List Ex} (h : listE cols xs = 0) : xs.length ≤ 8 ∧ ∀ x ∈ xs, (typeTop cols x).2 = 0 := by
  unfold listE at h
  by_cases h8 : 8 < xs.length
  · rw [if_pos h8] at h; omega
  · rw [if_neg h8, typesE_ok] at h
    exact ⟨by omega, h⟩
theorem filtZ_wt {cols : List Int} {x : Ex} {z : List Zp} (h : filtE cols x z = 0) (q : List Vl) : wt (filtZ cols x z) q = if holdsP x q then wt z q else 0 := by
  unfold filtZ filtL
  rw [if_pos h, canon_wt, wt_filter _ (resp_holds x)]
theorem filtZ_set {cols : List Int} {x : Ex} {z : List Zp} (h : filtE cols x z = 0) : IsSet (filtZ cols x z) := by unfold filtZ; rw [if_pos h]; exact canon_set _
theorem mapZ_wt {cols : List Int} {xs : List Ex} {z : List Zp} (h : mapE cols xs z = 0) (q : List Vl) : wt (mapZ cols xs z) q = tot (fun r => if cmpL (rowX xs r) q = 0 then 1 else 0) z := by
  unfold mapZ
  rw [if_pos h, canon_wt, wt_map]
theorem mapZ_set {cols : List Int} {xs : List Ex} {z : List Zp} (h : mapE cols xs z = 0) : IsSet (mapZ cols xs z) := by unfold mapZ; rw [if_pos h]; exact canon_set _
theorem holds_and (x y : Ex) (row : List Vl) : holdsP (mk2 4 x y) row = (holdsP x row && holdsP y row) := by
  unfold holdsP
  rw [val_mk2 row (by omega) (by omega)]
  show (clsP (tri (and3 _ _)) == some true) = _
  rcases h1 : clsP (valX row x) with _ | _ | _ <;> rcases h2 : clsP (valX row y) with _ | _ | _ <;> rfl
/-- One filter and another one are one by both; a filter twice is one. -/
theorem once_fact (cols : List Int) (x y : Ex) (z : List Zp) (h1 : filtE cols x z = 0) (h2 : filtE cols y (filtZ cols x z) = 0) (h3 : filtE cols x (filtZ cols x z) = 0) (h4 : filtE cols (mk2 4 x y) z = 0) :
    filtZ cols y (filtZ cols x z) = filtZ cols (mk2 4 x y) z ∧ filtZ cols x z = filtZ cols x (filtZ cols x z) := by
  refine ⟨set_unique _ _ (filtZ_set h2) (filtZ_set h4) fun q => ?_, set_unique _ _ (filtZ_set h1) (filtZ_set h3) fun q => ?_⟩
  · rw [filtZ_wt h2, filtZ_wt h1, filtZ_wt h4, holds_and]
    cases holdsP x q <;> cases holdsP y q <;> rfl
  · rw [filtZ_wt h3, filtZ_wt h1]
    cases holdsP x q <;> rfl
end Go.Proofs.YtfgpfnhbcbhkfadGreat
