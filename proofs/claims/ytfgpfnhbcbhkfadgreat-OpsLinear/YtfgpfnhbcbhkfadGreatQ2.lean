/- Sums of filters, maps and pairs, plainly. No program in sight. -/
import Derived.Test.YtfgpfnhbcbhkfadGreatQ1
import Derived.Test.YtfgpfnhbcbhkfadGreatZG
namespace Go.Proofs.YtfgpfnhbcbhkfadGreat

/-- What two right sets make together, once it is known. -/
theorem plus_of {p q r : List Zp} (hp : wrongZ p = 0) (hq : wrongZ q = 0) (hs : IsSet r) (hr : wrongZ r = 0) (e : ∀ k, wt r k = wt p k + wt q k) : bothE 1 p q = 0 ∧ bothZ 1 p q = r := by
  have rq := ((wrongZ_iff q).1 hq).2.2
  have er : r = canon (p ++ weighL (timesF 1) q) := canon_of hs fun k => by
    rw [e, wt_append, weighL_wt (timesF 1) (by simp [timesF]) k q rq]
    simp [timesF]
  obtain ⟨r1, r2, _⟩ := (wrongZ_iff r).1 hr
  have g : gatherE (p ++ weighL (timesF 1) q) = 0 := by
    unfold gatherE
    rw [← er, outW_ok (fun j hj => (r2 _ (List.getElem_mem hj)).2.2), if_neg (by decide), if_neg (by omega)]
  have b : bothE 1 p q = 0 := by unfold bothE; rw [if_pos hp, if_pos hq, g]
  exact ⟨b, by unfold bothZ; rw [if_pos b, ← er]⟩
theorem bothE_ok {p q : List Zp} (h : bothE 1 p q = 0) : wrongZ p = 0 ∧ wrongZ q = 0 ∧ IsSet (bothZ 1 p q) ∧ ∀ k, wt (bothZ 1 p q) k = wt p k + wt q k := by
  have hz := h
  unfold bothE at hz
  by_cases hp : wrongZ p = 0
  · rw [if_pos hp] at hz
    by_cases hq : wrongZ q = 0
    · have rq := ((wrongZ_iff q).1 hq).2.2
      refine ⟨hp, hq, ?_, fun k => ?_⟩
      · unfold bothZ; rw [if_pos h]; exact canon_set _
      · unfold bothZ
        rw [if_pos h, canon_wt, wt_append, weighL_wt (timesF 1) (by simp [timesF]) k q rq]
        simp [timesF]
    · rw [if_neg hq] at hz; exact absurd hz hq
  · rw [if_neg hp] at hz; exact absurd hz hp
theorem tot_lin {s a b : List Zp} (e : ∀ k, wt s k = wt a k + wt b k) {g : List Vl → Int} (hg : Resp g) : tot g s = tot g a + tot g b := by
  rw [← tot_append]
  exact tot_set (fun k => by rw [e, wt_append]) hg
theorem right_rows {cols : List Int} {xs : List Ex} {z : List Zp} (hl : listE cols xs = 0) (hz : InpOk cols z) : ∀ x ∈ mapL xs z, wrongRowF x.1 = 0 := by
  intro x hx
  obtain ⟨p, hp, rfl⟩ := List.mem_map.1 hx
  obtain ⟨l8, lt⟩ := listE_ok hl
  rw [wrongRowF_zero]
  refine ⟨by simpa [rowX] using l8, ?_⟩
  unfold rightB rowX
  rw [List.all_map, List.all_eq_true]
  intro e he
  have := (valX_of (hz.fit p hp) e _ (typ_of (lt e he))).1
  simpa [wrongP] using this
theorem wrong_filt {cols : List Int} {x : Ex} {z : List Zp} (h : filtE cols x z = 0) : wrongZ (filtZ cols x z) = 0 := by
  have hz := (filtE_ok h).2
  unfold filtZ
  rw [if_pos h]
  exact wrong_canon (fun y hy => (((wrongZ_iff z).1 hz.set).2.1 y (List.mem_filter.1 hy).1).1) (filt_gather hz.set _)
theorem wrong_map {cols : List Int} {xs : List Ex} {z : List Zp} (h : mapE cols xs z = 0) : wrongZ (mapZ cols xs z) = 0 := by
  obtain ⟨h1, h2, h3⟩ := mapE_ok h
  unfold mapZ
  rw [if_pos h]
  exact wrong_canon (right_rows h1 h2) h3
theorem linear_filt {cols : List Int} {x : Ex} {a b : List Zp} (h : bothE 1 a b = 0) (ha : filtE cols x a = 0) (hb : filtE cols x b = 0) (hs : filtE cols x (bothZ 1 a b) = 0) :
    bothE 1 (filtZ cols x a) (filtZ cols x b) = 0 ∧ bothZ 1 (filtZ cols x a) (filtZ cols x b) = filtZ cols x (bothZ 1 a b) :=
  plus_of (wrong_filt ha) (wrong_filt hb) (filtZ_set hs) (wrong_filt hs) fun k => by
    rw [filtZ_wt hs, filtZ_wt ha, filtZ_wt hb, (bothE_ok h).2.2.2]
    split <;> simp
theorem linear_map {cols : List Int} {xs : List Ex} {a b : List Zp} (h : bothE 1 a b = 0) (ha : mapE cols xs a = 0) (hb : mapE cols xs b = 0) (hs : mapE cols xs (bothZ 1 a b) = 0) :
    bothE 1 (mapZ cols xs a) (mapZ cols xs b) = 0 ∧ bothZ 1 (mapZ cols xs a) (mapZ cols xs b) = mapZ cols xs (bothZ 1 a b) :=
  plus_of (wrong_map ha) (wrong_map hb) (mapZ_set hs) (wrong_map hs) fun k => by
    rw [mapZ_wt hs, mapZ_wt ha, mapZ_wt hb]
    exact tot_lin (bothE_ok h).2.2.2 (resp_map xs k)

/-! ### Pairs -/
def nulls (n : Nat) : List Vl := List.replicate n (1, 0, ⟨#[]⟩)
def pairsOf (x : Ex) (p : Zp) (b : List Zp) : List Zp := (b.filter fun q => holdsP x (p.1 ++ q.1)).map fun q => (p.1 ++ q.1, p.2 * q.2)
def joinL (x : Ex) (a b : List Zp) : List Zp := a.flatMap fun p => pairsOf x p b
def hasP (x : Ex) (b : List Zp) (row : List Vl) : Bool := b.any fun q => decide (0 < q.2) && holdsP x (row ++ q.1)
def semiL (x : Ex) (a b : List Zp) : List Zp := a.filter fun p => hasP x b p.1
def antiL (x : Ex) (a b : List Zp) : List Zp := a.filter fun p => !hasP x b p.1
def wideL (n : Nat) (z : List Zp) : List Zp := z.map fun p => (p.1 ++ nulls n, p.2)
def leftL (x : Ex) (n : Nat) (a b : List Zp) : List Zp := joinL x a b ++ wideL n (antiL x a b)
def twoE (l r : List Int) (x : Ex) (a b : List Zp) : Int := if 8 < l.length + r.length then 5 else if condE (l ++ r) x ≠ 0 then condE (l ++ r) x else if inpE l a ≠ 0 then inpE l a else inpE r b
structure TwoOk (l r : List Int) (x : Ex) (a b : List Zp) : Prop where
  len : l.length + r.length ≤ 8
  cond : condE (l ++ r) x = 0
  left : InpOk l a
  right : InpOk r b
theorem twoE_ok (l r : List Int) (x : Ex) (a b : List Zp) : twoE l r x a b = 0 ↔ TwoOk l r x a b := by
  unfold twoE
  by_cases h8 : 8 < l.length + r.length
  · rw [if_pos h8]
    constructor
    · intro h; omega
    · intro h; have := h.len; omega
  · rw [if_neg h8]
    by_cases h1 : condE (l ++ r) x = 0
    · rw [if_neg (by simpa using h1)]
      by_cases h2 : inpE l a = 0
      · rw [if_neg (by simpa using h2), inpE_ok]
        exact ⟨fun h => ⟨by omega, h1, (inpE_ok _ _).1 h2, h⟩, fun h => h.right⟩
      · rw [if_pos h2]
        exact ⟨fun h => absurd h h2, fun h => absurd ((inpE_ok _ _).2 h.left) h2⟩
    · rw [if_pos h1]
      exact ⟨fun h => absurd h h1, fun h => absurd h.cond h1⟩
def nameL (what : Nat) (n : Nat) (x : Ex) (a b : List Zp) : List Zp := if what = 0 then joinL x a b else if what = 1 then semiL x a b else if what = 2 then antiL x a b else leftL x n a b
def pairE (what : Nat) (l r : List Int) (x : Ex) (a b : List Zp) : Int := if twoE l r x a b ≠ 0 then twoE l r x a b else gatherE (nameL what r.length x a b)
def pairZ (what : Nat) (l r : List Int) (x : Ex) (a b : List Zp) : List Zp := if pairE what l r x a b = 0 then canon (nameL what r.length x a b) else []
theorem pairE_ok {what : Nat} {l r : List Int} {x : Ex} {a b : List Zp} (h : pairE what l r x a b = 0) : TwoOk l r x a b ∧ gatherE (nameL what r.length x a b) = 0 := by
  unfold pairE at h
  by_cases h1 : twoE l r x a b = 0
  · rw [if_neg (by simpa using h1)] at h
    exact ⟨(twoE_ok ..).1 h1, h⟩
  · rw [if_pos h1] at h; exact absurd h h1

theorem fit_append {l r : List Int} {u v : List Vl} (h : FitP l u) (k : FitP r v) : FitP (l ++ r) (u ++ v) := by
  have h1 := h.len
  have k1 := k.len
  refine ⟨by simp [h1, k1], fun i hi => ?_⟩
  by_cases c : i < u.length
  · rw [List.getElem_append_left c]
    have := h.one i c
    have e : (l ++ r).getD i 0 = l.getD i 0 := by simp only [List.getD]; rw [List.getElem?_append_left (by omega)]
    rwa [e]
  · have hi' : i - u.length < v.length := by simp at hi; omega
    rw [List.getElem_append_right (by omega)]
    have := k.one (i - u.length) hi'
    have e : (l ++ r).getD i 0 = r.getD (i - u.length) 0 := by simp only [List.getD]; rw [List.getElem?_append_right (by omega), h1]
    rwa [e]
theorem fit_right {cols : List Int} {row : List Vl} (h : FitP cols row) : rightB row = true := by
  unfold rightB
  rw [List.all_eq_true]
  intro v hv
  obtain ⟨i, hi, rfl⟩ := List.getElem_of_mem hv
  simpa [wrongP] using (h.one i hi).1
theorem fit_row {cols : List Int} {row : List Vl} (h : FitP cols row) (h8 : cols.length ≤ 8) : wrongRowF row = 0 := (wrongRowF_zero row).2 ⟨by have := h.len; omega, fit_right h⟩

theorem pairsOf_tot (x : Ex) (p : Zp) (q : List Vl) (b : List Zp) : wt (pairsOf x p b) q = tot (fun s => if holdsP x (p.1 ++ s) = true ∧ cmpL (p.1 ++ s) q = 0 then 1 else 0) b * p.2 := by
  induction b with
  | nil => simp [pairsOf, wt, tot]
  | cons y t ih =>
    unfold pairsOf at ih ⊢
    rw [tot, Int.add_mul, ← ih, List.filter_cons]
    by_cases h : holdsP x (p.1 ++ y.1) = true
    · rw [if_pos h, List.map_cons, wt]
      by_cases c : cmpL (p.1 ++ y.1) q = 0
      · simp only [c, if_true, h, and_self]
        rw [Int.one_mul, Int.mul_comm]
      · simp [c]
    · rw [if_neg h]
      simp [h]
theorem join_tot (x : Ex) (q : List Vl) (a b : List Zp) : wt (joinL x a b) q = tot (fun r => tot (fun s => if holdsP x (r ++ s) = true ∧ cmpL (r ++ s) q = 0 then 1 else 0) b) a := by
  induction a with
  | nil => rfl
  | cons p t ih =>
    unfold joinL at ih ⊢
    rw [List.flatMap_cons, wt_append, tot, ih, pairsOf_tot]
theorem resp_pair1 (x : Ex) (q : List Vl) (r : List Vl) : Resp (fun s => if holdsP x (r ++ s) = true ∧ cmpL (r ++ s) q = 0 then (1 : Int) else 0) := fun a b h => by
  have e := cmpL_append (cmpL_refl r) h
  simp only [holds_same e, cmpL_left e]
theorem resp_pair2 (x : Ex) (q : List Vl) (b : List Zp) : Resp (fun r => tot (fun s => if holdsP x (r ++ s) = true ∧ cmpL (r ++ s) q = 0 then (1 : Int) else 0) b) := fun r r' h => by
  refine tot_congr fun y _ => ?_
  have e := cmpL_append h (cmpL_refl y.1)
  simp only [holds_same e, cmpL_left e]
theorem join_bilinear {x : Ex} {a b c d s t : List Zp} (hs : ∀ k, wt s k = wt a k + wt b k) (ht : ∀ k, wt t k = wt c k + wt d k) (q : List Vl) :
    wt (joinL x s t) q = wt (joinL x a c) q + wt (joinL x a d) q + wt (joinL x b c) q + wt (joinL x b d) q := by
  simp only [join_tot]
  rw [tot_lin hs (resp_pair2 x q t)]
  have e : ∀ z : List Zp, tot (fun r => tot (fun s => if holdsP x (r ++ s) = true ∧ cmpL (r ++ s) q = 0 then 1 else 0) t) z =
      tot (fun r => tot (fun s => if holdsP x (r ++ s) = true ∧ cmpL (r ++ s) q = 0 then 1 else 0) c) z + tot (fun r => tot (fun s => if holdsP x (r ++ s) = true ∧ cmpL (r ++ s) q = 0 then 1 else 0) d) z := fun z => by
    rw [← tot_add]
    exact tot_congr fun y _ => tot_lin ht (resp_pair1 x q y.1)
  rw [e, e]
  omega
theorem hasP_same {row row' : List Vl} (h : cmpL row row' = 0) (x : Ex) (b : List Zp) : hasP x b row = hasP x b row' := by
  unfold hasP
  induction b with
  | nil => rfl
  | cons y t ih => rw [List.any_cons, List.any_cons, ih, holds_same (cmpL_append h (cmpL_refl y.1))]
theorem semi_wt (x : Ex) (a b : List Zp) (q : List Vl) : wt (semiL x a b) q = if hasP x b q then wt a q else 0 := wt_filter (hasP x b) (fun _ _ h => hasP_same h x b) q a
theorem anti_wt (x : Ex) (a b : List Zp) (q : List Vl) : wt (antiL x a b) q = if hasP x b q then 0 else wt a q := by
  have := wt_filter (fun r => !hasP x b r) (fun _ _ h => by show (!_) = (!_); rw [hasP_same h]) q a
  unfold antiL
  rw [this]
  cases hasP x b q <;> rfl
theorem wide_tot (n : Nat) (q : List Vl) (z : List Zp) : wt (wideL n z) q = tot (fun r => if cmpL (r ++ nulls n) q = 0 then 1 else 0) z := by
  induction z with
  | nil => rfl
  | cons x r ih =>
    show wt ((x.1 ++ nulls n, x.2) :: wideL n r) q = _
    rw [wt, tot, ih]
    split <;> simp
theorem resp_wide (n : Nat) (q : List Vl) : Resp (fun r => if cmpL (r ++ nulls n) q = 0 then (1 : Int) else 0) := fun a b h => by simp only [cmpL_left (cmpL_append h (cmpL_refl (nulls n)))]
theorem wide_set {n : Nat} {a b : List Zp} (h : ∀ k, wt a k = wt b k) (q : List Vl) : wt (wideL n a) q = wt (wideL n b) q := by
  rw [wide_tot, wide_tot]; exact tot_set h (resp_wide n q)
theorem cmpL_snoc_lt : ∀ (a b c : List Vl), a.length = b.length → cmpL a b < 0 → cmpL (a ++ c) (b ++ c) < 0
  | [], [], _, _, h => by simp [cmpL] at h
  | [], _ :: _, _, h, _ => by simp at h
  | _ :: _, [], _, h, _ => by simp at h
  | x :: r, y :: t, c, hl, h => by
    rw [List.cons_append, List.cons_append]
    unfold cmpL at h ⊢
    by_cases e : cmpP x y = 0
    · rw [if_pos e] at h ⊢
      exact cmpL_snoc_lt r t c (by simpa using hl) h
    · rw [if_neg e] at h ⊢
      exact h
end Go.Proofs.YtfgpfnhbcbhkfadGreat
