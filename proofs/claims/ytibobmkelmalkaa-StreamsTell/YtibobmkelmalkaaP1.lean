/- Sets with weights, plainly: the order of rows, weights place by place, one form. No program in sight. -/
import Derived.Test.YtibobmkelmalkaaZ4
namespace Go.Proofs.Ytibobmkelmalkaa

theorem cmpP_trans (x y z : Vl) (h : cmpP x y ≤ 0) (j : cmpP y z ≤ 0) : cmpP x z ≤ 0 := cmpV_trans _ _ _ _ _ _ _ _ _ h j
theorem cmpL_trans : ∀ a b c : List Vl, cmpL a b ≤ 0 → cmpL b c ≤ 0 → cmpL a c ≤ 0
  | [], _, [] => by simp [cmpL]
  | [], _, _ :: _ => by simp [cmpL]
  | _ :: _, [], _ => by simp [cmpL]
  | _ :: _, _ :: _, [] => by simp [cmpL]
  | x :: r, y :: t, z :: u => by
    have ih := cmpL_trans r t u
    have t1 := cmpP_trans x y z
    have t2 := cmpP_trans y x z
    have t3 := cmpP_trans z y x
    have t4 := cmpP_trans x z y
    have t5 := cmpP_trans y z x
    have t6 := cmpP_trans z x y
    have n1 := cmpP_neg x y
    have n2 := cmpP_neg y z
    have n3 := cmpP_neg x z
    unfold cmpL
    split <;> split <;> split <;> intro h1 h2 <;> first | exact ih h1 h2 | omega
theorem cmpL_refl (a : List Vl) : cmpL a a = 0 := by have := cmpL_neg a a; omega
theorem cmpL_lt_le {a b c : List Vl} (h : cmpL a b < 0) (k : cmpL b c ≤ 0) : cmpL a c < 0 := by
  have t := cmpL_trans b c a
  have n1 := cmpL_neg a b
  have n2 := cmpL_neg a c
  omega
theorem cmpL_le_lt {a b c : List Vl} (h : cmpL a b ≤ 0) (k : cmpL b c < 0) : cmpL a c < 0 := by
  have t := cmpL_trans c a b
  have n1 := cmpL_neg b c
  have n2 := cmpL_neg a c
  omega
theorem cmpL_left {a b : List Vl} (h : cmpL a b = 0) (c : List Vl) : cmpL a c = cmpL b c := by
  have t1 := cmpL_trans a b c
  have t2 := cmpL_trans b a c
  have t3 := cmpL_trans c a b
  have t4 := cmpL_trans c b a
  have n1 := cmpL_neg a b
  have n2 := cmpL_neg a c
  have n3 := cmpL_neg b c
  have b1 := cmpL_bd a c
  have b2 := cmpL_bd b c
  omega
theorem cmpL_right {a b : List Vl} (h : cmpL a b = 0) (c : List Vl) : cmpL c a = cmpL c b := by
  have := cmpL_left h c
  have n2 := cmpL_neg a c
  have n3 := cmpL_neg b c
  omega

theorem cmpV_bareL (k n k' n' : Int) (s s' : ByteArray) : cmpV k (bareN k n) (bareS k s) k' n' s' = cmpV k n s k' n' s' := by
  unfold cmpV bareN bareS
  by_cases h : k = k'
  · subst h
    by_cases h2 : k = 2 ∨ k = 3
    · simp [h2]
    · by_cases h4 : k = 4
      · simp [h4]
      · simp [h2, h4]
  · simp [h]
theorem cmpP_bare (x y : Vl) : cmpP (bareP x) y = cmpP x y := cmpV_bareL _ _ _ _ _ _
theorem cmpL_bare : ∀ a b : List Vl, cmpL (bareL a) b = cmpL a b
  | [], [] => rfl
  | [], _ :: _ => rfl
  | _ :: _, [] => rfl
  | x :: r, y :: t => by
    have ih := cmpL_bare r t
    show (if cmpP (bareP x) y = 0 then cmpL (bareL r) t else cmpP (bareP x) y) = _
    rw [cmpP_bare, ih]; rfl
theorem cmpL_bareR (a b : List Vl) : cmpL a (bareL b) = cmpL a b := by
  have := cmpL_bare b a
  have n1 := cmpL_neg a b
  have n2 := cmpL_neg a (bareL b)
  omega
theorem toList_inj {s t : ByteArray} (h : s.toList = t.toList) : s = t := by
  rw [ByteArray.toList_eq, ByteArray.toList_eq] at h
  rcases s with ⟨⟨s⟩⟩
  rcases t with ⟨⟨t⟩⟩
  simpa using h
theorem bareP_of {x y : Vl} (h : cmpP x y = 0) : bareP x = bareP y := by
  unfold cmpP cmpV at h
  unfold bareP bareN bareS
  by_cases e : x.1 = y.1
  · simp only [e, ne_eq, not_true, if_false] at h ⊢
    by_cases h2 : y.1 = 2 ∨ y.1 = 3
    · simp only [h2, if_true] at h ⊢
      rw [cmpI_zero] at h
      have h4 : ¬ y.1 = 4 := by omega
      simp [h, h4]
    · by_cases h4 : y.1 = 4
      · simp [h4] at h
        rw [cmpS_zero] at h
        simp [h2, toList_inj h]
      · simp [h2, h4]
  · simp only [e, ne_eq, not_false_iff, if_true] at h
    rw [cmpI_zero] at h
    exact absurd h e
theorem bareL_of : ∀ {a b : List Vl}, cmpL a b = 0 → bareL a = bareL b
  | [], [], _ => rfl
  | [], _ :: _, h => by simp [cmpL] at h
  | _ :: _, [], h => by simp [cmpL] at h
  | x :: r, y :: t, h => by
    unfold cmpL at h
    by_cases e : cmpP x y = 0
    · rw [if_pos e] at h
      show bareP x :: bareL r = bareP y :: bareL t
      rw [bareP_of e, bareL_of h]
    · rw [if_neg e] at h
      exact absurd h e
theorem bareP_idem (x : Vl) : bareP (bareP x) = bareP x := by
  unfold bareP bareN bareS
  by_cases h : x.1 = 2 ∨ x.1 = 3 <;> by_cases h4 : x.1 = 4 <;> simp [h, h4]
theorem bareL_idem (l : List Vl) : bareL (bareL l) = bareL l := by
  simp [bareL, bareP_idem]
theorem wrong_bare (x : Vl) : wrongF (bareP x).1 (bareP x).2.1 (bareP x).2.2 = wrongF x.1 x.2.1 x.2.2 := by
  unfold bareP bareN bareS wrongF
  by_cases h1 : x.1 = 1
  · simp [h1]
  by_cases h2 : x.1 = 2
  · simp [h2]
  by_cases h3 : x.1 = 3
  · simp [h3]
  by_cases h4 : x.1 = 4
  · simp [h4]
  simp [h1, h2, h3, h4]
theorem right_bare (l : List Vl) : rightB (bareL l) = rightB l := by
  unfold rightB bareL
  rw [List.all_map]
  congr 1
  funext x
  simp [wrong_bare]
theorem bareL_length (l : List Vl) : (bareL l).length = l.length := by simp [bareL]
theorem wrongRow_bare (l : List Vl) : wrongRowF (bareL l) = 0 ↔ wrongRowF l = 0 := by rw [wrongRowF_zero, wrongRowF_zero, bareL_length, right_bare]

/-- A row's weight among rows. -/
def wt : List Zp → List Vl → Int
  | [], _ => 0
  | x :: r, q => (if cmpL x.1 q = 0 then x.2 else 0) + wt r q
theorem wt_append (l t : List Zp) (q : List Vl) : wt (l ++ t) q = wt l q + wt t q := by
  induction l with
  | nil => simp [wt]
  | cons x r ih => rw [List.cons_append, wt, wt, ih]; omega
theorem wt_perm {l t : List Zp} (h : l.Perm t) (q : List Vl) : wt l q = wt t q := by
  induction h with
  | nil => rfl
  | cons x _ ih => rw [wt, wt, ih]
  | swap x y l => simp only [wt]; omega
  | trans _ _ h1 h2 => exact h1.trans h2
theorem wt_none {l : List Zp} {q : List Vl} (h : ∀ x ∈ l, ¬ cmpL x.1 q = 0) : wt l q = 0 := by
  induction l with
  | nil => rfl
  | cons x r ih =>
    rw [wt, if_neg (h x (by simp)), ih (fun y hy => h y (by simp [hy]))]
    rfl
theorem wt_congr {q q' : List Vl} (h : cmpL q q' = 0) (l : List Zp) : wt l q = wt l q' := by
  induction l with
  | nil => rfl
  | cons x r ih => rw [wt, wt, ih, cmpL_right h]

/-- Rows rise. -/
def Rise (z : List Zp) : Prop := z.Pairwise fun x y => cmpL x.1 y.1 < 0
/-- Rows rise, count, and have what their kinds have alone. -/
structure IsSet (z : List Zp) : Prop where
  rise : Rise z
  ne : ∀ x ∈ z, x.2 ≠ 0
  bare : ∀ x ∈ z, bareL x.1 = x.1
theorem IsSet.tail {x : Zp} {r : List Zp} (h : IsSet (x :: r)) : IsSet r := ⟨(List.pairwise_cons.1 h.rise).2, fun y hy => h.ne y (by simp [hy]), fun y hy => h.bare y (by simp [hy])⟩
theorem wt_head {x : Zp} {r : List Zp} (h : Rise (x :: r)) : wt (x :: r) x.1 = x.2 := by
  rw [wt, if_pos (cmpL_refl _), wt_none]
  · omega
  · intro y hy
    have := (List.pairwise_cons.1 h).1 y hy
    have n := cmpL_neg x.1 y.1
    omega
theorem wt_mem {z : List Zp} (h : Rise z) : ∀ x ∈ z, wt z x.1 = x.2 := by
  induction z with
  | nil => intro x hx; cases hx
  | cons y t ih =>
    intro x hx
    rcases List.mem_cons.1 hx with rfl | hx
    · exact wt_head h
    · have h' := List.pairwise_cons.1 h
      have := h'.1 x hx
      rw [wt, if_neg (by omega), ih h'.2 x hx]
      omega
theorem wt_below {x : Zp} {t : List Zp} (_h : Rise t) (hx : ∀ y ∈ t, cmpL x.1 y.1 < 0) : wt t x.1 = 0 :=
  wt_none fun y hy => by have := hx y hy; have := cmpL_neg x.1 y.1; omega
theorem set_unique : ∀ (z z' : List Zp), IsSet z → IsSet z' → (∀ q, wt z q = wt z' q) → z = z'
  | [], [], _, _, _ => rfl
  | [], y :: t, _, h', e => by
    have := e y.1
    rw [wt_head h'.rise] at this
    exact absurd this.symm (h'.ne y (by simp))
  | x :: r, [], h, _, e => by
    have := e x.1
    rw [wt_head h.rise] at this
    exact absurd this (h.ne x (by simp))
  | x :: r, y :: t, h, h', e => by
    have p := List.pairwise_cons.1 h.rise
    have p' := List.pairwise_cons.1 h'.rise
    have ex := e x.1
    have ey := e y.1
    rw [wt_head h.rise] at ex
    rw [wt_head h'.rise] at ey
    have nx := h.ne x (by simp)
    have ny := h'.ne y (by simp)
    by_cases c : cmpL x.1 y.1 = 0
    · have e1 : x.1 = y.1 := by
        have := bareL_of c
        rwa [h.bare x (by simp), h'.bare y (by simp)] at this
      have e2 : x.2 = y.2 := by
        rw [e1, wt_head h'.rise] at ex
        exact ex
      have exy : x = y := Prod.ext e1 e2
      subst exy
      rw [set_unique r t h.tail h'.tail fun q => by have := e q; rw [wt, wt] at this; omega]
    · exfalso
      have n := cmpL_neg x.1 y.1
      by_cases c' : cmpL x.1 y.1 < 0
      · rw [wt_below h'.rise (x := x) (fun v hv => by
          rcases List.mem_cons.1 hv with rfl | hv
          · exact c'
          · exact cmpL_lt_le c' (by have := p'.1 v hv; omega))] at ex
        exact nx ex
      · rw [wt_below h.rise (x := y) (fun v hv => by
          rcases List.mem_cons.1 hv with rfl | hv
          · omega
          · exact cmpL_lt_le (b := x.1) (by omega) (by have := p.1 v hv; omega))] at ey
        exact ny ey.symm

/-- So much of a row more. -/
def putL : List Zp → List Vl → Int → List Zp
  | [], r, w => if w = 0 then [] else [(bareL r, w)]
  | y :: t, r, w => if cmpL y.1 r < 0 then y :: putL t r w else if cmpL y.1 r = 0 then (if w + y.2 = 0 then t else (bareL r, w + y.2) :: t) else (if w = 0 then y :: t else (bareL r, w) :: y :: t)
theorem putL_above (r : List Vl) (w : Int) (b : List Vl) (hb : cmpL b r < 0) : ∀ z : List Zp, (∀ y ∈ z, cmpL b y.1 < 0) → ∀ y ∈ putL z r w, cmpL b y.1 < 0
  | [], _ => by
    unfold putL
    split
    · simp
    · intro y hy; simp at hy; subst hy; rw [cmpL_bareR]; exact hb
  | x :: t, h => by
    have hx := h x (by simp)
    have ht : ∀ y ∈ t, cmpL b y.1 < 0 := fun y hy => h y (by simp [hy])
    have ih := putL_above r w b hb t ht
    unfold putL
    split
    · intro y hy
      rcases List.mem_cons.1 hy with rfl | hy
      · exact hx
      · exact ih y hy
    · split
      · split
        · exact ht
        · intro y hy
          rcases List.mem_cons.1 hy with rfl | hy
          · show cmpL b (bareL r) < 0
            rw [cmpL_bareR]; exact hb
          · exact ht y hy
      · split
        · exact h
        · intro y hy
          rcases List.mem_cons.1 hy with rfl | hy
          · show cmpL b (bareL r) < 0
            rw [cmpL_bareR]; exact hb
          · exact h y hy
theorem putL_rise (r : List Vl) (w : Int) : ∀ z : List Zp, Rise z → Rise (putL z r w)
  | [], _ => by unfold putL; split <;> simp [Rise]
  | x :: t, h => by
    have p := List.pairwise_cons.1 h
    unfold putL
    split
    · rename_i c
      exact List.pairwise_cons.2 ⟨putL_above r w x.1 c t p.1, putL_rise r w t p.2⟩
    · split
      · rename_i c
        split
        · exact p.2
        · refine List.pairwise_cons.2 ⟨fun y hy => ?_, p.2⟩
          show cmpL (bareL r) y.1 < 0
          rw [cmpL_bare, ← cmpL_left c]
          exact p.1 y hy
      · rename_i c c'
        split
        · exact h
        · refine List.pairwise_cons.2 ⟨fun y hy => ?_, h⟩
          show cmpL (bareL r) y.1 < 0
          rw [cmpL_bare]
          have n := cmpL_neg x.1 r
          rcases List.mem_cons.1 hy with rfl | hy
          · omega
          · exact cmpL_lt_le (b := x.1) (by omega) (by have := p.1 y hy; omega)
theorem putL_set (r : List Vl) (w : Int) : ∀ z : List Zp, IsSet z → IsSet (putL z r w) := fun z h => by
  refine ⟨putL_rise r w z h.rise, ?_, ?_⟩
  · have hn := h.ne
    clear h
    induction z with
    | nil => unfold putL; split <;> simp_all
    | cons x t ih =>
      have ih := ih (fun y hy => hn y (by simp [hy]))
      have hx := hn x (by simp)
      unfold putL
      split
      · intro y hy
        rcases List.mem_cons.1 hy with rfl | hy
        · exact hx
        · exact ih y hy
      · split
        · split
          · exact fun y hy => hn y (by simp [hy])
          · intro y hy
            rcases List.mem_cons.1 hy with rfl | hy
            · assumption
            · exact hn y (by simp [hy])
        · split
          · exact hn
          · intro y hy
            rcases List.mem_cons.1 hy with rfl | hy
            · assumption
            · exact hn y hy
  · have hn := h.bare
    clear h
    induction z with
    | nil =>
      unfold putL
      split
      · simp
      · intro y hy; simp at hy; subst hy; exact bareL_idem r
    | cons x t ih =>
      have ih := ih (fun y hy => hn y (by simp [hy]))
      have hx := hn x (by simp)
      unfold putL
      split
      · intro y hy
        rcases List.mem_cons.1 hy with rfl | hy
        · exact hx
        · exact ih y hy
      · split
        · split
          · exact fun y hy => hn y (by simp [hy])
          · intro y hy
            rcases List.mem_cons.1 hy with rfl | hy
            · exact bareL_idem r
            · exact hn y (by simp [hy])
        · split
          · exact hn
          · intro y hy
            rcases List.mem_cons.1 hy with rfl | hy
            · exact bareL_idem r
            · exact hn y hy
theorem putL_wt (r : List Vl) (w : Int) (q : List Vl) : ∀ z : List Zp, wt (putL z r w) q = wt z q + (if cmpL r q = 0 then w else 0)
  | [] => by
    unfold putL
    split
    · rename_i h; subst h; simp [wt]
    · simp [wt, cmpL_bare]
  | x :: t => by
    have ih := putL_wt r w q t
    unfold putL
    split
    · rw [wt, ih, wt]; omega
    · split
      · rename_i c
        have e := cmpL_left c q
        split
        · rename_i h0
          rw [wt, e]
          split <;> omega
        · rw [wt, wt, e]
          simp only [cmpL_bare]
          split <;> omega
      · split
        · rename_i h0; subst h0; simp
        · rw [wt]
          simp only [cmpL_bare]
          omega

/-- The set of rows. -/
def canon (l : List Zp) : List Zp := l.foldl (fun z x => putL z x.1 x.2) []
theorem canonF_set (l : List Zp) : ∀ z : List Zp, IsSet z → IsSet (l.foldl (fun z x => putL z x.1 x.2) z) := by
  induction l with
  | nil => intro z h; exact h
  | cons x r ih => intro z h; exact ih _ (putL_set _ _ _ h)
theorem canonF_wt (l : List Zp) (q : List Vl) : ∀ z : List Zp, wt (l.foldl (fun z x => putL z x.1 x.2) z) q = wt z q + wt l q := by
  induction l with
  | nil => intro z; simp [wt]
  | cons x r ih => intro z; rw [List.foldl_cons, ih, putL_wt, wt]; omega
theorem set_nil : IsSet [] := ⟨List.Pairwise.nil, by simp, by simp⟩
theorem canon_set (l : List Zp) : IsSet (canon l) := canonF_set l [] set_nil
theorem canon_wt (l : List Zp) (q : List Vl) : wt (canon l) q = wt l q := by
  unfold canon
  rw [canonF_wt]
  simp [wt]
theorem canon_of {z l : List Zp} (h : IsSet z) (e : ∀ q, wt z q = wt l q) : z = canon l :=
  set_unique _ _ h (canon_set l) fun q => (e q).trans (canon_wt l q).symm

/-- What is made of weights, place by place. -/
theorem weighL_mem (f : Int → Int) (z : List Zp) : ∀ y ∈ weighL f z, ∃ x ∈ z, y = (bareL x.1, f x.2) ∧ ¬ f x.2 = 0 := by
  induction z with
  | nil => intro y hy; cases hy
  | cons x r ih =>
    intro y hy
    unfold weighL at hy
    split at hy
    · obtain ⟨u, hu, e⟩ := ih y hy
      exact ⟨u, by simp [hu], e⟩
    · rename_i h0
      rcases List.mem_cons.1 hy with rfl | hy
      · exact ⟨x, by simp, rfl, h0⟩
      · obtain ⟨u, hu, e⟩ := ih y hy
        exact ⟨u, by simp [hu], e⟩
theorem weighL_rise (f : Int → Int) : ∀ z : List Zp, Rise z → Rise (weighL f z)
  | [], _ => List.Pairwise.nil
  | x :: r, h => by
    have p := List.pairwise_cons.1 h
    have ih := weighL_rise f r p.2
    unfold weighL
    split
    · exact ih
    · refine List.pairwise_cons.2 ⟨fun y hy => ?_, ih⟩
      obtain ⟨u, hu, rfl, _⟩ := weighL_mem f r y hy
      show cmpL (bareL x.1) (bareL u.1) < 0
      rw [cmpL_bare, cmpL_bareR]
      exact p.1 u hu
theorem weighL_set (f : Int → Int) (z : List Zp) (h : Rise z) : IsSet (weighL f z) :=
  ⟨weighL_rise f z h, fun y hy => by obtain ⟨u, _, rfl, h0⟩ := weighL_mem f z y hy; exact h0, fun y hy => by obtain ⟨u, _, rfl, h0⟩ := weighL_mem f z y hy; exact bareL_idem u.1⟩
theorem weighL_wt (f : Int → Int) (f0 : f 0 = 0) (q : List Vl) : ∀ z : List Zp, Rise z → wt (weighL f z) q = f (wt z q)
  | [], _ => by simp [weighL, wt, f0]
  | x :: r, h => by
    have p := List.pairwise_cons.1 h
    have ih := weighL_wt f f0 q r p.2
    by_cases c : cmpL x.1 q = 0
    · have z0 : wt r q = 0 := by
        rw [wt_congr (q := q) (q' := x.1) (by have := cmpL_neg x.1 q; omega)]
        exact wt_below p.2 p.1
      rw [z0, f0] at ih
      unfold weighL
      split
      · rename_i h0
        rw [ih, wt, if_pos c, z0]
        simp [h0]
      · rw [wt, wt, ih, z0]
        simp [cmpL_bare, c]
    · unfold weighL
      split
      · rw [ih, wt, if_neg c]; simp
      · rw [wt, wt, ih]
        simp [cmpL_bare, c]

/-- One more row behind rows that rise. -/
def mergeTo (acc : List Zp) (x : Zp) : List Zp :=
  match acc.getLast? with
  | none => [x]
  | some y => if cmpL y.1 x.1 = 0 then acc.dropLast ++ [(y.1, y.2 + x.2)] else acc ++ [x]
def mergedL (l : List Zp) : List Zp := l.foldl mergeTo []
theorem mergedL_snoc (l : List Zp) (x : Zp) : mergedL (l ++ [x]) = mergeTo (mergedL l) x := by simp [mergedL]
theorem mergeTo_nil (x : Zp) : mergeTo [] x = [x] := rfl
theorem mergeTo_snoc (a : List Zp) (y x : Zp) : mergeTo (a ++ [y]) x = if cmpL y.1 x.1 = 0 then a ++ [(y.1, y.2 + x.2)] else a ++ [y] ++ [x] := by simp [mergeTo]
theorem snoc_rec {p : List Zp → Prop} (h0 : p []) (h1 : ∀ l x, p l → p (l ++ [x])) : ∀ l, p l := by
  have key : ∀ (n : Nat) (l : List Zp), l.length = n → p l := by
    intro n
    induction n with
    | zero => intro l h; rw [List.eq_nil_of_length_eq_zero h]; exact h0
    | succ n ih =>
      intro l h
      rcases List.eq_nil_or_concat l with rfl | ⟨a, y, rfl⟩
      · exact h0
      · rw [List.concat_eq_append]
        exact h1 a y (ih a (by simpa using h))
  exact fun l => key l.length l rfl
structure Merged (l z : List Zp) : Prop where
  rise : Rise z
  wt : ∀ q, wt z q = wt l q
  row : ∀ y ∈ z, ∃ x ∈ l, y.1 = x.1
theorem Merged.push {l z : List Zp} (h : Merged l z) {x : Zp} (hx : ∀ y ∈ l, cmpL y.1 x.1 ≤ 0) : Merged (l ++ [x]) (mergeTo z x) := by
  rcases List.eq_nil_or_concat z with rfl | ⟨a, y, rfl⟩
  · rw [mergeTo_nil]
    refine ⟨by simp [Rise], fun q => ?_, ?_⟩
    · rw [wt_append, ← h.wt q]; simp [Ytibobmkelmalkaa.wt]
    · intro y hy; simp at hy; subst hy; exact ⟨y, by simp, rfl⟩
  · rw [List.concat_eq_append] at h ⊢
    have hr := List.pairwise_append.1 h.rise
    have hy : cmpL y.1 x.1 ≤ 0 := by
      obtain ⟨u, hu, e⟩ := h.row y (by simp)
      rw [e]; exact hx u hu
    rw [mergeTo_snoc]
    split
    · rename_i c
      refine ⟨?_, fun q => ?_, ?_⟩
      · refine List.pairwise_append.2 ⟨hr.1, by simp, ?_⟩
        intro u hu v hv
        simp at hv
        subst hv
        exact hr.2.2 u hu y (by simp)
      · have := h.wt q
        rw [wt_append] at this ⊢
        rw [wt_append, ← this]
        simp only [Ytibobmkelmalkaa.wt, ← cmpL_left c q]
        split <;> omega
      · intro u hu
        simp at hu
        rcases hu with hu | rfl
        · obtain ⟨v, hv, e⟩ := h.row u (by simp [hu])
          exact ⟨v, by simp [hv], e⟩
        · obtain ⟨v, hv, e⟩ := h.row y (by simp)
          exact ⟨v, by simp [hv], e⟩
    · rename_i c
      refine ⟨?_, fun q => ?_, ?_⟩
      · refine List.pairwise_append.2 ⟨h.rise, by simp, ?_⟩
        intro u hu v hv
        simp at hv
        subst hv
        simp at hu
        rcases hu with hu | rfl
        · exact cmpL_lt_le (hr.2.2 u hu y (by simp)) hy
        · omega
      · rw [wt_append, h.wt q, wt_append]
      · intro u hu
        rcases List.mem_append.1 hu with hu | hu
        · obtain ⟨v, hv, e⟩ := h.row u hu
          exact ⟨v, by simp [hv], e⟩
        · simp at hu; subst hu; exact ⟨u, by simp, rfl⟩
theorem merged_ok : ∀ (l : List Zp), (l.Pairwise fun x y => cmpL x.1 y.1 ≤ 0) → Merged l (mergedL l) := by
  refine snoc_rec (fun _ => ⟨List.Pairwise.nil, fun _ => rfl, by simp [mergedL]⟩) ?_
  · intro l x ih h
    have p := List.pairwise_append.1 h
    rw [mergedL_snoc]
    exact (ih p.1).push fun y hy => p.2.2 y hy x (by simp)
theorem mergedL_len (l : List Zp) : (mergedL l).length ≤ l.length := by
  revert l
  refine snoc_rec (by simp [mergedL]) ?_
  · intro l x ih
    rw [mergedL_snoc]
    unfold mergeTo
    split
    · simp
    · rename_i y hy
      split <;> simp <;> omega
/-- Sorted, then merged, without what is gone: the set. -/
theorem gather_canon {s l : List Zp} (hp : s.Perm l) (hs : s.Pairwise fun x y => cmpL x.1 y.1 ≤ 0) : weighL (fun w => w) (mergedL s) = canon l := by
  have m := merged_ok s hs
  refine canon_of (weighL_set _ _ m.rise) fun q => ?_
  rw [weighL_wt (fun w => w) rfl q _ m.rise, m.wt q, wt_perm hp q]
end Go.Proofs.Ytibobmkelmalkaa
