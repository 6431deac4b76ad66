/- Small sets, plainly: sums, differences and opposites of them, place by place. -/
import Derived.Test.YtfgpfnhbcbhkfabZG
import Derived.Test.YtfgpfnhbcbhkfabForm
import Derived.Test.YtfgpfnhbcbhkfabOnce
namespace Go.Proofs.Ytfgpfnhbcbhkfab

theorem putL_len (r : List Vl) (w : Int) : ∀ z : List Zp, (putL z r w).length ≤ z.length + 1
  | [] => by unfold putL; split <;> simp
  | y :: t => by
    have ih := putL_len r w t
    unfold putL
    split
    · simp; omega
    · split
      · split <;> simp <;> omega
      · split <;> simp <;> omega
theorem canonF_len (l : List Zp) : ∀ z : List Zp, (l.foldl (fun z x => putL z x.1 x.2) z).length ≤ z.length + l.length := by
  induction l with
  | nil => intro z; simp
  | cons x r ih =>
    intro z
    have h1 := ih (putL z x.1 x.2)
    have h2 := putL_len x.1 x.2 z
    simp only [List.foldl_cons, List.length_cons] at *
    omega
theorem canon_len (l : List Zp) : (canon l).length ≤ l.length := by have := canonF_len l []; simpa [canon] using this
theorem wt_bd {z : List Zp} (h : Rise z) {m : Int} (hm : 0 ≤ m) (hb : ∀ x ∈ z, -m ≤ x.2 ∧ x.2 ≤ m) (q : List Vl) : -m ≤ wt z q ∧ wt z q ≤ m := by
  by_cases hx : ∃ x ∈ z, cmpL x.1 q = 0
  · obtain ⟨x, hx, e⟩ := hx
    rw [← wt_congr e z, wt_mem h x hx]
    exact hb x hx
  · rw [wt_none fun x h e => hx ⟨x, h, e⟩]
    omega

/-- A set that is so small: n hundred rows, each so often. -/
structure Good (n : Nat) (z : List Zp) : Prop where
  rise : Rise z
  ok : ∀ x ∈ z, wrongRowF x.1 = 0 ∧ x.2 ≠ 0
  len : z.length ≤ 100 * n
  bd : ∀ x ∈ z, -(100000 * (n : Int)) ≤ x.2 ∧ x.2 ≤ 100000 * (n : Int)
theorem Good.wrong {n : Nat} {z : List Zp} (h : Good n z) (hn : n ≤ 4) : wrongZ z = 0 :=
  (wrongZ_iff z).2 ⟨by have := h.len; omega, fun x hx => ⟨(h.ok x hx).1, (h.ok x hx).2, (inW_iff _).2 (by have := h.bd x hx; omega)⟩, h.rise⟩
theorem Good.wt {n : Nat} {z : List Zp} (h : Good n z) (q : List Vl) : -(100000 * (n : Int)) ≤ wt z q ∧ wt z q ≤ 100000 * (n : Int) := wt_bd h.rise (by omega) h.bd q
theorem good_weigh {n : Nat} {z : List Zp} (h : Good n z) (f : Int → Int) (hf : ∀ x, (f x = x ∨ f x = -x) ∨ f x = 0 ∨ (f x = 1 ∧ 0 < x)) : Good n (weighL f z) := by
  refine ⟨weighL_rise f z h.rise, fun y hy => ?_, Nat.le_trans (weighL_len f z) h.len, fun y hy => ?_⟩
  · obtain ⟨x, hx, rfl, h0⟩ := weighL_mem f z y hy
    exact ⟨(wrongRow_bare _).2 (h.ok x hx).1, h0⟩
  · obtain ⟨x, hx, rfl, h0⟩ := weighL_mem f z y hy
    have := h.bd x hx
    have := hf x.2
    show _ ≤ f x.2 ∧ f x.2 ≤ _
    omega
theorem good_both {n m : Nat} {x y : List Zp} (hx : Good n x) (hy : Good m y) (hnm : n + m ≤ 4) {t : Int} (ht : t = 1 ∨ t = -1) :
    bothE t x y = 0 ∧ bothZ t x y = canon (x ++ weighL (timesF t) y) ∧ Good (n + m) (bothZ t x y) ∧ IsSet (bothZ t x y) ∧ ∀ q, wt (bothZ t x y) q = wt x q + t * wt y q := by
  have hy' : Good m (weighL (timesF t) y) := good_weigh hy _ fun v => by unfold timesF; rcases ht with rfl | rfl <;> omega
  have hq : ∀ q, wt (x ++ weighL (timesF t) y) q = wt x q + t * wt y q := fun q => by
    rw [wt_append, weighL_wt (timesF t) (by simp [timesF]) q y hy.rise]; rfl
  have hs := canon_set (x ++ weighL (timesF t) y)
  have hlen := canon_len (x ++ weighL (timesF t) y)
  rw [List.length_append] at hlen
  have l1 := hx.len
  have l2 := hy'.len
  have hbd : ∀ u ∈ canon (x ++ weighL (timesF t) y), -(100000 * ((n + m : Nat) : Int)) ≤ u.2 ∧ u.2 ≤ 100000 * ((n + m : Nat) : Int) := by
    intro u hu
    rw [← wt_mem hs.rise u hu, canon_wt, hq]
    have b1 := hx.wt u.1
    have b2 := hy.wt u.1
    rcases ht with rfl | rfl <;> omega
  have hok : ∀ u ∈ canon (x ++ weighL (timesF t) y), wrongRowF u.1 = 0 ∧ u.2 ≠ 0 := by
    intro u hu
    refine ⟨?_, hs.ne u hu⟩
    obtain ⟨v, hv, e⟩ := canon_row _ u hu
    rw [e, wrongRow_bare]
    rcases List.mem_append.1 hv with hv | hv
    · exact (hx.ok v hv).1
    · exact (hy'.ok v hv).1
  have hg : Good (n + m) (canon (x ++ weighL (timesF t) y)) := ⟨hs.rise, hok, by omega, hbd⟩
  have ge : gatherE (x ++ weighL (timesF t) y) = 0 := by
    unfold gatherE
    have ho : outW (canon (x ++ weighL (timesF t) y)) = false := by
      unfold outW
      rw [List.any_eq_false]
      intro u hu
      have := hbd u hu
      have : inW u.2 = true := (inW_iff _).2 (by omega)
      simp [this]
    rw [ho, if_neg (by decide), if_neg (by omega)]
  have be : bothE t x y = 0 := by unfold bothE; rw [if_pos (hx.wrong (by omega)), if_pos (hy.wrong (by omega)), ge]
  have bz : bothZ t x y = canon (x ++ weighL (timesF t) y) := by unfold bothZ; rw [if_pos be]
  refine ⟨be, bz, ?_, ?_, ?_⟩
  · rw [bz]; exact hg
  · rw [bz]; exact hs
  · intro q; rw [bz, canon_wt, hq]
theorem good_set {n : Nat} {x : List Zp} (hx : Good n x) (hn : n ≤ 4) (f : Int → Int) (f0 : f 0 = 0) (hf : ∀ x, (f x = x ∨ f x = -x) ∨ f x = 0 ∨ (f x = 1 ∧ 0 < x)) :
    setZ f x = weighL f x ∧ Good n (setZ f x) ∧ IsSet (setZ f x) ∧ ∀ q, wt (setZ f x) q = f (wt x q) := by
  have e : setZ f x = weighL f x := by unfold setZ; rw [if_pos (hx.wrong hn)]
  refine ⟨e, ?_, ?_, ?_⟩
  · rw [e]; exact good_weigh hx f hf
  · rw [e]; exact weighL_set f x hx.rise
  · intro q; rw [e]; exact weighL_wt f f0 q x hx.rise
theorem good_nil : Good 0 [] := ⟨List.Pairwise.nil, by simp, by simp, by simp⟩

def smallW (z : List Zp) : Bool := z.all fun x => !(decide (100000 < x.2)) && !(decide (x.2 < -100000))
def smallB (z : List Zp) : Bool := decide (wrongZ z = 0) && decide (z.length ≤ 100) && smallW z
theorem small_good {z : List Zp} (h : smallB z = true) : Good 1 z := by
  unfold smallB smallW at h
  simp only [Bool.and_eq_true, decide_eq_true_eq, List.all_eq_true, Bool.not_eq_true', decide_eq_false_iff_not] at h
  obtain ⟨⟨h1, h2⟩, h3⟩ := h
  have hw := (wrongZ_iff z).1 h1
  exact ⟨hw.2.2, fun x hx => ⟨(hw.2.1 x hx).1, (hw.2.1 x hx).2.1⟩, by omega, fun x hx => by have := h3 x hx; omega⟩

/-- SETS WITH WEIGHTS ARE A GROUP, of small sets. -/
def add2 (x y : List Zp) : List Zp := bothZ 1 x y
def sub2 (x y : List Zp) : List Zp := bothZ (-1) x y
def neg1 (x : List Zp) : List Zp := setZ (fun w => -w) x
end Go.Proofs.Ytfgpfnhbcbhkfab
