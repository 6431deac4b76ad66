/- Together: ZC, Form, Q1, K4, K5, Y7, K6, J1, ZE. -/
import Derived.Laws.AppendOwnNone
import Derived.Shelf.Spec.SlicesGrow
import Derived.Ground.Names8Prog
import Derived.Test.YtajbjhaoeeiigaaGreatB5
import Derived.Test.YtajbjhaoeeiigaaGreatB3
import Derived.Test.YtajbjhaoeeiigaaGreatB4
import Derived.Test.YtajbjhaoeeiigaaGreatB2
/- The walks of the document's Same at sets that are the same, and of tidelaw2.alive. -/
namespace Go.Proofs.YtajbjhaoeeiigaaGreat
open Go.RowKit Go.Lib Go.Shelf

theorem eql_val (w : World) (k n : Int) (s : ByteArray) :
    (binOp .neq 30 (.agg #[.int .i64 k, .int .i64 n, .string s]) (.agg #[.int .i64 k, .int .i64 n, .string s])).run Tryz.prog w = .ok (.bool false) w := by
  rw [run_neq_struct, run_equalIn_struct w 9999 30 _ _ (by kernel_rfl) (by kernel_rfl)]
  simp [Program.fieldsOf, Tryz.underlying30, go_sem]

set_option maxHeartbeats 2000000 in
theorem same_eq (a a' : Option Addr) (cap cap' : Nat) (z : List Zp) (w : World) (h : ZsAt w a z) (h' : ZsAt w a' z) :
    Calls Tryz.prog 16 #[.slice a z.length cap, .slice a' z.length cap'] w fun e w' => e = .returned (.bool true) ∧ Below w.heap.size w w' := by
  have hl := h.1
  unfold maxLen at hl
  go_enter Tryz.func16, Tryz.ntmps16
  go_wp2_with fail
  go_loopw [14] (fun i wr => ∃ k : Nat, k ≤ z.length ∧ i = .int .i64 k ∧ Below w.heap.size w wr) (fun i _ => z.length - (intOf i).toNat)
  case atStart => exact ⟨0, Nat.zero_le _, rfl, Below.refl _ _⟩
  case round =>
    obtain ⟨k, hk, rfl, hb⟩ := hrel
    by_cases hlt : k < z.length
    · obtain ⟨b, off, rfl, hbl, c1, ar, cr, c0, sr⟩ := (h.next hb).elem hlt
      obtain ⟨b', off', rfl, hbl', d1, br, dr, d0, tr⟩ := (h'.next hb).elem hlt
      have i0 : (0 : Int) ≤ (k : Int) := by omega
      have i1 : (k : Int) < (z.length : Int) := by omega
      have p0 := past_cell c0
      have p1 := past_cell c1
      have p2 := past_cell d0
      have p3 := past_cell d1
      haveI : Nonempty (Past wr) := ⟨⟨wr, Below.refl _ _⟩⟩
      go_wp2_with fail
      refine wp_region_past (by kernel_rfl) (by kernel_rfl) ?_
      repeat (go_big_quiet_step (fail))
      refine wpQuiet_nil ?_
      rintro w2 ⟨⟨v2, hb2⟩, h2⟩
      obtain rfl : w2 = v2 := h2
      have q0 := (hb2.cell (p := ⟨b, _, none⟩) hbl).trans c0
      have q2 := (hb2.cell (p := ⟨b', _, none⟩) hbl').trans d0
      have sr2 := sr.next hb2
      have tr2 := tr.next hb2
      have hb2' := chain1 hb hb2
      have hbl2 := Nat.lt_of_lt_of_le hbl hb2.size
      have hbl2' := Nat.lt_of_lt_of_le hbl' hb2.size
      have hrl := sr.1
      unfold maxLen at hrl
      clear p0 p1 p2 p3 c0 c1 d0 d1 sr tr
      go_wp2_with fail
      go_loopw [49] (fun i ws => ∃ j : Nat, j ≤ z[k].1.length ∧ i = .int .i64 j ∧ Below w2.heap.size w2 ws) (fun i _ => z[k].1.length - (intOf i).toNat)
      case atStart => exact ⟨0, Nat.zero_le _, rfl, Below.refl _ _⟩
      case round =>
        obtain ⟨j, hj, rfl, hs⟩ := hrel
        by_cases hjl : j < z[k].1.length
        · obtain ⟨x, xo, rfl, xl, x0, x1, x2⟩ := (sr2.next hs).elem hjl
          obtain ⟨y, yo, rfl, yl, y0, y1, y2⟩ := (tr2.next hs).elem hjl
          have r0 := past_cell ((hs.cell (p := ⟨b, _, none⟩) hbl2).trans q0)
          have r2 := past_cell ((hs.cell (p := ⟨b', _, none⟩) hbl2').trans q2)
          have j0 : (0 : Int) ≤ (j : Int) := by omega
          have j1 : (j : Int) < (z[k].1.length : Int) := by omega
          have s0 := past_cell x0
          have s1 := past_cell x1
          have s2 := past_cell x2
          have s3 := past_cell y0
          have s4 := past_cell y1
          have s5 := past_cell y2
          have ev := fun w' => eql_val w' z[k].1[j].1 z[k].1[j].2.1 z[k].1[j].2.2
          haveI : Nonempty (Past wr) := ⟨⟨wr, Below.refl _ _⟩⟩
          go_wp2_with fail
          refine wp_region_past (by kernel_rfl) (by kernel_rfl) ?_
          repeat (go_big_quiet_step (fail))
          refine wpQuiet_nil ?_
          rintro w3 ⟨⟨v3, hb3⟩, h3⟩
          obtain rfl : w3 = v3 := h3
          go_wp2_with fail
          go_roundw
          case rel => exact ⟨j + 1, by omega, by go_num, chain1 hs hb3⟩
          case measure => simp [intOf]; omega
        · go_wp2_with fail
          go_roundw
          case rel => exact ⟨k + 1, by omega, by go_num, chain1 hb2' hs⟩
          case measure => simp [intOf]; omega
    · go_wp2_with fail
      go_ret
      exact ⟨rfl, hb⟩
end Go.Proofs.YtajbjhaoeeiigaaGreat
/- The walk of tidelaw2.ZsetsForm. -/
namespace Go.Proofs.YtajbjhaoeeiigaaGreat
open Go.RowKit Go.Lib Go.Shelf

theorem putL_mem (r : List Vl) (w : Int) : ∀ z : List Zp, ∀ y ∈ putL z r w, y ∈ z ∨ y.1 = bareL r
  | [] => by
    unfold putL
    split
    · simp
    · intro y hy; simp at hy; subst hy; exact .inr rfl
  | x :: t => by
    have ih := putL_mem r w t
    unfold putL
    split
    · intro y hy
      rcases List.mem_cons.1 hy with rfl | hy
      · exact .inl (by simp)
      · rcases ih y hy with h | h
        · exact .inl (by simp [h])
        · exact .inr h
    · split
      · split
        · intro y hy; exact .inl (by simp [hy])
        · intro y hy
          rcases List.mem_cons.1 hy with rfl | hy
          · exact .inr rfl
          · exact .inl (by simp [hy])
      · split
        · intro y hy; exact .inl hy
        · intro y hy
          rcases List.mem_cons.1 hy with rfl | hy
          · exact .inr rfl
          · exact .inl hy
theorem canonF_row (l : List Zp) : ∀ z : List Zp, ∀ y ∈ l.foldl (fun z x => putL z x.1 x.2) z, y ∈ z ∨ ∃ x ∈ l, y.1 = bareL x.1 := by
  induction l with
  | nil => intro z y hy; exact .inl hy
  | cons x r ih =>
    intro z y hy
    rcases ih _ y hy with h | ⟨u, hu, e⟩
    · rcases putL_mem _ _ _ y h with h | h
      · exact .inl h
      · exact .inr ⟨x, by simp, h⟩
    · exact .inr ⟨u, by simp [hu], e⟩
theorem canon_row (l : List Zp) : ∀ y ∈ canon l, ∃ x ∈ l, y.1 = bareL x.1 := fun y hy => by
  rcases canonF_row l [] y hy with h | h
  · cases h
  · exact h
theorem canon_congr {l t : List Zp} (h : ∀ q, wt l q = wt t q) : canon l = canon t :=
  set_unique _ _ (canon_set l) (canon_set t) fun q => by rw [canon_wt, canon_wt, h]
theorem canon_self {z : List Zp} (h : IsSet z) : canon z = z := (canon_of h fun _ => rfl).symm
theorem gather_ok {l : List Zp} (h : gatherE l = 0) : outW (canon l) = false ∧ (canon l).length ≤ 400 := by
  unfold gatherE at h
  by_cases h1 : outW (canon l) = true
  · rw [if_pos h1] at h; omega
  · rw [if_neg h1] at h
    by_cases h2 : 400 < (canon l).length
    · rw [if_pos h2] at h; omega
    · exact ⟨by simpa using h1, by omega⟩
theorem outW_in {z : List Zp} (h : outW z = false) : ∀ x ∈ z, inW x.2 = true := by
  unfold outW at h
  rw [List.any_eq_false] at h
  intro x hx
  simpa using h x hx
theorem wrong_canon {l : List Zp} (hr : ∀ x ∈ l, wrongRowF x.1 = 0) (h : gatherE l = 0) : wrongZ (canon l) = 0 := by
  obtain ⟨h1, h2⟩ := gather_ok h
  refine (wrongZ_iff _).2 ⟨h2, fun y hy => ?_, (canon_set l).rise⟩
  obtain ⟨x, hx, e⟩ := canon_row l y hy
  refine ⟨?_, (canon_set l).ne y hy, outW_in h1 y hy⟩
  rw [e, wrongRow_bare]
  exact hr x hx
theorem of_ok {l : List Zp} (h : ofE l = 0) : l.length ≤ 1600 ∧ goO l = 0 ∧ gatherE l = 0 := by
  unfold ofE at h
  by_cases h1 : 1600 < l.length
  · rw [if_pos h1] at h; omega
  · rw [if_neg h1] at h
    by_cases h2 : goO l = 0
    · rw [if_pos h2] at h; exact ⟨by omega, h2, h⟩
    · rw [if_neg h2] at h; exact absurd h h2
theorem of_set {z : List Zp} (h : wrongZ z = 0) (hs : IsSet z) : ofE z = 0 ∧ ofZ z = z := by
  obtain ⟨h1, h2, h3⟩ := (wrongZ_iff z).1 h
  have g : goO z = 0 := (goO_iff z).2 fun x hx => ⟨(h2 x hx).1, (h2 x hx).2.2⟩
  have e : ofE z = 0 := by
    unfold ofE gatherE
    rw [if_neg (by omega), if_pos g, canon_self hs]
    have : outW z = false := by
      unfold outW
      rw [List.any_eq_false]
      intro x hx
      simp [(h2 x hx).2.2]
    rw [this, if_neg (by decide), if_neg (by omega)]
  exact ⟨e, by unfold ofZ; rw [if_pos e, canon_self hs]⟩

def piece (at_ : Int) (m : Nat) (x : Zp) : List Zp := if (m : Int) = at_ ∧ 1 < x.2 then [(x.1, x.2 - 1), (x.1, 1)] else [x]
def backF (at_ : Int) : Nat → List Zp → List Zp
  | _, [] => []
  | m, x :: r => backF at_ (m + 1) r ++ piece at_ m x
theorem backF_step (at_ : Int) (l : List Zp) (k : Nat) (h : k < l.length) : backF at_ k (l.drop k) = backF at_ (k + 1) (l.drop (k + 1)) ++ piece at_ k l[k] := by
  rw [List.drop_eq_getElem_cons h]; rfl
theorem piece_wt (at_ : Int) (m : Nat) (x : Zp) (q : List Vl) : wt (piece at_ m x) q = wt [x] q := by
  unfold piece
  split
  · simp only [wt]; split <;> omega
  · rfl
theorem backF_wt (at_ : Int) (q : List Vl) : ∀ (t : List Zp) (m : Nat), wt (backF at_ m t) q = wt t q
  | [], _ => rfl
  | x :: r, m => by
    have ih := backF_wt at_ q r (m + 1)
    rw [backF, wt_append, ih, piece_wt]
    simp only [wt]; omega
theorem backF_in (at_ : Int) : ∀ (t : List Zp) (m : Nat), (∀ x ∈ t, wrongRowF x.1 = 0 ∧ inW x.2 = true) → ∀ x ∈ backF at_ m t, wrongRowF x.1 = 0 ∧ inW x.2 = true
  | [], _, _ => by simp [backF]
  | y :: r, m, h => by
    have ih := backF_in at_ r (m + 1) (fun x hx => h x (by simp [hx]))
    have hy := h y (by simp)
    intro x hx
    rw [backF] at hx
    rcases List.mem_append.1 hx with hx | hx
    · exact ih x hx
    · unfold piece at hx
      have := (inW_iff _).1 hy.2
      split at hx
      · simp at hx
        rcases hx with rfl | rfl
        · exact ⟨hy.1, (inW_iff _).2 (by simp only; omega)⟩
        · exact ⟨hy.1, (inW_iff _).2 (by simp only; omega)⟩
      · simp at hx; subst hx; exact hy
theorem backF_len (at_ : Int) : ∀ (t : List Zp) (m : Nat), (backF at_ m t).length ≤ t.length * 2
  | [], _ => by simp [backF]
  | y :: r, m => by
    have ih := backF_len at_ r (m + 1)
    rw [backF, List.length_append]
    have : (piece at_ m y).length ≤ 2 := by unfold piece; split <;> simp
    simp; omega
theorem back_of {l : List Zp} (at_ : Int) (h : ofE l = 0) (hl : (backF at_ 0 l).length ≤ 1600) : ofE (backF at_ 0 l) = 0 ∧ ofZ (backF at_ 0 l) = canon l := by
  obtain ⟨h1, h2, h3⟩ := of_ok h
  have hc : canon (backF at_ 0 l) = canon l := canon_congr fun q => backF_wt at_ q l 0
  have g : goO (backF at_ 0 l) = 0 := (goO_iff _).2 (backF_in at_ l 0 ((goO_iff l).1 h2))
  have ge : gatherE (backF at_ 0 l) = 0 := by
    unfold gatherE at h3 ⊢
    rw [hc]; exact h3
  have e : ofE (backF at_ 0 l) = 0 := by
    unfold ofE
    rw [if_neg (by omega), if_pos g, ge]
  exact ⟨e, by unfold ofZ; rw [if_pos e, hc]⟩

theorem news2 {W : World} {B : Nat} (hB : W.heap.size = B) (u0 u1 : Value) : ∀ j u, [u0, u1][j]? = some u → (W.alloc (.cells #[u0, u1] 38)).cell? ((⟨B, 0, none⟩ : Addr).add j) = some u := by
  subst hB
  intro j u hj
  have hn := heap_alloc_new W (.cells #[u0, u1] 38)
  match j, hj with
  | 0, hj => simp at hj; subst hj; simp [Addr.add]
  | 1, hj => simp at hj; subst hj; simp [Addr.add]
theorem one2 (a : Option Addr) (m c : Nat) (x : Int) : ∀ u ∈ [Value.slice a m c, .int .i64 x], u.oneCell' = true := by
  intro u hu; simp at hu; rcases hu with rfl | rfl <;> rfl

theorem box_ne {W : World} {base n B : Nat} {v : Value} {xs : List Value} {a : Option Addr} {m c : Nat} {x y : Int} (ho : W.ownsRow base 38 2 v n (xs ++ [.slice a m c, .int .i64 y])) (hbox : W.heap[B]? = some (.cells #[.slice a m c, .int .i64 x] 38 (0, 0))) (hne : y ≠ x) : v.ownBlock ≠ some B := by
  obtain ⟨hl, ⟨rfl, _⟩ | ⟨g, cap, cur, rfl, _, hh, hn, hc, hs, ht⟩⟩ := ho
  · simp [Value.ownBlock]
  · simp only [Value.ownBlock]
    intro e
    injection e with e
    subst e
    rw [hbox] at hh
    simp only [Option.some.injEq, Obj.cells.injEq, and_true] at hh
    subst hh
    simp at hs hl
    have n1 : n = 1 := by omega
    subst n1
    have x0 : xs = [] := List.eq_nil_of_length_eq_zero (by omega)
    subst x0
    simp at ht
    exact hne ht.symm

end Go.Proofs.YtajbjhaoeeiigaaGreat
/- What is done with sets, plainly: conditions, filters, lists, pairs; sums over sets. No program in sight. -/
namespace Go.Proofs.YtajbjhaoeeiigaaGreat

/-! ### What is wrong -/
def condE (cols : List Int) (x : Ex) : Int := if (typeTop cols x).2 ≠ 0 then (typeTop cols x).2 else if (typeTop cols x).1 ≠ 2 ∧ (typeTop cols x).1 ≠ 1 then 9 else 0
def fitsZ (cols : List Int) : List Zp → Int
  | [] => 0
  | x :: r => if fitsL cols x.1 = 0 then fitsZ cols r else fitsL cols x.1
def inpE (cols : List Int) (z : List Zp) : Int := if 8 < cols.length then 5 else if wrongZ z ≠ 0 then wrongZ z else fitsZ cols z
def typesE (cols : List Int) : List Ex → Int
  | [] => 0
  | x :: r => if (typeTop cols x).2 = 0 then typesE cols r else (typeTop cols x).2
def listE (cols : List Int) (xs : List Ex) : Int := if 8 < xs.length then 5 else typesE cols xs
theorem fitsZ_end (cols : List Int) (z : List Zp) (k : Nat) (h : z.length ≤ k) : fitsZ cols (z.drop k) = 0 := by rw [List.drop_eq_nil_of_le h]; rfl
theorem fitsZ_bad (cols : List Int) (z : List Zp) (k : Nat) (h : k < z.length) (e : ¬ fitsL cols z[k].1 = 0) : fitsZ cols (z.drop k) = fitsL cols z[k].1 := by
  rw [List.drop_eq_getElem_cons h, fitsZ, if_neg e]
theorem fitsZ_next (cols : List Int) (z : List Zp) (k : Nat) (h : k < z.length) (e : fitsL cols z[k].1 = 0) : fitsZ cols (z.drop k) = fitsZ cols (z.drop (k + 1)) := by
  rw [List.drop_eq_getElem_cons h, fitsZ, if_pos e]
theorem typesE_end (cols : List Int) (z : List Ex) (k : Nat) (h : z.length ≤ k) : typesE cols (z.drop k) = 0 := by rw [List.drop_eq_nil_of_le h]; rfl
theorem typesE_bad (cols : List Int) (z : List Ex) (k : Nat) (h : k < z.length) (e : ¬ (typeTop cols z[k]).2 = 0) : typesE cols (z.drop k) = (typeTop cols z[k]).2 := by
  rw [List.drop_eq_getElem_cons h, typesE, if_neg e]
theorem typesE_next (cols : List Int) (z : List Ex) (k : Nat) (h : k < z.length) (e : (typeTop cols z[k]).2 = 0) : typesE cols (z.drop k) = typesE cols (z.drop (k + 1)) := by
  rw [List.drop_eq_getElem_cons h, typesE, if_pos e]
theorem fitsZ_ok (cols : List Int) : ∀ z : List Zp, fitsZ cols z = 0 ↔ ∀ x ∈ z, FitP cols x.1
  | [] => by simp [fitsZ]
  | x :: r => by
    have ih := fitsZ_ok cols r
    rw [fitsZ]
    by_cases h : fitsL cols x.1 = 0
    · rw [if_pos h, ih]
      simp [(fitsL_ok cols x.1).1 h]
    · rw [if_neg h]
      constructor
      · intro e; exact absurd e h
      · intro e; exact absurd ((fitsL_ok cols x.1).2 (e x (by simp))) h
theorem typesE_ok (cols : List Int) : ∀ z : List Ex, typesE cols z = 0 ↔ ∀ x ∈ z, (typeTop cols x).2 = 0
  | [] => by simp [typesE]
  | x :: r => by
    have ih := typesE_ok cols r
    rw [typesE]
    by_cases h : (typeTop cols x).2 = 0
    · rw [if_pos h, ih]
      simp [h]
    · rw [if_neg h]
      simp [h]
structure InpOk (cols : List Int) (z : List Zp) : Prop where
  cols8 : cols.length ≤ 8
  set : wrongZ z = 0
  fit : ∀ x ∈ z, FitP cols x.1
theorem inpE_ok (cols : List Int) (z : List Zp) : inpE cols z = 0 ↔ InpOk cols z := by
  unfold inpE
  by_cases h8 : 8 < cols.length
  · rw [if_pos h8]
    constructor
    · intro h; omega
    · rintro ⟨h, _, _⟩; omega
  · rw [if_neg h8]
    by_cases hw : wrongZ z = 0
    · rw [if_neg (by simpa using hw), fitsZ_ok]
      exact ⟨fun h => ⟨by omega, hw, h⟩, fun h => h.fit⟩
    · rw [if_pos (by simpa using hw)]
      exact ⟨fun h => absurd h hw, fun h => h.set⟩
theorem condE_ok {cols : List Int} {x : Ex} (h : condE cols x = 0) : (typeTop cols x).2 = 0 ∧ ((typeTop cols x).1 = 1 ∨ (typeTop cols x).1 = 2) := by
  unfold condE at h
  by_cases h1 : (typeTop cols x).2 = 0
  · rw [if_neg (by simpa using h1)] at h
    by_cases h2 : (typeTop cols x).1 ≠ 2 ∧ (typeTop cols x).1 ≠ 1
    · rw [if_pos h2] at h; omega
    · exact ⟨h1, by omega⟩
  · rw [if_pos h1] at h
    exact absurd h h1
theorem typ_of {cols : List Int} {x : Ex} (h : (typeTop cols x).2 = 0) : typP cols x = some (typeTop cols x).1 := ((typeTop_ok cols x).1 h).ty

/-! ### What expressions come to hangs on bare rows alone -/
theorem getD_bare (row : List Vl) (i : Nat) : bareP (row.getD i vl0) = (bareL row).getD i vl0 := by
  simp only [bareL, List.getD, List.getElem?_map]
  cases row[i]? <;> rfl
theorem valX_bare (row row' : List Vl) (h : bareL row = bareL row') : ∀ x, valX row x = valX row' x := by
  refine Ex.ind fun k v c ks ih => ?_
  have e : valsX row ks = valsX row' ks := by
    rw [valsX_map, valsX_map]
    exact List.map_congr_left ih
  rw [valX, valX, e]
  unfold nodeV
  rw [getD_bare, getD_bare, h]
theorem valX_same {row row' : List Vl} (h : cmpL row row' = 0) (x : Ex) : valX row x = valX row' x := valX_bare row row' (bareL_of h) x
def holdsP (x : Ex) (row : List Vl) : Bool := clsP (valX row x) == some true
def rowX (xs : List Ex) (row : List Vl) : List Vl := xs.map (valX row)
theorem holds_same {row row' : List Vl} (h : cmpL row row' = 0) (x : Ex) : holdsP x row = holdsP x row' := by unfold holdsP; rw [valX_same h]
theorem rowX_same {row row' : List Vl} (h : cmpL row row' = 0) (xs : List Ex) : rowX xs row = rowX xs row' := List.map_congr_left fun x _ => valX_same h x
theorem cmpL_append {a a' b b' : List Vl} (h : cmpL a a' = 0) (k : cmpL b b' = 0) : cmpL (a ++ b) (a' ++ b') = 0 := by
  have e : bareL (a ++ b) = bareL (a' ++ b') := by
    have h1 := bareL_of h
    have h2 := bareL_of k
    unfold bareL at *
    rw [List.map_append, List.map_append, h1, h2]
  rw [← cmpL_bare, ← cmpL_bareR, e]
  exact cmpL_refl _

/-! ### Sums over sets -/
def tot (g : List Vl → Int) : List Zp → Int
  | [] => 0
  | x :: r => g x.1 * x.2 + tot g r
def Resp {β : Type} (g : List Vl → β) : Prop := ∀ a b, cmpL a b = 0 → g a = g b
theorem tot_append (g : List Vl → Int) (l t : List Zp) : tot g (l ++ t) = tot g l + tot g t := by
  induction l with
  | nil => simp [tot]
  | cons x r ih => rw [List.cons_append, tot, tot, ih]; omega
theorem tot_put {g : List Vl → Int} (hg : Resp g) (r : List Vl) (w : Int) : ∀ z : List Zp, tot g (putL z r w) = tot g z + g r * w
  | [] => by
    have e : g (bareL r) = g r := hg _ _ (by rw [cmpL_bare]; exact cmpL_refl r)
    unfold putL
    split
    · rename_i h; subst h; simp [tot]
    · simp [tot, e]
  | x :: t => by
    have ih := tot_put hg r w t
    have e : g (bareL r) = g r := hg _ _ (by rw [cmpL_bare]; exact cmpL_refl r)
    unfold putL
    split
    · rw [tot, ih, tot]; omega
    · split
      · rename_i c
        have e2 : g x.1 = g r := hg _ _ c
        split
        · rename_i h0
          rw [tot, e2]
          have : g r * (w + x.2) = 0 := by rw [h0, Int.mul_zero]
          rw [Int.mul_add] at this
          omega
        · rw [tot, tot, e, e2, Int.mul_add]
          omega
      · split
        · rename_i h0; subst h0; simp
        · simp only [tot, e]; omega
theorem tot_canonF {g : List Vl → Int} (hg : Resp g) (l : List Zp) : ∀ z : List Zp, tot g (l.foldl (fun z x => putL z x.1 x.2) z) = tot g z + tot g l := by
  induction l with
  | nil => intro z; simp [tot]
  | cons x r ih => intro z; rw [List.foldl_cons, ih, tot_put hg, tot]; omega
theorem tot_canon {g : List Vl → Int} (hg : Resp g) (l : List Zp) : tot g (canon l) = tot g l := by
  unfold canon
  rw [tot_canonF hg]
  simp [tot]
theorem wt_tot (q : List Vl) (l : List Zp) : wt l q = tot (fun r => if cmpL r q = 0 then 1 else 0) l := by
  induction l with
  | nil => rfl
  | cons x r ih =>
    rw [wt, tot, ih]
    split <;> simp
theorem resp_at (q : List Vl) : Resp (fun r => if cmpL r q = 0 then (1 : Int) else 0) := fun a b h => by simp only [cmpL_left h]
theorem tot_congr {g g' : List Vl → Int} {l : List Zp} (h : ∀ x ∈ l, g x.1 = g' x.1) : tot g l = tot g' l := by
  induction l with
  | nil => rfl
  | cons x r ih => rw [tot, tot, h x (by simp), ih (fun y hy => h y (by simp [hy]))]
theorem tot_add (g g' : List Vl → Int) (l : List Zp) : tot (fun r => g r + g' r) l = tot g l + tot g' l := by
  induction l with
  | nil => rfl
  | cons x r ih => rw [tot, tot, tot, ih, Int.add_mul]; omega
theorem tot_zero (l : List Zp) : tot (fun _ => 0) l = 0 := by
  induction l with
  | nil => rfl
  | cons x r ih => rw [tot, ih]; simp
theorem tot_set {a b : List Zp} (h : ∀ q, wt a q = wt b q) {g : List Vl → Int} (hg : Resp g) : tot g a = tot g b := by
  rw [← tot_canon hg a, ← tot_canon hg b, canon_congr h]

/-! ### Filters and maps -/
def filtL (x : Ex) (z : List Zp) : List Zp := z.filter fun p => holdsP x p.1
def mapL (xs : List Ex) (z : List Zp) : List Zp := z.map fun p => (rowX xs p.1, p.2)
theorem wt_filter (p : List Vl → Bool) (hp : Resp p) (q : List Vl) (l : List Zp) : wt (l.filter fun x => p x.1) q = if p q then wt l q else 0 := by
  induction l with
  | nil => simp [wt]
  | cons x r ih =>
    rw [List.filter_cons]
    by_cases c : cmpL x.1 q = 0
    · have e := hp _ _ c
      by_cases h : p x.1 = true
      · rw [if_pos h, wt, wt, ih]
        rw [e] at h
        rw [if_pos h, if_pos h]
      · rw [if_neg h, ih]
        rw [e] at h
        rw [if_neg h, if_neg h]
    · by_cases h : p x.1 = true
      · rw [if_pos h, wt, if_neg c, ih, wt, if_neg c]; simp
      · rw [if_neg h, ih, wt, if_neg c]; simp
theorem resp_holds (x : Ex) : Resp (holdsP x) := fun _ _ h => holds_same h x
theorem wt_map (xs : List Ex) (q : List Vl) (l : List Zp) : wt (mapL xs l) q = tot (fun r => if cmpL (rowX xs r) q = 0 then 1 else 0) l := by
  induction l with
  | nil => rfl
  | cons x r ih =>
    show wt ((rowX xs x.1, x.2) :: mapL xs r) q = _
    rw [wt, tot, ih]
    split <;> simp
theorem resp_map (xs : List Ex) (q : List Vl) : Resp (fun r => if cmpL (rowX xs r) q = 0 then (1 : Int) else 0) := fun a b h => by simp only [rowX_same h]
theorem canon_rise {l : List Zp} (h : Rise l) : canon l = weighL (fun w => w) l :=
  (canon_of (weighL_set _ _ h) fun q => weighL_wt (fun w => w) rfl q l h).symm
/-- Some rows of a right set make a set. -/
theorem gather_sub {z l : List Zp} (hz : wrongZ z = 0) (hl : l.Sublist z) : gatherE l = 0 := by
  obtain ⟨h1, h2, h3⟩ := (wrongZ_iff z).1 hz
  have hr : Rise l := h3.sublist hl
  have e := canon_rise hr
  have o : outW (canon l) = false := by
    rw [e, outW_weigh]
    exact outW_ok fun j hj => (h2 _ (hl.subset (List.getElem_mem hj))).2.2
  have n : (canon l).length ≤ 400 := by
    rw [e]
    have := weighL_len (fun w => w) l
    have := hl.length_le
    omega
  unfold gatherE
  rw [o, if_neg (by decide), if_neg (by omega)]
theorem filt_gather {z : List Zp} (hz : wrongZ z = 0) (p : Zp → Bool) : gatherE (z.filter p) = 0 := gather_sub hz List.filter_sublist
def filtE (cols : List Int) (x : Ex) (z : List Zp) : Int := if condE cols x ≠ 0 then condE cols x else if inpE cols z ≠ 0 then inpE cols z else 0
def filtZ (cols : List Int) (x : Ex) (z : List Zp) : List Zp := if filtE cols x z = 0 then canon (filtL x z) else []
def mapE (cols : List Int) (xs : List Ex) (z : List Zp) : Int := if listE cols xs ≠ 0 then listE cols xs else if inpE cols z ≠ 0 then inpE cols z else gatherE (mapL xs z)
def mapZ (cols : List Int) (xs : List Ex) (z : List Zp) : List Zp := if mapE cols xs z = 0 then canon (mapL xs z) else []
theorem filtE_ok {cols : List Int} {x : Ex} {z : List Zp} (h : filtE cols x z = 0) : condE cols x = 0 ∧ InpOk cols z := by
  unfold filtE at h
  by_cases h1 : condE cols x = 0
  · rw [if_neg (by simpa using h1)] at h
    by_cases h2 : inpE cols z = 0
    · exact ⟨h1, (inpE_ok _ _).1 h2⟩
    · rw [if_pos h2] at h; exact absurd h h2
  · rw [if_pos h1] at h; exact absurd h h1
theorem mapE_ok {cols : List Int} {xs : List Ex} {z : List Zp} (h : mapE cols xs z = 0) : listE cols xs = 0 ∧ InpOk cols z ∧ gatherE (mapL xs z) = 0 := by
  unfold mapE at h
  by_cases h1 : listE cols xs = 0
  · rw [if_neg (by simpa using h1)] at h
    by_cases h2 : inpE cols z = 0
    · rw [if_neg (by simpa using h2)] at h
      exact ⟨h1, (inpE_ok _ _).1 h2, h⟩
    · rw [if_pos h2] at h; exact absurd h h2
  · rw [if_pos h1] at h; exact absurd h h1
theorem listE_ok {cols : List Int} {xs : List Ex} (h : listE cols xs = 0) : xs.length ≤ 8 ∧ ∀ x ∈ xs, (typeTop cols x).2 = 0 := by
  unfold listE at h
  by_cases h8 : 8 < xs.length
  · rw [if_pos h8] at h; omega
  · rw [if_neg h8, typesE_ok] at h
    exact ⟨by omega, h⟩
theorem filtZ_wt {cols : List Int} {x : Ex} {z : List Zp} (h : filtE cols x z = 0) (q : List Vl) : wt (filtZ cols x z) q = if holdsP x q then wt z q else 0 := by
  unfold filtZ filtL
  rw [if_pos h, canon_wt, wt_filter _ (resp_holds x)]
theorem filtZ_set {cols : List Int} {x : Ex} {z : List Zp} (h : filtE cols x z = 0) : IsSet (filtZ cols x z) := by unfold filtZ; rw [if_pos h]; exact canon_set _
theorem mapZ_wt {cols : List Int} {xs : List Ex} {z : List Zp} (h : mapE cols xs z = 0) (q : List Vl) : wt (mapZ cols xs z) q = tot (fun r => if cmpL (rowX xs r) q = 0 then 1 else 0) z := by
  unfold mapZ
  rw [if_pos h, canon_wt, wt_map]
theorem mapZ_set {cols : List Int} {xs : List Ex} {z : List Zp} (h : mapE cols xs z = 0) : IsSet (mapZ cols xs z) := by unfold mapZ; rw [if_pos h]; exact canon_set _
theorem holds_and (x y : Ex) (row : List Vl) : holdsP (mk2 4 x y) row = (holdsP x row && holdsP y row) := by
  unfold holdsP
  rw [val_mk2 row (by omega) (by omega)]
  show (clsP (tri (and3 _ _)) == some true) = _
  rcases h1 : clsP (valX row x) with _ | _ | _ <;> rcases h2 : clsP (valX row y) with _ | _ | _ <;> rfl
/-- One filter and another one are one by both; a filter twice is one. -/
theorem once_fact (cols : List Int) (x y : Ex) (z : List Zp) (h1 : filtE cols x z = 0) (h2 : filtE cols y (filtZ cols x z) = 0) (h3 : filtE cols x (filtZ cols x z) = 0) (h4 : filtE cols (mk2 4 x y) z = 0) :
    filtZ cols y (filtZ cols x z) = filtZ cols (mk2 4 x y) z ∧ filtZ cols x z = filtZ cols x (filtZ cols x z) := by
  refine ⟨set_unique _ _ (filtZ_set h2) (filtZ_set h4) fun q => ?_, set_unique _ _ (filtZ_set h1) (filtZ_set h3) fun q => ?_⟩
  · rw [filtZ_wt h2, filtZ_wt h1, filtZ_wt h4, holds_and]
    cases holdsP x q <;> cases holdsP y q <;> rfl
  · rw [filtZ_wt h3, filtZ_wt h1]
    cases holdsP x q <;> rfl
end Go.Proofs.YtajbjhaoeeiigaaGreat
/- Ready, and conditions. -/
namespace Go.Proofs.YtajbjhaoeeiigaaGreat
open Go.RowKit

set_option maxHeartbeats 1000000 in
theorem readyOk_at (cols : List Int) (x : Ex) (ca : Option Addr) (ccap : Nat) (a : Option Addr) (cap : Nat) (w : World) (hk : KsAt w.heap.size w a x.ks) (hc : IsAt w.heap.size w ca cols) (h0 : (typeTop cols x).2 = 0) :
    Calls Tryz.prog 54 #[.slice ca cols.length ccap, exV x.k x.v x.c a x.ks.length cap] w fun e w' => ∃ u, e = .returned (.tuple #[.int .i64 (typeTop cols x).1, u, .int .i64 0]) ∧ Asks cols w.heap.size u (fun row => valX row x) w' ∧ Below w.heap.size w w' := by
  have S0 := Six.new w x.k x.v x.c a x.ks.length cap 32
  have hal : Below w.heap.size w (w.alloc (.cells #[.int .i64 x.k, .int .i64 x.v.1, .int .i64 x.v.2.1, .string x.v.2.2, .int .i64 x.c, .slice a x.ks.length cap] 32)) := (Below.refl _ _).alloc (Nat.le_refl _) _
  have z1 : (w.alloc (.cells #[.int .i64 x.k, .int .i64 x.v.1, .int .i64 x.v.2.1, .string x.v.2.2, .int .i64 x.c, .slice a x.ks.length cap] 32)).heap.size = w.heap.size + 1 := by simp
  have con := type_at cols x ca ccap a cap _ ((KsAt.next hal (Nat.le_refl _) hk).up hal.size) ((hc.next hal (Nat.le_refl _)).up hal.size)
  have ra := ready_any cols x _ (typ_of h0)
  rw [h0] at con
  generalize (typeTop cols x).1 = t at *
  go_enter Tryz.func54, Tryz.ntmps54
  go_wp2_with fail
  generalize w.alloc (.cells #[.int .i64 x.k, .int .i64 x.v.1, .int .i64 x.v.2.1, .string x.v.2.2, .int .i64 x.c, .slice a x.ks.length cap] 32) = w1 at *
  refine con.mono ?_
  rintro e w2 ⟨rfl, hb2⟩
  have hA := chain hal hb2
  obtain ⟨s0, s1, s2, s3, s4, s5⟩ := S0.next hb2 (by omega)
  simp only [Nat.zero_add] at s1 s2 s3 s4 s5
  have con2 := ra w.heap.size a cap w2 (KsAt.next hA (Nat.le_refl _) hk) hA.size
  clear con ra S0
  go_wp2_with fail
  refine con2.mono ?_
  rintro e w3 ⟨u, rfl, hA3, hb3⟩
  clear s0 s1 s2 s3 s4 s5 con2
  obtain ⟨g, cb, rfl⟩ : ∃ g cb, u = .func (.func g) #[] cb := by obtain ⟨g, cb, e, _⟩ := hA3; exact ⟨g, cb, e⟩
  go_wp2_with fail
  exact bodyPost_ret (v := .tuple #[.int .i64 t, .func (.func g) #[] cb, .int .i64 0]) (by simp [results, Tryz.results54, go_sem]) rfl ⟨_, rfl, hA3.down hA.size, chain hA hb3⟩

set_option maxHeartbeats 1000000 in
theorem readyBad_at (cols : List Int) (x : Ex) (ca : Option Addr) (ccap : Nat) (a : Option Addr) (cap : Nat) (w : World) (hk : KsAt w.heap.size w a x.ks) (hc : IsAt w.heap.size w ca cols) (h0 : ¬ (typeTop cols x).2 = 0) :
    Calls Tryz.prog 54 #[.slice ca cols.length ccap, exV x.k x.v x.c a x.ks.length cap] w fun e w' => e = .returned (.tuple #[.int .i64 0, .nilFunc, .int .i64 (typeTop cols x).2]) ∧ Below w.heap.size w w' := by
  have hal : Below w.heap.size w (w.alloc (.cells #[.int .i64 x.k, .int .i64 x.v.1, .int .i64 x.v.2.1, .string x.v.2.2, .int .i64 x.c, .slice a x.ks.length cap] 32)) := (Below.refl _ _).alloc (Nat.le_refl _) _
  have con := type_at cols x ca ccap a cap _ ((KsAt.next hal (Nat.le_refl _) hk).up hal.size) ((hc.next hal (Nat.le_refl _)).up hal.size)
  have q : ((typeTop cols x).2 != 0) = true := by simpa using h0
  generalize (typeTop cols x).1 = t at *
  generalize (typeTop cols x).2 = t2 at *
  go_enter Tryz.func54, Tryz.ntmps54
  go_wp2_with fail
  generalize w.alloc (.cells #[.int .i64 x.k, .int .i64 x.v.1, .int .i64 x.v.2.1, .string x.v.2.2, .int .i64 x.c, .slice a x.ks.length cap] 32) = w1 at *
  refine con.mono ?_
  rintro e w2 ⟨rfl, hb2⟩
  have hA := chain hal hb2
  clear con
  go_wp2_with fail
  exact bodyPost_ret (v := .tuple #[.int .i64 0, .nilFunc, .int .i64 t2]) (by simp [results, Tryz.results54, go_sem]) rfl ⟨rfl, hA⟩

/-- A function value tells whether x is true of each row that fits, as long as all from lo on is as it was. -/
def Conds (cols : List Int) (lo : Nat) (u : Value) (x : Ex) (w : World) : Prop :=
  ∃ g cb, u = .func (.func g) #[] cb ∧ (∀ args w, (callFunc g args).run Tryz.prog w = .ok (.enter g args) w) ∧
    ∀ (row : List Vl) (a : Option Addr) (cap : Nat) (W : World), FitP cols row → SlAt W a row → Since lo w W →
      Calls Tryz.prog g (#[.slice a row.length cap] ++ cb) W fun e w' => e = .returned (.bool (holdsP x row)) ∧ Below W.heap.size W w'
theorem Conds.next {cols : List Int} {lo : Nat} {u : Value} {x : Ex} {w w1 : World} (h : Conds cols lo u x w) (hb : Since lo w w1) : Conds cols lo u x w1 := by
  obtain ⟨g, cb, e, eg, hd⟩ := h
  exact ⟨g, cb, e, eg, fun row a cap W hf hs hW => hd row a cap W hf hs (hb.trans hW)⟩
theorem Conds.down {cols : List Int} {lo lo' : Nat} {u : Value} {x : Ex} {w : World} (h : Conds cols lo u x w) (hl : lo' ≤ lo) : Conds cols lo' u x w := by
  obtain ⟨g, cb, e, eg, hd⟩ := h
  exact ⟨g, cb, e, eg, fun row a cap W hf hs hW => hd row a cap W hf hs (hW.up hl)⟩

set_option maxHeartbeats 400000 in
theorem cond1_at (cols : List Int) (lo : Nat) (x : Ex) (u : Value) (b : Nat) (a : Option Addr) (row : List Vl) (cap : Nat) (W : World) (h0 : W.cell? ⟨b, 0, none⟩ = some u) (hA : Asks cols lo u (fun row => valX row x) W) (hf : FitP cols row) (hs : SlAt W a row) :
    Calls Tryz.prog 70 #[.slice a row.length cap, .pointer (some ⟨b, 0, none⟩)] W fun e w' => e = .returned (.bool (holdsP x row)) ∧ Below W.heap.size W w' := by
  obtain ⟨g, cb, rfl, eg, d⟩ := hA
  have d := d row a cap W hf hs (Since.refl _ _)
  dsimp only at d
  unfold holdsP
  generalize valX row x = v at *
  show Calls _ _ _ _ fun e w' => e = .returned (.bool (cls v.1 v.2.1 == some true)) ∧ _
  go_enter Tryz.func70, Tryz.ntmps70
  go_wp2_with (go_at_fn g; refine d.mono ?_; rintro e w1 ⟨rfl, hb1⟩)
  refine (true_any _ _ _ _).mono ?_
  rintro e w2 ⟨rfl, hb2⟩
  go_wp2_with fail
  go_ret
  exact ⟨rfl, chain hb1 hb2⟩

set_option maxHeartbeats 1000000 in
theorem condOk_at (cols : List Int) (x : Ex) (ca : Option Addr) (ccap : Nat) (a : Option Addr) (cap : Nat) (w : World) (hk : KsAt w.heap.size w a x.ks) (hc : IsAt w.heap.size w ca cols) (h : condE cols x = 0) :
    Calls Tryz.prog 38 #[.slice ca cols.length ccap, exV x.k x.v x.c a x.ks.length cap] w fun e w' => ∃ u, e = .returned (.tuple #[u, .int .i64 0]) ∧ Conds cols w.heap.size u x w' ∧ Below w.heap.size w w' := by
  obtain ⟨h0, ht⟩ := condE_ok h
  have S0 := Six.new w x.k x.v x.c a x.ks.length cap 32
  have hal : Below w.heap.size w (w.alloc (.cells #[.int .i64 x.k, .int .i64 x.v.1, .int .i64 x.v.2.1, .string x.v.2.2, .int .i64 x.c, .slice a x.ks.length cap] 32)) := (Below.refl _ _).alloc (Nat.le_refl _) _
  have con := readyOk_at cols x ca ccap a cap _ ((KsAt.next hal (Nat.le_refl _) hk).up hal.size) ((hc.next hal (Nat.le_refl _)).up hal.size) h0
  clear h h0
  generalize (typeTop cols x).1 = t at *
  go_enter Tryz.func38, Tryz.ntmps38
  go_wp2_with fail
  generalize w.alloc (.cells #[.int .i64 x.k, .int .i64 x.v.1, .int .i64 x.v.2.1, .string x.v.2.2, .int .i64 x.c, .slice a x.ks.length cap] 32) = w1 at *
  refine con.mono ?_
  rintro e w2 ⟨u, rfl, hA2, hb2⟩
  have hA := chain hal hb2
  clear con S0
  have hA2 := hA2.down hal.size
  obtain ⟨g, cb, rfl⟩ : ∃ g cb, u = .func (.func g) #[] cb := by obtain ⟨g, cb, e, _⟩ := hA2; exact ⟨g, cb, e⟩
  have hal3 : Below w2.heap.size w2 (w2.alloc (.cells #[.func (.func g) #[] cb] 111)) := (Below.refl _ _).alloc (Nat.le_refl _) _
  have fin : ∀ W, Since w.heap.size (w2.alloc (.cells #[.func (.func g) #[] cb] 111)) W → ∀ (row : List Vl) (a : Option Addr) (cap : Nat), FitP cols row → SlAt W a row → Calls Tryz.prog 70 #[.slice a row.length cap, .pointer (some ⟨w2.heap.size, 0, none⟩)] W fun e w' => e = .returned (.bool (holdsP x row)) ∧ Below W.heap.size W w' := fun W hW row a cap hf hs =>
    cond1_at cols w.heap.size x _ w2.heap.size a row cap W ((hW.cell (p := ⟨w2.heap.size, 0, none⟩) hA.size (by simp)).trans (by simp)) ((hA2.next (Since.of hal3)).next hW) hf hs
  have HF : Hid _ := fin
  clear fin hA2
  rcases ht with rfl | rfl
  · go_wp2_with fail
    exact bodyPost_ret (v := .tuple #[.func (.func 70) #[] #[.pointer (some ⟨w2.heap.size, 0, none⟩)], .int .i64 0]) (by simp [results, Tryz.results38, go_sem]) rfl ⟨_, rfl, ⟨70, _, rfl, enters_of Tryz.func70 (by kernel_rfl) rfl, fun row a cap W hf hs hW => HF.out W hW row a cap hf hs⟩, chain hA hal3⟩
  · go_wp2_with fail
    exact bodyPost_ret (v := .tuple #[.func (.func 70) #[] #[.pointer (some ⟨w2.heap.size, 0, none⟩)], .int .i64 0]) (by simp [results, Tryz.results38, go_sem]) rfl ⟨_, rfl, ⟨70, _, rfl, enters_of Tryz.func70 (by kernel_rfl) rfl, fun row a cap W hf hs hW => HF.out W hW row a cap hf hs⟩, chain hA hal3⟩

set_option maxHeartbeats 1000000 in
theorem condBad_at (cols : List Int) (x : Ex) (ca : Option Addr) (ccap : Nat) (a : Option Addr) (cap : Nat) (w : World) (hk : KsAt w.heap.size w a x.ks) (hc : IsAt w.heap.size w ca cols) (h : ¬ condE cols x = 0) :
    Calls Tryz.prog 38 #[.slice ca cols.length ccap, exV x.k x.v x.c a x.ks.length cap] w fun e w' => e = .returned (.tuple #[.nilFunc, .int .i64 (condE cols x)]) ∧ Below w.heap.size w w' := by
  have hal : Below w.heap.size w (w.alloc (.cells #[.int .i64 x.k, .int .i64 x.v.1, .int .i64 x.v.2.1, .string x.v.2.2, .int .i64 x.c, .slice a x.ks.length cap] 32)) := (Below.refl _ _).alloc (Nat.le_refl _) _
  have hk' := (KsAt.next hal (Nat.le_refl _) hk).up hal.size
  have hc' := (hc.next hal (Nat.le_refl _)).up hal.size
  by_cases h0 : (typeTop cols x).2 = 0
  · have e : condE cols x = 9 := by
      unfold condE at h ⊢
      rw [if_neg (by simpa using h0)] at h ⊢
      by_cases q : (typeTop cols x).1 ≠ 2 ∧ (typeTop cols x).1 ≠ 1
      · rw [if_pos q]
      · rw [if_neg q] at h; exact absurd rfl h
    have ht : ¬ (typeTop cols x).1 = 2 ∧ ¬ (typeTop cols x).1 = 1 := by
      unfold condE at h
      rw [if_neg (by simpa using h0)] at h
      by_cases q : (typeTop cols x).1 ≠ 2 ∧ (typeTop cols x).1 ≠ 1
      · exact q
      · rw [if_neg q] at h; exact absurd rfl h
    rw [e]
    have con := readyOk_at cols x ca ccap a cap _ hk' hc' h0
    clear h h0 e
    generalize (typeTop cols x).1 = t at *
    have t2 : (t != 2) = true := by simpa using ht.1
    have t1 : (t != 1) = true := by simpa using ht.2
    go_enter Tryz.func38, Tryz.ntmps38
    go_wp2_with fail
    generalize w.alloc (.cells #[.int .i64 x.k, .int .i64 x.v.1, .int .i64 x.v.2.1, .string x.v.2.2, .int .i64 x.c, .slice a x.ks.length cap] 32) = w1 at *
    refine con.mono ?_
    rintro e w2 ⟨u, rfl, hA2, hb2⟩
    have hA := chain hal hb2
    clear con
    obtain ⟨g, cb, rfl⟩ : ∃ g cb, u = .func (.func g) #[] cb := by obtain ⟨g, cb, e, _⟩ := hA2; exact ⟨g, cb, e⟩
    have hal3 : Below w2.heap.size w2 (w2.alloc (.cells #[.func (.func g) #[] cb] 111)) := (Below.refl _ _).alloc (Nat.le_refl _) _
    clear hA2
    go_wp2_with fail
    exact bodyPost_ret (v := .tuple #[.nilFunc, .int .i64 9]) (by simp [results, Tryz.results38, go_sem]) rfl ⟨rfl, chain hA hal3⟩
  · have e : condE cols x = (typeTop cols x).2 := by unfold condE; rw [if_pos h0]
    rw [e]
    have con := readyBad_at cols x ca ccap a cap _ hk' hc' h0
    have q : ((typeTop cols x).2 != 0) = true := by simpa using h0
    clear h e h0
    generalize (typeTop cols x).2 = t2 at *
    go_enter Tryz.func38, Tryz.ntmps38
    go_wp2_with fail
    generalize w.alloc (.cells #[.int .i64 x.k, .int .i64 x.v.1, .int .i64 x.v.2.1, .string x.v.2.2, .int .i64 x.c, .slice a x.ks.length cap] 32) = w1 at *
    refine con.mono ?_
    rintro e w2 ⟨rfl, hb2⟩
    have hA := chain hal hb2
    have hal3 : Below w2.heap.size w2 (w2.alloc (.cells #[.nilFunc] 111)) := (Below.refl _ _).alloc (Nat.le_refl _) _
    clear con
    go_wp2_with fail
    exact bodyPost_ret (v := .tuple #[.nilFunc, .int .i64 t2]) (by simp [results, Tryz.results38, go_sem]) rfl ⟨rfl, chain hA hal3⟩
end Go.Proofs.YtajbjhaoeeiigaaGreat
/- Lists of expressions: what they come to, each time in new memory. -/
namespace Go.Proofs.YtajbjhaoeeiigaaGreat
open Go.RowKit

/-- What the making of values has come to: k of them are there. -/
def VTo (W : World) (B n : Nat) (f : Nat → Vl) (k : Nat) : Prop := ∃ xs, W.ownsRow B 30 3 (.slice (some ⟨B, 0, none⟩) n n) n xs ∧ ∀ j : Nat, j < n → j < k → xs[j * 3]? = some (.int .i64 (f j).1) ∧ xs[j * 3 + 1]? = some (.int .i64 (f j).2.1) ∧ xs[j * 3 + 2]? = some (.string (f j).2.2)
theorem VTo.step {W : World} {B n : Nat} {f : Nat → Vl} {k : Nat} (h : VTo W B n f k) (hk : k < n) :
    VTo (((W.setCell ⟨B, k * 3, none⟩ (.int .i64 (f k).1)).setCell ⟨B, k * 3 + 1, none⟩ (.int .i64 (f k).2.1)).setCell ⟨B, k * 3 + 2, none⟩ (.string (f k).2.2)) B n f (k + 1) := by
  obtain ⟨xs, h1, h2⟩ := h
  have lx := h1.1
  refine ⟨_, ((((h1.stored (k * 3) _).1.stored (k * 3 + 1) _).1).stored (k * 3 + 2) _).1, ?_⟩
  intro j hj hjk
  by_cases e : j = k
  · subst e
    refine ⟨?_, ?_, ?_⟩ <;> simp [List.getElem?_set, lx] <;> omega
  · obtain ⟨g0, g1, g2⟩ := h2 j hj (by omega)
    refine ⟨?_, ?_, ?_⟩
    · rw [List.getElem?_set_ne (by omega), List.getElem?_set_ne (by omega), List.getElem?_set_ne (by omega)]; exact g0
    · rw [List.getElem?_set_ne (by omega), List.getElem?_set_ne (by omega), List.getElem?_set_ne (by omega)]; exact g1
    · rw [List.getElem?_set_ne (by omega), List.getElem?_set_ne (by omega), List.getElem?_set_ne (by omega)]; exact g2
theorem VTo.next {W w1 : World} {B n : Nat} {f : Nat → Vl} {k : Nat} (h : VTo W B n f k) (hb : Below W.heap.size W w1) : VTo w1 B n f k := by
  obtain ⟨xs, h1, h2⟩ := h
  exact ⟨xs, own_next h1 hb, h2⟩
theorem VTo.cells {W : World} {B n : Nat} {f : Nat → Vl} {k : Nat} (h : VTo W B n f k) (hk : k < n) : (∃ u0 u1 u2, W.cell? ⟨B, k * 3, none⟩ = some u0 ∧ W.cell? ⟨B, k * 3 + 1, none⟩ = some u1 ∧ W.cell? ⟨B, k * 3 + 2, none⟩ = some u2) ∧ W.frozen? ⟨B, k * 3, none⟩ = false ∧ W.frozen? ⟨B, k * 3 + 1, none⟩ = false ∧ W.frozen? ⟨B, k * 3 + 2, none⟩ = false ∧ B < W.heap.size := by
  obtain ⟨xs, h1, h2⟩ := h
  have lx := h1.1
  refine ⟨⟨xs[k * 3]'(by omega), xs[k * 3 + 1]'(by omega), xs[k * 3 + 2]'(by omega), ?_, ?_, ?_⟩, h1.frozenAt _, h1.frozenAt _, h1.frozenAt _, (h1.lt B rfl).2⟩
  · rw [h1.cellAt _ (by omega)]; exact List.getElem?_eq_getElem (by omega)
  · rw [h1.cellAt _ (by omega)]; exact List.getElem?_eq_getElem (by omega)
  · rw [h1.cellAt _ (by omega)]; exact List.getElem?_eq_getElem (by omega)
theorem VTo.done {W : World} {B n : Nat} {f : Nat → Vl} (h : VTo W B n f n) (vs : List Vl) (hn : n = vs.length) (hv : ∀ j (hj : j < vs.length), f j = vs[j]) (h8 : vs.length ≤ 100) : SlAt W (some ⟨B, 0, none⟩) vs ∧ TyAt W (some ⟨B, 0, none⟩) := by
  obtain ⟨xs, h1, h2⟩ := h
  subst hn
  refine ⟨⟨by unfold maxLen; omega, .inr ⟨B, 0, rfl, ?_, (h1.lt B rfl).2⟩⟩, ?_⟩
  · intro i hi
    obtain ⟨g0, g1, g2⟩ := h2 i hi hi
    rw [hv i hi] at g0 g1 g2
    refine ⟨?_, ?_, ?_⟩
    · rw [h1.cellAt _ (by omega), ← g0]; congr 1; omega
    · rw [h1.cellAt _ (by omega), ← g1]; congr 1; omega
    · rw [h1.cellAt _ (by omega), ← g2]; congr 1; omega
  · intro b off e
    obtain ⟨_, ⟨e', _⟩ | ⟨g, cap, cur, e', _, hh, _⟩⟩ := h1
    · cases e'
    · simp only [Value.slice.injEq, Option.some.injEq, Addr.mk.injEq] at e e'
      obtain ⟨rfl, _⟩ := e
      rw [← e'.1.1] at hh
      exact ⟨_, _, hh⟩

/-- A slice of new memory holds these values. -/
def RowNew (B : Nat) (W : World) (l : List Vl) : Prop := SlAt W (some ⟨B, 0, none⟩) l ∧ TyAt W (some ⟨B, 0, none⟩)
/-- A function value makes rows of what xs come to, as long as all from lo on is as it was. -/
def ListF (cols : List Int) (lo : Nat) (u : Value) (xs : List Ex) (w : World) : Prop :=
  ∃ g cb, u = .func (.func g) #[] cb ∧ (∀ args w, (callFunc g args).run Tryz.prog w = .ok (.enter g args) w) ∧
    ∀ (row : List Vl) (a : Option Addr) (cap : Nat) (W : World), FitP cols row → SlAt W a row → Since lo w W →
      Calls Tryz.prog g (#[.slice a row.length cap] ++ cb) W fun e w' => e = .returned (.slice (some ⟨W.heap.size, 0, none⟩) xs.length xs.length) ∧ RowNew W.heap.size w' (rowX xs row) ∧ Below W.heap.size W w'
theorem ListF.next {cols : List Int} {lo : Nat} {u : Value} {xs : List Ex} {w w1 : World} (h : ListF cols lo u xs w) (hb : Since lo w w1) : ListF cols lo u xs w1 := by
  obtain ⟨g, cb, e, eg, hd⟩ := h
  exact ⟨g, cb, e, eg, fun row a cap W hf hs hW => hd row a cap W hf hs (hb.trans hW)⟩
theorem ListF.down {cols : List Int} {lo lo' : Nat} {u : Value} {xs : List Ex} {w : World} (h : ListF cols lo u xs w) (hl : lo' ≤ lo) : ListF cols lo' u xs w := by
  obtain ⟨g, cb, e, eg, hd⟩ := h
  exact ⟨g, cb, e, eg, fun row a cap W hf hs hW => hd row a cap W hf hs (hW.up hl)⟩

set_option maxHeartbeats 1000000 in
theorem list1_at (cols : List Int) (lo : Nat) (vb : Nat) (xs : List Ex) (a : Option Addr) (row : List Vl) (cap : Nat) (W : World) (hK : KidsF cols lo W vb xs) (h8 : xs.length ≤ 8) (hf : FitP cols row) (hs : SlAt W a row) :
    Calls Tryz.prog 55 #[.slice a row.length cap, .pointer (some ⟨vb, 0, none⟩)] W fun e w' => e = .returned (.slice (some ⟨W.heap.size, 0, none⟩) xs.length xs.length) ∧ RowNew W.heap.size w' (rowX xs row) ∧ Below W.heap.size W w' := by
  obtain ⟨i0, hi, hz0, hz1, hz2⟩ := info_parts Tryz.info49
  obtain ⟨K, k1, k2, k3, k4, k5, k6⟩ := hK
  have HK : Hid (∀ (i : Nat) (h : i < xs.length), ∃ u, W.cell? ⟨K, i, none⟩ = some u ∧ Asks cols lo u (fun row => valX row xs[i]) W) := k6
  go_enter Tryz.func55, Tryz.ntmps55
  go_wp2_with (first | (at_make; refine wpList_make_full _ rfl _ _ 36 rfl W.heap.size 30 i0 _ 3 Tryz.underlying36 hi hz0 hz1 .i64 .i64 xs.length xs.length xs.length rfl rfl rfl rfl (by rw [hz2]; omega) (by unfold maxLen; omega) (Nat.le_refl _) ?_))
  intro w1 hown hgrow
  have hb0 : Below W.heap.size W w1 := (Below.refl _ _).grown hgrow (Nat.le_refl _) (by simp)
  have hB0 : VTo w1 W.heap.size xs.length (fun j => valX row (xs.getD j (.mk 0 vl0 0 []))) 0 := ⟨_, hown, fun j _ hj => absurd hj (Nat.not_lt_zero _)⟩
  have c1 := (hb0.cell (p := ⟨vb, 0, none⟩) k2).trans k5
  clear hown hgrow k5 k6
  go_wp2_with fail
  clear c1
  go_loopw [12] (fun i wr => ∃ k : Nat, k ≤ xs.length ∧ i = .int .i64 k ∧ VTo wr W.heap.size xs.length (fun j => valX row (xs.getD j (.mk 0 vl0 0 []))) k ∧ Below W.heap.size W wr) (fun i _ => xs.length - (intOf i).toNat)
  case atStart => exact ⟨0, Nat.zero_le _, rfl, hB0, hb0⟩
  case round =>
    obtain ⟨k, hk, rfl, HB, hb⟩ := hrel
    have hz := hb.size
    by_cases hlt : k < xs.length
    · obtain ⟨u, cu, A⟩ := HK.out k hlt
      have cu := (hb.cell (p := ⟨K, k, none⟩) k4).trans cu
      obtain ⟨g, cb, rfl, eg, d⟩ := A
      have d := d row a cap wr hf (hs.next hb) (Since.of hb)
      dsimp only at d
      have ev : valX row xs[k] = (fun j => valX row (xs.getD j (.mk 0 vl0 0 []))) k := by simp [List.getD, hlt]
      rw [ev] at d
      generalize (fun j => valX row (xs.getD j (.mk 0 vl0 0 []))) = f at *
      have i0 : (0 : Int) ≤ (k : Int) := by omega
      have i1 : (k : Int) < (xs.length : Int) := by omega
      go_wp2_with (go_at_fn g; refine d.mono ?_; rintro e w2 ⟨rfl, hb2⟩; have HB2 := HB.next hb2; obtain ⟨⟨u0, u1, u2, d0, d1, d2⟩, f0, f1, f2, hlb⟩ := HB2.cells hlt; have zz := hb2.size)
      go_roundw
      case rel =>
        refine ⟨k + 1, by omega, by go_num, ?_, ?_⟩
        · exact HB2.step hlt
        · exact (((chain hb hb2).setCell (p := ⟨W.heap.size, k * 3, none⟩) (Nat.le_refl _) _).setCell (p := ⟨W.heap.size, k * 3 + 1, none⟩) (Nat.le_refl _) _).setCell (p := ⟨W.heap.size, k * 3 + 2, none⟩) (Nat.le_refl _) _
      case measure => simp [intOf]; omega
    · have e : k = xs.length := by omega
      subst e
      go_wp2_with fail
      go_ret
      exact ⟨rfl, HB.done (rowX xs row) (by simp [rowX]) (fun j hj => by simp [rowX] at hj; simp [rowX, List.getD, hj]) (by simp [rowX]; omega), hb⟩

theorem FTo.new2 {cols : List Int} {w : World} {n : Nat} (ks : List Ex) (hn : n = ks.length) (T T' : TypeId) :
    FTo cols w.heap.size (w.heap.size + 1) (w.heap.size + 2) ((w.alloc (.cells (Array.replicate n Value.nilFunc) T)).alloc (.cells #[.slice (some ⟨w.heap.size, 0, none⟩) n n] T')) ks 0 := by
  subst hn
  refine ⟨⟨by omega, by omega, by omega, by simp⟩, ?_, fun i hi => ⟨⟨Value.nilFunc, ?_⟩, ?_⟩, fun i _ h => absurd h (Nat.not_lt_zero _)⟩
  · rw [World.cell?_alloc_at _ _ _ _ (by simp)]; rfl
  · rw [World.cell?_alloc_past _ _ _ (by simp), World.cell?_alloc_at _ _ _ _ rfl]
    simp [hi]
  · rw [World.frozen?_alloc_past _ _ _ (by simp)]
    exact World.frozen?_alloc_at _ _ _ _ rfl

set_option maxHeartbeats 2000000 in
theorem list_at (cols : List Int) (xs : List Ex) (ca : Option Addr) (ccap : Nat) (xa : Option Addr) (xcap : Nat) (w : World) (hk : KsAt w.heap.size w xa xs) (hc : IsAt w.heap.size w ca cols) :
    Calls Tryz.prog 28 #[.slice ca cols.length ccap, .slice xa xs.length xcap] w fun e w' => ∃ u, e = .returned (.tuple #[u, .int .i64 (listE cols xs)]) ∧ ((listE cols xs = 0 ∧ ListF cols w.heap.size u xs w') ∨ (¬ listE cols xs = 0 ∧ u = .nilFunc)) ∧ Below w.heap.size w w' := by
  by_cases h8 : 8 < xs.length
  · have e : listE cols xs = 5 := by simp [listE, h8]
    rw [e]
    have hz : (8 : Int) < (xs.length : Int) := by omega
    go_enter Tryz.func28, Tryz.ntmps28
    go_wp2_with fail
    exact bodyPost_ret (v := .tuple #[.nilFunc, .int .i64 5]) (by simp [results, Tryz.results28, go_sem]) rfl ⟨_, rfl, .inr ⟨by decide, rfl⟩, Below.refl _ _⟩
  · have e : listE cols xs = typesE cols xs := by simp [listE, h8]
    have HE : Hid (listE cols xs = typesE cols xs) := e
    generalize listE cols xs = le at *
    clear e
    have hmk := make_funcs (show xs.length ≤ 8 by omega)
    have F0 : FTo cols w.heap.size (w.heap.size + 1) (w.heap.size + 2) ((w.alloc (.cells (Array.replicate xs.length Value.nilFunc) 111)).alloc (.cells #[.slice (some ⟨w.heap.size, 0, none⟩) xs.length xs.length] 110)) xs 0 := FTo.new2 xs rfl _ _
    have hA : Below w.heap.size w ((w.alloc (.cells (Array.replicate xs.length Value.nilFunc) 111)).alloc (.cells #[.slice (some ⟨w.heap.size, 0, none⟩) xs.length xs.length] 110)) := ((Below.refl _ _).alloc (Nat.le_refl _) _).alloc (by simp) _
    have hz : ¬ (8 : Int) < (xs.length : Int) := by omega
    go_enter Tryz.func28, Tryz.ntmps28
    go_wp2_with fail
    generalize (w.alloc (.cells (Array.replicate xs.length Value.nilFunc) 111)).alloc (.cells #[.slice (some ⟨w.heap.size, 0, none⟩) xs.length xs.length] 110) = w2 at *
    clear hmk
    go_loopw [20] (fun i wr => ∃ j : Nat, j ≤ xs.length ∧ i = .int .i64 j ∧ FTo cols w.heap.size (w.heap.size + 1) (w.heap.size + 2) wr xs j ∧ Hid (typesE cols xs = typesE cols (xs.drop j)) ∧ Below w.heap.size w wr) (fun i _ => xs.length - (intOf i).toNat)
    case atStart => exact ⟨0, Nat.zero_le _, rfl, F0, rfl, hA⟩
    case round =>
      clear F0 hA
      obtain ⟨j, hj, rfl, F, HT, hb⟩ := hrel
      have hz := hb.size
      have hzF := F.lt.2.2.2
      by_cases hlt : j < xs.length
      · obtain ⟨b, off, ai, ci, rfl, hbl, sx, kx⟩ := (KsAt.next hb (Nat.le_refl _) hk).elem hlt
        obtain ⟨x0, x1, x2, x3, x4, x5⟩ := sx
        have hal : Below wr.heap.size wr (wr.alloc (.cells #[.int .i64 xs[j].k, .int .i64 xs[j].v.1, .int .i64 xs[j].v.2.1, .string xs[j].v.2.2, .int .i64 xs[j].c, .slice ai xs[j].ks.length ci] 32)) := (Below.refl _ _).alloc (Nat.le_refl _) _
        have Fk := F.next hal
        have Sk := Six.new wr xs[j].k xs[j].v xs[j].c ai xs[j].ks.length ci 32
        have zk : (wr.alloc (.cells #[.int .i64 xs[j].k, .int .i64 xs[j].v.1, .int .i64 xs[j].v.2.1, .string xs[j].v.2.2, .int .i64 xs[j].c, .slice ai xs[j].ks.length ci] 32)).heap.size = wr.heap.size + 1 := by simp
        have kk := (KsAt.next hal hz kx).up (show w.heap.size ≤ (wr.alloc (.cells #[.int .i64 xs[j].k, .int .i64 xs[j].v.1, .int .i64 xs[j].v.2.1, .string xs[j].v.2.2, .int .i64 xs[j].c, .slice ai xs[j].ks.length ci] 32)).heap.size by omega)
        have cc := ((hc.next hb (Nat.le_refl _)).next hal hz).up (show w.heap.size ≤ (wr.alloc (.cells #[.int .i64 xs[j].k, .int .i64 xs[j].v.1, .int .i64 xs[j].v.2.1, .string xs[j].v.2.2, .int .i64 xs[j].c, .slice ai xs[j].ks.length ci] 32)).heap.size by omega)
        obtain ⟨k0, k1, k2, k3, k4, k5⟩ := Sk
        simp only [Nat.zero_add] at k1 k2 k3 k4 k5
        have hjz : (j : Int) < xs.length := by omega
        by_cases h0 : (typeTop cols xs[j]).2 = 0
        · have con := readyOk_at cols xs[j] ca ccap ai ci _ kk cc h0
          have H0 : Hid ((typeTop cols xs[j]).2 = 0) := h0
          clear h0
          generalize (typeTop cols xs[j]).1 = t at *
          go_wp2_with fail
          clear x0 x1 x2 x3 x4 x5 kx k0 k1 k2 k3 k4 k5 kk cc
          generalize wr.alloc (.cells #[.int .i64 xs[j].k, .int .i64 xs[j].v.1, .int .i64 xs[j].v.2.1, .string xs[j].v.2.2, .int .i64 xs[j].c, .slice ai xs[j].ks.length ci] 32) = wk at *
          refine con.mono ?_
          rintro e w3 ⟨u, rfl, hA3, hb3⟩
          clear con
          have F3 := Fk.next hb3
          have q1 := F3.box
          obtain ⟨⟨un, q2⟩, q3⟩ := F3.room j hlt
          obtain ⟨ug, ucb, rfl⟩ : ∃ g cb, u = .func (.func g) #[] cb := by obtain ⟨g, cb, e, _⟩ := hA3; exact ⟨g, cb, e⟩
          go_wp2_with fail
          go_roundw
          case rel => exact ⟨j + 1, by omega, by go_num, F3.store hlt (hA3.down (by omega)), HT.out.trans (typesE_next cols xs j hlt H0.out), (chain (chain hb hal) hb3).setCell (p := ⟨w.heap.size, j, none⟩) (Nat.le_refl _) _⟩
          case measure => simp [intOf]; omega
        · have con := readyBad_at cols xs[j] ca ccap ai ci _ kk cc h0
          have HN : Hid (le = (typeTop cols xs[j]).2) := HE.out.trans (HT.out.trans (typesE_bad cols xs j hlt h0))
          have q : ((typeTop cols xs[j]).2 != 0) = true := by simpa using h0
          generalize (typeTop cols xs[j]).2 = t2 at *
          go_wp2_with fail
          clear x0 x1 x2 x3 x4 x5 kx k0 k1 k2 k3 k4 k5 kk cc
          generalize wr.alloc (.cells #[.int .i64 xs[j].k, .int .i64 xs[j].v.1, .int .i64 xs[j].v.2.1, .string xs[j].v.2.2, .int .i64 xs[j].c, .slice ai xs[j].ks.length ci] 32) = wk at *
          refine con.mono ?_
          rintro e w3 ⟨rfl, hb3⟩
          clear con
          go_wp2_with fail
          exact bodyPost_ret (v := .tuple #[.nilFunc, .int .i64 t2]) (by simp [results, Tryz.results28, go_sem]) rfl ⟨_, by rw [HN.out], .inr ⟨by rw [HN.out]; exact h0, rfl⟩, chain (chain hb hal) hb3⟩
      · have e : j = xs.length := by omega
        subst e
        have HN : Hid (le = 0) := HE.out.trans (HT.out.trans (typesE_end cols xs _ (Nat.le_refl _)))
        have KF : Hid (KidsF cols w.heap.size wr (w.heap.size + 1) xs) := F.kids (Nat.le_refl _) (by omega)
        go_wp2_with fail
        refine bodyPost_ret (v := .tuple #[.func (.func 55) #[] #[.pointer (some ⟨w.heap.size + 1, 0, none⟩)], .int .i64 0]) (by simp [results, Tryz.results28, go_sem]) rfl ⟨_, by rw [HN.out], .inl ⟨HN.out, 55, _, rfl, enters_of Tryz.func55 (by kernel_rfl) rfl, fun row a cap W hf hs hW => ?_⟩, hb⟩
        exact list1_at cols w.heap.size (w.heap.size + 1) xs a row cap W (KF.out.next hW) (by omega) hf hs
end Go.Proofs.YtajbjhaoeeiigaaGreat
/- The walk of exprs.Fits. -/
namespace Go.Proofs.YtajbjhaoeeiigaaGreat
open Go.RowKit

theorem fitsG_end (cols : List Int) (row : List Vl) (k : Nat) (h : row.length ≤ k) : fitsG (cols.drop k) (row.drop k) = 0 := by
  rw [List.drop_eq_nil_of_le h]; cases cols.drop k <;> rfl
theorem fitsG_wrong (cols : List Int) (row : List Vl) (k : Nat) (h : k < row.length) (h' : k < cols.length) (e : ¬ wrongP row[k] = 0) : fitsG (cols.drop k) (row.drop k) = wrongP row[k] := by
  rw [List.drop_eq_getElem_cons h, List.drop_eq_getElem_cons h', fitsG, if_pos e]
theorem fitsG_type (cols : List Int) (row : List Vl) (k : Nat) (h : k < row.length) (h' : k < cols.length) (e : wrongP row[k] = 0) (e1 : ¬ row[k].1 = 1) (e2 : ¬ row[k].1 = cols[k]) : fitsG (cols.drop k) (row.drop k) = 9 := by
  rw [List.drop_eq_getElem_cons h, List.drop_eq_getElem_cons h', fitsG, if_neg (by simp [e]), if_pos ⟨e1, e2⟩]
theorem fitsG_next (cols : List Int) (row : List Vl) (k : Nat) (h : k < row.length) (h' : k < cols.length) (e : wrongP row[k] = 0) (e1 : row[k].1 = 1 ∨ row[k].1 = cols[k]) : fitsG (cols.drop k) (row.drop k) = fitsG (cols.drop (k + 1)) (row.drop (k + 1)) := by
  rw [List.drop_eq_getElem_cons h, List.drop_eq_getElem_cons h', fitsG, if_neg (by simp [e]), if_neg (by omega)]

set_option maxHeartbeats 2000000 in
theorem fits_at (cols : List Int) (row : List Vl) (ca : Option Addr) (ccap : Nat) (ra : Option Addr) (rcap : Nat) (w : World) (hc : IsAt w.heap.size w ca cols) (hs : SlAt w ra row) :
    Calls Tryz.prog 24 #[.slice ca cols.length ccap, .slice ra row.length rcap] w fun e w' => e = .returned (.int .i64 (fitsL cols row)) ∧ Below w.heap.size w w' := by
  have hl := hs.1
  unfold maxLen at hl
  generalize hr : fitsL cols row = r
  have HR : Hid (fitsL cols row = r) := hr
  clear hr
  by_cases hlen : row.length = cols.length
  · have HG : Hid (fitsG cols row = r) := by show fitsG cols row = r; rw [← HR.out, fitsL, if_neg (by simp [hlen])]
    have HL : Hid (row.length = cols.length) := hlen
    have q : ((row.length : Int) != (cols.length : Int)) = false := by simp; omega
    clear HR hlen
    go_enter Tryz.func24, Tryz.ntmps24
    go_wp2_with fail
    go_loopw [15] (fun i wr => ∃ j : Nat, j ≤ row.length ∧ i = .int .i64 j ∧ Hid (fitsG cols row = fitsG (cols.drop j) (row.drop j)) ∧ Below w.heap.size w wr) (fun i _ => row.length - (intOf i).toNat)
    case atStart => exact ⟨0, Nat.zero_le _, rfl, rfl, Below.refl _ _⟩
    case round =>
      obtain ⟨j, hj, rfl, HE, hb⟩ := hrel
      have hz := hb.size
      by_cases hlt : j < row.length
      · have hlt' : j < cols.length := by have := HL.out; omega
        obtain ⟨b, off, rfl, hbl, r0, r1, r2⟩ := (hs.next hb).elem hlt
        obtain ⟨b', off', rfl, hbl', c0⟩ := (hc.next hb (Nat.le_refl _)).elem hlt'
        generalize hv : row[j] = v at *
        generalize hcj : cols[j] = cj at *
        have HV : Hid (row[j] = v) := hv
        have HC : Hid (cols[j] = cj) := hcj
        clear hv hcj
        obtain ⟨k, n, s⟩ := v
        have A0 := Box.new wr (.int .i64 k) (.int .i64 n) (.string s) 30
        have d0 : (wr.alloc (.cells #[.int .i64 k, .int .i64 n, .string s] 30)).cell? ⟨b', off' + j, none⟩ = some (.int .i64 cj) := by
          rw [World.cell?_alloc_lt _ _ _ (by show b' < wr.heap.size; omega)]; exact c0
        go_wp2_with fail
        refine (wrong_any _ _ _ _).mono ?_
        rintro e w1 ⟨rfl, hb1⟩
        have hb1' := hb.trans (below1 hb1 |>.mono hz)
        have A1 := A0.next hb1
        have c1 := (hb1.cell (p := ⟨b', off' + j, none⟩) (by simp; omega)).trans d0
        clear r0 r1 r2 c0 A0 d0
        by_cases hw : wrongF k n s = 0
        · rw [hw]
          have HW : Hid (wrongP row[j] = 0) := by show wrongP row[j] = 0; rw [HV.out]; exact hw
          clear hw
          have p0 := past_cell A1.c0
          have p1 := past_cell c1
          haveI : Nonempty (Past w1) := ⟨⟨_, Below.refl _ _⟩⟩
          by_cases k1 : k = 1
          · subst k1
            have HN : Hid (fitsG (cols.drop j) (row.drop j) = fitsG (cols.drop (j + 1)) (row.drop (j + 1))) := fitsG_next cols row j hlt hlt' HW.out (.inl (by rw [HV.out]))
            go_wp2_with fail
            refine wp_region_past (by kernel_rfl) (by kernel_rfl) ?_
            repeat (go_big_quiet_step (fail))
            refine wpQuiet_nil ?_
            rintro w2 ⟨⟨v2, hb2⟩, h2⟩
            obtain rfl : w2 = v2 := h2
            clear p0 p1 A1 c1
            go_wp2_with fail
            go_roundw
            case rel => exact ⟨j + 1, by omega, by go_num, HE.out.trans HN.out, chain hb1' hb2⟩
            case measure => simp [intOf]; omega
          have q1 : (k != 1) = true := by simpa using k1
          by_cases kc : k = cj
          · subst kc
            have HN : Hid (fitsG (cols.drop j) (row.drop j) = fitsG (cols.drop (j + 1)) (row.drop (j + 1))) := fitsG_next cols row j hlt hlt' HW.out (.inr (by rw [HV.out, HC.out]))
            go_wp2_with fail
            refine wp_region_past (by kernel_rfl) (by kernel_rfl) ?_
            repeat (go_big_quiet_step (fail))
            refine wpQuiet_nil ?_
            rintro w2 ⟨⟨v2, hb2⟩, h2⟩
            obtain rfl : w2 = v2 := h2
            clear p0 p1 A1 c1
            go_wp2_with fail
            go_roundw
            case rel => exact ⟨j + 1, by omega, by go_num, HE.out.trans HN.out, chain hb1' hb2⟩
            case measure => simp [intOf]; omega
          have q2 : (k != cj) = true := by simpa using kc
          have er : r = 9 := by rw [← HG.out, HE.out, fitsG_type cols row j hlt hlt' HW.out (by rw [HV.out]; exact k1) (by rw [HV.out, HC.out]; exact kc)]
          subst er
          clear HG HE
          go_wp2_with fail
          refine wp_region_past (by kernel_rfl) (by kernel_rfl) ?_
          repeat (go_big_quiet_step (fail))
          refine wpQuiet_nil ?_
          rintro w2 ⟨⟨v2, hb2⟩, h2⟩
          obtain rfl : w2 = v2 := h2
          clear p0 p1 A1 c1
          go_wp2_with fail
          go_ret
          exact ⟨rfl, chain hb1' hb2⟩
        · have er : r = wrongF k n s := by rw [← HG.out, HE.out, fitsG_wrong cols row j hlt hlt' (by rw [HV.out]; exact hw), HV.out]; rfl
          subst er
          clear HG HE
          have q3 : (wrongF k n s != 0) = true := by simpa using hw
          go_wp2_with fail
          go_ret
          exact ⟨rfl, hb1'⟩
      · have er : r = 0 := by rw [← HG.out, HE.out, fitsG_end cols row j (by omega)]
        subst er
        clear HG HE
        go_wp2_with fail
        go_ret
        exact ⟨rfl, hb⟩
  · have er : r = 8 := by rw [← HR.out, fitsL, if_pos hlen]
    subst er
    have q : ((row.length : Int) != (cols.length : Int)) = true := by simp; omega
    clear HR
    go_enter Tryz.func24, Tryz.ntmps24
    go_wp2_with fail
    go_ret
    exact ⟨rfl, Below.refl _ _⟩
end Go.Proofs.YtajbjhaoeeiigaaGreat
/- What is wrong with a set of rows of columns; the rows that are asked for. -/
namespace Go.Proofs.YtajbjhaoeeiigaaGreat
open Go.RowKit Go.Lib Go.Shelf

set_option maxHeartbeats 2000000 in
theorem wrongS_at (cols : List Int) (ca : Option Addr) (ccap : Nat) (a : Option Addr) (cap : Nat) (l : List Zp) (w : World) (hc : IsAt w.heap.size w ca cols) (h : ZsAt w a l) :
    Calls Tryz.prog 30 #[.slice ca cols.length ccap, .slice a l.length cap] w fun e w' => e = .returned (.int .i64 (inpE cols l)) ∧ Below w.heap.size w w' := by
  have hl := h.1
  unfold maxLen at hl
  have hcl := hc.1
  unfold maxLen at hcl
  by_cases h8 : 8 < cols.length
  · have e : inpE cols l = 5 := by simp [inpE, h8]
    rw [e]
    have hz : (8 : Int) < (cols.length : Int) := by omega
    go_enter Tryz.func30, Tryz.ntmps30
    go_wp2_with fail
    go_ret
    exact ⟨rfl, Below.refl _ _⟩
  have hz : ¬ (8 : Int) < (cols.length : Int) := by omega
  by_cases hw : wrongZ l = 0
  · have e : inpE cols l = fitsZ cols l := by simp [inpE, h8, hw]
    rw [e]
    clear e
    have Hw : Hid (wrongZ l = 0) := hw
    clear hw
    go_enter Tryz.func30, Tryz.ntmps30
    go_wp2_with fail
    refine (zWrong_at _ _ _ _ h).mono ?_
    rintro e w1 ⟨rfl, hb1⟩
    rw [Hw.out]
    go_wp2_with fail
    go_loopw [19] (fun i wr => ∃ k : Nat, k ≤ l.length ∧ i = .int .i64 k ∧ Hid (fitsZ cols l = fitsZ cols (l.drop k)) ∧ Below w.heap.size w wr) (fun i _ => l.length - (intOf i).toNat)
    case atStart => exact ⟨0, Nat.zero_le _, rfl, rfl, hb1⟩
    case round =>
      obtain ⟨k, hk, rfl, HC, hb⟩ := hrel
      have hz := hb.size
      by_cases hlt : k < l.length
      · obtain ⟨b, off, rfl, hbl, c1, ar, cr, c0, sr⟩ := (h.next hb).elem hlt
        have hA := hb.alloc hz (.cells #[.slice ar l[k].1.length cr, .int .i64 l[k].2] 38)
        have hal : Below wr.heap.size wr (wr.alloc (.cells #[.slice ar l[k].1.length cr, .int .i64 l[k].2] 38)) := (Below.refl _ _).alloc (Nat.le_refl _) _
        have con := fits_at cols l[k].1 ca ccap ar cr _ ((hc.next hA (Nat.le_refl _)).up hA.size) (sr.next hal)
        by_cases hw : fitsL cols l[k].1 = 0
        · have Hw : Hid (fitsL cols l[k].1 = 0) := hw
          rw [hw] at con
          clear hw
          go_wp2_with fail
          refine con.mono ?_
          rintro e w2 ⟨rfl, hb2⟩
          go_wp2_with fail
          go_roundw
          case rel => exact ⟨k + 1, by omega, by go_num, HC.out.trans (fitsZ_next cols l k hlt Hw.out), chain2 hb hb2⟩
          case measure => simp [intOf]; omega
        · have HN : Hid (fitsZ cols l = fitsL cols l[k].1) := HC.out.trans (fitsZ_bad cols l k hlt hw)
          have hne : (fitsL cols l[k].1 != 0) = true := by simpa using hw
          generalize fitsL cols l[k].1 = t at *
          go_wp2_with fail
          refine con.mono ?_
          rintro e w2 ⟨rfl, hb2⟩
          go_wp2_with fail
          go_ret
          exact ⟨ret_int HN.out.symm, chain2 hb hb2⟩
      · have HN : Hid (fitsZ cols l = 0) := HC.out.trans (fitsZ_end cols l k (by omega))
        go_wp2_with fail
        go_ret
        exact ⟨ret_int HN.out.symm, hb⟩
  · have e : inpE cols l = wrongZ l := by simp [inpE, h8, hw]
    rw [e]
    have hne : (wrongZ l != 0) = true := by simpa using hw
    go_enter Tryz.func30, Tryz.ntmps30
    go_wp2_with fail
    refine (zWrong_at _ _ _ _ h).mono ?_
    rintro e w1 ⟨rfl, hb1⟩
    go_wp2_with fail
    go_ret
    exact ⟨rfl, hb1⟩

/-- A slice of one's own, whose rows' values lie in w0. -/
def OwnB (w0 : World) (base : Nat) (W : World) (v : Value) (l : List Zp) : Prop := ∃ xs, W.ownsRow base 38 2 v l.length xs ∧ EncB w0 xs l
theorem OwnB.next {w0 W w1 : World} {base : Nat} {v : Value} {l : List Zp} (h : OwnB w0 base W v l) (hb : Below W.heap.size W w1) : OwnB w0 base w1 v l := by
  obtain ⟨xs, h1, h2⟩ := h
  exact ⟨xs, own_next h1 hb, h2⟩
theorem OwnB.zs {w0 W : World} {base : Nat} {v : Value} {l : List Zp} (h : OwnB w0 base W v l) (hb : Below w0.heap.size w0 W) : ∃ a cap, v = .slice a l.length cap ∧ ZsAt W a l ∧ (a = none → cap = 0) := by
  obtain ⟨xs, h1, h2⟩ := h
  have h1' := h1
  obtain ⟨hx, ⟨rfl, h0⟩ | ⟨g, cap, cur, rfl, hg, hh, hn, hc, hs, ht⟩⟩ := h1
  · have : l = [] := List.eq_nil_of_length_eq_zero h0
    subst this
    exact ⟨none, 0, rfl, ⟨by simp, .inl rfl⟩, fun _ => rfl⟩
  · refine ⟨_, cap, rfl, ⟨by omega, .inr ⟨g, 0, rfl, (h1'.lt g rfl).2, fun i hi => ?_⟩⟩, fun e => by cases e⟩
    obtain ⟨a, cp, e0, e1, e2⟩ := h2.2 i hi
    refine ⟨?_, a, cp, ?_, e2.next hb⟩
    · rw [h1'.cellAt _ (by omega), ← e1]; congr 1; omega
    · rw [h1'.cellAt _ (by omega), ← e0]; congr 1; omega
theorem own_since {lo base e size n : Nat} {W w1 : World} {v : Value} {xs : List Value} (h : W.ownsRow base e size v n xs) (hl : lo ≤ base) (hs : Since lo W w1) : w1.ownsRow base e size v n xs := by
  have h' := h
  obtain ⟨hx, h1 | ⟨g, cap, cur, rfl, hg, hh, rest⟩⟩ := h
  · exact ⟨hx, .inl h1⟩
  · exact ⟨hx, .inr ⟨g, cap, cur, rfl, hg, by rw [hs.2 g (by omega) (h'.lt g rfl).2]; exact hh, rest⟩⟩
theorem filter_take {l : List Zp} (p : Zp → Bool) {k : Nat} (h : k < l.length) : (l.take (k + 1)).filter p = (l.take k).filter p ++ (if p l[k] = true then [l[k]] else []) := by
  rw [List.take_succ_eq_append_getElem h, List.filter_append]
  congr 1
  rw [List.filter_cons]
  rfl

set_option maxHeartbeats 4000000 in
theorem picked_at (g : Nat) (cb : Array Value) (p : Zp → Bool) (a : Option Addr) (cap : Nat) (l : List Zp) (w0 w : World) (Inv : World → Prop) (h : ZsAt w0 a l) (hl : l.length ≤ 100000)
    (eg : ∀ args w, (callFunc g args).run Tryz.prog w = .ok (.enter g args) w) (hI0 : Inv w) (hI1 : ∀ W, Inv W → Below w0.heap.size w0 W) (hI2 : ∀ W W', Inv W → Below w.heap.size W W' → Inv W')
    (hcall : ∀ x ∈ l, ∀ (ra : Option Addr) (rc : Nat) (W : World), Inv W → SlAt w0 ra x.1 → w.heap.size ≤ W.heap.size → Calls Tryz.prog g (#[.agg #[.slice ra x.1.length rc, .int .i64 x.2]] ++ cb) W fun e w' => e = .returned (.bool (p x)) ∧ Inv w' ∧ Since w.heap.size W w') :
    Calls Tryz.prog 39 #[.slice a l.length cap, .func (.func g) #[] cb] w fun e w' => ∃ v, e = .returned v ∧ OwnB w0 w.heap.size w' v (l.filter p) ∧ Inv w' ∧ w.heap.size ≤ w'.heap.size := by
  obtain ⟨i0, hi, hj0, hj1, hj2⟩ := info_parts Tryz.info42
  have HC : Hid (∀ x ∈ l, ∀ (ra : Option Addr) (rc : Nat) (W : World), Inv W → SlAt w0 ra x.1 → w.heap.size ≤ W.heap.size → Calls Tryz.prog g (#[.agg #[.slice ra x.1.length rc, .int .i64 x.2]] ++ cb) W fun e w' => e = .returned (.bool (p x)) ∧ Inv w' ∧ Since w.heap.size W w') := hcall
  have H1 : Hid (∀ W, Inv W → Below w0.heap.size w0 W) := hI1
  have H2 : Hid (∀ W W', Inv W → Below w.heap.size W W' → Inv W') := hI2
  clear hcall hI1 hI2
  go_enter Tryz.func39, Tryz.ntmps39
  go_wp2_with fail
  go_loopw [5, 10] (fun v i wr => ∃ k : Nat, k ≤ l.length ∧ i = .int .i64 k ∧ OwnB w0 w.heap.size wr v ((l.take k).filter p) ∧ Hid (Inv wr) ∧ w.heap.size ≤ wr.heap.size) (fun _ i _ => l.length - (intOf i).toNat)
  case atStart => exact ⟨0, Nat.zero_le _, rfl, ⟨[], by simpa using World.ownsRow_nil _ _ _ _, by simp [EncB]⟩, hI0, Nat.le_refl _⟩
  case round =>
    clear hI0
    obtain ⟨k, hk, rfl, HO, HI, hz⟩ := hrel
    by_cases hlt : k < l.length
    · obtain ⟨b, off, rfl, hbl, d1, ar, cr, d0, sr⟩ := h.elem hlt
      have hB := H1.out _ HI.out
      have c1 := (hB.cell (p := ⟨b, _, none⟩) hbl).trans d1
      have c0 := (hB.cell (p := ⟨b, _, none⟩) hbl).trans d0
      have hbl' : b < wr.heap.size := Nat.lt_of_lt_of_le hbl hB.size
      have hlen : ((l.take k).filter p).length ≤ k := by have := List.length_filter_le p (l.take k); simp only [List.length_take] at this; omega
      have hal : Below wr.heap.size wr (wr.alloc (.cells #[.slice ar l[k].1.length cr, .int .i64 l[k].2] 38)) := (Below.refl _ _).alloc (Nat.le_refl _) _
      have IA : Inv (wr.alloc (.cells #[.slice ar l[k].1.length cr, .int .i64 l[k].2] 38)) := H2.out _ _ HI.out (hal.mono hz)
      have con := HC.out l[k] (List.getElem_mem hlt) ar cr _ IA sr (Nat.le_trans hz hal.size)
      have q0 : (wr.alloc (.cells #[.slice ar l[k].1.length cr, .int .i64 l[k].2] 38)).cell? ⟨wr.heap.size, 0, none⟩ = some (.slice ar l[k].1.length cr) := by simp
      have q1 : (wr.alloc (.cells #[.slice ar l[k].1.length cr, .int .i64 l[k].2] 38)).cell? ⟨wr.heap.size, 1, none⟩ = some (.int .i64 l[k].2) := by simp
      have za : (wr.alloc (.cells #[.slice ar l[k].1.length cr, .int .i64 l[k].2] 38)).heap.size = wr.heap.size + 1 := by simp
      have HS : Hid (SlAt w0 ar l[k].1) := sr
      obtain ⟨xs, ho, he⟩ := HO
      have HE : Hid (EncB w0 xs ((l.take k).filter p)) := he
      have ho1 := own_next ho hal
      clear d0 d1 sr he ho IA
      by_cases hp : p l[k] = true
      · rw [hp] at con
        have HP : Hid (p l[k] = true) := hp
        clear hp
        go_wp2_with (first | (go_at_fn g; refine con.mono ?_; rintro e w1 ⟨rfl, I1, s1⟩; have r0 := (s1.cell (p := ⟨wr.heap.size, 0, none⟩) hz (by show wr.heap.size < _; omega)).trans q0; have r1 := (s1.cell (p := ⟨wr.heap.size, 1, none⟩) hz (by show wr.heap.size < _; omega)).trans q1; have z1 := s1.1; have o1 := own_since ho1 (Nat.le_refl _) s1) | (at_builtin; refine wpList_append_own _ rfl _ _ 24 rfl w.heap.size 38 i0 _ 2 32 Tryz.underlying24 hi hj0 hj1 hj2 rfl (by decide) _ _ _ rfl (o1.alloc _) ⟨w1.heap.size, 0, none⟩ 1 1 [.slice ar l[k].1.length cr, .int .i64 l[k].2] rfl rfl ?Ac1 ?Ac2 ?Ac3 ?Ac4 ?Ac5 ?_))
        case Ac1 =>
          intro j u hj
          match j, hj with
          | 0, hj => simp at hj; subst hj; simp [Addr.add]
          | 1, hj => simp at hj; subst hj; simp [Addr.add]
        case Ac2 => intro u hu; simp at hu; rcases hu with rfl | rfl <;> rfl
        case Ac3 => unfold maxLen; omega
        case Ac4 => omega
        case Ac5 => simp; omega
        intro v' w5 ho5 hg5 _
        have hb5 : Below w.heap.size w1 w5 := ((Below.refl w.heap.size w1).alloc (by omega) _).grown hg5 (by simp; omega) (fun q hq => ((o1.alloc (.cells #[.slice ar l[k].1.length cr, .int .i64 l[k].2] 38)).lt q hq).1)
        have HI1 : Hid (Inv w5) := H2.out _ _ I1 hb5
        have z5 := hb5.size
        clear hg5 o1 I1 con q0 q1 ho1
        go_wp2_with fail
        go_roundw
        case rel => exact ⟨k + 1, by omega, by go_num, by rw [filter_take p hlt, if_pos HP.out]; exact ⟨_, by simpa using ho5, HE.out.push HS.out⟩, HI1, by omega⟩
        case measure => simp [intOf]; omega
      · have hp : p l[k] = false := by simpa using hp
        rw [hp] at con
        have HP : Hid (p l[k] = false) := hp
        clear hp
        go_wp2_with (go_at_fn g; refine con.mono ?_; rintro e w1 ⟨rfl, I1, s1⟩)
        have o1 := own_since ho1 (Nat.le_refl _) s1
        have z1 := s1.1
        have HI1 : Hid (Inv w1) := I1
        clear con q0 q1 ho1 I1
        go_roundw
        case rel => exact ⟨k + 1, by omega, by go_num, by rw [filter_take p hlt, HP.out, if_neg (by decide), List.append_nil]; exact ⟨_, o1, HE.out⟩, HI1, by omega⟩
        case measure => simp [intOf]; omega
    · have e : k = l.length := by omega
      subst e
      rw [List.take_length] at HO
      obtain ⟨av, cv, rfl, _⟩ := HO.zs (H1.out _ HI.out)
      go_wp2_with fail
      go_ret
      exact ⟨_, rfl, HO, HI.out, hz⟩
end Go.Proofs.YtajbjhaoeeiigaaGreat
/- Slices as cells; appending whatever slice, a nil one too. -/
namespace Go.Proofs.YtajbjhaoeeiigaaGreat
open Go.RowKit Go.Lib

theorem run_append_none2 {P : Program} {w : World} (base : Nat) (t ty e : TypeId) (i : TypeInfo) (size : Nat) (ht : P.underlying t = some (.slice e)) (hi : P.info? e = some i)
    (v : Value) (n : Nat) (xs : List Value) (hown : w.ownsRow base e size v n xs) (c : Nat) : (Builtin.append_ #[t, t] ty #[v, .slice none 0 c]).run P w = .ok v w := by
  rcases hown.2 with ⟨rfl, rfl⟩ | ⟨g, cap, cur, rfl, _, _, hnc, _⟩
  · simp [Builtin.append_, run_underlying ht, sizeOf, typeInfo, hi, Builtin.lenOf, Builtin.firstCells]
  · simp [Builtin.append_, run_underlying ht, sizeOf, typeInfo, hi, Builtin.lenOf, Builtin.firstCells, hnc, storeCells]

/-- Cells behind a slice: n elements of so many cells each. -/
structure Raw (W : World) (a : Option Addr) (n size : Nat) (xs : List Value) : Prop where
  len : xs.length = n * size
  one : ∀ u ∈ xs, u.oneCell' = true
  nil : a = none → n = 0
  at_ : ∀ ad, a = some ad → ∀ j u, xs[j]? = some u → W.cell? (ad.add j) = some u
theorem Raw.next {W w1 : World} {a : Option Addr} {n size : Nat} {xs : List Value} (h : Raw W a n size xs) (hb : Below W.heap.size W w1) : Raw w1 a n size xs :=
  ⟨h.len, h.one, h.nil, fun ad e j u hj => (hb.cell (World.block_lt_of_cell? _ _ (h.at_ ad e j u hj))).trans (h.at_ ad e j u hj)⟩
theorem Raw.alloc {W : World} {a : Option Addr} {n size : Nat} {xs : List Value} (h : Raw W a n size xs) (o : Obj) : Raw (W.alloc o) a n size xs := h.next ((Below.refl _ _).alloc (Nat.le_refl _) _)

theorem wpList_append_raw {P : Program} {w : World} {ops : Array Oper} {rest : List Oper} {o : Oper} {a : Act} {Q : Exit → Act → World → Prop} (hgd : o.guard = none) (s x : Operand) (t : TypeId)
    (ho : o.op = .call { callee := .builtin .append, args := #[s, x], argTypes := #[t, t] })
    (base : Nat) (e : TypeId) (i : TypeInfo) (z : Value) (size bytes : Nat) (ht : P.underlying t = some (.slice e)) (hi : P.info? e = some i) (hz : i.zero = some z)
    (hsize : i.size = size) (hby : i.bytes = bytes) (hzs : z.cells.size = size) (hsz : 0 < size)
    (v : Value) (n : Nat) (xs : List Value) (hs : a.eval s = v) (hown : w.ownsRow base e size v n xs)
    (ao : Option Addr) (m c : Nat) (news : List Value) (hx : a.eval x = .slice ao m c) (hr : Raw w ao m size news)
    (h63 : n + m ≤ maxLen) (hbytes : (n + m) * bytes ≤ 140737488355328) (hbase : base ≤ w.heap.size)
    (h : ∀ v' w', w'.ownsRow base e size v' (n + m) (xs ++ news) → w.grownBy w' v.ownBlock → wpList P ops Q rest (a.put o.dst v') w') : wpList P ops Q (o :: rest) a w := by
  rcases ao with _ | ad
  · have hm := hr.nil rfl
    subst hm
    have hnews : news = [] := List.eq_nil_of_length_eq_zero (by simpa using hr.len)
    subst hnews
    refine wpList_plain hgd fun K hK' => ?_
    have hrun := run_append_none2 (P := P) (w := w) base t o.type e i size ht hi v n xs hown c
    unfold Oper.wp
    simp [execOp, ho, resolve, invoke, builtin, hs, hx, hrun, Result.andThen]
    exact hK' _ _ (by simpa using h v w (by simpa using hown) (World.grownBy.refl _ _))
  · exact wpList_append_own _ hgd s x t ho base e i z size bytes ht hi hz hsize hby hzs hsz v n xs hs hown ad m c news hx hr.len (hr.at_ ad rfl) hr.one h63 hbytes hbase (fun v' w' h1 h2 _ => h v' w' h1 h2)
/-- .. within what there is room for. -/
theorem wpList_append_in {P : Program} (w : World) {ops : Array Oper} {rest : List Oper} {o : Oper} {a : Act} {Q : Exit → Act → World → Prop}
    (hg : o.guard = none) (s x : Operand) (t : TypeId) (hop : o.op = Op.call { callee := Callee.builtin Builtin.append, args := #[s, x], argTypes := #[t, t] })
    (base : Nat) (e : TypeId) (i : TypeInfo) (size : Nat) (h1 : P.underlying t = some (.slice e)) (h2 : P.info? e = some i) (h4 : i.size = size)
    (g k cap : Nat) (xs : List Value) (hs : a.eval s = .slice (some ⟨g, 0, none⟩) k cap) (hown : w.ownsRow base e size (.slice (some ⟨g, 0, none⟩) k cap) k xs) (ao : Option Addr) (m c : Nat) (news : List Value) (hx : a.eval x = .slice ao m c) (hr : Raw w ao m size news) (b1 : k + m ≤ cap)
    (hK : ∀ w', w'.ownsRow base e size (.slice (some ⟨g, 0, none⟩) (k + m) cap) (k + m) (xs ++ news) → w.grownBy w' (some g) → wpList P ops Q rest (a.put o.dst (.slice (some ⟨g, 0, none⟩) (k + m) cap)) w') :
    wpList P ops Q (o :: rest) a w := by
  rcases ao with _ | ad
  · have hm := hr.nil rfl
    subst hm
    have hnews : news = [] := List.eq_nil_of_length_eq_zero (by simpa using hr.len)
    subst hnews
    refine wpList_plain hg fun K hK' => ?_
    have hrun := run_append_none2 (P := P) (w := w) base t o.type e i size h1 h2 _ k xs hown c
    unfold Oper.wp
    simp [execOp, hop, resolve, invoke, builtin, hs, hx, hrun, Result.andThen]
    exact hK' _ _ (by simpa using hK w (by simpa using hown) (World.grownBy.refl _ _))
  · exact wpList_append_fits w hg s x t hop base e i size h1 h2 h4 g k cap xs hs hown ad m c news hx hr.len (hr.at_ ad rfl) hr.one b1 hK

theorem addr_addJ (b off i : Nat) : (⟨b, off, none⟩ : Addr).add i = ⟨b, off + i, none⟩ := by
  unfold Addr.add
  by_cases h : i = 0 <;> simp [h]
/-- The cells of values. -/
def flatV : List Vl → List Value
  | [] => []
  | v :: r => .int .i64 v.1 :: .int .i64 v.2.1 :: .string v.2.2 :: flatV r
theorem flatV_len : ∀ l, (flatV l).length = l.length * 3
  | [] => rfl
  | v :: r => by simp only [flatV, List.length_cons, flatV_len r]; omega
theorem flatV_append : ∀ l t, flatV (l ++ t) = flatV l ++ flatV t
  | [], _ => rfl
  | v :: r, t => by simp only [List.cons_append, flatV, flatV_append r t]
theorem flatV_get : ∀ (l : List Vl) (j : Nat) (h : j < l.length), (flatV l)[j * 3]? = some (.int .i64 l[j].1) ∧ (flatV l)[j * 3 + 1]? = some (.int .i64 l[j].2.1) ∧ (flatV l)[j * 3 + 2]? = some (.string l[j].2.2)
  | [], _, h => by simp at h
  | v :: r, 0, _ => by simp [flatV]
  | v :: r, j + 1, h => by
    have ih := flatV_get r j (by simpa using h)
    have e0 : (j + 1) * 3 = j * 3 + 1 + 1 + 1 := by omega
    have e1 : (j + 1) * 3 + 1 = j * 3 + 1 + 1 + 1 + 1 := by omega
    have e2 : (j + 1) * 3 + 2 = j * 3 + 2 + 1 + 1 + 1 := by omega
    rw [e1, e2, e0]
    simp only [flatV, List.getElem?_cons_succ, List.getElem_cons_succ]
    exact ih
theorem flatV_one : ∀ l, ∀ u ∈ flatV l, u.oneCell' = true
  | [], u, h => by simp [flatV] at h
  | v :: r, u, h => by
    simp only [flatV, List.mem_cons] at h
    rcases h with rfl | rfl | rfl | h
    · rfl
    · rfl
    · rfl
    · exact flatV_one r u h
theorem raw_vals {W : World} {a : Option Addr} {l : List Vl} (h : SlAt W a l) : Raw W a l.length 3 (flatV l) := by
  refine ⟨flatV_len l, flatV_one l, ?_, ?_⟩
  · intro e
    rcases h.2 with h | ⟨b, off, e', _⟩
    · rw [h]; rfl
    · rw [e] at e'; cases e'
  · intro ad e j u hj
    have hlt : j < l.length * 3 := by
      rcases Nat.lt_or_ge j (l.length * 3) with h | h
      · exact h
      · rw [List.getElem?_eq_none (by rw [flatV_len]; exact h)] at hj; cases hj
    obtain ⟨b, off, e', _, c0, c1, c2⟩ := h.elem (k := j / 3) (by omega)
    rw [e] at e'
    have e' := Option.some.inj e'
    subst e'
    rw [addr_addJ]
    obtain ⟨g0, g1, g2⟩ := flatV_get l (j / 3) (by omega)
    have hm : j % 3 = 0 ∨ j % 3 = 1 ∨ j % 3 = 2 := by omega
    rcases hm with hm | hm | hm
    · have ej : j = j / 3 * 3 := by omega
      rw [ej, g0] at hj
      rw [← hj, ← c0]; congr 2; omega
    · have ej : j = j / 3 * 3 + 1 := by omega
      rw [ej, g1] at hj
      rw [← hj, ← c1]; congr 2; omega
    · have ej : j = j / 3 * 3 + 2 := by omega
      rw [ej, g2] at hj
      rw [← hj, ← c2]; congr 2; omega
theorem raw_ints {B : Nat} {W : World} {a : Option Addr} {l : List Int} (h : IsAt B W a l) : Raw W a l.length 1 (l.map (Value.int .i64)) := by
  refine ⟨by simp, by intro u hu; obtain ⟨x, _, rfl⟩ := List.mem_map.1 hu; rfl, ?_, ?_⟩
  · intro e
    rcases h.2 with h | ⟨b, off, e', _⟩
    · rw [h]; rfl
    · rw [e] at e'; cases e'
  · intro ad e j u hj
    have hlt : j < l.length := by
      rcases Nat.lt_or_ge j l.length with h | h
      · exact h
      · rw [List.getElem?_eq_none (by simpa using h)] at hj; cases hj
    obtain ⟨b, off, e', _, c0⟩ := h.elem hlt
    rw [e] at e'
    have e' := Option.some.inj e'
    subst e'
    rw [addr_addJ, c0]
    simpa [hlt] using hj
theorem own_vals {W : World} {B n : Nat} {v : Value} {l : List Vl} (ho : W.ownsRow B 30 3 v n (flatV l)) (hn : n = l.length) : ∃ a cap, v = .slice a l.length cap ∧ SlAt W a l ∧ TyAt W a ∧ (l.length ≤ cap ∨ a = none) := by
  subst hn
  have ho' := ho
  obtain ⟨hx, ⟨rfl, h0⟩ | ⟨g, cap, cur, rfl, hg, hh, hn, hc, hs, ht⟩⟩ := ho
  · have : l = [] := List.eq_nil_of_length_eq_zero h0
    subst this
    exact ⟨none, 0, rfl, ⟨by simp, .inl rfl⟩, (fun b off e => by cases e), .inr rfl⟩
  · refine ⟨_, cap, rfl, ⟨by omega, .inr ⟨g, 0, rfl, fun i hi => ?_, (ho'.lt g rfl).2⟩⟩, ?_, .inl hn⟩
    · obtain ⟨g0, g1, g2⟩ := flatV_get l i hi
      refine ⟨?_, ?_, ?_⟩
      · rw [ho'.cellAt _ (by omega), ← g0]; congr 1; omega
      · rw [ho'.cellAt _ (by omega), ← g1]; congr 1; omega
      · rw [ho'.cellAt _ (by omega), ← g2]; congr 1; omega
    · intro b off e
      have e := Option.some.inj e
      injection e with e1 e2
      subst e1
      exact ⟨_, _, hh⟩
theorem own_ints {W : World} {B n : Nat} {v : Value} {l : List Int} (ho : W.ownsRow B 3 1 v n (l.map (Value.int .i64))) (hn : n = l.length) : ∃ a cap, v = .slice a l.length cap ∧ IsAt W.heap.size W a l := by
  subst hn
  have ho' := ho
  obtain ⟨hx, ⟨rfl, h0⟩ | ⟨g, cap, cur, rfl, hg, hh, hn, hc, hs, ht⟩⟩ := ho
  · have : l = [] := List.eq_nil_of_length_eq_zero h0
    subst this
    exact ⟨none, 0, rfl, ⟨by simp, .inl rfl⟩⟩
  · refine ⟨_, cap, rfl, ⟨by omega, .inr ⟨g, 0, rfl, (ho'.lt g rfl).2, fun i hi => ?_⟩⟩⟩
    have := ho'.cellAt i (by omega)
    rw [Nat.zero_add, this]
    simp [hi]
end Go.Proofs.YtajbjhaoeeiigaaGreat
/- The walks of slices.Grow and slices.Concat at rows. -/
namespace Go.Proofs
open Go.Shelf Go.RowKit Go.Lib
shelf_lay_g Lays8.n4 Nm8 4 at Tryz 127 as Tryz.growZ
end Go.Proofs
namespace Go.Proofs.YtajbjhaoeeiigaaGreat
open Go.RowKit Go.Lib Go.Shelf

theorem grow_at (n : Nat) (hn : n ≤ 200000) (w : World) :
    Calls Tryz.prog 127 #[.slice none 0 0, .int .i64 n] w fun e w' => ∃ v, e = .returned v ∧ w'.ownsRow w.heap.size 38 2 v 0 [] ∧ Below w.heap.size w w' := by
  obtain ⟨i0, hi, hj0, hj1, hj2⟩ := info_parts Tryz.info42
  by_cases h0 : n = 0
  · subst h0
    refine (Any8.slices_Grow_room Tryz.growZ none 0 0 0 w (by omega) (by omega) (by omega) (by omega)).mono ?_
    rintro e w' ⟨rfl, rfl⟩
    exact ⟨_, rfl, World.ownsRow_nil _ _ _ _, Below.refl _ _⟩
  · refine (Any8.slices_Grow_grow Tryz.growZ i0 _ hi hj0 (by rw [hj1]; omega) none 0 0 n [] w (by omega) (by omega) (by rw [hj2]; omega) (by omega) (by simp) (by simp) (by intro a e; cases e)).mono ?_
    rintro e w' ⟨rfl, rfl⟩
    refine ⟨_, rfl, ?_, ((Below.refl _ _).drew).alloc (Nat.le_refl _) _⟩
    rw [Nat.zero_add]
    have hc := grownCap_ge w n 0 38
    have hm := grownCap_le_maxLen w n 0 38 (by unfold maxLen; omega)
    have := World.ownsRow_made (w := w.drew) (base := w.heap.size) (e := 38) (size := 2) (cur := [].toArray ++ Builtin.zeroCells (Value.agg #[Value.slice none 0 0, Value.int IntKind.i64 0]).cells (n - 0) ++ Builtin.zeroCells (Value.agg #[Value.slice none 0 0, Value.int IntKind.i64 0]).cells (grownCap w n 0 38 - n)) (cap := grownCap w n 0 38) (Nat.le_refl _) hm (by simp [size_zeroCells, Value.cells]; omega)
    exact this

theorem encB_append {W : World} {xs ys : List Value} {l t : List Zp} (h : EncB W xs l) (k : EncB W ys t) : EncB W (xs ++ ys) (l ++ t) := by
  have lx := h.1
  have ly := k.1
  refine ⟨by simp [lx, ly]; omega, fun i hi => ?_⟩
  by_cases hi' : i < l.length
  · obtain ⟨a', c', h1, h2, h3⟩ := h.2 i hi'
    rw [List.getElem_append_left hi']
    refine ⟨a', c', ?_, ?_, h3⟩
    · rw [List.getElem?_append_left (by omega), h1]
    · rw [List.getElem?_append_left (by omega), h2]
  · have hi2 : i - l.length < t.length := by simp at hi; omega
    obtain ⟨a', c', h1, h2, h3⟩ := k.2 (i - l.length) hi2
    rw [List.getElem_append_right (by omega)]
    refine ⟨a', c', ?_, ?_, h3⟩
    · rw [List.getElem?_append_right (by omega), ← h1]; congr 1; omega
    · rw [List.getElem?_append_right (by omega), ← h2]; congr 1; omega
theorem src_of {w : World} {a : Option Addr} {l : List Zp} (h : ZsAt w a l) : ∃ news, EncB w news l ∧ (∀ u ∈ news, u.oneCell' = true) ∧ (a = none → l = []) ∧ ∀ ad, a = some ad → ∀ j u, news[j]? = some u → w.cell? (ad.add j) = some u := by
  obtain ⟨d, hd, hdl, hc⟩ := h.arr
  refine ⟨(Go.Sort.flatK (encG w) 2 d).toList, ⟨by simp [hd], fun i hi => ?_⟩, ?_, ?_, ?_⟩
  · have hi' : i < d.size := by omega
    have e : d[i]! = d[i] := getElem!_pos d i hi'
    have el : plG w d[i] = l[i] := by
      have : l[i] = (d.toList.map (plG w))[i]'(by simpa using hi') := by simp [hdl]
      rw [this]; simp
    refine ⟨d[i].1.a, d[i].1.cap, ?_, ?_, ?_⟩
    · rw [Array.getElem?_toList, Array.getElem?_eq_getElem (by simp; omega), ← getElem!_pos, flat_even d i hi', e, ← el]; rfl
    · rw [Array.getElem?_toList, Array.getElem?_eq_getElem (by simp; omega), ← getElem!_pos, flat_odd d i hi', e, ← el]; rfl
    · rw [← el]; exact d[i].2
  · intro u hu
    obtain ⟨j, hj, rfl⟩ := List.getElem_of_mem hu
    have hj' : j < d.size * 2 := by simpa using hj
    have e : (Go.Sort.flatK (encG w) 2 d).toList[j] = (Go.Sort.flatK (encG w) 2 d)[j]! := by
      rw [Array.getElem_toList, getElem!_pos]
    rw [e, Go.Sort.get_flatK _ _ _ _ hj']
    rcases Nat.mod_two_eq_zero_or_one j with h0 | h1
    · rw [h0]; rfl
    · rw [h1]; rfl
  · intro e
    rcases hc with h | ⟨b, off, e', _⟩
    · exact h
    · rw [e] at e'; cases e'
  · intro ad e j u hj
    have hj' : j < d.size * 2 := by
      rcases Nat.lt_or_ge j (d.size * 2) with h | h
      · exact h
      · rw [List.getElem?_eq_none (by simpa using h)] at hj; cases hj
    rcases hc with h | ⟨b, off, e', hlt, hc⟩
    · subst h; simp at hd; subst hd; simp at hj'
    · rw [e] at e'
      injection e' with e'
      subst e'
      rw [addr_add']
      rw [Array.getElem?_toList, Array.getElem?_eq_getElem (by simpa using hj')] at hj
      injection hj with hj
      have := hc j (by omega)
      rwa [getElem!_pos _ _ (by simpa using hj'), hj] at this
end Go.Proofs.YtajbjhaoeeiigaaGreat
