/- The walk of exprs.value, whole, and of exprs.Eval. -/
import Derived.Test.YtkcnmgcmcemnfacYB
import Derived.Test.YtkcnmgcmcemnfacY6
import Derived.Test.YtkcnmgcmcemnfacY7
namespace Go.Proofs.Ytkcnmgcmcemnfac
open Go.RowKit

theorem vals_at (row : List Vl) (ks : List Ex) (i : Nat) (hi : i < ks.length) : (valsX row ks).getD i vl0 = valX row ks[i] := by
  rw [valsX_map]
  simp [List.getD, hi]

theorem value_any {cols : List Int} {row : List Vl} (hf : FitP cols row) : ∀ x t, typP cols x = some t → ValueAt row x := by
  refine Ex.ind fun k v c ks ih t ht => ?_
  obtain ⟨h1, h18, hl, ts, hts, hn⟩ := typP_node ht
  intro B a cap ra rcap w hk hB hs
  simp only [Ex.k, Ex.v, Ex.c, Ex.ks] at hk ⊢
  rw [valX]
  have F := vw_facts w k v c a ks.length cap ra row.length rcap
  have kid : ∀ (i : Nat) (hi : i < ks.length), KidOk w.heap.size i (valX row ks[i]) (vw w k v c a ks.length cap ra row.length rcap) := fun i hi W hW =>
    kid_at row k v c ks B a cap ra rcap w.heap.size (w.heap.size + 1) i hi (ih _ (List.getElem_mem _) _ (typsP_at hts i hi)) W
      (F.six.next hW (by have := F.size; omega)) (by have := F.size; have := hW.size; omega) ((hW.cell (p := ⟨w.heap.size + 1, 0, none⟩) (by have := F.size; show w.heap.size + 1 < _; omega)).trans F.row) (by have := F.size; have := hW.size; omega)
      (KsAt.next (chain F.low hW) hB hk) (by have := F.size; have := hW.size; omega) (hs.next (chain F.low hW))
  have rgt : ∀ (i : Nat) (hi : i < ks.length), wrongP (valX row ks[i]) = 0 := fun i hi => (valX_of hf _ _ (typsP_at hts i hi)).1
  unfold nodeV
  by_cases k1 : k = 1
  · subst k1
    rw [if_pos rfl]
    exact value_1 v c a ks.length cap ra row.length rcap w
  rw [if_neg k1]
  by_cases k2 : k = 2
  · subst k2
    rw [if_pos rfl]
    unfold nodeT at hn
    rw [if_neg (by decide), if_pos rfl] at hn
    obtain ⟨q0, q1, _⟩ := colT_ok hn
    have hlen := hf.len
    have e : row.getD c.toNat vl0 = row[c.toNat]'(by omega) := by simp [List.getD, show c.toNat < row.length by omega]
    rw [e]
    exact value_2 v c a ks.length cap ra row.length rcap w row c.toNat (by omega) rfl (by omega) hs
  rw [if_neg k2]
  by_cases k3 : k = 3
  · subst k3
    rw [if_pos rfl]
    have l1 : ks.length = 1 := hl
    rw [vals_at row ks 0 (by omega)]
    exact value_3 v c a ks.length cap ra row.length rcap w _ (kid 0 (by omega))
  rw [if_neg k3]
  by_cases k16 : k = 16
  · subst k16
    rw [if_pos rfl]
    have l1 : ks.length = 1 := hl
    rw [vals_at row ks 0 (by omega)]
    exact value_16 v c a ks.length cap ra row.length rcap w _ (kid 0 (by omega))
  rw [if_neg k16]
  by_cases k17 : k = 17
  · subst k17
    rw [if_pos rfl]
    have l3 : ks.length = 3 := hl
    rw [vals_at row ks 0 (by omega), vals_at row ks 1 (by omega), vals_at row ks 2 (by omega)]
    by_cases q : (clsP (valX row ks[0]) == some true) = true
    · rw [if_pos q]
      exact value_17t v c a ks.length cap ra row.length rcap w _ (kid 0 (by omega)) _ (kid 1 (by omega)) q
    · rw [if_neg q]
      exact value_17f v c a ks.length cap ra row.length rcap w _ (kid 0 (by omega)) _ (kid 2 (by omega)) (Bool.eq_false_iff.mpr q)
  rw [if_neg k17]
  have l2 : ks.length = 2 := by rw [hl]; unfold kidsN; rw [if_neg (by omega), if_neg (by omega), if_neg k17]
  rw [vals_at row ks 0 (by omega), vals_at row ks 1 (by omega)]
  exact value_two k v c a ks.length cap ra row.length rcap w _ (kid 0 (by omega)) _ (kid 1 (by omega)) (by omega) (by omega) (rgt 0 (by omega)) (rgt 1 (by omega))

set_option maxHeartbeats 1000000 in
theorem eval_at (cols : List Int) (x : Ex) (row : List Vl) (ca : Option Addr) (ccap : Nat) (a : Option Addr) (cap : Nat) (ra : Option Addr) (rcap : Nat) (w : World)
    (hc : IsAt w.heap.size w ca cols) (hk : KsAt w.heap.size w a x.ks) (hs : SlAt w ra row) :
    Calls Try.prog 13 #[.slice ca cols.length ccap, exV x.k x.v x.c a x.ks.length cap, .slice ra row.length rcap] w fun e w' => e = .returned (.tuple #[agV (evalX cols x row).1, .int .i64 (evalX cols x row).2]) ∧ Below w.heap.size w w' := by
  generalize hr : evalX cols x row = r
  have HR : Hid (evalX cols x row = r) := hr
  clear hr
  go_enter Try.func13, Try.ntmps13
  go_wp2_with fail
  have S0 := Six.new w x.k x.v x.c a x.ks.length cap 27
  have h1 : Below w.heap.size w (w.alloc (.cells #[.int .i64 x.k, .int .i64 x.v.1, .int .i64 x.v.2.1, .string x.v.2.2, .int .i64 x.c, .slice a x.ks.length cap] 27)) := (Below.refl _ _).alloc (Nat.le_refl _) _
  have z1 : (w.alloc (.cells #[.int .i64 x.k, .int .i64 x.v.1, .int .i64 x.v.2.1, .string x.v.2.2, .int .i64 x.c, .slice a x.ks.length cap] 27)).heap.size = w.heap.size + 1 := by simp
  generalize w.alloc (.cells #[.int .i64 x.k, .int .i64 x.v.1, .int .i64 x.v.2.1, .string x.v.2.2, .int .i64 x.c, .slice a x.ks.length cap] 27) = w1 at *
  have h2 : Below w1.heap.size w1 (w1.alloc (.cells #[.int .i64 0, .int .i64 0, .string ⟨#[]⟩] 24)) := (Below.refl _ _).alloc (Nat.le_refl _) _
  have R := Box.new w1 (.int .i64 0) (.int .i64 0) (.string ⟨#[]⟩) 24
  have z2 : (w1.alloc (.cells #[.int .i64 0, .int .i64 0, .string ⟨#[]⟩] 24)).heap.size = w1.heap.size + 1 := by simp
  have S := S0.next h2 (by omega)
  rw [z1] at R
  generalize w1.alloc (.cells #[.int .i64 0, .int .i64 0, .string ⟨#[]⟩] 24) = w2 at *
  have hA := chain h1 h2
  clear S0 h1 h2
  refine (type_at cols x ca ccap a cap w2 ((KsAt.next hA (Nat.le_refl _) hk).up hA.size) ((hc.next hA (Nat.le_refl _)).up hA.size)).mono ?_
  rintro e w3 ⟨rfl, hb⟩
  have hA := chain hA hb
  have R := R.next hb
  have S := S.next hb (by omega)
  have z3 := hb.size
  clear hb
  generalize ht : typeTop cols x = ty
  have HT : Hid (typeTop cols x = ty) := ht
  clear ht
  obtain ⟨t1, t2⟩ := ty
  by_cases h0 : t2 = 0
  · subst h0
    obtain ⟨s0, s1, s2, s3, s4, s5⟩ := S
    simp only [Nat.zero_add] at s1 s2 s3 s4 s5
    go_wp2_with fail
    refine (fits_at cols row ca ccap ra rcap w3 ((hc.next hA (Nat.le_refl _)).up hA.size) (hs.next hA)).mono ?_
    rintro e w4 ⟨rfl, hb⟩
    have hA := chain hA hb
    have R := R.next hb
    have S : Six w3 w.heap.size 0 x.k x.v x.c a x.ks.length cap := ⟨s0, s1, s2, s3, s4, s5⟩
    have S := S.next hb (by omega)
    have z4 := hb.size
    clear hb s0 s1 s2 s3 s4 s5
    by_cases hf : fitsL cols row = 0
    · have er : r = (valX row x, 0) := by
        rw [← HR.out, evalX, HT.out, hf]
        simp
      have con := value_any ((fitsL_ok _ _).1 hf) x t1 (by have := (typeTop_ok cols x).1 (by rw [HT.out]); rw [HT.out] at this; exact this.ty) w.heap.size a cap ra rcap w4 (KsAt.next hA (Nat.le_refl _) hk) hA.size (hs.next hA)
      generalize valX row x = q at *
      subst er
      rw [hf]
      clear hf HT HR
      obtain ⟨s0, s1, s2, s3, s4, s5⟩ := S
      simp only [Nat.zero_add] at s1 s2 s3 s4 s5
      go_wp2_with fail
      refine con.mono ?_
      rintro e w5 ⟨rfl, hb⟩
      have hA := chain hA hb
      have ⟨b0, b1, b2, b3, b4, b5, b6⟩ := R.next hb
      clear hb s0 s1 s2 s3 s4 s5 con
      go_wp2_with fail
      exact bodyPost_ret (v := .tuple #[agV q, .int .i64 0]) (by simp [results, Try.results13, go_sem, b1, b2, b3]) rfl ⟨rfl, below_set3 hA (by omega)⟩
    · have er : r = (vl0, fitsL cols row) := by
        rw [← HR.out, evalX, HT.out, if_neg (by simp), if_pos hf]
      subst er
      have q : (fitsL cols row != 0) = true := by simpa using hf
      have ⟨b0, b1, b2, b3, b4, b5, b6⟩ := R
      clear HR HT S
      go_wp2_with fail
      exact bodyPost_ret (v := .tuple #[.agg #[.int .i64 0, .int .i64 0, .string ⟨#[]⟩], .int .i64 (fitsL cols row)]) (by simp [results, Try.results13, go_sem, b1, b2, b3]) rfl ⟨rfl, by first | exact hA | exact below_set3 hA (by omega)⟩
  · have er : r = (vl0, t2) := by
      rw [← HR.out, evalX, HT.out, if_pos h0]
    subst er
    have q : (t2 != 0) = true := by simpa using h0
    have ⟨b0, b1, b2, b3, b4, b5, b6⟩ := R
    clear HR HT S
    go_wp2_with fail
    exact bodyPost_ret (v := .tuple #[.agg #[.int .i64 0, .int .i64 0, .string ⟨#[]⟩], .int .i64 t2]) (by simp [results, Try.results13, go_sem, b1, b2, b3]) rfl ⟨rfl, by first | exact hA | exact below_set3 hA (by omega)⟩
end Go.Proofs.Ytkcnmgcmcemnfac
