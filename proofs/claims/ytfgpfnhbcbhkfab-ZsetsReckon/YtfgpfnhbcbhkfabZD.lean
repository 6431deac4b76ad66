/- The walk of tidelaw2.alive. -/
import Derived.Test.YtfgpfnhbcbhkfabZC
namespace Go.Proofs.Ytfgpfnhbcbhkfab
open Go.RowKit Go.Lib Go.Shelf

theorem sl_one {W : World} {b : Nat} {k n : Int} {s : ByteArray} (h0 : W.cell? ⟨b, 0, none⟩ = some (.int .i64 k)) (h1 : W.cell? ⟨b, 1, none⟩ = some (.int .i64 n)) (h2 : W.cell? ⟨b, 2, none⟩ = some (.string s)) : SlAt W (some ⟨b, 0, none⟩) [(k, n, s)] := by
  refine ⟨by simp [maxLen], .inr ⟨b, 0, rfl, ?_, World.block_lt_of_cell? _ _ h0⟩⟩
  intro i hi
  have : i = 0 := by simp at hi; omega
  subst this
  exact ⟨h0, h1, h2⟩

set_option maxHeartbeats 1000000 in
theorem one_at (n x : Int) (w : World) :
    Calls Try.prog 51 #[.int .i64 n, .int .i64 x] w fun e w' => (∃ a cap, e = .returned (.agg #[.slice a 1 cap, .int .i64 x]) ∧ SlAt w' a [(3, n, ⟨#[]⟩)]) ∧ Below w.heap.size w w' := by
  go_enter Try.func51, Try.ntmps51
  go_wp2_with fail
  refine bodyPost_ret (v := .agg #[.slice (some ⟨w.heap.size + 1, 0, none⟩) 1 1, .int .i64 x]) (by simp [results, Try.results51, go_sem]) rfl ⟨⟨_, _, rfl, ?_⟩, ?_⟩
  · refine sl_one ?_ ?_ ?_ <;> simp
  · exact ((Below.refl _ _).alloc (Nat.le_refl _) _).alloc (by simp) _

def l0 : List Zp := [([(3, 2, ⟨#[]⟩)], 1), ([(3, 1, ⟨#[]⟩)], 3), ([(3, 2, ⟨#[]⟩)], -1)]
def z0 : List Zp := [([(3, 1, ⟨#[]⟩)], 3)]
theorem canon_l0 : canon l0 = z0 := by
  simp [canon, l0, z0, putL, cmpL, cmpP, cmpV, cmpI, bareL, bareP, bareN, bareS]
theorem ofE_l0 : ofE l0 = 0 := by
  have h : goO l0 = 0 := by simp [goO, l0, wrongRowF, wrongL, wrongF, inW]
  unfold ofE gatherE
  rw [if_neg (by simp [l0]), if_pos h, canon_l0]
  simp [outW, z0, inW]
theorem ofZ_l0 : ofZ l0 = z0 := by unfold ofZ; rw [if_pos ofE_l0, canon_l0]
theorem rise_z0 : Rise z0 := by simp [Rise, z0]
theorem wt_z0 : wt z0 [(3, 1, ⟨#[]⟩)] = 3 := by simp [wt, z0, cmpL_refl]

set_option maxHeartbeats 2000000 in
theorem alive_at (w : World) : Calls Try.prog 27 #[] w fun e w' => e = .returned (.bool true) ∧ Below w.heap.size w w' := by
  go_enter Try.func27, Try.ntmps27
  go_wp2_with fail
  refine (one_at _ _ _).mono ?_
  rintro e w1 ⟨⟨a1, c1, rfl, s1⟩, hb1⟩
  go_wp2_with fail
  refine (one_at _ _ _).mono ?_
  rintro e w2 ⟨⟨a2, c2, rfl, s2⟩, hb2⟩
  go_wp2_with fail
  refine (one_at _ _ _).mono ?_
  rintro e w3 ⟨⟨a3, c3, rfl, s3⟩, hb3⟩
  have bb := chain1 (chain1 hb1 hb2) hb3
  have ba : Below w3.heap.size w3 (w3.alloc (.cells #[.slice a1 1 c1, .int .i64 1, .slice a2 1 c2, .int .i64 3, .slice a3 1 c3, .int .i64 (-1)] 42)) := (Below.refl _ _).alloc (Nat.le_refl _) _
  have zz : ZsAt (w3.alloc (.cells #[.slice a1 1 c1, .int .i64 1, .slice a2 1 c2, .int .i64 3, .slice a3 1 c3, .int .i64 (-1)] 42)) (some ⟨w3.heap.size, 0, none⟩) l0 := by
    refine ⟨by simp [l0, maxLen], .inr ⟨w3.heap.size, 0, rfl, by simp, ?_⟩⟩
    intro i hi
    have hi' : i < 3 := hi
    match i, hi' with
    | 0, _ => exact ⟨by simp [l0], a1, c1, by simp [l0], ((s1.next hb2).next hb3).next ba⟩
    | 1, _ => exact ⟨by simp [l0], a2, c2, by simp [l0], (s2.next hb3).next ba⟩
    | 2, _ => exact ⟨by simp [l0], a3, c3, by simp [l0], s3.next ba⟩
  have oc := of_at _ 3 l0 _ zz
  have el : l0.length = 3 := rfl
  rw [el, ofE_l0, ofZ_l0] at oc
  clear zz s1 s2 s3
  go_wp2_with fail
  refine oc.mono ?_
  clear oc
  rintro e w4 ⟨v, rfl, O4, hb4⟩
  obtain ⟨a4, c4, rfl, z4⟩ := O4.zs
  have b4 := chain1 (chain1 bb ba) hb4
  obtain ⟨b, off, rfl, hbl, q1, ar, cr, q0, sr⟩ := z4.elem (k := 0) (by simp [z0])
  obtain ⟨x, xo, rfl, xl, x0, x1, x2⟩ := sr.elem (k := 0) (by simp [z0])
  have wc := weight_at _ _ c4 cr z0 [(3, 1, ⟨#[]⟩)] w4 z4 (by simpa [z0] using sr) rise_z0 (by simp [z0])
  rw [wt_z0] at wc
  simp only [Nat.zero_mul, Nat.add_zero] at q0 q1 x0 x1 x2
  simp only [z0, List.getElem_cons_zero, List.length_cons, List.length_nil, Nat.zero_add] at q0 q1 x0 x1 x2 wc ⊢
  clear O4 z4 sr
  go_wp2_with (go_at_call 15; refine wc.mono ?_; rintro e w5 ⟨rfl, hb5⟩)
  go_ret
  exact ⟨rfl, chain1 b4 hb5⟩
end Go.Proofs.Ytfgpfnhbcbhkfab
