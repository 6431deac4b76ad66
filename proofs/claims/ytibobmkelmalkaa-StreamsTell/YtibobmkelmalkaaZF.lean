/- The walk of slices.Concat at two slices of rows. -/
import Derived.Test.YtibobmkelmalkaaZE
namespace Go.Proofs.Ytibobmkelmalkaa
open Go.RowKit Go.Lib Go.Shelf

/-- What has been laid behind each other so far. -/
def catTo (l l' : List Zp) : Nat → List Zp
  | 0 => []
  | 1 => l
  | _ => l ++ l'
structure Pair (w : World) (B : Nat) (l l' : List Zp) : Prop where
  lt : B < w.heap.size
  at_ : ∀ k, k < 2 → ∃ a cap ls, w.cell? ⟨B, k, none⟩ = some (.slice a ls.length cap) ∧ ZsAt w a ls ∧ (a = none → cap = 0) ∧ catTo l l' (k + 1) = catTo l l' k ++ ls
theorem Pair.next {w w1 : World} {B : Nat} {l l' : List Zp} (h : Pair w B l l') (hb : Below w.heap.size w w1) : Pair w1 B l l' :=
  ⟨Nat.lt_of_lt_of_le h.lt hb.size, fun k hk => by
    obtain ⟨a, cap, ls, h1, h2, h3, h4⟩ := h.at_ k hk
    exact ⟨a, cap, ls, (hb.cell (p := ⟨B, k, none⟩) h.lt).trans h1, h2.next hb, h3, h4⟩⟩
theorem catTo_len (l l' : List Zp) (k : Nat) : (catTo l l' k).length ≤ l.length + l'.length := by
  match k with
  | 0 => simp [catTo]
  | 1 => simp [catTo]
  | n + 2 => simp [catTo]

set_option maxRecDepth 100000 in
set_option maxHeartbeats 4000000 in
theorem concat_at (B : Nat) (l l' : List Zp) (w : World) (h : Pair w B l l') (hl : l.length + l'.length ≤ 200000) :
    Calls Try.prog 37 #[.slice (some ⟨B, 0, none⟩) 2 2] w fun e w' => ∃ a cap, e = .returned (.slice a (l ++ l').length cap) ∧ ZsAt w' a (l ++ l') ∧ (a = none → cap = 0) ∧ Below w.heap.size w w' := by
  obtain ⟨i0, hi, hj0, hj1, hj2⟩ := info_parts Try.info42
  go_enter Try.func37, Try.ntmps37
  go_wp2_with fail
  go_loopw [3, 11] (fun sz i wr => ∃ k : Nat, k ≤ 2 ∧ i = .int .i64 k ∧ sz = .int .i64 ((catTo l l' k).length : Int) ∧ wr = w) (fun _ i _ => 2 - (intOf i).toNat)
  case atStart => exact ⟨0, by omega, rfl, rfl, rfl⟩
  case round =>
    obtain ⟨k, hk, rfl, rfl, rfl⟩ := hrel
    have hcl := catTo_len l l' k
    by_cases hlt : k < 2
    · obtain ⟨a, cap, ls, c0, zs, hnil, hcat⟩ := h.at_ k hlt
      have hcl2 := catTo_len l l' (k + 1)
      rw [hcat, List.length_append] at hcl2
      have HCat : Hid (catTo l l' (k + 1) = catTo l l' k ++ ls) := hcat
      clear hcat
      generalize hq : catTo l l' k = q at *
      have HQ : Hid (catTo l l' k = q) := hq
      clear hq
      go_wp2_with fail
      go_roundw
      case rel => exact ⟨k + 1, by omega, by go_num, by rw [HCat.out, List.length_append]; go_num, by first | rfl | trivial⟩
      case measure => simp [intOf]; omega
    · have e : k = 2 := by omega
      subst e
      have el : ((catTo l l' 2).length : Int) = ((l ++ l').length : Nat) := rfl
      have gc := grow_at (l.length + l'.length) (by omega) wr
      rw [Int.natCast_add] at gc
      go_wp2_with fail
      refine gc.mono ?_
      clear gc el
      rintro e w1 ⟨v, rfl, ho, hb1⟩
      obtain ⟨a1, c1, rfl⟩ := own_shape ho
      have HS0 : SumTo wr w1 (.slice a1 0 c1) (catTo l l' 0) := ⟨[], ho, rfl, fun i hi => by simp [catTo] at hi⟩
      clear ho
      go_wp2_with fail
      generalize hw0 : wr = w0 at *
      have HW0 : Hid (wr = w0) := hw0
      clear hw0
      go_loopw [6, 27] (fun v i ws => ∃ k : Nat, k ≤ 2 ∧ i = .int .i64 k ∧ SumTo w0 ws v (catTo l l' k) ∧ Below w0.heap.size w0 ws) (fun _ i _ => 2 - (intOf i).toNat)
      case atStart => exact ⟨0, by omega, rfl, HS0, hb1⟩
      case round =>
        clear HS0
        obtain ⟨k, hk, rfl, HS, hb⟩ := hrel
        have hz := hb.size
        obtain ⟨xs, ho, he⟩ := HS
        by_cases hlt : k < 2
        · obtain ⟨a, cap, ls, c0, zs, hnil, hcat⟩ := h.at_ k hlt
          have hcl2 := catTo_len l l' (k + 1)
          rw [hcat, List.length_append] at hcl2
          have HCat : Hid (catTo l l' (k + 1) = catTo l l' k ++ ls) := hcat
          clear hcat
          obtain ⟨news, en, e1, en0, ec⟩ := src_of zs
          have c0' := (hb.cell (p := ⟨B, k, none⟩) h.lt).trans c0
          clear c0
          generalize catTo l l' k = q at *
          obtain ⟨a3, c3, rfl⟩ := own_shape ho
          rcases a with _ | ad
          · have hls := en0 rfl
            have hcp := hnil rfl
            subst hls hcp
            go_wp2_with (at_builtin; refine wpList_append_own_none rfl _ _ 34 rfl w0.heap.size 45 i0 2 Try.underlying34 hi _ _ _ rfl ho rfl ?_)
            go_roundw
            case rel => exact ⟨k + 1, by omega, by go_num, by rw [HCat.out, List.append_nil]; exact ⟨xs, ho, he⟩, hb⟩
            case measure => simp [intOf]; omega
          · have ec' : ∀ j u, news[j]? = some u → wr.cell? (ad.add j) = some u := fun j u hj => by
              have := ec ad rfl j u hj
              rw [hb.cell (World.block_lt_of_cell? _ _ this)]
              exact this
            go_wp2_with (at_builtin; refine wpList_append_own _ rfl _ _ 34 rfl w0.heap.size 45 i0 _ 2 32 Try.underlying34 hi hj0 hj1 hj2 rfl (by decide) _ _ _ rfl ho ad ls.length cap news rfl en.1 ec' e1 (by unfold maxLen; omega) (by omega) (by omega) ?_)
            intro v' w5 ho5 hg5 _
            have hb5 : Below w0.heap.size w0 w5 := hb.grown hg5 hz (fun q hq => (ho.lt q hq).1)
            clear hg5 ho
            go_wp2_with fail
            go_roundw
            case rel => exact ⟨k + 1, by omega, by go_num, by rw [HCat.out]; exact ⟨_, by simpa using ho5, encB_append he en⟩, hb5⟩
            case measure => simp [intOf]; omega
        · have e : k = 2 := by omega
          subst e
          obtain ⟨a3, c3, e3, z3⟩ := own_zsB ho rfl he hb
          have hn3 : a3 = none → c3 = 0 := by
            intro e
            subst e
            obtain ⟨_, ⟨e4, _⟩ | ⟨g, c1, cur, e4, _⟩⟩ := ho
            · rw [e3] at e4; injection e4
            · rw [e3] at e4; injection e4 with e4; cases e4
          subst e3
          go_wp2_with fail
          go_ret
          exact ⟨a3, c3, rfl, z3, hn3, by rw [HW0.out]; exact hb⟩
end Go.Proofs.Ytibobmkelmalkaa
