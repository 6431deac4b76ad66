/- The walks of slices.Grow and slices.Concat at rows. -/
import Derived.Test.YtibobmkelmalkaaZC
import Derived.Shelf.Spec.SlicesGrow
import Derived.Ground.Names8Prog
import Derived.Laws.AppendOwnNone
namespace Go.Proofs
open Go.Shelf Go.RowKit Go.Lib
shelf_lay_g Lays8.n4 Nm8 4 at Try 48 as Try.growZ
end Go.Proofs
namespace Go.Proofs.Ytibobmkelmalkaa
open Go.RowKit Go.Lib Go.Shelf

theorem grow_at (n : Nat) (hn : n ≤ 200000) (w : World) :
    Calls Try.prog 48 #[.slice none 0 0, .int .i64 n] w fun e w' => ∃ v, e = .returned v ∧ w'.ownsRow w.heap.size 45 2 v 0 [] ∧ Below w.heap.size w w' := by
  obtain ⟨i0, hi, hj0, hj1, hj2⟩ := info_parts Try.info42
  by_cases h0 : n = 0
  · subst h0
    refine (Any8.slices_Grow_room Try.growZ none 0 0 0 w (by omega) (by omega) (by omega) (by omega)).mono ?_
    rintro e w' ⟨rfl, rfl⟩
    exact ⟨_, rfl, World.ownsRow_nil _ _ _ _, Below.refl _ _⟩
  · refine (Any8.slices_Grow_grow Try.growZ i0 _ hi hj0 (by rw [hj1]; omega) none 0 0 n [] w (by omega) (by omega) (by rw [hj2]; omega) (by omega) (by simp) (by simp) (by intro a e; cases e)).mono ?_
    rintro e w' ⟨rfl, rfl⟩
    refine ⟨_, rfl, ?_, ((Below.refl _ _).drew).alloc (Nat.le_refl _) _⟩
    rw [Nat.zero_add]
    have hc := grownCap_ge w n 0 45
    have hm := grownCap_le_maxLen w n 0 45 (by unfold maxLen; omega)
    have := World.ownsRow_made (w := w.drew) (base := w.heap.size) (e := 45) (size := 2) (cur := [].toArray ++ Builtin.zeroCells (Value.agg #[Value.slice none 0 0, Value.int IntKind.i64 0]).cells (n - 0) ++ Builtin.zeroCells (Value.agg #[Value.slice none 0 0, Value.int IntKind.i64 0]).cells (grownCap w n 0 45 - n)) (cap := grownCap w n 0 45) (Nat.le_refl _) hm (by simp [size_zeroCells, Value.cells]; omega)
    exact this

theorem encB_append {W : World} {xs ys : List Value} {l t : List Zp} (h : EncB W xs l) (k : EncB W ys t) : EncB W (xs ++ ys) (l ++ t) := by
  have lx := h.1
  have ly := k.1
  refine ⟨by simp [lx, ly]; omega, fun i hi => ?_⟩
  by_cases hi' : i < l.length
  · obtain ⟨a', c', h1, h2, h3⟩ := h.2 i hi'
    rw [List.getElem_append_left hi']
    refine ⟨a', c', ?_, ?_, h3⟩
    · rw [List.getElem?_append_left (by omega), h1]
    · rw [List.getElem?_append_left (by omega), h2]
  · have hi2 : i - l.length < t.length := by simp at hi; omega
    obtain ⟨a', c', h1, h2, h3⟩ := k.2 (i - l.length) hi2
    rw [List.getElem_append_right (by omega)]
    refine ⟨a', c', ?_, ?_, h3⟩
    · rw [List.getElem?_append_right (by omega), ← h1]; congr 1; omega
    · rw [List.getElem?_append_right (by omega), ← h2]; congr 1; omega
theorem src_of {w : World} {a : Option Addr} {l : List Zp} (h : ZsAt w a l) : ∃ news, EncB w news l ∧ (∀ u ∈ news, u.oneCell' = true) ∧ (a = none → l = []) ∧ ∀ ad, a = some ad → ∀ j u, news[j]? = some u → w.cell? (ad.add j) = some u := by
  obtain ⟨d, hd, hdl, hc⟩ := h.arr
  refine ⟨(Go.Sort.flatK (encG w) 2 d).toList, ⟨by simp [hd], fun i hi => ?_⟩, ?_, ?_, ?_⟩
  · have hi' : i < d.size := by omega
    have e : d[i]! = d[i] := getElem!_pos d i hi'
    have el : plG w d[i] = l[i] := by
      have : l[i] = (d.toList.map (plG w))[i]'(by simpa using hi') := by simp [hdl]
      rw [this]; simp
    refine ⟨d[i].1.a, d[i].1.cap, ?_, ?_, ?_⟩
    · rw [Array.getElem?_toList, Array.getElem?_eq_getElem (by simp; omega), ← getElem!_pos, flat_even d i hi', e, ← el]; rfl
    · rw [Array.getElem?_toList, Array.getElem?_eq_getElem (by simp; omega), ← getElem!_pos, flat_odd d i hi', e, ← el]; rfl
    · rw [← el]; exact d[i].2
  · intro u hu
    obtain ⟨j, hj, rfl⟩ := List.getElem_of_mem hu
    have hj' : j < d.size * 2 := by simpa using hj
    have e : (Go.Sort.flatK (encG w) 2 d).toList[j] = (Go.Sort.flatK (encG w) 2 d)[j]! := by
      rw [Array.getElem_toList, getElem!_pos]
    rw [e, Go.Sort.get_flatK _ _ _ _ hj']
    rcases Nat.mod_two_eq_zero_or_one j with h0 | h1
    · rw [h0]; rfl
    · rw [h1]; rfl
  · intro e
    rcases hc with h | ⟨b, off, e', _⟩
    · exact h
    · rw [e] at e'; cases e'
  · intro ad e j u hj
    have hj' : j < d.size * 2 := by
      rcases Nat.lt_or_ge j (d.size * 2) with h | h
      · exact h
      · rw [List.getElem?_eq_none (by simpa using h)] at hj; cases hj
    rcases hc with h | ⟨b, off, e', hlt, hc⟩
    · subst h; simp at hd; subst hd; simp at hj'
    · rw [e] at e'
      injection e' with e'
      subst e'
      rw [addr_add']
      rw [Array.getElem?_toList, Array.getElem?_eq_getElem (by simpa using hj')] at hj
      injection hj with hj
      have := hc j (by omega)
      rwa [getElem!_pos _ _ (by simpa using hj'), hj] at this
end Go.Proofs.Ytibobmkelmalkaa
