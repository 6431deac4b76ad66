/- Rows in memory as an array for the sort; the walk of slices.Clone at rows. -/
import Derived.Test.YtibobmkelmalkaaZ5
import Derived.Deep.Slices
namespace Go.Proofs.Ytibobmkelmalkaa
open Go.RowKit Go.Lib Go.Shelf

theorem addr_add' (b off i : Nat) : (⟨b, off, none⟩ : Addr).add i = ⟨b, off + i, none⟩ := by
  unfold Addr.add
  by_cases h : i = 0 <;> simp [h]
theorem flat_even {w : World} (d : Array (Zg w)) (i : Nat) (h : i < d.size) : (Go.Sort.flatK (encG w) 2 d)[i * 2]! = .slice d[i]!.1.a d[i]!.1.row.length d[i]!.1.cap := by
  rw [Go.Sort.get_flatK _ _ _ _ (by omega), show i * 2 / 2 = i by omega, show i * 2 % 2 = 0 by omega]; rfl
theorem flat_odd {w : World} (d : Array (Zg w)) (i : Nat) (h : i < d.size) : (Go.Sort.flatK (encG w) 2 d)[i * 2 + 1]! = .int .i64 d[i]!.1.w := by
  rw [Go.Sort.get_flatK _ _ _ _ (by omega), show (i * 2 + 1) / 2 = i by omega, show (i * 2 + 1) % 2 = 1 by omega]; rfl

theorem ZsAt.arr {w : World} {a : Option Addr} {l : List Zp} (h : ZsAt w a l) : ∃ d : Array (Zg w), d.size = l.length ∧ d.toList.map (plG w) = l ∧
    (l = [] ∨ ∃ b off, a = some ⟨b, off, none⟩ ∧ b < w.heap.size ∧ ∀ j, j < l.length * 2 → w.cell? ⟨b, off + j, none⟩ = some (Go.Sort.flatK (encG w) 2 d)[j]!) := by
  obtain ⟨_, rfl | ⟨b, off, e, hlt, hr⟩⟩ := h
  · exact ⟨#[], rfl, rfl, .inl rfl⟩
  · obtain ⟨f, hf⟩ := Go.Deep.choose_lt (α := Zg w) (n := l.length) (p := fun i x => ∀ hi : i < l.length, plG w x = l[i] ∧ w.cell? ⟨b, off + i * 2, none⟩ = some (.slice x.1.a x.1.row.length x.1.cap) ∧ w.cell? ⟨b, off + i * 2 + 1, none⟩ = some (.int .i64 x.1.w)) (fun i hi => by
      obtain ⟨c1, ai, ci, c0, si⟩ := hr i hi
      exact ⟨⟨⟨ai, ci, l[i].1, l[i].2⟩, si⟩, fun _ => ⟨rfl, c0, c1⟩⟩)
    have hd : ∀ i, i < l.length → ((Array.range l.length).map f)[i]! = f i := fun i hi => by simp [hi]
    refine ⟨(Array.range l.length).map f, by simp, ?_, .inr ⟨b, off, e, hlt, ?_⟩⟩
    · apply List.ext_getElem
      · simp
      · intro i h1 h2
        have := (hf i h2 h2).1
        simpa using this
    · intro j hj
      have hi : j / 2 < l.length := by omega
      obtain ⟨_, g0, g1⟩ := hf (j / 2) hi hi
      rcases Nat.mod_two_eq_zero_or_one j with h0 | h1
      · have ej : j = j / 2 * 2 := by omega
        rw [ej, flat_even _ _ (by simpa using hi), hd _ hi]
        exact g0
      · have ej : j = j / 2 * 2 + 1 := by omega
        rw [ej, flat_odd _ _ (by simpa using hi), hd _ hi, ← Nat.add_assoc]
        exact g1

theorem holdsK_zs {w W : World} {blk off : Nat} {d : Array (Zg w)} (hb : Below w.heap.size w W) (hH : Go.Sort.HoldsK (encG w) 2 W blk off d) (hlt : blk < W.heap.size) (hl : d.size ≤ 200000) : ZsAt W (some ⟨blk, off, none⟩) (d.toList.map (plG w)) := by
  refine ⟨by simp [maxLen]; omega, .inr ⟨blk, off, rfl, hlt, fun i hi => ?_⟩⟩
  have hi' : i < d.size := by simpa using hi
  have e : d[i]! = d[i] := getElem!_pos d i hi'
  have h0 := (hH (i * 2) (by simp; omega)).1
  have h1 := (hH (i * 2 + 1) (by simp; omega)).1
  rw [flat_even d i hi', e] at h0
  rw [flat_odd d i hi', e] at h1
  simp only [List.getElem_map, Array.getElem_toList]
  refine ⟨?_, d[i].1.a, d[i].1.cap, ?_, d[i].2.next hb⟩
  · rw [← Nat.add_assoc] at h1; exact h1
  · exact h0

theorem own_holdsK {w W : World} {base g n cap : Nat} {d : Array (Zg w)} (hn : n = d.size) (h : W.ownsRow base 45 2 (.slice (some ⟨g, 0, none⟩) n cap) n (Go.Sort.flatK (encG w) 2 d).toList) : Go.Sort.HoldsK (encG w) 2 W g 0 d := by
  intro j hj
  have hj' : j < n * 2 := by rw [hn]; simpa using hj
  refine ⟨?_, ?_⟩
  · rw [Nat.zero_add, h.cellAt j hj']
    show _ = some (Go.Sort.flatK (encG w) 2 d)[j]!
    rw [Array.getElem?_toList, getElem!_pos (Go.Sort.flatK (encG w) 2 d) j hj]
    exact Array.getElem?_eq_getElem hj
  · rw [Nat.zero_add]; exact h.frozenAt j

set_option maxHeartbeats 1000000 in
theorem clone_at (a : Option Addr) (cap : Nat) (l : List Zp) (w : World) (d : Array (Zg w)) (hd : d.size = l.length) (hl : l.length ≤ 200000)
    (h : l = [] ∨ ∃ b off, a = some ⟨b, off, none⟩ ∧ b < w.heap.size ∧ ∀ j, j < l.length * 2 → w.cell? ⟨b, off + j, none⟩ = some (Go.Sort.flatK (encG w) 2 d)[j]!) :
    Calls Try.prog 40 #[.slice a l.length cap] w fun e w' => ∃ v, e = .returned v ∧ w'.ownsRow w.heap.size 45 2 v l.length (Go.Sort.flatK (encG w) 2 d).toList ∧ Below w.heap.size w w' := by
  obtain ⟨i0, hi, hj0, hj1, hj2⟩ := info_parts Try.info42
  have hone : ∀ u ∈ (Go.Sort.flatK (encG w) 2 d).toList, u.oneCell' = true := by
    intro u hu
    obtain ⟨j, hj, rfl⟩ := List.getElem_of_mem hu
    have hj' : j < d.size * 2 := by simpa using hj
    have e : (Go.Sort.flatK (encG w) 2 d).toList[j] = (Go.Sort.flatK (encG w) 2 d)[j]! := by
      rw [Array.getElem_toList, getElem!_pos]
    rw [e, Go.Sort.get_flatK _ _ _ _ hj']
    rcases Nat.mod_two_eq_zero_or_one j with h0 | h1
    · rw [h0]; rfl
    · rw [h1]; rfl
  rcases a with _ | ad
  · have e : l = [] := by
      rcases h with h | ⟨b, off, e, _⟩
      · exact h
      · cases e
    subst e
    have d0 : (Go.Sort.flatK (encG w) 2 d).toList = [] := by
      apply List.eq_nil_of_length_eq_zero
      simp [hd]
    rw [d0]
    rw [List.length_nil]
    have q22 : ∀ (w : World) (a : Option Addr) (n c n' c' : Nat), (binOp .eql 34 (.slice a n c) (.slice none n' c')).run Try.prog w = .ok (.bool a.isNone) w := fun w a n c n' c' => Lib.run_eql_slice_nil w _ _ a n c n' c' Try.underlying34
    go_enter Try.func40, Try.ntmps40
    go_wp2_with fail
    go_ret
    exact ⟨_, rfl, World.ownsRow_nil _ _ _ _, Below.refl _ _⟩
  · have q22 : ∀ (w : World) (a : Option Addr) (n c n' c' : Nat), (binOp .eql 34 (.slice a n c) (.slice none n' c')).run Try.prog w = .ok (.bool a.isNone) w := fun w a n c n' c' => Lib.run_eql_slice_nil w _ _ a n c n' c' Try.underlying34
    go_enter Try.func40, Try.ntmps40
    go_wp2_with (at_builtin; refine wpList_append_own _ rfl _ _ 34 rfl w.heap.size 45 i0 _ 2 32 Try.underlying34 hi hj0 hj1 hj2 rfl (by decide) _ _ _ rfl (World.ownsRow_made w #[] 0 (Nat.le_refl _) (Nat.zero_le _) (by simp)) ad l.length cap (Go.Sort.flatK (encG w) 2 d).toList rfl ?qc1 ?qc2 hone ?qc4 ?qc5 ?qc6 ?_)
    case qc1 => simp [hd]
    case qc2 =>
      intro j u hj
      have hj' : j < d.size * 2 := by
        rcases Nat.lt_or_ge j (d.size * 2) with h | h
        · exact h
        · rw [List.getElem?_eq_none (by simpa using h)] at hj; cases hj
      rcases h with h | ⟨b, off, e, hlt, hc⟩
      · subst h; simp at hd; subst hd; simp at hj'
      · have e := Option.some.inj e
        subst e
        rw [addr_add']
        rw [Array.getElem?_toList, Array.getElem?_eq_getElem (by simpa using hj')] at hj
        have hj := Option.some.inj hj
        have := hc j (by omega)
        rw [getElem!_pos _ _ (by simpa using hj'), hj] at this
        exact Lib.cell?_alloc_some _ this
    case qc4 => rw [Nat.zero_add]; unfold maxLen; omega
    case qc5 => rw [Nat.zero_add]; omega
    case qc6 => simp
    intro v' w1 hown hgrow _
    have hb1 : Below w.heap.size w w1 := ((Below.refl _ _).alloc (Nat.le_refl _) _).grown hgrow (by simp) (by simp [Value.ownBlock])
    have hv : ∃ a1 c1, v' = .slice a1 l.length c1 := by
      obtain ⟨_, ⟨rfl, h0⟩ | ⟨g, c1, cur, rfl, _⟩⟩ := hown
      · exact ⟨none, 0, by rw [h0]⟩
      · exact ⟨_, c1, rfl⟩
    obtain ⟨a1, c1, rfl⟩ := hv
    clear hgrow
    go_wp2_with fail
    go_ret
    exact ⟨_, rfl, hown, hb1⟩
end Go.Proofs.Ytibobmkelmalkaa
