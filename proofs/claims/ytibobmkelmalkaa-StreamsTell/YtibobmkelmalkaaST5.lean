/- The walks of tideref7.Same, tidelaw8.one, tidelaw8.alive, tidelaw8.bare. -/
import Derived.Test.YtibobmkelmalkaaST4
import Derived.Test.YtibobmkelmalkaaZC
namespace Go.Proofs.Ytibobmkelmalkaa
open Go.RowKit Go.Lib Go.Shelf

/-- Lists of sets, whatever room the sets have. -/
def DtW (W : World) (a : Option Addr) (l : List (List Zp)) : Prop := l = [] ∨ ∃ (b off : Nat) (ai : Nat → Option Addr) (ci : Nat → Nat), a = some ⟨b, off, none⟩ ∧ b < W.heap.size ∧ ∀ (i : Nat) (h : i < l.length), W.cell? ⟨b, off + i, none⟩ = some (.slice (ai i) l[i].length (ci i)) ∧ ZsAt W (ai i) l[i]
theorem DtAt.w {W : World} {a : Option Addr} {l : List (List Zp)} (h : DtAt W a l) : DtW W a l := by
  rcases h with h | ⟨b, off, ai, ci, e, hlt, h⟩
  · exact .inl h
  · exact .inr ⟨b, off, ai, ci, e, hlt, fun i hi => ⟨(h i hi).1, (h i hi).2.1⟩⟩
theorem DtW.next {W w1 : World} {a : Option Addr} {l : List (List Zp)} (h : DtW W a l) (hb : Below W.heap.size W w1) : DtW w1 a l := by
  rcases h with h | ⟨b, off, ai, ci, e, hlt, h⟩
  · exact .inl h
  · exact .inr ⟨b, off, ai, ci, e, Nat.lt_of_lt_of_le hlt hb.size, fun i hi => ⟨(hb.cell (p := ⟨b, _, none⟩) hlt).trans (h i hi).1, (h i hi).2.next hb⟩⟩
theorem DtW.elem {W : World} {a : Option Addr} {l : List (List Zp)} (h : DtW W a l) {i : Nat} (hi : i < l.length) : ∃ b off ai ci, a = some ⟨b, off, none⟩ ∧ b < W.heap.size ∧ W.cell? ⟨b, off + i, none⟩ = some (.slice ai l[i].length ci) ∧ ZsAt W ai l[i] := by
  rcases h with h | ⟨b, off, ai, ci, e, hlt, h⟩
  · subst h; simp at hi
  · exact ⟨b, off, ai i, ci i, e, hlt, h i hi⟩

set_option maxRecDepth 100000 in
set_option maxHeartbeats 2000000 in
theorem sameL_at (zs : List (List Zp)) (a a' : Option Addr) (cap cap' : Nat) (w : World) (h : DtW w a zs) (h' : DtW w a' zs) (hn : zs.length ≤ 1000000) :
    Calls Try.prog 10 #[.slice a zs.length cap, .slice a' zs.length cap'] w fun e w' => e = .returned (.bool true) ∧ Below w.heap.size w w' := by
  go_enter Try.func10, Try.ntmps10
  go_wp2_with fail
  go_loopw [13] (fun i wr => ∃ k : Nat, k ≤ zs.length ∧ i = .int .i64 k ∧ Below w.heap.size w wr) (fun i _ => zs.length - (intOf i).toNat)
  case atStart => exact ⟨0, Nat.zero_le _, rfl, Below.refl _ _⟩
  case round =>
    obtain ⟨k, hk, rfl, hb⟩ := hrel
    by_cases hlt : k < zs.length
    · obtain ⟨b, off, ai, ci, rfl, hbl, c0, z0⟩ := (h.next hb).elem hlt
      obtain ⟨b', off', ai', ci', rfl, hbl', c0', z0'⟩ := (h'.next hb).elem hlt
      have hkz : (k : Int) < (zs.length : Int) := by omega
      generalize zs[k] = z at *
      go_upto_region 6 with fail
      have con : ∀ n : Past wr, Calls Try.prog 14 #[.slice ai z.length ci, .slice ai' z.length ci'] n.now fun e w' => e = .returned (.bool true) ∧ Below n.now.heap.size n.now w' := fun n => same_eq ai ai' ci ci' z n.now (z0.next n.ok) (z0'.next n.ok)
      have p1 := past_cell c0
      have p2 := past_cell c0'
      haveI : Nonempty (Past wr) := ⟨⟨_, Below.refl _ _⟩⟩
      clear c0 c0' z0 z0'
      refine wp_region_past (by kernel_rfl) (by kernel_rfl) ?_
      repeat (go_big_quiet_step (first | (go_at_call 14; exact in_past (con _))))
      refine wpQuiet_nil ?_
      rintro wz ⟨⟨vz, hbz⟩, hz⟩
      obtain rfl : wz = vz := hz
      have hb2 := chain hb hbz
      clear p1 p2 this con
      go_wp2_with fail
      go_roundw
      case rel => exact ⟨k + 1, by omega, by go_num, hb2⟩
      case measure => simp [intOf]; omega
    · go_wp2_with fail
      go_ret
      exact ⟨rfl, hb⟩

set_option maxHeartbeats 1000000 in
theorem one8_at (n x : Int) (w : World) :
    Calls Try.prog 23 #[.int .i64 n, .int .i64 x] w fun e w' => ∃ b, e = .returned (.slice (some ⟨b, 0, none⟩) 1 1) ∧ ZsAt w' (some ⟨b, 0, none⟩) [([(3, n, ⟨#[]⟩)], x)] ∧ Below w.heap.size w w' := by
  have s1 := sl_one w (3, n, ⟨#[]⟩)
  have hb1 : Below w.heap.size w (w.alloc (.cells #[.int .i64 3, .int .i64 n, .string ⟨#[]⟩] 47)) := (Below.refl _ _).alloc (Nat.le_refl _) _
  have z1 := zs_one (cap := 1) s1 x
  have hb2 := chain hb1 ((Below.refl (w.alloc (.cells #[.int .i64 3, .int .i64 n, .string ⟨#[]⟩] 47)).heap.size _).alloc (Nat.le_refl _) (.cells #[.slice (some ⟨w.heap.size, 0, none⟩) 1 1, .int .i64 x] 45))
  have zz : (w.alloc (.cells #[.int .i64 3, .int .i64 n, .string ⟨#[]⟩] 47)).heap.size = w.heap.size + 1 := by simp
  simp only [zz, List.length_cons, List.length_nil, Nat.zero_add] at z1
  go_enter Try.func23, Try.ntmps23
  go_wp2_with fail
  exact bodyPost_ret (v := .slice (some ⟨w.heap.size + 1, 0, none⟩) 1 1) (by simp [results, Try.results23, go_sem]) rfl ⟨_, rfl, z1, hb2⟩

def zC (n : Int) : List Zp := [([(3, 1, ⟨#[]⟩)], n)]
theorem wrong_zC {n : Int} (h : n ≠ 0) (h' : inW n = true) : wrongZ (zC n) = 0 := by
  rw [wrongZ_iff]
  refine ⟨by simp [zC], ?_, ?_⟩
  · intro x hx
    simp only [zC, List.mem_cons, List.not_mem_nil, or_false] at hx
    subst hx
    exact ⟨by rfl, h, h'⟩
  · simp [Rise, zC]
theorem set_zC {n : Int} (h : n ≠ 0) : IsSet (zC n) := by
  refine ⟨by simp [Rise, zC], ?_, ?_⟩
  · intro x hx
    simp only [zC, List.mem_cons, List.not_mem_nil, or_false] at hx
    subst hx
    exact h
  · intro x hx
    simp only [zC, List.mem_cons, List.not_mem_nil, or_false] at hx
    subst hx
    rfl
theorem int_C : alongF [zC 1, zC 2] (intE [zC 1, zC 2]) = (0, 0) ∧ alongZ [zC 1, zC 2] (intE [zC 1, zC 2]) (fun k => intS [zC 1, zC 2] (k + 1)) = [zC 1, zC 3] := by
  have w1 : wrongZ (zC 1) = 0 := wrong_zC (by decide) (by decide)
  have w2 : wrongZ (zC 2) = 0 := wrong_zC (by decide) (by decide)
  have w3 : wrongZ (zC 3) = 0 := wrong_zC (by decide) (by decide)
  have b1 := both_of (t := 1) wrong_nil w1 (set_zC (by decide)) w1 (fun k => by simp [wt])
  have b2 := both_of (t := 1) w1 w2 (set_zC (n := 3) (by decide)) w3 (fun k => by simp only [wt, zC]; split <;> omega)
  have s1 : intS [zC 1, zC 2] 1 = zC 1 := b1.2
  have s2 : intS [zC 1, zC 2] 2 = zC 3 := by
    show bothZ 1 (intS [zC 1, zC 2] 1) (zC 2) = _
    rw [s1]; exact b2.2
  have eW : wrongsF [zC 1, zC 2] = (0, 0) := eachF_all (by decide) fun k hk => by
    match k, hk with
    | 0, _ => exact w1
    | 1, _ => exact w2
  have eF : alongF [zC 1, zC 2] (intE [zC 1, zC 2]) = (0, 0) := by
    unfold alongF
    rw [eW, if_pos rfl]
    refine eachF_all (by decide) fun k hk => ?_
    match k, hk with
    | 0, _ => exact b1.1
    | 1, _ =>
      show bothE 1 (intS [zC 1, zC 2] 1) (zC 2) = 0
      rw [s1]; exact b2.1
  refine ⟨eF, ?_⟩
  unfold alongZ
  rw [eF, if_pos rfl]
  show [intS [zC 1, zC 2] 1, intS [zC 1, zC 2] 2] = _
  rw [s1, s2]

set_option maxRecDepth 100000 in
set_option maxHeartbeats 2000000 in
theorem alive8_at (w : World) : Calls Try.prog 11 #[] w fun e w' => e = .returned (.bool true) ∧ Below w.heap.size w w' := by
  have hA : Below w.heap.size w w := Below.refl _ _
  go_enter Try.func11, Try.ntmps11
  go_wp2_with fail
  refine (one8_at 1 1 w).mono ?_
  rintro e w1 ⟨x1, rfl, z1, hb1⟩
  go_wp2_with fail
  refine (one8_at 1 2 w1).mono ?_
  rintro e w2 ⟨x2, rfl, z2, hb2⟩
  replace z1 := z1.next hb2
  have hb3 : Below w2.heap.size w2 (w2.alloc (.cells #[.slice (some ⟨x1, 0, none⟩) 1 1, .slice (some ⟨x2, 0, none⟩) 1 1] 34)) := (Below.refl _ _).alloc (Nat.le_refl _) _
  have D : DtAt (w2.alloc (.cells #[.slice (some ⟨x1, 0, none⟩) 1 1, .slice (some ⟨x2, 0, none⟩) 1 1] 34)) (some ⟨w2.heap.size, 0, none⟩) [zC 1, zC 2] := by
    have q := heap_new w2 #[.slice (some ⟨x1, 0, none⟩) 1 1, .slice (some ⟨x2, 0, none⟩) 1 1] 34
    refine .inr ⟨w2.heap.size, 0, fun i => if i = 0 then some ⟨x1, 0, none⟩ else some ⟨x2, 0, none⟩, fun _ => 1, rfl, lt_of_heap q, fun i hi => ?_⟩
    match i, hi with
    | 0, _ => exact ⟨cell_of (i := 0) q rfl, z1.next hb3, fun h => by cases h⟩
    | 1, _ => exact ⟨cell_of (i := 1) q rfl, z2.next hb3, fun h => by cases h⟩
  replace hA := chain (chain (chain hA hb1) hb2) hb3
  clear z1 z2 hb1 hb2 hb3
  have con := integrate_at [zC 1, zC 2] (some ⟨w2.heap.size, 0, none⟩) 2 _ D
  rw [int_C.1, int_C.2] at con
  go_wp2_with fail
  refine con.mono ?_
  rintro e w4 ⟨v4, rfl, O4, hb4⟩
  replace hA := chain hA hb4
  clear con D hb4
  have hb5 : Below w4.heap.size w4 (w4.alloc (.cells #[.int .i64 0, .int .i64 0] 27)) := (Below.refl _ _).alloc (Nat.le_refl _) _
  have q5 := heap_new w4 #[.int .i64 0, .int .i64 0] 27
  have O5 := O4.next hb5
  replace hA := chain hA hb5
  obtain ⟨a5, c5, rfl, D5, _⟩ := O5.dt
  obtain ⟨b, off, ai, ci, rfl, hbl, r1, Z1, _⟩ := D5.elem (i := 1) (by simp)
  obtain ⟨b', off', ai', ci', e', hbl', r0, _, _⟩ := D5.elem (i := 0) (by simp)
  simp only [List.getElem_cons_zero, List.getElem_cons_succ] at r1 Z1
  obtain ⟨bz, oz, rfl, hlt, x1, _⟩ := Z1.elem (k := 0) (by simp [zC])
  simp only [Nat.zero_mul, Nat.add_zero, zC, List.getElem_cons_zero, List.length_cons, List.length_nil] at x1 r1
  clear O4 O5 D5 Z1 hb5 r0 e'
  go_upto_region 2 with fail
  generalize w4.alloc (.cells #[.int .i64 0, .int .i64 0] 27) = w5 at *
  have f0 := cell_of (i := 0) q5 rfl
  clear q5
  go_wp2_with fail
  go_ret
  exact ⟨rfl, hA⟩

def bareZ (l : List (List Zp)) : List (List Zp) := l.map fun z => bothZ 1 z []
theorem bareZ_take (l : List (List Zp)) (k : Nat) (h : k < l.length) : bareZ (l.take (k + 1)) = bareZ (l.take k) ++ [bothZ 1 l[k] []] := by
  unfold bareZ
  rw [List.take_succ_eq_append_getElem h, List.map_append]
  rfl

set_option maxRecDepth 100000 in
set_option maxHeartbeats 2000000 in
theorem bare8_at (l : List (List Zp)) (a : Option Addr) (cap : Nat) (w : World) (h : DtAt w a l) (hl : l.length ≤ 30) :
    Calls Try.prog 12 #[.slice a l.length cap] w fun e w' => ∃ v, e = .returned v ∧ OwnL w.heap.size w' v (bareZ l) ∧ Below w.heap.size w w' := by
  obtain ⟨i0, hi, hj0, hj1, hj2⟩ := info_parts infoS
  go_enter Try.func12, Try.ntmps12
  go_wp2_with fail
  go_loopw [3, 10] (fun v i wr => ∃ k : Nat, k ≤ l.length ∧ i = .int .i64 k ∧ OwnL w.heap.size wr v (bareZ (l.take k)) ∧ Below w.heap.size w wr) (fun _ i _ => l.length - (intOf i).toNat)
  case atStart => exact ⟨0, Nat.zero_le _, rfl, OwnL.nil _ _, Below.refl _ _⟩
  case round =>
    obtain ⟨k, hk, rfl, HO, hb⟩ := hrel
    by_cases hlt : k < l.length
    · obtain ⟨b, off, ai, ci, rfl, hbl, c0, z0, n0⟩ := (h.next hb).elem hlt
      have hkz : (k : Int) < (l.length : Int) := by omega
      have con := add_at ai none ci 0 l[k] [] wr z0 ⟨Nat.zero_le _, .inl rfl⟩ n0
      have HZs : Hid (bareZ (l.take (k + 1)) = bareZ (l.take k) ++ [bothZ 1 l[k] []]) := bareZ_take l k hlt
      have HL : Hid ((bareZ (l.take k)).length = k) := by show _ = _; simp [bareZ]; omega
      generalize bothZ 1 l[k] [] = zk at *
      generalize bothE 1 l[k] [] = ek at *
      generalize l[k] = lk at *
      go_upto_region 6 with (refine con.mono ?_; rintro e w2 ⟨u, rfl, O2, hb2⟩; obtain ⟨a2, c2, rfl, z2, n2⟩ := O2.zs2)
      clear con z2
      have hal : Below w2.heap.size w2 (w2.alloc (.cells #[.slice a2 zk.length c2] 34)) := (Below.refl _ _).alloc (Nat.le_refl _) _
      have q6 := cell_of (i := 0) (heap_new w2 #[.slice a2 zk.length c2] 34) rfl
      have hnews : ∀ jj u, [Value.slice a2 zk.length c2][jj]? = some u → (w2.alloc (.cells #[.slice a2 zk.length c2] 34)).cell? ((⟨w2.heap.size, 0, none⟩ : Addr).add jj) = some u := fun jj u hu => by
        rw [addr_zero]
        cases jj with
        | zero => exact q6.trans hu
        | succ n => simp at hu
      have hb3 := chain hb2 hal
      have O3 := (O2.next hal).mono (Nat.zero_le _)
      have hb4 := chain hb hb3
      obtain ⟨cs, o3, p3⟩ := HO.next hb3
      have HP : Hid (∀ (i : Nat) (h : i < (bareZ (l.take k)).length), ∃ u, cs[i]? = some u ∧ OwnZ 0 _ u (bareZ (l.take k))[i]) := p3
      rw [HL.out] at o3
      clear p3 HO hal hb3 O2 hb2
      have z4 := hb4.size
      go_wp2_with (at_builtin; refine wpList_append_own _ rfl _ _ 22 rfl w.heap.size 34 i0 _ 1 24 Try.underlying22 hi hj0 hj1 hj2 rfl (by decide) _ k cs rfl o3 ⟨w2.heap.size, 0, none⟩ 1 1 [.slice a2 zk.length c2] rfl rfl hnews (fun u hu => by simp only [List.mem_singleton] at hu; subst hu; rfl) (by unfold maxLen; omega) (by omega) z4 ?_)
      intro v' w5 ho5 hg5 _
      have o3' := o3
      rw [← HL.out] at o3'
      have R5 := OwnL.push o3' HP.out O3 (by rw [HL.out]; exact ho5) hg5
      rw [← HZs.out] at R5
      have B5 := hb4.grown hg5 z4 (fun q hq => (o3.lt q hq).1)
      clear ho5 hg5 o3 o3' HP O3 hnews q6
      go_wp2_with fail
      go_roundw
      case rel => exact ⟨k + 1, by omega, by go_num, R5, B5⟩
      case measure => simp [intOf]; omega
    · have e : k = l.length := by omega
      have hkn : ¬ (k : Int) < (l.length : Int) := by omega
      rw [e, List.take_length] at HO
      obtain ⟨av, cv, rfl, _, _⟩ := HO.dt
      go_wp2_with fail
      go_ret
      exact ⟨_, rfl, HO, hb⟩
end Go.Proofs.Ytibobmkelmalkaa
