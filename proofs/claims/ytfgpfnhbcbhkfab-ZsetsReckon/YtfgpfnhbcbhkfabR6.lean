/- The walks of the document's Each with three functions, of its Positive and of its Distinct. -/
import Derived.Test.YtfgpfnhbcbhkfabR5
import Derived.Test.YtfgpfnhbcbhkfabExt
namespace Go.Proofs.Ytfgpfnhbcbhkfab
open Go.RowKit Go.Lib Go.Shelf

theorem makes22 (w : World) : Makes 22 #[] (fun w => -w) w := by
  intro x W hx _
  have hx := (inW_iff _).1 hx
  show Calls Try.prog 22 #[.int .i64 x] W _
  go_enter Try.func22, Try.ntmps22
  go_wp2
  go_ret
  exact ⟨rfl, Below.refl _ _⟩
theorem makes48 (w : World) : Makes 48 #[] posF w := by
  intro x W hx _
  have hx := (inW_iff _).1 hx
  show Calls Try.prog 48 #[.int .i64 x] W _
  by_cases h : x < 0
  · have e : posF x = 0 := by simp [posF, h]
    rw [e]
    go_enter Try.func48, Try.ntmps48
    go_wp2
    go_ret
    exact ⟨rfl, Below.refl _ _⟩
  · have e : posF x = x := by simp [posF, h]
    rw [e]
    go_enter Try.func48, Try.ntmps48
    go_wp2
    go_ret
    exact ⟨rfl, Below.refl _ _⟩
theorem makes50 (w : World) : Makes 50 #[] oneF w := by
  intro x W hx _
  have hx := (inW_iff _).1 hx
  show Calls Try.prog 50 #[.int .i64 x] W _
  by_cases h : 0 < x
  · have e : oneF x = 1 := by simp [oneF, h]
    rw [e]
    go_enter Try.func50, Try.ntmps50
    go_wp2
    go_ret
    exact ⟨rfl, Below.refl _ _⟩
  · have e : oneF x = 0 := by simp [oneF, h]
    rw [e]
    go_enter Try.func50, Try.ntmps50
    go_wp2
    go_ret
    exact ⟨rfl, Below.refl _ _⟩

set_option maxHeartbeats 4000000 in
theorem each22_at (a : Option Addr) (ca : Nat) (l : List Zp) (w : World) (h : ZsAt w a l) :
    Calls Try.prog 21 #[.slice a l.length ca, .func (.func 22) #[] #[]] w (Gives (setZ (fun w => -w) l) (wrongZ l) w) := by
  have f0 : (fun w => -w) 0 = 0 := rfl
  have hf := (fun x (h : inW x = true) => show inW (-x) = true from (inW_iff _).2 (by have := (inW_iff _).1 h; omega))
  unfold Gives
  by_cases hw : wrongZ l = 0
  · have Hw : Hid (wrongZ l = 0) := hw
    have hok := (wrongZ_iff l).1 hw
    have eZ : setZ (fun w => -w) l = canon (mapW (fun w => -w) l) := by rw [each_eq (fun w => -w) f0 hok.2.2]; unfold setZ; rw [if_pos hw]
    rw [eZ]
    have HA : Hid (∀ x ∈ l, wrongRowF x.1 = 0 ∧ inW x.2 = true) := fun x hx => ⟨(hok.2.1 x hx).1, (hok.2.1 x hx).2.2⟩
    have HF : Hid (∀ x, inW x = true → inW ((fun w => -w) x) = true) := hf
    have L1 := hok.1
    clear hw eZ hok hf
    go_enter Try.func21, Try.ntmps21
    go_wp2_with fail
    refine (refWrongZ_at _ _ _ _ h).mono ?_
    rintro e w3 ⟨rfl, hb1⟩
    rw [Hw.out]
    have zl := h.next hb1
    clear h
    go_wp2_with fail
    go_loopw [7, 17] (fun v i wr => ∃ k : Nat, k ≤ l.length ∧ i = .int .i64 k ∧ SliceOf wr v (canon (mapW (fun w => -w) (l.take k))) ∧ Below w3.heap.size w3 wr) (fun _ i _ => l.length - (intOf i).toNat)
    case atStart => exact ⟨0, Nat.zero_le _, rfl, ⟨_, 0, rfl, ⟨by simp [canon, mapW], .inl rfl⟩, ⟨fun _ => rfl, by simp [canon, mapW], by simp⟩⟩, Below.refl _ _⟩
    case round =>
      obtain ⟨k, hk, rfl, ⟨az, cz, rfl, zz, lz⟩, hb⟩ := hrel
      by_cases hlt : k < l.length
      · obtain ⟨b1, off, rfl, hbl, c1, ar, cr, c0, sr⟩ := (zl.next hb).elem hlt
        have hA := HA.out l[k] (List.getElem_mem hlt)
        have hx := (inW_iff _).1 hA.2
        have h8 := ((wrongRowF_zero _).1 hA.1).1
        have hfx := (inW_iff _).1 (HF.out _ hA.2)
        have ok := acc_ok (l := mapW (fun w => -w) (l.take k)) (by rw [mapW_len, List.length_take]; omega) (fun x hx => by
          obtain ⟨y, hy, rfl⟩ := mapW_mem hx
          have := HA.out y (List.mem_of_mem_take hy)
          exact ⟨this.1, HF.out _ this.2⟩)
        have stp : Hid (canon (mapW (fun w => -w) (l.take (k + 1))) = putL (canon (mapW (fun w => -w) (l.take k))) l[k].1 ((fun w => -w) l[k].2)) := by
          show canon _ = _
          rw [mapW_take _ _ _ hlt, canon_snoc]
        have bN : Below wr.heap.size wr (wr.alloc (.cells #[.slice ar l[k].1.length cr, .int .i64 l[k].2] 42)) := (Below.refl _ _).alloc (Nat.le_refl _) _
        have zz1 := zz.next bN
        have sr1 := sr.next bN
        have bb := chain1 hb bN
        have hin := hA.2
        clear hA zz sr
        generalize canon (mapW (fun w => -w) (l.take k)) = acc at *
        have q0 : (wr.alloc (.cells #[.slice ar l[k].1.length cr, .int .i64 l[k].2] 42)).cell? ⟨wr.heap.size, 0, none⟩ = some (.slice ar l[k].1.length cr) := by simp
        have q1 : (wr.alloc (.cells #[.slice ar l[k].1.length cr, .int .i64 l[k].2] 42)).cell? ⟨wr.heap.size, 1, none⟩ = some (.int .i64 l[k].2) := by simp
        have mk : ∀ n : Past (wr.alloc (.cells #[.slice ar l[k].1.length cr, .int .i64 l[k].2] 42)), Calls Try.prog 22 #[.int .i64 l[k].2] n.now (fun e w' => e = .returned (.int .i64 ((fun w => -w) l[k].2)) ∧ Below n.now.heap.size n.now w') := fun n => makes22 _ l[k].2 n.now hin n.ok
        have MK : Hid _ := mk
        clear mk
        go_wp2_with fail
        generalize wr.alloc (.cells #[.slice ar l[k].1.length cr, .int .i64 l[k].2] 42) = wA at *
        have p0 := past_cell q0
        have p1 := past_cell q1
        have hB0 : Below wA.heap.size wA wA.drew := (Below.refl _ _).drew
        refine wp_region_ext (by kernel_rfl) ?_
        refine wpX_take (some 21) (i := 0) (v := .slice az acc.length cz) rfl rfl (by kernel_rfl) (by kernel_rfl) (by kernel_rfl) (fun _ _ _ h => h) (Or.inl ⟨rfl, fun n => ?_⟩) hB0 ?_
        · go_simp
        simp only [Act.put, List.setIfInBounds_toArray, List.set_cons_zero, List.set_cons_succ]
        refine wpX_take (some 22) (i := 1) (v := .pointer (some ⟨wr.heap.size, 0, none⟩)) rfl rfl (by kernel_rfl) (by kernel_rfl) (by kernel_rfl) (fun _ _ _ h => h) (Or.inl ⟨rfl, fun n => ?_⟩) hB0 ?_
        · go_simp
        simp only [Act.put, List.setIfInBounds_toArray, List.set_cons_zero, List.set_cons_succ]
        refine wpX_take (some 23) (i := 2) (v := .slice ar l[k].1.length cr) rfl rfl (by kernel_rfl) (by kernel_rfl) (by kernel_rfl) (fun _ _ _ h => h) (Or.inl ⟨rfl, fun n => ?_⟩) hB0 ?_
        · go_simp
        simp only [Act.put, List.setIfInBounds_toArray, List.set_cons_zero, List.set_cons_succ]
        refine wpX_take (some 24) (i := 3) (v := .func (.func 22) #[] #[]) rfl rfl (by kernel_rfl) (by kernel_rfl) (by kernel_rfl) (fun _ _ _ h => h) (Or.inl ⟨rfl, fun n => ?_⟩) hB0 ?_
        · go_simp
        simp only [Act.put, List.setIfInBounds_toArray, List.set_cons_zero, List.set_cons_succ]
        refine wpX_take (some 25) (i := 4) (v := .pointer (some ⟨wr.heap.size, 1, none⟩)) rfl rfl (by kernel_rfl) (by kernel_rfl) (by kernel_rfl) (fun _ _ _ h => h) (Or.inl ⟨rfl, fun n => ?_⟩) hB0 ?_
        · go_simp
        simp only [Act.put, List.setIfInBounds_toArray, List.set_cons_zero, List.set_cons_succ]
        refine wpX_take (some 26) (i := 5) (v := .int .i64 l[k].2) rfl rfl (by kernel_rfl) (by kernel_rfl) (by kernel_rfl) (fun _ _ _ h => h) (Or.inl ⟨rfl, fun n => ?_⟩) hB0 ?_
        · go_simp
        simp only [Act.put, List.setIfInBounds_toArray, List.set_cons_zero, List.set_cons_succ]
        refine wpX_take (some 27) (i := 6) (v := .int .i64 ((fun w => -w) l[k].2)) rfl rfl (by kernel_rfl) (by kernel_rfl) (by kernel_rfl) (fun _ _ _ h => h) (Or.inl ⟨rfl, fun n => ?_⟩) hB0 ?_
        · go_simp
          exact MK.out n
        simp only [Act.put, List.setIfInBounds_toArray, List.set_cons_zero, List.set_cons_succ]
        refine wpX_step (rs := [7]) (by kernel_rfl) (by simp) ?_
        intro w5 hb5 j hj
        obtain rfl : j = 7 := by simpa using hj
        clear hj
        have D5 := chain hB0 hb5
        refine wpOp_step rfl (fun K hK => ?_)
        go_simp
        refine (put_at az cz _ ar cr l[k].1 ((fun w => -w) l[k].2) _ (zz1.next D5) lz (sr1.next D5) h8 ok.len ok.right ok.bd (by first | omega | (show -4000000000 ≤ -l[k].2 ∧ -l[k].2 ≤ 4000000000; omega))).mono ?_
        rintro e w6 ⟨v, rfl, O1, hb6⟩
        obtain ⟨a1, cp1, rfl, z1, l1⟩ := O1.zs
        clear O1
        refine hK _ _ ⟨chain D5 hb6, ?_⟩
        clear hK K
        refine wpX_step (rs := [8]) (by kernel_rfl) (by simp) ?_
        intro w7 hb7 j hj
        obtain rfl : j = 8 := by simpa using hj
        clear hj
        refine wpOp_step rfl (fun K hK => ?_)
        go_simp
        refine hK _ _ ⟨chain (chain D5 hb6) hb7, ?_⟩
        clear hK K
        refine wpX_done (by kernel_rfl) ?_
        intro w8 hb8
        have D8 := chain (chain (chain D5 hb6) hb7) hb8
        have z8 := (z1.next hb7).next hb8
        clear p0 p1 hB0 D5 hb5 hb6 hb7 hb8 ok zz1 sr1 q0 q1
        go_wp2_with fail
        go_roundw
        case rel => exact ⟨k + 1, by omega, by go_num, ⟨a1, cp1, by rw [stp.out], by rw [stp.out]; exact z8, by rw [stp.out]; exact l1⟩, chain1 bb D8⟩
        case measure => simp [intOf]; omega
      · have e : k = l.length := by omega
        subst e
        rw [List.take_length] at zz
        rw [List.take_length]
        clear lz
        generalize hzc : canon (mapW (fun w => -w) l) = zc at *
        have HZc : Hid (canon (mapW (fun w => -w) l) = zc) := hzc
        clear hzc
        go_wp2_with fail
        exact bodyPost_ret (v := .tuple #[.slice az zc.length cz, .int .i64 0]) (by simp [results, Try.results21, go_sem]) rfl ⟨⟨az, cz, by rw [Hw.out, HZc.out], by rw [HZc.out]; exact zz⟩, chain1 hb1 hb⟩
  · have eZ : setZ (fun w => -w) l = [] := by simp [setZ, hw]
    rw [eZ]
    have hne : (wrongZ l != 0) = true := by simpa using hw
    clear hw eZ
    go_enter Try.func21, Try.ntmps21
    go_wp2_with fail
    refine (refWrongZ_at _ _ _ _ h).mono ?_
    rintro e w1 ⟨rfl, hb1⟩
    go_wp2_with fail
    exact bodyPost_ret (v := .tuple #[.slice none 0 0, .int .i64 (wrongZ l)]) (by simp [results, Try.results21, go_sem]) rfl ⟨⟨none, 0, rfl, zs_nil _⟩, hb1⟩
set_option maxHeartbeats 4000000 in
theorem each48_at (a : Option Addr) (ca : Nat) (l : List Zp) (w : World) (h : ZsAt w a l) :
    Calls Try.prog 21 #[.slice a l.length ca, .func (.func 48) #[] #[]] w (Gives (setZ posF l) (wrongZ l) w) := by
  have f0 : posF 0 = 0 := rfl
  have hf := posF_in
  unfold Gives
  by_cases hw : wrongZ l = 0
  · have Hw : Hid (wrongZ l = 0) := hw
    have hok := (wrongZ_iff l).1 hw
    have eZ : setZ posF l = canon (mapW posF l) := by rw [each_eq posF f0 hok.2.2]; unfold setZ; rw [if_pos hw]
    rw [eZ]
    have HA : Hid (∀ x ∈ l, wrongRowF x.1 = 0 ∧ inW x.2 = true) := fun x hx => ⟨(hok.2.1 x hx).1, (hok.2.1 x hx).2.2⟩
    have HF : Hid (∀ x, inW x = true → inW (posF x) = true) := hf
    have L1 := hok.1
    clear hw eZ hok hf
    go_enter Try.func21, Try.ntmps21
    go_wp2_with fail
    refine (refWrongZ_at _ _ _ _ h).mono ?_
    rintro e w3 ⟨rfl, hb1⟩
    rw [Hw.out]
    have zl := h.next hb1
    clear h
    go_wp2_with fail
    go_loopw [7, 17] (fun v i wr => ∃ k : Nat, k ≤ l.length ∧ i = .int .i64 k ∧ SliceOf wr v (canon (mapW posF (l.take k))) ∧ Below w3.heap.size w3 wr) (fun _ i _ => l.length - (intOf i).toNat)
    case atStart => exact ⟨0, Nat.zero_le _, rfl, ⟨_, 0, rfl, ⟨by simp [canon, mapW], .inl rfl⟩, ⟨fun _ => rfl, by simp [canon, mapW], by simp⟩⟩, Below.refl _ _⟩
    case round =>
      obtain ⟨k, hk, rfl, ⟨az, cz, rfl, zz, lz⟩, hb⟩ := hrel
      by_cases hlt : k < l.length
      · obtain ⟨b1, off, rfl, hbl, c1, ar, cr, c0, sr⟩ := (zl.next hb).elem hlt
        have hA := HA.out l[k] (List.getElem_mem hlt)
        have hx := (inW_iff _).1 hA.2
        have h8 := ((wrongRowF_zero _).1 hA.1).1
        have hfx := (inW_iff _).1 (HF.out _ hA.2)
        have ok := acc_ok (l := mapW posF (l.take k)) (by rw [mapW_len, List.length_take]; omega) (fun x hx => by
          obtain ⟨y, hy, rfl⟩ := mapW_mem hx
          have := HA.out y (List.mem_of_mem_take hy)
          exact ⟨this.1, HF.out _ this.2⟩)
        have stp : Hid (canon (mapW posF (l.take (k + 1))) = putL (canon (mapW posF (l.take k))) l[k].1 (posF l[k].2)) := by
          show canon _ = _
          rw [mapW_take _ _ _ hlt, canon_snoc]
        have bN : Below wr.heap.size wr (wr.alloc (.cells #[.slice ar l[k].1.length cr, .int .i64 l[k].2] 42)) := (Below.refl _ _).alloc (Nat.le_refl _) _
        have zz1 := zz.next bN
        have sr1 := sr.next bN
        have bb := chain1 hb bN
        have hin := hA.2
        clear hA zz sr
        generalize canon (mapW posF (l.take k)) = acc at *
        have q0 : (wr.alloc (.cells #[.slice ar l[k].1.length cr, .int .i64 l[k].2] 42)).cell? ⟨wr.heap.size, 0, none⟩ = some (.slice ar l[k].1.length cr) := by simp
        have q1 : (wr.alloc (.cells #[.slice ar l[k].1.length cr, .int .i64 l[k].2] 42)).cell? ⟨wr.heap.size, 1, none⟩ = some (.int .i64 l[k].2) := by simp
        have mk : ∀ n : Past (wr.alloc (.cells #[.slice ar l[k].1.length cr, .int .i64 l[k].2] 42)), Calls Try.prog 48 #[.int .i64 l[k].2] n.now (fun e w' => e = .returned (.int .i64 (posF l[k].2)) ∧ Below n.now.heap.size n.now w') := fun n => makes48 _ l[k].2 n.now hin n.ok
        have MK : Hid _ := mk
        clear mk
        go_wp2_with fail
        generalize wr.alloc (.cells #[.slice ar l[k].1.length cr, .int .i64 l[k].2] 42) = wA at *
        have p0 := past_cell q0
        have p1 := past_cell q1
        have hB0 : Below wA.heap.size wA wA.drew := (Below.refl _ _).drew
        refine wp_region_ext (by kernel_rfl) ?_
        refine wpX_take (some 21) (i := 0) (v := .slice az acc.length cz) rfl rfl (by kernel_rfl) (by kernel_rfl) (by kernel_rfl) (fun _ _ _ h => h) (Or.inl ⟨rfl, fun n => ?_⟩) hB0 ?_
        · go_simp
        simp only [Act.put, List.setIfInBounds_toArray, List.set_cons_zero, List.set_cons_succ]
        refine wpX_take (some 22) (i := 1) (v := .pointer (some ⟨wr.heap.size, 0, none⟩)) rfl rfl (by kernel_rfl) (by kernel_rfl) (by kernel_rfl) (fun _ _ _ h => h) (Or.inl ⟨rfl, fun n => ?_⟩) hB0 ?_
        · go_simp
        simp only [Act.put, List.setIfInBounds_toArray, List.set_cons_zero, List.set_cons_succ]
        refine wpX_take (some 23) (i := 2) (v := .slice ar l[k].1.length cr) rfl rfl (by kernel_rfl) (by kernel_rfl) (by kernel_rfl) (fun _ _ _ h => h) (Or.inl ⟨rfl, fun n => ?_⟩) hB0 ?_
        · go_simp
        simp only [Act.put, List.setIfInBounds_toArray, List.set_cons_zero, List.set_cons_succ]
        refine wpX_take (some 24) (i := 3) (v := .func (.func 48) #[] #[]) rfl rfl (by kernel_rfl) (by kernel_rfl) (by kernel_rfl) (fun _ _ _ h => h) (Or.inl ⟨rfl, fun n => ?_⟩) hB0 ?_
        · go_simp
        simp only [Act.put, List.setIfInBounds_toArray, List.set_cons_zero, List.set_cons_succ]
        refine wpX_take (some 25) (i := 4) (v := .pointer (some ⟨wr.heap.size, 1, none⟩)) rfl rfl (by kernel_rfl) (by kernel_rfl) (by kernel_rfl) (fun _ _ _ h => h) (Or.inl ⟨rfl, fun n => ?_⟩) hB0 ?_
        · go_simp
        simp only [Act.put, List.setIfInBounds_toArray, List.set_cons_zero, List.set_cons_succ]
        refine wpX_take (some 26) (i := 5) (v := .int .i64 l[k].2) rfl rfl (by kernel_rfl) (by kernel_rfl) (by kernel_rfl) (fun _ _ _ h => h) (Or.inl ⟨rfl, fun n => ?_⟩) hB0 ?_
        · go_simp
        simp only [Act.put, List.setIfInBounds_toArray, List.set_cons_zero, List.set_cons_succ]
        refine wpX_take (some 27) (i := 6) (v := .int .i64 (posF l[k].2)) rfl rfl (by kernel_rfl) (by kernel_rfl) (by kernel_rfl) (fun _ _ _ h => h) (Or.inl ⟨rfl, fun n => ?_⟩) hB0 ?_
        · go_simp
          exact MK.out n
        simp only [Act.put, List.setIfInBounds_toArray, List.set_cons_zero, List.set_cons_succ]
        refine wpX_step (rs := [7]) (by kernel_rfl) (by simp) ?_
        intro w5 hb5 j hj
        obtain rfl : j = 7 := by simpa using hj
        clear hj
        have D5 := chain hB0 hb5
        refine wpOp_step rfl (fun K hK => ?_)
        go_simp
        refine (put_at az cz _ ar cr l[k].1 (posF l[k].2) _ (zz1.next D5) lz (sr1.next D5) h8 ok.len ok.right ok.bd (by first | omega | (show -4000000000 ≤ -l[k].2 ∧ -l[k].2 ≤ 4000000000; omega))).mono ?_
        rintro e w6 ⟨v, rfl, O1, hb6⟩
        obtain ⟨a1, cp1, rfl, z1, l1⟩ := O1.zs
        clear O1
        refine hK _ _ ⟨chain D5 hb6, ?_⟩
        clear hK K
        refine wpX_step (rs := [8]) (by kernel_rfl) (by simp) ?_
        intro w7 hb7 j hj
        obtain rfl : j = 8 := by simpa using hj
        clear hj
        refine wpOp_step rfl (fun K hK => ?_)
        go_simp
        refine hK _ _ ⟨chain (chain D5 hb6) hb7, ?_⟩
        clear hK K
        refine wpX_done (by kernel_rfl) ?_
        intro w8 hb8
        have D8 := chain (chain (chain D5 hb6) hb7) hb8
        have z8 := (z1.next hb7).next hb8
        clear p0 p1 hB0 D5 hb5 hb6 hb7 hb8 ok zz1 sr1 q0 q1
        go_wp2_with fail
        go_roundw
        case rel => exact ⟨k + 1, by omega, by go_num, ⟨a1, cp1, by rw [stp.out], by rw [stp.out]; exact z8, by rw [stp.out]; exact l1⟩, chain1 bb D8⟩
        case measure => simp [intOf]; omega
      · have e : k = l.length := by omega
        subst e
        rw [List.take_length] at zz
        rw [List.take_length]
        clear lz
        generalize hzc : canon (mapW posF l) = zc at *
        have HZc : Hid (canon (mapW posF l) = zc) := hzc
        clear hzc
        go_wp2_with fail
        exact bodyPost_ret (v := .tuple #[.slice az zc.length cz, .int .i64 0]) (by simp [results, Try.results21, go_sem]) rfl ⟨⟨az, cz, by rw [Hw.out, HZc.out], by rw [HZc.out]; exact zz⟩, chain1 hb1 hb⟩
  · have eZ : setZ posF l = [] := by simp [setZ, hw]
    rw [eZ]
    have hne : (wrongZ l != 0) = true := by simpa using hw
    clear hw eZ
    go_enter Try.func21, Try.ntmps21
    go_wp2_with fail
    refine (refWrongZ_at _ _ _ _ h).mono ?_
    rintro e w1 ⟨rfl, hb1⟩
    go_wp2_with fail
    exact bodyPost_ret (v := .tuple #[.slice none 0 0, .int .i64 (wrongZ l)]) (by simp [results, Try.results21, go_sem]) rfl ⟨⟨none, 0, rfl, zs_nil _⟩, hb1⟩
set_option maxHeartbeats 4000000 in
theorem each50_at (a : Option Addr) (ca : Nat) (l : List Zp) (w : World) (h : ZsAt w a l) :
    Calls Try.prog 21 #[.slice a l.length ca, .func (.func 50) #[] #[]] w (Gives (setZ oneF l) (wrongZ l) w) := by
  have f0 : oneF 0 = 0 := rfl
  have hf := oneF_in
  unfold Gives
  by_cases hw : wrongZ l = 0
  · have Hw : Hid (wrongZ l = 0) := hw
    have hok := (wrongZ_iff l).1 hw
    have eZ : setZ oneF l = canon (mapW oneF l) := by rw [each_eq oneF f0 hok.2.2]; unfold setZ; rw [if_pos hw]
    rw [eZ]
    have HA : Hid (∀ x ∈ l, wrongRowF x.1 = 0 ∧ inW x.2 = true) := fun x hx => ⟨(hok.2.1 x hx).1, (hok.2.1 x hx).2.2⟩
    have HF : Hid (∀ x, inW x = true → inW (oneF x) = true) := hf
    have L1 := hok.1
    clear hw eZ hok hf
    go_enter Try.func21, Try.ntmps21
    go_wp2_with fail
    refine (refWrongZ_at _ _ _ _ h).mono ?_
    rintro e w3 ⟨rfl, hb1⟩
    rw [Hw.out]
    have zl := h.next hb1
    clear h
    go_wp2_with fail
    go_loopw [7, 17] (fun v i wr => ∃ k : Nat, k ≤ l.length ∧ i = .int .i64 k ∧ SliceOf wr v (canon (mapW oneF (l.take k))) ∧ Below w3.heap.size w3 wr) (fun _ i _ => l.length - (intOf i).toNat)
    case atStart => exact ⟨0, Nat.zero_le _, rfl, ⟨_, 0, rfl, ⟨by simp [canon, mapW], .inl rfl⟩, ⟨fun _ => rfl, by simp [canon, mapW], by simp⟩⟩, Below.refl _ _⟩
    case round =>
      obtain ⟨k, hk, rfl, ⟨az, cz, rfl, zz, lz⟩, hb⟩ := hrel
      by_cases hlt : k < l.length
      · obtain ⟨b1, off, rfl, hbl, c1, ar, cr, c0, sr⟩ := (zl.next hb).elem hlt
        have hA := HA.out l[k] (List.getElem_mem hlt)
        have hx := (inW_iff _).1 hA.2
        have h8 := ((wrongRowF_zero _).1 hA.1).1
        have hfx := (inW_iff _).1 (HF.out _ hA.2)
        have ok := acc_ok (l := mapW oneF (l.take k)) (by rw [mapW_len, List.length_take]; omega) (fun x hx => by
          obtain ⟨y, hy, rfl⟩ := mapW_mem hx
          have := HA.out y (List.mem_of_mem_take hy)
          exact ⟨this.1, HF.out _ this.2⟩)
        have stp : Hid (canon (mapW oneF (l.take (k + 1))) = putL (canon (mapW oneF (l.take k))) l[k].1 (oneF l[k].2)) := by
          show canon _ = _
          rw [mapW_take _ _ _ hlt, canon_snoc]
        have bN : Below wr.heap.size wr (wr.alloc (.cells #[.slice ar l[k].1.length cr, .int .i64 l[k].2] 42)) := (Below.refl _ _).alloc (Nat.le_refl _) _
        have zz1 := zz.next bN
        have sr1 := sr.next bN
        have bb := chain1 hb bN
        have hin := hA.2
        clear hA zz sr
        generalize canon (mapW oneF (l.take k)) = acc at *
        have q0 : (wr.alloc (.cells #[.slice ar l[k].1.length cr, .int .i64 l[k].2] 42)).cell? ⟨wr.heap.size, 0, none⟩ = some (.slice ar l[k].1.length cr) := by simp
        have q1 : (wr.alloc (.cells #[.slice ar l[k].1.length cr, .int .i64 l[k].2] 42)).cell? ⟨wr.heap.size, 1, none⟩ = some (.int .i64 l[k].2) := by simp
        have mk : ∀ n : Past (wr.alloc (.cells #[.slice ar l[k].1.length cr, .int .i64 l[k].2] 42)), Calls Try.prog 50 #[.int .i64 l[k].2] n.now (fun e w' => e = .returned (.int .i64 (oneF l[k].2)) ∧ Below n.now.heap.size n.now w') := fun n => makes50 _ l[k].2 n.now hin n.ok
        have MK : Hid _ := mk
        clear mk
        go_wp2_with fail
        generalize wr.alloc (.cells #[.slice ar l[k].1.length cr, .int .i64 l[k].2] 42) = wA at *
        have p0 := past_cell q0
        have p1 := past_cell q1
        have hB0 : Below wA.heap.size wA wA.drew := (Below.refl _ _).drew
        refine wp_region_ext (by kernel_rfl) ?_
        refine wpX_take (some 21) (i := 0) (v := .slice az acc.length cz) rfl rfl (by kernel_rfl) (by kernel_rfl) (by kernel_rfl) (fun _ _ _ h => h) (Or.inl ⟨rfl, fun n => ?_⟩) hB0 ?_
        · go_simp
        simp only [Act.put, List.setIfInBounds_toArray, List.set_cons_zero, List.set_cons_succ]
        refine wpX_take (some 22) (i := 1) (v := .pointer (some ⟨wr.heap.size, 0, none⟩)) rfl rfl (by kernel_rfl) (by kernel_rfl) (by kernel_rfl) (fun _ _ _ h => h) (Or.inl ⟨rfl, fun n => ?_⟩) hB0 ?_
        · go_simp
        simp only [Act.put, List.setIfInBounds_toArray, List.set_cons_zero, List.set_cons_succ]
        refine wpX_take (some 23) (i := 2) (v := .slice ar l[k].1.length cr) rfl rfl (by kernel_rfl) (by kernel_rfl) (by kernel_rfl) (fun _ _ _ h => h) (Or.inl ⟨rfl, fun n => ?_⟩) hB0 ?_
        · go_simp
        simp only [Act.put, List.setIfInBounds_toArray, List.set_cons_zero, List.set_cons_succ]
        refine wpX_take (some 24) (i := 3) (v := .func (.func 50) #[] #[]) rfl rfl (by kernel_rfl) (by kernel_rfl) (by kernel_rfl) (fun _ _ _ h => h) (Or.inl ⟨rfl, fun n => ?_⟩) hB0 ?_
        · go_simp
        simp only [Act.put, List.setIfInBounds_toArray, List.set_cons_zero, List.set_cons_succ]
        refine wpX_take (some 25) (i := 4) (v := .pointer (some ⟨wr.heap.size, 1, none⟩)) rfl rfl (by kernel_rfl) (by kernel_rfl) (by kernel_rfl) (fun _ _ _ h => h) (Or.inl ⟨rfl, fun n => ?_⟩) hB0 ?_
        · go_simp
        simp only [Act.put, List.setIfInBounds_toArray, List.set_cons_zero, List.set_cons_succ]
        refine wpX_take (some 26) (i := 5) (v := .int .i64 l[k].2) rfl rfl (by kernel_rfl) (by kernel_rfl) (by kernel_rfl) (fun _ _ _ h => h) (Or.inl ⟨rfl, fun n => ?_⟩) hB0 ?_
        · go_simp
        simp only [Act.put, List.setIfInBounds_toArray, List.set_cons_zero, List.set_cons_succ]
        refine wpX_take (some 27) (i := 6) (v := .int .i64 (oneF l[k].2)) rfl rfl (by kernel_rfl) (by kernel_rfl) (by kernel_rfl) (fun _ _ _ h => h) (Or.inl ⟨rfl, fun n => ?_⟩) hB0 ?_
        · go_simp
          exact MK.out n
        simp only [Act.put, List.setIfInBounds_toArray, List.set_cons_zero, List.set_cons_succ]
        refine wpX_step (rs := [7]) (by kernel_rfl) (by simp) ?_
        intro w5 hb5 j hj
        obtain rfl : j = 7 := by simpa using hj
        clear hj
        have D5 := chain hB0 hb5
        refine wpOp_step rfl (fun K hK => ?_)
        go_simp
        refine (put_at az cz _ ar cr l[k].1 (oneF l[k].2) _ (zz1.next D5) lz (sr1.next D5) h8 ok.len ok.right ok.bd (by first | omega | (show -4000000000 ≤ -l[k].2 ∧ -l[k].2 ≤ 4000000000; omega))).mono ?_
        rintro e w6 ⟨v, rfl, O1, hb6⟩
        obtain ⟨a1, cp1, rfl, z1, l1⟩ := O1.zs
        clear O1
        refine hK _ _ ⟨chain D5 hb6, ?_⟩
        clear hK K
        refine wpX_step (rs := [8]) (by kernel_rfl) (by simp) ?_
        intro w7 hb7 j hj
        obtain rfl : j = 8 := by simpa using hj
        clear hj
        refine wpOp_step rfl (fun K hK => ?_)
        go_simp
        refine hK _ _ ⟨chain (chain D5 hb6) hb7, ?_⟩
        clear hK K
        refine wpX_done (by kernel_rfl) ?_
        intro w8 hb8
        have D8 := chain (chain (chain D5 hb6) hb7) hb8
        have z8 := (z1.next hb7).next hb8
        clear p0 p1 hB0 D5 hb5 hb6 hb7 hb8 ok zz1 sr1 q0 q1
        go_wp2_with fail
        go_roundw
        case rel => exact ⟨k + 1, by omega, by go_num, ⟨a1, cp1, by rw [stp.out], by rw [stp.out]; exact z8, by rw [stp.out]; exact l1⟩, chain1 bb D8⟩
        case measure => simp [intOf]; omega
      · have e : k = l.length := by omega
        subst e
        rw [List.take_length] at zz
        rw [List.take_length]
        clear lz
        generalize hzc : canon (mapW oneF l) = zc at *
        have HZc : Hid (canon (mapW oneF l) = zc) := hzc
        clear hzc
        go_wp2_with fail
        exact bodyPost_ret (v := .tuple #[.slice az zc.length cz, .int .i64 0]) (by simp [results, Try.results21, go_sem]) rfl ⟨⟨az, cz, by rw [Hw.out, HZc.out], by rw [HZc.out]; exact zz⟩, chain1 hb1 hb⟩
  · have eZ : setZ oneF l = [] := by simp [setZ, hw]
    rw [eZ]
    have hne : (wrongZ l != 0) = true := by simpa using hw
    clear hw eZ
    go_enter Try.func21, Try.ntmps21
    go_wp2_with fail
    refine (refWrongZ_at _ _ _ _ h).mono ?_
    rintro e w1 ⟨rfl, hb1⟩
    go_wp2_with fail
    exact bodyPost_ret (v := .tuple #[.slice none 0 0, .int .i64 (wrongZ l)]) (by simp [results, Try.results21, go_sem]) rfl ⟨⟨none, 0, rfl, zs_nil _⟩, hb1⟩

set_option maxHeartbeats 400000 in
theorem refPositive_at (a : Option Addr) (ca : Nat) (l : List Zp) (w : World) (h : ZsAt w a l) :
    Calls Try.prog 24 #[.slice a l.length ca] w (Gives (setZ posF l) (wrongZ l) w) := by
  have ec := each48_at a ca l w h
  unfold Gives at ec ⊢
  go_enter Try.func24, Try.ntmps24
  go_wp2_with fail
  refine ec.mono ?_
  clear ec
  rintro e w1 ⟨⟨a1, c1, rfl, z1⟩, hb1⟩
  go_wp2_with fail
  exact bodyPost_ret (v := .tuple #[.slice a1 (setZ posF l).length c1, .int .i64 (wrongZ l)]) (by simp [results, Try.results24, go_sem]) rfl ⟨⟨a1, c1, rfl, z1⟩, hb1⟩

set_option maxHeartbeats 400000 in
theorem refDistinct_at (a : Option Addr) (ca : Nat) (l : List Zp) (w : World) (h : ZsAt w a l) :
    Calls Try.prog 26 #[.slice a l.length ca] w (Gives (setZ oneF l) (wrongZ l) w) := by
  have ec := each50_at a ca l w h
  unfold Gives at ec ⊢
  go_enter Try.func26, Try.ntmps26
  go_wp2_with fail
  refine ec.mono ?_
  clear ec
  rintro e w1 ⟨⟨a1, c1, rfl, z1⟩, hb1⟩
  go_wp2_with fail
  exact bodyPost_ret (v := .tuple #[.slice a1 (setZ oneF l).length c1, .int .i64 (wrongZ l)]) (by simp [results, Try.results26, go_sem]) rfl ⟨⟨a1, c1, rfl, z1⟩, hb1⟩
end Go.Proofs.Ytfgpfnhbcbhkfab
