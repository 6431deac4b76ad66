/- The document's Sum and Both. -/
import Derived.Test.YtibobmkelmalkaaR3
namespace Go.Proofs.Ytibobmkelmalkaa
open Go.RowKit Go.Lib Go.Shelf

theorem putL_lenR (r : List Vl) (w : Int) : ∀ z : List Zp, (putL z r w).length ≤ z.length + 1
  | [] => by unfold putL; split <;> simp
  | y :: t => by
    have ih := putL_lenR r w t
    unfold putL
    split
    · simp; omega
    · split
      · split <;> simp <;> omega
      · split <;> simp <;> omega
theorem canonF_len (l : List Zp) : ∀ z : List Zp, (l.foldl (fun z x => putL z x.1 x.2) z).length ≤ z.length + l.length := by
  induction l with
  | nil => intro z; simp
  | cons x r ih =>
    intro z
    have h1 := ih (putL z x.1 x.2)
    have h2 := putL_lenR x.1 x.2 z
    simp only [List.foldl_cons, List.length_cons] at *
    omega
theorem canon_len (l : List Zp) : (canon l).length ≤ l.length := by have := canonF_len l []; simpa [canon] using this
structure AccOk (z : List Zp) : Prop where
  len : z.length ≤ 200000
  right : ∀ y ∈ z, rightB y.1 = true
  bd : ∀ y ∈ z, -400000000000000000 ≤ y.2 ∧ y.2 ≤ 400000000000000000
theorem acc_ok {l : List Zp} (hl : l.length ≤ 200000) (h : ∀ x ∈ l, wrongRowF x.1 = 0 ∧ inW x.2 = true) : AccOk (canon l) := by
  refine ⟨Nat.le_trans (canon_len l) hl, fun y hy => ?_, fun y hy => ?_⟩
  · obtain ⟨x, hx, e⟩ := canon_row l y hy
    rw [e, right_bare]
    exact ((wrongRowF_zero _).1 (h x hx).1).2
  · rw [← wt_mem (canon_set l).rise y hy, canon_wt]
    have := wt_bd2 (l := l) (fun x hx => (inW_iff _).1 (h x hx).2) y.1
    omega
theorem fit_canon (l : List Zp) : fitE (canon l) = gatherE l ∧ fitZ (canon l) = gatherZ l := by
  have e : fitE (canon l) = gatherE l := rfl
  exact ⟨e, by unfold fitZ gatherZ; rw [e]⟩

/-- Weights changed. -/
def mapW (f : Int → Int) (l : List Zp) : List Zp := l.map fun x => (x.1, f x.2)
theorem mapW_take (f : Int → Int) (l : List Zp) (k : Nat) (h : k < l.length) : mapW f (l.take (k + 1)) = mapW f (l.take k) ++ [(l[k].1, f l[k].2)] := by
  unfold mapW
  rw [List.take_succ_eq_append_getElem h, List.map_append]; rfl
theorem mapW_len (f : Int → Int) (l : List Zp) : (mapW f l).length = l.length := by simp [mapW]
theorem mapW_wt (f : Int → Int) (f0 : f 0 = 0) (q : List Vl) : ∀ z : List Zp, Rise z → wt (mapW f z) q = f (wt z q)
  | [], _ => by simp [mapW, wt, f0]
  | x :: r, h => by
    have p := List.pairwise_cons.1 h
    have ih := mapW_wt f f0 q r p.2
    show (if cmpL x.1 q = 0 then f x.2 else 0) + wt (mapW f r) q = f (wt (x :: r) q)
    rw [ih, wt]
    by_cases c : cmpL x.1 q = 0
    · have z0 : wt r q = 0 := by
        rw [wt_congr (q := q) (q' := x.1) (by have := cmpL_neg x.1 q; omega)]
        exact wt_below p.2 p.1
      rw [if_pos c, if_pos c, z0, f0]; simp
    · rw [if_neg c, if_neg c]; simp
theorem each_eq (f : Int → Int) (f0 : f 0 = 0) {z : List Zp} (h : Rise z) : canon (mapW f z) = weighL f z :=
  (canon_of (weighL_set f z h) fun q => by rw [weighL_wt f f0 q z h, mapW_wt f f0 q z h]).symm
theorem both_eq (t : Int) (l : List Zp) {l' : List Zp} (h : Rise l') : canon (l ++ mapW (timesF t) l') = canon (l ++ weighL (timesF t) l') :=
  canon_congr fun q => by rw [wt_append, wt_append, weighL_wt (timesF t) (by simp [timesF]) q l' h, mapW_wt (timesF t) (by simp [timesF]) q l' h]
theorem mapW_mem {f : Int → Int} {l : List Zp} {x : Zp} (h : x ∈ mapW f l) : ∃ y ∈ l, x = (y.1, f y.2) := by
  unfold mapW at h
  obtain ⟨y, hy, e⟩ := List.mem_map.1 h
  exact ⟨y, hy, e.symm⟩
/-- A slice of rows, and how it lies. -/
def SliceOf (W : World) (v : Value) (z : List Zp) : Prop := ∃ a c, v = .slice a z.length c ∧ ZsAt W a z ∧ Lie a c z.length

set_option maxRecDepth 100000 in
set_option maxHeartbeats 8000000 in
theorem both_at (t : Int) (ht : t = 1 ∨ t = -1) (a b : Option Addr) (ca cb : Nat) (l l' : List Zp) (w : World) (h : ZsAt w a l) (h' : ZsAt w b l') :
    Calls Try.prog 22 #[.slice a l.length ca, .slice b l'.length cb, .int .i64 t] w (Gives (bothZ t l l') (bothE t l l') w) := by
  unfold Gives
  by_cases hw : wrongZ l = 0
  · have Hw : Hid (wrongZ l = 0) := hw
    by_cases hw' : wrongZ l' = 0
    · have Hw' : Hid (wrongZ l' = 0) := hw'
      have hok := (wrongZ_iff l).1 hw
      have hok' := (wrongZ_iff l').1 hw'
      have eE : bothE t l l' = fitE (canon (l ++ mapW (timesF t) l')) := by
        rw [both_eq t l hok'.2.2]
        simp only [bothE, hw, hw', if_true]
        rfl
      have eZ : bothZ t l l' = fitZ (canon (l ++ mapW (timesF t) l')) := by
        unfold bothZ fitZ
        rw [← eE, both_eq t l hok'.2.2]
      rw [eE, eZ]
      have HA : Hid (∀ x ∈ l, wrongRowF x.1 = 0 ∧ inW x.2 = true) := fun x hx => ⟨(hok.2.1 x hx).1, (hok.2.1 x hx).2.2⟩
      have HB : Hid (∀ x ∈ l', wrongRowF x.1 = 0 ∧ inW x.2 = true) := fun x hx => ⟨(hok'.2.1 x hx).1, (hok'.2.1 x hx).2.2⟩
      have L1 := hok.1
      have L2 := hok'.1
      clear hw hw' eE eZ hok hok'
      go_enter Try.func22, Try.ntmps22
      go_wp2_with fail
      refine (refWrongZ_at _ _ _ _ h).mono ?_
      rintro e w1 ⟨rfl, hb1⟩
      rw [Hw.out]
      go_wp2_with fail
      refine (refWrongZ_at _ _ _ _ (h'.next hb1)).mono ?_
      rintro e w2 ⟨rfl, hb2⟩
      rw [Hw'.out]
      have bS : Below w2.heap.size w2 (w2.alloc (.cells #[] 45)) := (Below.refl _ _).alloc (Nat.le_refl _) _
      have zl := ((h.next hb1).next hb2).next bS
      have zl' := ((h'.next hb1).next hb2).next bS
      have bw := chain1 (chain1 hb1 hb2) bS
      clear h h' hb1 hb2 bS
      go_wp2_with fail
      generalize w2.alloc (.cells #[] 45) = w3 at *
      go_loopw [10, 28] (fun v i wr => ∃ k : Nat, k ≤ l.length ∧ i = .int .i64 k ∧ SliceOf wr v (canon (l.take k)) ∧ Below w3.heap.size w3 wr) (fun _ i _ => l.length - (intOf i).toNat)
      case atStart => exact ⟨0, Nat.zero_le _, rfl, ⟨_, 0, rfl, ⟨by simp [canon], .inl rfl⟩, ⟨fun e => (by cases e), by simp [canon], by simp⟩⟩, Below.refl _ _⟩
      case round =>
        obtain ⟨k, hk, rfl, ⟨az, cz, rfl, zz, lz⟩, hb⟩ := hrel
        by_cases hlt : k < l.length
        · obtain ⟨b1, off, rfl, hbl, c1, ar, cr, c0, sr⟩ := (zl.next hb).elem hlt
          have hA := HA.out l[k] (List.getElem_mem hlt)
          have hx := (inW_iff _).1 hA.2
          have h8 := ((wrongRowF_zero _).1 hA.1).1
          have ok := acc_ok (l := l.take k) (by rw [List.length_take]; omega) (fun x hx => HA.out x (List.mem_of_mem_take hx))
          have stp : Hid (canon (l.take (k + 1)) = putL (canon (l.take k)) l[k].1 l[k].2) := by
            show canon (l.take (k + 1)) = _
            rw [List.take_succ_eq_append_getElem hlt, canon_snoc]
          have bN : Below wr.heap.size wr (wr.alloc (.cells #[.slice ar l[k].1.length cr, .int .i64 l[k].2] 45)) := (Below.refl _ _).alloc (Nat.le_refl _) _
          have pc := put_at az cz _ ar cr l[k].1 l[k].2 _ (zz.next bN) lz (sr.next bN) h8 ok.len ok.right ok.bd (by omega)
          have bb := chain1 hb bN
          clear ok hA zz lz sr
          generalize canon (l.take k) = acc at *
          go_wp2_with fail
          refine pc.mono ?_
          clear pc
          rintro e w4 ⟨v, rfl, O1, hb4⟩
          obtain ⟨a1, cp1, rfl, z1, l1⟩ := O1.zs
          clear O1
          go_wp2_with fail
          go_roundw
          case rel => exact ⟨k + 1, by omega, by go_num, ⟨a1, cp1, by rw [stp.out], by rw [stp.out]; exact z1, by rw [stp.out]; exact l1⟩, chain1 bb hb4⟩
          case measure => simp [intOf]; omega
        · have e : k = l.length := by omega
          subst e
          rw [List.take_length] at zz lz
          rw [List.take_length]
          have zl2 := zl'.next hb
          have bw2 := chain1 bw hb
          have S0 : SliceOf wr (.slice az (canon l).length cz) (canon (l ++ mapW (timesF t) (l'.take 0))) := ⟨az, cz, by simp [mapW], by simpa [mapW] using zz, by simpa [mapW] using lz⟩
          clear zz lz zl zl' hb bw
          generalize hcl : (canon l).length = cl at *
          clear hcl
          go_wp2_with fail
          go_loopw [10, 41] (fun v i ws => ∃ k : Nat, k ≤ l'.length ∧ i = .int .i64 k ∧ SliceOf ws v (canon (l ++ mapW (timesF t) (l'.take k))) ∧ Below wr.heap.size wr ws) (fun _ i _ => l'.length - (intOf i).toNat)
          case atStart => exact ⟨0, Nat.zero_le _, rfl, S0, Below.refl _ _⟩
          case round =>
            clear S0
            obtain ⟨k, hk, rfl, ⟨az, cz, rfl, zz, lz⟩, hb⟩ := hrel
            by_cases hlt : k < l'.length
            · obtain ⟨b1, off, rfl, hbl, c1, ar, cr, c0, sr⟩ := (zl2.next hb).elem hlt
              have hA := HB.out l'[k] (List.getElem_mem hlt)
              have hx := (inW_iff _).1 hA.2
              have h8 := ((wrongRowF_zero _).1 hA.1).1
              have hfx := (inW_iff _).1 (timesF_in t ht _ hA.2)
              have ok := acc_ok (l := l ++ mapW (timesF t) (l'.take k)) (by rw [List.length_append, mapW_len, List.length_take]; omega) (fun x hx => by
                rcases List.mem_append.1 hx with hx | hx
                · exact HA.out x hx
                · obtain ⟨y, hy, rfl⟩ := mapW_mem hx
                  have := HB.out y (List.mem_of_mem_take hy)
                  exact ⟨this.1, timesF_in t ht _ this.2⟩)
              have stp : Hid (canon (l ++ mapW (timesF t) (l'.take (k + 1))) = putL (canon (l ++ mapW (timesF t) (l'.take k))) l'[k].1 (timesF t l'[k].2)) := by
                show canon _ = _
                rw [mapW_take _ _ _ hlt, ← List.append_assoc, canon_snoc]
              have bN : Below wr.heap.size wr (wr.alloc (.cells #[.slice ar l'[k].1.length cr, .int .i64 l'[k].2] 45)) := (Below.refl _ _).alloc (Nat.le_refl _) _
              have pc := put_at az cz _ ar cr l'[k].1 (timesF t l'[k].2) _ (zz.next bN) lz (sr.next bN) h8 ok.len ok.right ok.bd (by omega)
              have bb := chain1 hb bN
              have et : timesF t l'[k].2 = t * l'[k].2 := rfl
              rw [et] at pc hfx
              clear ok hA zz lz sr et
              generalize canon (l ++ mapW (timesF t) (l'.take k)) = acc at *
              go_wp2_with fail
              refine pc.mono ?_
              clear pc
              rintro e w4 ⟨v, rfl, O1, hb4⟩
              obtain ⟨a1, cp1, rfl, z1, l1⟩ := O1.zs
              clear O1
              go_wp2_with fail
              go_roundw
              case rel => exact ⟨k + 1, by omega, by go_num, ⟨a1, cp1, by rw [stp.out]; rfl, by rw [stp.out]; exact z1, by rw [stp.out]; exact l1⟩, chain1 bb hb4⟩
              case measure => simp [intOf]; omega
            · have e : k = l'.length := by omega
              subst e
              rw [List.take_length] at zz
              rw [List.take_length]
              have hcl := canon_len (l ++ mapW (timesF t) l')
              rw [List.length_append, mapW_len] at hcl
              have ff := fit_at az cz (canon (l ++ mapW (timesF t) l')) _ zz (by omega)
              unfold Gives at ff
              clear zz lz
              generalize hzc : canon (l ++ mapW (timesF t) l') = zc at *
              have HZc : Hid (canon (l ++ mapW (timesF t) l') = zc) := hzc
              clear hzc
              go_wp2_with fail
              refine ff.mono ?_
              clear ff
              rintro e w5 ⟨⟨a1, cp1, rfl, z1⟩, hb5⟩
              go_wp2_with fail
              exact bodyPost_ret (v := .tuple #[.slice a1 (fitZ zc).length cp1, .int .i64 (fitE zc)]) (by simp [results, Try.results22, go_sem]) rfl ⟨⟨a1, cp1, by rw [HZc.out], by rw [HZc.out]; exact z1⟩, chain1 (chain1 bw2 hb) hb5⟩
    · have eE : bothE t l l' = wrongZ l' := by simp [bothE, hw, hw']
      have eZ : bothZ t l l' = [] := by simp [bothZ, eE, hw']
      rw [eE, eZ]
      have hne : (wrongZ l' != 0) = true := by simpa using hw'
      clear hw hw' eE eZ
      go_enter Try.func22, Try.ntmps22
      go_wp2_with fail
      refine (refWrongZ_at _ _ _ _ h).mono ?_
      rintro e w1 ⟨rfl, hb1⟩
      rw [Hw.out]
      go_wp2_with fail
      refine (refWrongZ_at _ _ _ _ (h'.next hb1)).mono ?_
      rintro e w2 ⟨rfl, hb2⟩
      go_wp2_with fail
      exact bodyPost_ret (v := .tuple #[.slice none 0 0, .int .i64 (wrongZ l')]) (by simp [results, Try.results22, go_sem]) rfl ⟨⟨none, 0, rfl, zs_nil _⟩, chain1 hb1 hb2⟩
  · have eE : bothE t l l' = wrongZ l := by simp [bothE, hw]
    have eZ : bothZ t l l' = [] := by simp [bothZ, eE, hw]
    rw [eE, eZ]
    have hne : (wrongZ l != 0) = true := by simpa using hw
    clear hw eE eZ
    go_enter Try.func22, Try.ntmps22
    go_wp2_with fail
    refine (refWrongZ_at _ _ _ _ h).mono ?_
    rintro e w1 ⟨rfl, hb1⟩
    go_wp2_with fail
    exact bodyPost_ret (v := .tuple #[.slice none 0 0, .int .i64 (wrongZ l)]) (by simp [results, Try.results22, go_sem]) rfl ⟨⟨none, 0, rfl, zs_nil _⟩, hb1⟩

end Go.Proofs.Ytibobmkelmalkaa
