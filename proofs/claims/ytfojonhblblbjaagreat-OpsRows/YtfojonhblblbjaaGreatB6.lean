/- Together: K6, J1, ZE, J2, J3, J4, K7, ZF, ZG. -/
import Derived.Laws.AppendOwnNone
import Derived.Shelf.Spec.SlicesGrow
import Derived.Ground.Names8Prog
import Derived.Test.YtfojonhblblbjaaGreatB5
import Derived.Test.YtfojonhblblbjaaGreatB1
import Derived.Test.YtfojonhblblbjaaGreatB3
import Derived.Test.YtfojonhblblbjaaGreatB4
/- What is wrong with a set of rows of columns; the rows that are asked for. -/
namespace Go.Proofs.YtfojonhblblbjaaGreat
open Go.RowKit Go.Lib Go.Shelf

set_option maxHeartbeats 2000000 in
theorem wrongS_at (cols : List Int) (ca : Option Addr) (ccap : Nat) (a : Option Addr) (cap : Nat) (l : List Zp) (w : World) (hc : IsAt w.heap.size w ca cols) (h : ZsAt w a l) :
    Calls Tryz.prog 31 #[.slice ca cols.length ccap, .slice a l.length cap] w fun e w' => e = .returned (.int .i64 (inpE cols l)) ∧ Below w.heap.size w w' := by
  have hl := h.1
  unfold maxLen at hl
  have hcl := hc.1
  unfold maxLen at hcl
  by_cases h8 : 8 < cols.length
  · have e : inpE cols l = 5 := by simp [inpE, h8]
    rw [e]
    have hz : (8 : Int) < (cols.length : Int) := by omega
    go_enter Tryz.func31, Tryz.ntmps31
    go_wp2_with fail
    go_ret
    exact ⟨rfl, Below.refl _ _⟩
  have hz : ¬ (8 : Int) < (cols.length : Int) := by omega
  by_cases hw : wrongZ l = 0
  · have e : inpE cols l = fitsZ cols l := by simp [inpE, h8, hw]
    rw [e]
    clear e
    have Hw : Hid (wrongZ l = 0) := hw
    clear hw
    go_enter Tryz.func31, Tryz.ntmps31
    go_wp2_with fail
    refine (zWrong_at _ _ _ _ h).mono ?_
    rintro e w1 ⟨rfl, hb1⟩
    rw [Hw.out]
    go_wp2_with fail
    go_loopw [19] (fun i wr => ∃ k : Nat, k ≤ l.length ∧ i = .int .i64 k ∧ Hid (fitsZ cols l = fitsZ cols (l.drop k)) ∧ Below w.heap.size w wr) (fun i _ => l.length - (intOf i).toNat)
    case atStart => exact ⟨0, Nat.zero_le _, rfl, rfl, hb1⟩
    case round =>
      obtain ⟨k, hk, rfl, HC, hb⟩ := hrel
      have hz := hb.size
      by_cases hlt : k < l.length
      · obtain ⟨b, off, rfl, hbl, c1, ar, cr, c0, sr⟩ := (h.next hb).elem hlt
        have hA := hb.alloc hz (.cells #[.slice ar l[k].1.length cr, .int .i64 l[k].2] 53)
        have hal : Below wr.heap.size wr (wr.alloc (.cells #[.slice ar l[k].1.length cr, .int .i64 l[k].2] 53)) := (Below.refl _ _).alloc (Nat.le_refl _) _
        have con := fits_at cols l[k].1 ca ccap ar cr _ ((hc.next hA (Nat.le_refl _)).up hA.size) (sr.next hal)
        by_cases hw : fitsL cols l[k].1 = 0
        · have Hw : Hid (fitsL cols l[k].1 = 0) := hw
          rw [hw] at con
          clear hw
          go_wp2_with fail
          refine con.mono ?_
          rintro e w2 ⟨rfl, hb2⟩
          go_wp2_with fail
          go_roundw
          case rel => exact ⟨k + 1, by omega, by go_num, HC.out.trans (fitsZ_next cols l k hlt Hw.out), chain2 hb hb2⟩
          case measure => simp [intOf]; omega
        · have HN : Hid (fitsZ cols l = fitsL cols l[k].1) := HC.out.trans (fitsZ_bad cols l k hlt hw)
          have hne : (fitsL cols l[k].1 != 0) = true := by simpa using hw
          generalize fitsL cols l[k].1 = t at *
          go_wp2_with fail
          refine con.mono ?_
          rintro e w2 ⟨rfl, hb2⟩
          go_wp2_with fail
          go_ret
          exact ⟨ret_int HN.out.symm, chain2 hb hb2⟩
      · have HN : Hid (fitsZ cols l = 0) := HC.out.trans (fitsZ_end cols l k (by omega))
        go_wp2_with fail
        go_ret
        exact ⟨ret_int HN.out.symm, hb⟩
  · have e : inpE cols l = wrongZ l := by simp [inpE, h8, hw]
    rw [e]
    have hne : (wrongZ l != 0) = true := by simpa using hw
    go_enter Tryz.func31, Tryz.ntmps31
    go_wp2_with fail
    refine (zWrong_at _ _ _ _ h).mono ?_
    rintro e w1 ⟨rfl, hb1⟩
    go_wp2_with fail
    go_ret
    exact ⟨rfl, hb1⟩

/-- A slice of one's own, whose rows' values lie in w0. -/
def OwnB (w0 : World) (base : Nat) (W : World) (v : Value) (l : List Zp) : Prop := ∃ xs, W.ownsRow base 53 2 v l.length xs ∧ EncB w0 xs l
theorem OwnB.next {w0 W w1 : World} {base : Nat} {v : Value} {l : List Zp} (h : OwnB w0 base W v l) (hb : Below W.heap.size W w1) : OwnB w0 base w1 v l := by
  obtain ⟨xs, h1, h2⟩ := h
  exact ⟨xs, own_next h1 hb, h2⟩
theorem OwnB.zs {w0 W : World} {base : Nat} {v : Value} {l : List Zp} (h : OwnB w0 base W v l) (hb : Below w0.heap.size w0 W) : ∃ a cap, v = .slice a l.length cap ∧ ZsAt W a l ∧ (a = none → cap = 0) := by
  obtain ⟨xs, h1, h2⟩ := h
  have h1' := h1
  obtain ⟨hx, ⟨rfl, h0⟩ | ⟨g, cap, cur, rfl, hg, hh, hn, hc, hs, ht⟩⟩ := h1
  · have : l = [] := List.eq_nil_of_length_eq_zero h0
    subst this
    exact ⟨none, 0, rfl, ⟨by simp, .inl rfl⟩, fun _ => rfl⟩
  · refine ⟨_, cap, rfl, ⟨by omega, .inr ⟨g, 0, rfl, (h1'.lt g rfl).2, fun i hi => ?_⟩⟩, fun e => by cases e⟩
    obtain ⟨a, cp, e0, e1, e2⟩ := h2.2 i hi
    refine ⟨?_, a, cp, ?_, e2.next hb⟩
    · rw [h1'.cellAt _ (by omega), ← e1]; congr 1; omega
    · rw [h1'.cellAt _ (by omega), ← e0]; congr 1; omega
theorem own_since {lo base e size n : Nat} {W w1 : World} {v : Value} {xs : List Value} (h : W.ownsRow base e size v n xs) (hl : lo ≤ base) (hs : Since lo W w1) : w1.ownsRow base e size v n xs := by
  have h' := h
  obtain ⟨hx, h1 | ⟨g, cap, cur, rfl, hg, hh, rest⟩⟩ := h
  · exact ⟨hx, .inl h1⟩
  · exact ⟨hx, .inr ⟨g, cap, cur, rfl, hg, by rw [hs.2 g (by omega) (h'.lt g rfl).2]; exact hh, rest⟩⟩
theorem filter_take {l : List Zp} (p : Zp → Bool) {k : Nat} (h : k < l.length) : (l.take (k + 1)).filter p = (l.take k).filter p ++ (if p l[k] = true then [l[k]] else []) := by
  rw [List.take_succ_eq_append_getElem h, List.filter_append]
  congr 1
  rw [List.filter_cons]
  rfl

set_option maxHeartbeats 4000000 in
theorem picked_at (g : Nat) (cb : Array Value) (p : Zp → Bool) (a : Option Addr) (cap : Nat) (l : List Zp) (w0 w : World) (Inv : World → Prop) (h : ZsAt w0 a l) (hl : l.length ≤ 100000)
    (eg : ∀ args w, (callFunc g args).run Tryz.prog w = .ok (.enter g args) w) (hI0 : Inv w) (hI1 : ∀ W, Inv W → Below w0.heap.size w0 W) (hI2 : ∀ W W', Inv W → Below w.heap.size W W' → Inv W')
    (hcall : ∀ x ∈ l, ∀ (ra : Option Addr) (rc : Nat) (W : World), Inv W → SlAt w0 ra x.1 → w.heap.size ≤ W.heap.size → Calls Tryz.prog g (#[.agg #[.slice ra x.1.length rc, .int .i64 x.2]] ++ cb) W fun e w' => e = .returned (.bool (p x)) ∧ Inv w' ∧ Since w.heap.size W w') :
    Calls Tryz.prog 33 #[.slice a l.length cap, .func (.func g) #[] cb] w fun e w' => ∃ v, e = .returned v ∧ OwnB w0 w.heap.size w' v (l.filter p) ∧ Inv w' ∧ w.heap.size ≤ w'.heap.size := by
  obtain ⟨i0, hi, hj0, hj1, hj2⟩ := info_parts Tryz.info42
  have HC : Hid (∀ x ∈ l, ∀ (ra : Option Addr) (rc : Nat) (W : World), Inv W → SlAt w0 ra x.1 → w.heap.size ≤ W.heap.size → Calls Tryz.prog g (#[.agg #[.slice ra x.1.length rc, .int .i64 x.2]] ++ cb) W fun e w' => e = .returned (.bool (p x)) ∧ Inv w' ∧ Since w.heap.size W w') := hcall
  have H1 : Hid (∀ W, Inv W → Below w0.heap.size w0 W) := hI1
  have H2 : Hid (∀ W W', Inv W → Below w.heap.size W W' → Inv W') := hI2
  clear hcall hI1 hI2
  go_enter Tryz.func33, Tryz.ntmps33
  go_wp2_with fail
  go_loopw [5, 10] (fun v i wr => ∃ k : Nat, k ≤ l.length ∧ i = .int .i64 k ∧ OwnB w0 w.heap.size wr v ((l.take k).filter p) ∧ Hid (Inv wr) ∧ w.heap.size ≤ wr.heap.size) (fun _ i _ => l.length - (intOf i).toNat)
  case atStart => exact ⟨0, Nat.zero_le _, rfl, ⟨[], by simpa using World.ownsRow_nil _ _ _ _, by simp [EncB]⟩, hI0, Nat.le_refl _⟩
  case round =>
    clear hI0
    obtain ⟨k, hk, rfl, HO, HI, hz⟩ := hrel
    by_cases hlt : k < l.length
    · obtain ⟨b, off, rfl, hbl, d1, ar, cr, d0, sr⟩ := h.elem hlt
      have hB := H1.out _ HI.out
      have c1 := (hB.cell (p := ⟨b, _, none⟩) hbl).trans d1
      have c0 := (hB.cell (p := ⟨b, _, none⟩) hbl).trans d0
      have hbl' : b < wr.heap.size := Nat.lt_of_lt_of_le hbl hB.size
      have hlen : ((l.take k).filter p).length ≤ k := by have := List.length_filter_le p (l.take k); simp only [List.length_take] at this; omega
      have hal : Below wr.heap.size wr (wr.alloc (.cells #[.slice ar l[k].1.length cr, .int .i64 l[k].2] 53)) := (Below.refl _ _).alloc (Nat.le_refl _) _
      have IA : Inv (wr.alloc (.cells #[.slice ar l[k].1.length cr, .int .i64 l[k].2] 53)) := H2.out _ _ HI.out (hal.mono hz)
      have con := HC.out l[k] (List.getElem_mem hlt) ar cr _ IA sr (Nat.le_trans hz hal.size)
      have q0 : (wr.alloc (.cells #[.slice ar l[k].1.length cr, .int .i64 l[k].2] 53)).cell? ⟨wr.heap.size, 0, none⟩ = some (.slice ar l[k].1.length cr) := by simp
      have q1 : (wr.alloc (.cells #[.slice ar l[k].1.length cr, .int .i64 l[k].2] 53)).cell? ⟨wr.heap.size, 1, none⟩ = some (.int .i64 l[k].2) := by simp
      have za : (wr.alloc (.cells #[.slice ar l[k].1.length cr, .int .i64 l[k].2] 53)).heap.size = wr.heap.size + 1 := by simp
      have HS : Hid (SlAt w0 ar l[k].1) := sr
      obtain ⟨xs, ho, he⟩ := HO
      have HE : Hid (EncB w0 xs ((l.take k).filter p)) := he
      have ho1 := own_next ho hal
      clear d0 d1 sr he ho IA
      by_cases hp : p l[k] = true
      · rw [hp] at con
        have HP : Hid (p l[k] = true) := hp
        clear hp
        go_wp2_with (first | (go_at_fn g; refine con.mono ?_; rintro e w1 ⟨rfl, I1, s1⟩; have r0 := (s1.cell (p := ⟨wr.heap.size, 0, none⟩) hz (by show wr.heap.size < _; omega)).trans q0; have r1 := (s1.cell (p := ⟨wr.heap.size, 1, none⟩) hz (by show wr.heap.size < _; omega)).trans q1; have z1 := s1.1; have o1 := own_since ho1 (Nat.le_refl _) s1) | (at_builtin; refine wpList_append_own _ rfl _ _ 28 rfl w.heap.size 53 i0 _ 2 32 Tryz.underlying28 hi hj0 hj1 hj2 rfl (by decide) _ _ _ rfl (o1.alloc _) ⟨w1.heap.size, 0, none⟩ 1 1 [.slice ar l[k].1.length cr, .int .i64 l[k].2] rfl rfl ?Ac1 ?Ac2 ?Ac3 ?Ac4 ?Ac5 ?_))
        case Ac1 =>
          intro j u hj
          match j, hj with
          | 0, hj => simp at hj; subst hj; simp [Addr.add]
          | 1, hj => simp at hj; subst hj; simp [Addr.add]
        case Ac2 => intro u hu; simp at hu; rcases hu with rfl | rfl <;> rfl
        case Ac3 => unfold maxLen; omega
        case Ac4 => omega
        case Ac5 => simp; omega
        intro v' w5 ho5 hg5 _
        have hb5 : Below w.heap.size w1 w5 := ((Below.refl w.heap.size w1).alloc (by omega) _).grown hg5 (by simp; omega) (fun q hq => ((o1.alloc (.cells #[.slice ar l[k].1.length cr, .int .i64 l[k].2] 53)).lt q hq).1)
        have HI1 : Hid (Inv w5) := H2.out _ _ I1 hb5
        have z5 := hb5.size
        clear hg5 o1 I1 con q0 q1 ho1
        go_wp2_with fail
        go_roundw
        case rel => exact ⟨k + 1, by omega, by go_num, by rw [filter_take p hlt, if_pos HP.out]; exact ⟨_, by simpa using ho5, HE.out.push HS.out⟩, HI1, by omega⟩
        case measure => simp [intOf]; omega
      · have hp : p l[k] = false := by simpa using hp
        rw [hp] at con
        have HP : Hid (p l[k] = false) := hp
        clear hp
        go_wp2_with (go_at_fn g; refine con.mono ?_; rintro e w1 ⟨rfl, I1, s1⟩)
        have o1 := own_since ho1 (Nat.le_refl _) s1
        have z1 := s1.1
        have HI1 : Hid (Inv w1) := I1
        clear con q0 q1 ho1 I1
        go_roundw
        case rel => exact ⟨k + 1, by omega, by go_num, by rw [filter_take p hlt, HP.out, if_neg (by decide), List.append_nil]; exact ⟨_, o1, HE.out⟩, HI1, by omega⟩
        case measure => simp [intOf]; omega
    · have e : k = l.length := by omega
      subst e
      rw [List.take_length] at HO
      obtain ⟨av, cv, rfl, _⟩ := HO.zs (H1.out _ HI.out)
      go_wp2_with fail
      go_ret
      exact ⟨_, rfl, HO, HI.out, hz⟩
end Go.Proofs.YtfojonhblblbjaaGreat
/- Slices as cells; appending whatever slice, a nil one too. -/
namespace Go.Proofs.YtfojonhblblbjaaGreat
open Go.RowKit Go.Lib

theorem run_append_none2 {P : Program} {w : World} (base : Nat) (t ty e : TypeId) (i : TypeInfo) (size : Nat) (ht : P.underlying t = some (.slice e)) (hi : P.info? e = some i)
    (v : Value) (n : Nat) (xs : List Value) (hown : w.ownsRow base e size v n xs) (c : Nat) : (Builtin.append_ #[t, t] ty #[v, .slice none 0 c]).run P w = .ok v w := by
  rcases hown.2 with ⟨rfl, rfl⟩ | ⟨g, cap, cur, rfl, _, _, hnc, _⟩
  · simp [Builtin.append_, run_underlying ht, sizeOf, typeInfo, hi, Builtin.lenOf, Builtin.firstCells]
  · simp [Builtin.append_, run_underlying ht, sizeOf, typeInfo, hi, Builtin.lenOf, Builtin.firstCells, hnc, storeCells]

/-- Cells behind a slice: n elements of so many cells each. -/
structure Raw (W : World) (a : Option Addr) (n size : Nat) (xs : List Value) : Prop where
  len : xs.length = n * size
  one : ∀ u ∈ xs, u.oneCell' = true
  nil : a = none → n = 0
  at_ : ∀ ad, a = some ad → ∀ j u, xs[j]? = some u → W.cell? (ad.add j) = some u
theorem Raw.next {W w1 : World} {a : Option Addr} {n size : Nat} {xs : List Value} (h : Raw W a n size xs) (hb : Below W.heap.size W w1) : Raw w1 a n size xs :=
  ⟨h.len, h.one, h.nil, fun ad e j u hj => (hb.cell (World.block_lt_of_cell? _ _ (h.at_ ad e j u hj))).trans (h.at_ ad e j u hj)⟩
theorem Raw.alloc {W : World} {a : Option Addr} {n size : Nat} {xs : List Value} (h : Raw W a n size xs) (o : Obj) : Raw (W.alloc o) a n size xs := h.next ((Below.refl _ _).alloc (Nat.le_refl _) _)

theorem wpList_append_raw {P : Program} {w : World} {ops : Array Oper} {rest : List Oper} {o : Oper} {a : Act} {Q : Exit → Act → World → Prop} (hgd : o.guard = none) (s x : Operand) (t : TypeId)
    (ho : o.op = .call { callee := .builtin .append, args := #[s, x], argTypes := #[t, t] })
    (base : Nat) (e : TypeId) (i : TypeInfo) (z : Value) (size bytes : Nat) (ht : P.underlying t = some (.slice e)) (hi : P.info? e = some i) (hz : i.zero = some z)
    (hsize : i.size = size) (hby : i.bytes = bytes) (hzs : z.cells.size = size) (hsz : 0 < size)
    (v : Value) (n : Nat) (xs : List Value) (hs : a.eval s = v) (hown : w.ownsRow base e size v n xs)
    (ao : Option Addr) (m c : Nat) (news : List Value) (hx : a.eval x = .slice ao m c) (hr : Raw w ao m size news)
    (h63 : n + m ≤ maxLen) (hbytes : (n + m) * bytes ≤ 140737488355328) (hbase : base ≤ w.heap.size)
    (h : ∀ v' w', w'.ownsRow base e size v' (n + m) (xs ++ news) → w.grownBy w' v.ownBlock → wpList P ops Q rest (a.put o.dst v') w') : wpList P ops Q (o :: rest) a w := by
  rcases ao with _ | ad
  · have hm := hr.nil rfl
    subst hm
    have hnews : news = [] := List.eq_nil_of_length_eq_zero (by simpa using hr.len)
    subst hnews
    refine wpList_plain hgd fun K hK' => ?_
    have hrun := run_append_none2 (P := P) (w := w) base t o.type e i size ht hi v n xs hown c
    unfold Oper.wp
    simp [execOp, ho, resolve, invoke, builtin, hs, hx, hrun, Result.andThen]
    exact hK' _ _ (by simpa using h v w (by simpa using hown) (World.grownBy.refl _ _))
  · exact wpList_append_own _ hgd s x t ho base e i z size bytes ht hi hz hsize hby hzs hsz v n xs hs hown ad m c news hx hr.len (hr.at_ ad rfl) hr.one h63 hbytes hbase (fun v' w' h1 h2 _ => h v' w' h1 h2)
/-- .. within what there is room for. -/
theorem wpList_append_in {P : Program} (w : World) {ops : Array Oper} {rest : List Oper} {o : Oper} {a : Act} {Q : Exit → Act → World → Prop}
    (hg : o.guard = none) (s x : Operand) (t : TypeId) (hop : o.op = Op.call { callee := Callee.builtin Builtin.append, args := #[s, x], argTypes := #[t, t] })
    (base : Nat) (e : TypeId) (i : TypeInfo) (size : Nat) (h1 : P.underlying t = some (.slice e)) (h2 : P.info? e = some i) (h4 : i.size = size)
    (g k cap : Nat) (xs : List Value) (hs : a.eval s = .slice (some ⟨g, 0, none⟩) k cap) (hown : w.ownsRow base e size (.slice (some ⟨g, 0, none⟩) k cap) k xs) (ao : Option Addr) (m c : Nat) (news : List Value) (hx : a.eval x = .slice ao m c) (hr : Raw w ao m size news) (b1 : k + m ≤ cap)
    (hK : ∀ w', w'.ownsRow base e size (.slice (some ⟨g, 0, none⟩) (k + m) cap) (k + m) (xs ++ news) → w.grownBy w' (some g) → wpList P ops Q rest (a.put o.dst (.slice (some ⟨g, 0, none⟩) (k + m) cap)) w') :
    wpList P ops Q (o :: rest) a w := by
  rcases ao with _ | ad
  · have hm := hr.nil rfl
    subst hm
    have hnews : news = [] := List.eq_nil_of_length_eq_zero (by simpa using hr.len)
    subst hnews
    refine wpList_plain hg fun K hK' => ?_
    have hrun := run_append_none2 (P := P) (w := w) base t o.type e i size h1 h2 _ k xs hown c
    unfold Oper.wp
    simp [execOp, hop, resolve, invoke, builtin, hs, hx, hrun, Result.andThen]
    exact hK' _ _ (by simpa using hK w (by simpa using hown) (World.grownBy.refl _ _))
  · exact wpList_append_fits w hg s x t hop base e i size h1 h2 h4 g k cap xs hs hown ad m c news hx hr.len (hr.at_ ad rfl) hr.one b1 hK

theorem addr_addJ (b off i : Nat) : (⟨b, off, none⟩ : Addr).add i = ⟨b, off + i, none⟩ := by
  unfold Addr.add
  by_cases h : i = 0 <;> simp [h]
/-- The cells of values. -/
def flatV : List Vl → List Value
  | [] => []
  | v :: r => .int .i64 v.1 :: .int .i64 v.2.1 :: .string v.2.2 :: flatV r
theorem flatV_len : ∀ l, (flatV l).length = l.length * 3
  | [] => rfl
  | v :: r => by simp only [flatV, List.length_cons, flatV_len r]; omega
theorem flatV_append : ∀ l t, flatV (l ++ t) = flatV l ++ flatV t
  | [], _ => rfl
  | v :: r, t => by simp only [List.cons_append, flatV, flatV_append r t]
theorem flatV_get : ∀ (l : List Vl) (j : Nat) (h : j < l.length), (flatV l)[j * 3]? = some (.int .i64 l[j].1) ∧ (flatV l)[j * 3 + 1]? = some (.int .i64 l[j].2.1) ∧ (flatV l)[j * 3 + 2]? = some (.string l[j].2.2)
  | [], _, h => by simp at h
  | v :: r, 0, _ => by simp [flatV]
  | v :: r, j + 1, h => by
    have ih := flatV_get r j (by simpa using h)
    have e0 : (j + 1) * 3 = j * 3 + 1 + 1 + 1 := by omega
    have e1 : (j + 1) * 3 + 1 = j * 3 + 1 + 1 + 1 + 1 := by omega
    have e2 : (j + 1) * 3 + 2 = j * 3 + 2 + 1 + 1 + 1 := by omega
    rw [e1, e2, e0]
    simp only [flatV, List.getElem?_cons_succ, List.getElem_cons_succ]
    exact ih
theorem flatV_one : ∀ l, ∀ u ∈ flatV l, u.oneCell' = true
  | [], u, h => by simp [flatV] at h
  | v :: r, u, h => by
    simp only [flatV, List.mem_cons] at h
    rcases h with rfl | rfl | rfl | h
    · rfl
    · rfl
    · rfl
    · exact flatV_one r u h
theorem raw_vals {W : World} {a : Option Addr} {l : List Vl} (h : SlAt W a l) : Raw W a l.length 3 (flatV l) := by
  refine ⟨flatV_len l, flatV_one l, ?_, ?_⟩
  · intro e
    rcases h.2 with h | ⟨b, off, e', _⟩
    · rw [h]; rfl
    · rw [e] at e'; cases e'
  · intro ad e j u hj
    have hlt : j < l.length * 3 := by
      rcases Nat.lt_or_ge j (l.length * 3) with h | h
      · exact h
      · rw [List.getElem?_eq_none (by rw [flatV_len]; exact h)] at hj; cases hj
    obtain ⟨b, off, e', _, c0, c1, c2⟩ := h.elem (k := j / 3) (by omega)
    rw [e] at e'
    have e' := Option.some.inj e'
    subst e'
    rw [addr_addJ]
    obtain ⟨g0, g1, g2⟩ := flatV_get l (j / 3) (by omega)
    have hm : j % 3 = 0 ∨ j % 3 = 1 ∨ j % 3 = 2 := by omega
    rcases hm with hm | hm | hm
    · have ej : j = j / 3 * 3 := by omega
      rw [ej, g0] at hj
      rw [← hj, ← c0]; congr 2; omega
    · have ej : j = j / 3 * 3 + 1 := by omega
      rw [ej, g1] at hj
      rw [← hj, ← c1]; congr 2; omega
    · have ej : j = j / 3 * 3 + 2 := by omega
      rw [ej, g2] at hj
      rw [← hj, ← c2]; congr 2; omega
theorem raw_ints {B : Nat} {W : World} {a : Option Addr} {l : List Int} (h : IsAt B W a l) : Raw W a l.length 1 (l.map (Value.int .i64)) := by
  refine ⟨by simp, by intro u hu; obtain ⟨x, _, rfl⟩ := List.mem_map.1 hu; rfl, ?_, ?_⟩
  · intro e
    rcases h.2 with h | ⟨b, off, e', _⟩
    · rw [h]; rfl
    · rw [e] at e'; cases e'
  · intro ad e j u hj
    have hlt : j < l.length := by
      rcases Nat.lt_or_ge j l.length with h | h
      · exact h
      · rw [List.getElem?_eq_none (by simpa using h)] at hj; cases hj
    obtain ⟨b, off, e', _, c0⟩ := h.elem hlt
    rw [e] at e'
    have e' := Option.some.inj e'
    subst e'
    rw [addr_addJ, c0]
    simpa [hlt] using hj
theorem own_vals {W : World} {B n : Nat} {v : Value} {l : List Vl} (ho : W.ownsRow B 24 3 v n (flatV l)) (hn : n = l.length) : ∃ a cap, v = .slice a l.length cap ∧ SlAt W a l ∧ TyAt W a ∧ (l.length ≤ cap ∨ a = none) := by
  subst hn
  have ho' := ho
  obtain ⟨hx, ⟨rfl, h0⟩ | ⟨g, cap, cur, rfl, hg, hh, hn, hc, hs, ht⟩⟩ := ho
  · have : l = [] := List.eq_nil_of_length_eq_zero h0
    subst this
    exact ⟨none, 0, rfl, ⟨by simp, .inl rfl⟩, (fun b off e => by cases e), .inr rfl⟩
  · refine ⟨_, cap, rfl, ⟨by omega, .inr ⟨g, 0, rfl, fun i hi => ?_, (ho'.lt g rfl).2⟩⟩, ?_, .inl hn⟩
    · obtain ⟨g0, g1, g2⟩ := flatV_get l i hi
      refine ⟨?_, ?_, ?_⟩
      · rw [ho'.cellAt _ (by omega), ← g0]; congr 1; omega
      · rw [ho'.cellAt _ (by omega), ← g1]; congr 1; omega
      · rw [ho'.cellAt _ (by omega), ← g2]; congr 1; omega
    · intro b off e
      have e := Option.some.inj e
      injection e with e1 e2
      subst e1
      exact ⟨_, _, hh⟩
theorem own_ints {W : World} {B n : Nat} {v : Value} {l : List Int} (ho : W.ownsRow B 3 1 v n (l.map (Value.int .i64))) (hn : n = l.length) : ∃ a cap, v = .slice a l.length cap ∧ IsAt W.heap.size W a l := by
  subst hn
  have ho' := ho
  obtain ⟨hx, ⟨rfl, h0⟩ | ⟨g, cap, cur, rfl, hg, hh, hn, hc, hs, ht⟩⟩ := ho
  · have : l = [] := List.eq_nil_of_length_eq_zero h0
    subst this
    exact ⟨none, 0, rfl, ⟨by simp, .inl rfl⟩⟩
  · refine ⟨_, cap, rfl, ⟨by omega, .inr ⟨g, 0, rfl, (ho'.lt g rfl).2, fun i hi => ?_⟩⟩⟩
    have := ho'.cellAt i (by omega)
    rw [Nat.zero_add, this]
    simp [hi]
end Go.Proofs.YtfojonhblblbjaaGreat
/- The walks of slices.Grow and slices.Concat at rows. -/
namespace Go.Proofs
open Go.Shelf Go.RowKit Go.Lib
shelf_lay_g Lays8.n4 Nm8 4 at Tryz 89 as Tryz.growZ
end Go.Proofs
namespace Go.Proofs.YtfojonhblblbjaaGreat
open Go.RowKit Go.Lib Go.Shelf

theorem grow_at (n : Nat) (hn : n ≤ 200000) (w : World) :
    Calls Tryz.prog 89 #[.slice none 0 0, .int .i64 n] w fun e w' => ∃ v, e = .returned v ∧ w'.ownsRow w.heap.size 53 2 v 0 [] ∧ Below w.heap.size w w' := by
  obtain ⟨i0, hi, hj0, hj1, hj2⟩ := info_parts Tryz.info42
  by_cases h0 : n = 0
  · subst h0
    refine (Any8.slices_Grow_room Tryz.growZ none 0 0 0 w (by omega) (by omega) (by omega) (by omega)).mono ?_
    rintro e w' ⟨rfl, rfl⟩
    exact ⟨_, rfl, World.ownsRow_nil _ _ _ _, Below.refl _ _⟩
  · refine (Any8.slices_Grow_grow Tryz.growZ i0 _ hi hj0 (by rw [hj1]; omega) none 0 0 n [] w (by omega) (by omega) (by rw [hj2]; omega) (by omega) (by simp) (by simp) (by intro a e; cases e)).mono ?_
    rintro e w' ⟨rfl, rfl⟩
    refine ⟨_, rfl, ?_, ((Below.refl _ _).drew).alloc (Nat.le_refl _) _⟩
    rw [Nat.zero_add]
    have hc := grownCap_ge w n 0 53
    have hm := grownCap_le_maxLen w n 0 53 (by unfold maxLen; omega)
    have := World.ownsRow_made (w := w.drew) (base := w.heap.size) (e := 53) (size := 2) (cur := [].toArray ++ Builtin.zeroCells (Value.agg #[Value.slice none 0 0, Value.int IntKind.i64 0]).cells (n - 0) ++ Builtin.zeroCells (Value.agg #[Value.slice none 0 0, Value.int IntKind.i64 0]).cells (grownCap w n 0 53 - n)) (cap := grownCap w n 0 53) (Nat.le_refl _) hm (by simp [size_zeroCells, Value.cells]; omega)
    exact this

theorem encB_append {W : World} {xs ys : List Value} {l t : List Zp} (h : EncB W xs l) (k : EncB W ys t) : EncB W (xs ++ ys) (l ++ t) := by
  have lx := h.1
  have ly := k.1
  refine ⟨by simp [lx, ly]; omega, fun i hi => ?_⟩
  by_cases hi' : i < l.length
  · obtain ⟨a', c', h1, h2, h3⟩ := h.2 i hi'
    rw [List.getElem_append_left hi']
    refine ⟨a', c', ?_, ?_, h3⟩
    · rw [List.getElem?_append_left (by omega), h1]
    · rw [List.getElem?_append_left (by omega), h2]
  · have hi2 : i - l.length < t.length := by simp at hi; omega
    obtain ⟨a', c', h1, h2, h3⟩ := k.2 (i - l.length) hi2
    rw [List.getElem_append_right (by omega)]
    refine ⟨a', c', ?_, ?_, h3⟩
    · rw [List.getElem?_append_right (by omega), ← h1]; congr 1; omega
    · rw [List.getElem?_append_right (by omega), ← h2]; congr 1; omega
theorem src_of {w : World} {a : Option Addr} {l : List Zp} (h : ZsAt w a l) : ∃ news, EncB w news l ∧ (∀ u ∈ news, u.oneCell' = true) ∧ (a = none → l = []) ∧ ∀ ad, a = some ad → ∀ j u, news[j]? = some u → w.cell? (ad.add j) = some u := by
  obtain ⟨d, hd, hdl, hc⟩ := h.arr
  refine ⟨(Go.Sort.flatK (encG w) 2 d).toList, ⟨by simp [hd], fun i hi => ?_⟩, ?_, ?_, ?_⟩
  · have hi' : i < d.size := by omega
    have e : d[i]! = d[i] := getElem!_pos d i hi'
    have el : plG w d[i] = l[i] := by
      have : l[i] = (d.toList.map (plG w))[i]'(by simpa using hi') := by simp [hdl]
      rw [this]; simp
    refine ⟨d[i].1.a, d[i].1.cap, ?_, ?_, ?_⟩
    · rw [Array.getElem?_toList, Array.getElem?_eq_getElem (by simp; omega), ← getElem!_pos, flat_even d i hi', e, ← el]; rfl
    · rw [Array.getElem?_toList, Array.getElem?_eq_getElem (by simp; omega), ← getElem!_pos, flat_odd d i hi', e, ← el]; rfl
    · rw [← el]; exact d[i].2
  · intro u hu
    obtain ⟨j, hj, rfl⟩ := List.getElem_of_mem hu
    have hj' : j < d.size * 2 := by simpa using hj
    have e : (Go.Sort.flatK (encG w) 2 d).toList[j] = (Go.Sort.flatK (encG w) 2 d)[j]! := by
      rw [Array.getElem_toList, getElem!_pos]
    rw [e, Go.Sort.get_flatK _ _ _ _ hj']
    rcases Nat.mod_two_eq_zero_or_one j with h0 | h1
    · rw [h0]; rfl
    · rw [h1]; rfl
  · intro e
    rcases hc with h | ⟨b, off, e', _⟩
    · exact h
    · rw [e] at e'; cases e'
  · intro ad e j u hj
    have hj' : j < d.size * 2 := by
      rcases Nat.lt_or_ge j (d.size * 2) with h | h
      · exact h
      · rw [List.getElem?_eq_none (by simpa using h)] at hj; cases hj
    rcases hc with h | ⟨b, off, e', hlt, hc⟩
    · subst h; simp at hd; subst hd; simp at hj'
    · rw [e] at e'
      injection e' with e'
      subst e'
      rw [addr_add']
      rw [Array.getElem?_toList, Array.getElem?_eq_getElem (by simpa using hj')] at hj
      injection hj with hj
      have := hc j (by omega)
      rwa [getElem!_pos _ _ (by simpa using hj'), hj] at this
end Go.Proofs.YtfojonhblblbjaaGreat
/- slices.Concat at values and at numbers, as cells. -/
namespace Go.Proofs.YtfojonhblblbjaaGreat
open Go.RowKit Go.Lib

def catC (xs ys : List Value) : Nat → List Value
  | 0 => []
  | 1 => xs
  | _ => xs ++ ys
def catN (n m : Nat) : Nat → Nat
  | 0 => 0
  | 1 => n
  | _ => n + m
theorem catN_le (n m k : Nat) : catN n m k ≤ n + m := by
  match k with
  | 0 => simp [catN]
  | 1 => simp [catN]
  | j + 2 => simp [catN]
/-- Two slices lie beside each other. -/
structure PairC (w : World) (B size n m : Nat) (xs ys : List Value) : Prop where
  lt : B < w.heap.size
  at_ : ∀ k, k < 2 → ∃ a cap q cs, w.cell? ⟨B, k, none⟩ = some (.slice a q cap) ∧ Raw w a q size cs ∧ catC xs ys (k + 1) = catC xs ys k ++ cs ∧ catN n m (k + 1) = catN n m k + q
theorem PairC.new {w : World} {size n m : Nat} {xs ys : List Value} {a b : Option Addr} (ca cb : Nat) (h : Raw w a n size xs) (k : Raw w b m size ys) (T : TypeId) :
    PairC (w.alloc (.cells #[.slice a n ca, .slice b m cb] T)) w.heap.size size n m xs ys :=
  ⟨by simp, fun j hj => by
    match j, hj with
    | 0, _ => exact ⟨a, ca, n, xs, by simp, h.alloc _, by simp [catC], by simp [catN]⟩
    | 1, _ => exact ⟨b, cb, m, ys, by simp, k.alloc _, by simp [catC], by simp [catN]⟩⟩
theorem PairC.next {w w1 : World} {B size n m : Nat} {xs ys : List Value} (h : PairC w B size n m xs ys) (hb : Below w.heap.size w w1) : PairC w1 B size n m xs ys :=
  ⟨Nat.lt_of_lt_of_le h.lt hb.size, fun k hk => by
    obtain ⟨a, cap, q, cs, h1, h2, h3, h4⟩ := h.at_ k hk
    exact ⟨a, cap, q, cs, (hb.cell (p := ⟨B, k, none⟩) h.lt).trans h1, h2.next hb, h3, h4⟩⟩
end Go.Proofs.YtfojonhblblbjaaGreat
namespace Go.Proofs
open Go.Shelf Go.RowKit Go.Lib
shelf_lay_g Lays8.n4 Nm8 4 at Tryz 97 as Tryz.growV
end Go.Proofs
namespace Go.Proofs.YtfojonhblblbjaaGreat
open Go.RowKit Go.Lib Go.Shelf
theorem infoV : (Tryz.prog.info? 24).map (fun i => (i.zero, i.size, i.bytes)) = some (some (.agg #[.int .i64 0, .int .i64 0, .string ⟨#[]⟩]), 3, 32) := by kernel_rfl
theorem growV_at (n : Nat) (hn : n ≤ 1000) (w : World) :
    Calls Tryz.prog 97 #[.slice none 0 0, .int .i64 n] w fun e w' => ∃ v, e = .returned v ∧ w'.ownsRow w.heap.size 24 3 v 0 [] ∧ Below w.heap.size w w' := by
  obtain ⟨i0, hi, hj0, hj1, hj2⟩ := info_parts infoV
  by_cases h0 : n = 0
  · subst h0
    refine (Any8.slices_Grow_room Tryz.growV none 0 0 0 w (by omega) (by omega) (by omega) (by omega)).mono ?_
    rintro e w' ⟨rfl, rfl⟩
    exact ⟨_, rfl, World.ownsRow_nil _ _ _ _, Below.refl _ _⟩
  · refine (Any8.slices_Grow_grow Tryz.growV i0 _ hi hj0 (by rw [hj1]; omega) none 0 0 n [] w (by omega) (by omega) (by rw [hj2]; omega) (by omega) (by simp) (by simp) (by intro a e; cases e)).mono ?_
    rintro e w' ⟨rfl, rfl⟩
    refine ⟨_, rfl, ?_, ((Below.refl _ _).drew).alloc (Nat.le_refl _) _⟩
    rw [Nat.zero_add]
    have hc := grownCap_ge w n 0 24
    have hm := grownCap_le_maxLen w n 0 24 (by unfold maxLen; omega)
    have := World.ownsRow_made (w := w.drew) (base := w.heap.size) (e := 24) (size := 3) (cur := [].toArray ++ Builtin.zeroCells (Value.agg #[.int .i64 0, .int .i64 0, .string ⟨#[]⟩]).cells (n - 0) ++ Builtin.zeroCells (Value.agg #[.int .i64 0, .int .i64 0, .string ⟨#[]⟩]).cells (grownCap w n 0 24 - n)) (cap := grownCap w n 0 24) (Nat.le_refl _) hm (by simp [size_zeroCells, Value.cells]; omega)
    exact this

set_option maxRecDepth 100000 in
set_option maxHeartbeats 4000000 in
theorem concatV_at (B : Nat) (n m : Nat) (xs ys : List Value) (w : World) (h : PairC w B 3 n m xs ys) (hl : n + m ≤ 1000) :
    Calls Tryz.prog 57 #[.slice (some ⟨B, 0, none⟩) 2 2] w fun e w' => ∃ v, e = .returned v ∧ w'.ownsRow w.heap.size 24 3 v (n + m) (xs ++ ys) ∧ Below w.heap.size w w' := by
  obtain ⟨i0, hi, hj0, hj1, hj2⟩ := info_parts infoV
  go_enter Tryz.func57, Tryz.ntmps57
  go_wp2_with fail
  go_loopw [3, 11] (fun sz i wr => ∃ k : Nat, k ≤ 2 ∧ i = .int .i64 k ∧ sz = .int .i64 (catN n m k : Int) ∧ wr = w) (fun _ i _ => 2 - (intOf i).toNat)
  case atStart => exact ⟨0, by omega, rfl, rfl, rfl⟩
  case round =>
    obtain ⟨k, hk, rfl, rfl, rfl⟩ := hrel
    have hcl := catN_le n m k
    by_cases hlt : k < 2
    · obtain ⟨a, cap, q, cs, c0, zs, hcat, hcn⟩ := h.at_ k hlt
      have hcl2 := catN_le n m (k + 1)
      rw [hcn] at hcl2
      have HCat : Hid (catN n m (k + 1) = catN n m k + q) := hcn
      clear hcat hcn
      generalize hq : catN n m k = r at *
      have HQ : Hid (catN n m k = r) := hq
      clear hq
      go_wp2_with fail
      go_roundw
      case rel => exact ⟨k + 1, by omega, by go_num, by rw [HCat.out]; go_num, by first | rfl | trivial⟩
      case measure => simp [intOf]; omega
    · have e : k = 2 := by omega
      subst e
      have el : (catN n m 2 : Int) = ((n + m : Nat) : Int) := rfl
      have gc := growV_at (n + m) (by omega) wr
      rw [Int.natCast_add] at gc
      rw [Int.natCast_add] at el
      go_wp2_with fail
      refine gc.mono ?_
      clear gc el
      rintro e w1 ⟨v, rfl, ho, hb1⟩
      have hsh : ∃ a c, v = .slice a 0 c := by
        obtain ⟨_, ⟨rfl, h0⟩ | ⟨g, c1, cur, rfl, _⟩⟩ := ho
        · exact ⟨none, 0, rfl⟩
        · exact ⟨_, c1, rfl⟩
      obtain ⟨a1, c1, rfl⟩ := hsh
      go_wp2_with fail
      generalize hw0 : wr = w0 at *
      have HW0 : Hid (wr = w0) := hw0
      clear hw0
      go_loopw [6, 27] (fun v i ws => ∃ k : Nat, k ≤ 2 ∧ i = .int .i64 k ∧ ws.ownsRow w0.heap.size 24 3 v (catN n m k) (catC xs ys k) ∧ Below w0.heap.size w0 ws) (fun _ i _ => 2 - (intOf i).toNat)
      case atStart => exact ⟨0, by omega, rfl, ho, hb1⟩
      case round =>
        clear ho
        obtain ⟨k, hk, rfl, ho, hb⟩ := hrel
        have hz := hb.size
        by_cases hlt : k < 2
        · obtain ⟨a, cap, q, cs, c0, zs, hcat, hcn⟩ := h.at_ k hlt
          have hcl2 := catN_le n m (k + 1)
          rw [hcn] at hcl2
          have HCat : Hid (catC xs ys (k + 1) = catC xs ys k ++ cs) := hcat
          have HCn : Hid (catN n m (k + 1) = catN n m k + q) := hcn
          clear hcat hcn
          have c0' := (hb.cell (p := ⟨B, k, none⟩) h.lt).trans c0
          have zs' : Raw wr a q 3 cs := ⟨zs.len, zs.one, zs.nil, fun ad e j u hj => (hb.cell (World.block_lt_of_cell? _ _ (zs.at_ ad e j u hj))).trans (zs.at_ ad e j u hj)⟩
          clear c0 zs
          generalize catC xs ys k = xk at *
          generalize catN n m k = nk at *
          go_wp2_with (at_builtin; refine wpList_append_raw rfl _ _ 51 rfl w0.heap.size 24 i0 _ 3 32 Tryz.underlying51 hi hj0 hj1 hj2 rfl (by decide) _ _ _ rfl ho a q cap cs rfl zs' (by unfold maxLen; omega) (by omega) (by omega) ?_)
          intro v' w5 ho5 hg5
          have hb5 : Below w0.heap.size w0 w5 := hb.grown hg5 hz (fun q hq => (ho.lt q hq).1)
          clear hg5 ho
          go_wp2_with fail
          go_roundw
          case rel => exact ⟨k + 1, by omega, by go_num, by rw [HCat.out, HCn.out]; exact ho5, hb5⟩
          case measure => simp [intOf]; omega
        · have e : k = 2 := by omega
          subst e
          have hsh : ∃ a c, u6 = .slice a (n + m) c := by
            obtain ⟨_, ⟨e, h0⟩ | ⟨g, c1, cur, e, _⟩⟩ := ho
            · have h0 : n + m = 0 := h0
              exact ⟨none, 0, by rw [e, h0]⟩
            · exact ⟨_, c1, e⟩
          obtain ⟨a6, c6, rfl⟩ := hsh
          go_wp2_with fail
          go_ret
          exact ⟨_, rfl, by rw [HW0.out]; exact ho, by rw [HW0.out]; exact hb⟩
end Go.Proofs.YtfojonhblblbjaaGreat
/- slices.Concat at numbers. -/
namespace Go.Proofs
open Go.Shelf Go.RowKit Go.Lib
shelf_lay_g Lays8.n4 Nm8 4 at Tryz 158 as Tryz.growI
end Go.Proofs
namespace Go.Proofs.YtfojonhblblbjaaGreat
open Go.RowKit Go.Lib Go.Shelf
theorem infoI : (Tryz.prog.info? 3).map (fun i => (i.zero, i.size, i.bytes)) = some (some (.int .i64 0), 1, 8) := by kernel_rfl
theorem growI_at (n : Nat) (hn : n ≤ 1000) (w : World) :
    Calls Tryz.prog 158 #[.slice none 0 0, .int .i64 n] w fun e w' => ∃ v, e = .returned v ∧ w'.ownsRow w.heap.size 3 1 v 0 [] ∧ Below w.heap.size w w' := by
  obtain ⟨i0, hi, hj0, hj1, hj2⟩ := info_parts infoI
  by_cases h0 : n = 0
  · subst h0
    refine (Any8.slices_Grow_room Tryz.growI none 0 0 0 w (by omega) (by omega) (by omega) (by omega)).mono ?_
    rintro e w' ⟨rfl, rfl⟩
    exact ⟨_, rfl, World.ownsRow_nil _ _ _ _, Below.refl _ _⟩
  · refine (Any8.slices_Grow_grow Tryz.growI i0 _ hi hj0 (by rw [hj1]; omega) none 0 0 n [] w (by omega) (by omega) (by rw [hj2]; omega) (by omega) (by simp) (by simp) (by intro a e; cases e)).mono ?_
    rintro e w' ⟨rfl, rfl⟩
    refine ⟨_, rfl, ?_, ((Below.refl _ _).drew).alloc (Nat.le_refl _) _⟩
    rw [Nat.zero_add]
    have hc := grownCap_ge w n 0 3
    have hm := grownCap_le_maxLen w n 0 3 (by unfold maxLen; omega)
    have := World.ownsRow_made (w := w.drew) (base := w.heap.size) (e := 3) (size := 1) (cur := [].toArray ++ Builtin.zeroCells (Value.int .i64 0).cells (n - 0) ++ Builtin.zeroCells (Value.int .i64 0).cells (grownCap w n 0 3 - n)) (cap := grownCap w n 0 3) (Nat.le_refl _) hm (by simp [size_zeroCells, Value.cells]; omega)
    exact this

set_option maxRecDepth 100000 in
set_option maxHeartbeats 4000000 in
theorem concatI_at (B : Nat) (n m : Nat) (xs ys : List Value) (w : World) (h : PairC w B 1 n m xs ys) (hl : n + m ≤ 1000) :
    Calls Tryz.prog 123 #[.slice (some ⟨B, 0, none⟩) 2 2] w fun e w' => ∃ v, e = .returned v ∧ w'.ownsRow w.heap.size 3 1 v (n + m) (xs ++ ys) ∧ Below w.heap.size w w' := by
  obtain ⟨i0, hi, hj0, hj1, hj2⟩ := info_parts infoI
  go_enter Tryz.func123, Tryz.ntmps123
  go_wp2_with fail
  go_loopw [3, 11] (fun sz i wr => ∃ k : Nat, k ≤ 2 ∧ i = .int .i64 k ∧ sz = .int .i64 (catN n m k : Int) ∧ wr = w) (fun _ i _ => 2 - (intOf i).toNat)
  case atStart => exact ⟨0, by omega, rfl, rfl, rfl⟩
  case round =>
    obtain ⟨k, hk, rfl, rfl, rfl⟩ := hrel
    have hcl := catN_le n m k
    by_cases hlt : k < 2
    · obtain ⟨a, cap, q, cs, c0, zs, hcat, hcn⟩ := h.at_ k hlt
      have hcl2 := catN_le n m (k + 1)
      rw [hcn] at hcl2
      have HCat : Hid (catN n m (k + 1) = catN n m k + q) := hcn
      clear hcat hcn
      generalize hq : catN n m k = r at *
      have HQ : Hid (catN n m k = r) := hq
      clear hq
      go_wp2_with fail
      go_roundw
      case rel => exact ⟨k + 1, by omega, by go_num, by rw [HCat.out]; go_num, by first | rfl | trivial⟩
      case measure => simp [intOf]; omega
    · have e : k = 2 := by omega
      subst e
      have el : (catN n m 2 : Int) = ((n + m : Nat) : Int) := rfl
      have gc := growI_at (n + m) (by omega) wr
      rw [Int.natCast_add] at gc
      rw [Int.natCast_add] at el
      go_wp2_with fail
      refine gc.mono ?_
      clear gc el
      rintro e w1 ⟨v, rfl, ho, hb1⟩
      have hsh : ∃ a c, v = .slice a 0 c := by
        obtain ⟨_, ⟨rfl, h0⟩ | ⟨g, c1, cur, rfl, _⟩⟩ := ho
        · exact ⟨none, 0, rfl⟩
        · exact ⟨_, c1, rfl⟩
      obtain ⟨a1, c1, rfl⟩ := hsh
      go_wp2_with fail
      generalize hw0 : wr = w0 at *
      have HW0 : Hid (wr = w0) := hw0
      clear hw0
      go_loopw [6, 27] (fun v i ws => ∃ k : Nat, k ≤ 2 ∧ i = .int .i64 k ∧ ws.ownsRow w0.heap.size 3 1 v (catN n m k) (catC xs ys k) ∧ Below w0.heap.size w0 ws) (fun _ i _ => 2 - (intOf i).toNat)
      case atStart => exact ⟨0, by omega, rfl, ho, hb1⟩
      case round =>
        clear ho
        obtain ⟨k, hk, rfl, ho, hb⟩ := hrel
        have hz := hb.size
        by_cases hlt : k < 2
        · obtain ⟨a, cap, q, cs, c0, zs, hcat, hcn⟩ := h.at_ k hlt
          have hcl2 := catN_le n m (k + 1)
          rw [hcn] at hcl2
          have HCat : Hid (catC xs ys (k + 1) = catC xs ys k ++ cs) := hcat
          have HCn : Hid (catN n m (k + 1) = catN n m k + q) := hcn
          clear hcat hcn
          have c0' := (hb.cell (p := ⟨B, k, none⟩) h.lt).trans c0
          have zs' : Raw wr a q 1 cs := ⟨zs.len, zs.one, zs.nil, fun ad e j u hj => (hb.cell (World.block_lt_of_cell? _ _ (zs.at_ ad e j u hj))).trans (zs.at_ ad e j u hj)⟩
          clear c0 zs
          generalize catC xs ys k = xk at *
          generalize catN n m k = nk at *
          go_wp2_with (at_builtin; refine wpList_append_raw rfl _ _ 22 rfl w0.heap.size 3 i0 _ 1 8 Tryz.underlying22 hi hj0 hj1 hj2 rfl (by decide) _ _ _ rfl ho a q cap cs rfl zs' (by unfold maxLen; omega) (by omega) (by omega) ?_)
          intro v' w5 ho5 hg5
          have hb5 : Below w0.heap.size w0 w5 := hb.grown hg5 hz (fun q hq => (ho.lt q hq).1)
          clear hg5 ho
          go_wp2_with fail
          go_roundw
          case rel => exact ⟨k + 1, by omega, by go_num, by rw [HCat.out, HCn.out]; exact ho5, hb5⟩
          case measure => simp [intOf]; omega
        · have e : k = 2 := by omega
          subst e
          have hsh : ∃ a c, u6 = .slice a (n + m) c := by
            obtain ⟨_, ⟨e, h0⟩ | ⟨g, c1, cur, e, _⟩⟩ := ho
            · have h0 : n + m = 0 := h0
              exact ⟨none, 0, by rw [e, h0]⟩
            · exact ⟨_, c1, e⟩
          obtain ⟨a6, c6, rfl⟩ := hsh
          go_wp2_with fail
          go_ret
          exact ⟨_, rfl, by rw [HW0.out]; exact ho, by rw [HW0.out]; exact hb⟩
end Go.Proofs.YtfojonhblblbjaaGreat
/- Pairs: two sets, and whether rows of them hold with each other; all pairs are laid into one room. -/
namespace Go.Proofs.YtfojonhblblbjaaGreat
open Go.RowKit Go.Lib Go.Shelf

/-- What all that asks of pairs leaves as it was: all but the room R and the variable rv that leads to it. -/
structure PInv (wp : World) (R rv : Nat) (W : World) : Prop where
  os : W.os = wp.os
  tape : W.tape = wp.tape
  output : W.output = wp.output
  size : wp.heap.size ≤ W.heap.size
  block : ∀ k, k < wp.heap.size → k ≠ R → k ≠ rv → W.heap[k]? = wp.heap[k]?
  var : ∃ n, W.cell? ⟨rv, 0, none⟩ = some (.slice (some ⟨R, 0, none⟩) n 8)
  warm : W.frozen? ⟨rv, 0, none⟩ = false
  room : ∃ cur, W.heap[R]? = some (.cells cur 24 (0, 0)) ∧ cur.size = 24
/-- The room and its variable are the newest. -/
structure PNew (wp : World) (R rv : Nat) : Prop where
  r : R < rv
  v : rv < wp.heap.size
theorem PInv.below {wp W : World} {R rv : Nat} (h : PInv wp R rv W) (hn : PNew wp R rv) : Below R wp W :=
  ⟨h.os, h.tape, h.output, h.size, fun k hk => h.block k (by have := hn.r; have := hn.v; omega) (by omega) (by have := hn.r; omega)⟩
theorem PInv.later {wp W W' : World} {R rv : Nat} (h : PInv wp R rv W) (hn : PNew wp R rv) {B : Nat} (hB : wp.heap.size ≤ B) (hb : Below B W W') : PInv wp R rv W' := by
  have hr := hn.r
  have hv := hn.v
  obtain ⟨n, hc⟩ := h.var
  obtain ⟨cur, hh, hs⟩ := h.room
  refine ⟨hb.os.trans h.os, hb.tape.trans h.tape, hb.output.trans h.output, Nat.le_trans h.size hb.size, fun k hk h1 h2 => (hb.block k (by omega)).trans (h.block k hk h1 h2), ⟨n, (hb.cell (p := ⟨rv, 0, none⟩) (by show rv < B; omega)).trans hc⟩, (hb.frozen (p := ⟨rv, 0, none⟩) (by show rv < B; omega)).trans h.warm, cur, (hb.block R (by omega)).trans hh, hs⟩
theorem PInv.sz {wp W : World} {R rv : Nat} (h : PInv wp R rv W) (hn : PNew wp R rv) : rv < W.heap.size := Nat.lt_of_lt_of_le hn.v h.size

set_option maxRecDepth 100000 in
set_option maxHeartbeats 2000000 in
theorem both1_at (cols : List Int) (lo : Nat) (x : Ex) (wc wp w0 : World) (R rv hv : Nat) (u : Value) (hn : PNew wp R rv) (hv0 : hv < R) (hc : wp.cell? ⟨hv, 0, none⟩ = some u) (hC : Conds cols lo u x wc) (hcR : wc.heap.size ≤ R) (hcp : Since lo wc wp) (h0 : w0.heap.size ≤ R) (h0p : Below w0.heap.size w0 wp)
    (a b : Option Addr) (ca cb : Nat) (l r : List Vl) (W : World) (hI : PInv wp R rv W) (s1 : SlAt w0 a l) (s2 : SlAt w0 b r) (h8 : l.length + r.length ≤ 8) (hf : FitP cols (l ++ r)) :
    Calls Tryz.prog 159 #[.slice a l.length ca, .slice b r.length cb, .pointer (some ⟨rv, 0, none⟩), .pointer (some ⟨hv, 0, none⟩)] W fun e w' => e = .returned (.bool (holdsP x (l ++ r))) ∧ PInv wp R rv w' ∧ Since (rv + 1) W w' := by
  obtain ⟨i0, hi, hj0, hj1, hj2⟩ := info_parts Tryz.info49
  obtain ⟨g, cbs, rfl, eg, d⟩ := hC
  have HD : Hid _ := d
  clear d
  have hrR := hn.r
  have hb0 := hI.below hn
  have d0 : Below w0.heap.size w0 W := h0p.trans (hb0.mono h0)
  have r1 := raw_vals (s1.next d0)
  have c3 : W.cell? ⟨hv, 0, none⟩ = some (.func (.func g) #[] cbs) := (hb0.cell (p := ⟨hv, 0, none⟩) hv0).trans hc
  obtain ⟨n, hc2⟩ := hI.var
  obtain ⟨cur, hh, hs⟩ := hI.room
  have hsz := hI.sz hn
  have hfz := hI.warm
  have own : W.ownsRow R 24 3 (.slice (some ⟨R, 0, none⟩) 0 8) 0 [] := ⟨rfl, .inr ⟨R, 8, cur, rfl, Nat.le_refl _, hh, by omega, by unfold maxLen; omega, by omega, by simp⟩⟩
  generalize ht : holdsP x (l ++ r) = t
  have HT : Hid (holdsP x (l ++ r) = t) := ht
  clear ht
  go_enter Tryz.func159, Tryz.ntmps159
  go_wp2_with (at_builtin; refine wpList_append_in _ rfl _ _ 51 rfl R 24 i0 3 Tryz.underlying51 hi hj1 R 0 8 _ rfl own a l.length ca _ rfl r1 (by omega) ?_)
  intro w1 own1 g1
  have k1 : ∀ k, k < W.heap.size → k ≠ R → w1.heap[k]? = W.heap[k]? := fun k hk hne => g1.block k hk (by intro e; exact hne (Option.some.inj e))
  have z1 := g1.size
  have d1 : Below w0.heap.size w0 w1 := ⟨g1.os.trans d0.os, g1.tape.trans d0.tape, g1.output.trans d0.output, Nat.le_trans d0.size z1, fun k hk => (k1 k (by have := d0.size; omega) (by omega)).trans (d0.block k hk)⟩
  have r2 := raw_vals (s2.next d1)
  clear own r1
  go_wp2_with (at_builtin; refine wpList_append_in _ rfl _ _ 51 rfl R 24 i0 3 Tryz.underlying51 hi hj1 R l.length 8 _ rfl own1 b r.length cb _ rfl r2 (by omega) ?_)
  intro w2 own2 g2
  have k2 : ∀ k, k < W.heap.size → k ≠ R → w2.heap[k]? = W.heap[k]? := fun k hk hne => (g2.block k (by omega) (by intro e; exact hne (Option.some.inj e))).trans (k1 k hk hne)
  have z2 := g2.size
  have o2 : w2.os = W.os ∧ w2.tape = W.tape ∧ w2.output = W.output := ⟨g2.os.trans g1.os, g2.tape.trans g1.tape, g2.output.trans g1.output⟩
  have cv : w2.cell? ⟨rv, 0, none⟩ = some (.slice (some ⟨R, 0, none⟩) n 8) := (World.cell?_of_block (w := W) (k2 rv hsz (by omega))).trans hc2
  have fv : w2.frozen? ⟨rv, 0, none⟩ = false := (World.frozen?_of_block (w := W) (k2 rv hsz (by omega))).trans hfz
  have ch : w2.cell? ⟨hv, 0, none⟩ = some (.func (.func g) #[] cbs) := (World.cell?_of_block (w := W) (k2 hv (by omega) (by omega))).trans c3
  have k3 : ∀ k, k ≠ rv → (w2.setCell ⟨rv, 0, none⟩ (.slice (some ⟨R, 0, none⟩) (l.length + r.length) 8)).heap[k]? = w2.heap[k]? := fun k hne => Below.heap_setCell w2 ⟨rv, 0, none⟩ _ k hne
  have cv3 : (w2.setCell ⟨rv, 0, none⟩ (.slice (some ⟨R, 0, none⟩) (l.length + r.length) 8)).cell? ⟨rv, 0, none⟩ = some (.slice (some ⟨R, 0, none⟩) (l.length + r.length) 8) := World.cell?_setCell_same' _ _ _ (by rw [cv]; rfl)
  have fv3 : (w2.setCell ⟨rv, 0, none⟩ (.slice (some ⟨R, 0, none⟩) (l.length + r.length) 8)).frozen? ⟨rv, 0, none⟩ = false := by rw [World.frozen?_setCell]; exact fv
  have ch3 : (w2.setCell ⟨rv, 0, none⟩ (.slice (some ⟨R, 0, none⟩) (l.length + r.length) 8)).cell? ⟨hv, 0, none⟩ = some (.func (.func g) #[] cbs) := (World.cell?_of_block (w := w2) (k3 hv (by omega))).trans ch
  have z3 : (w2.setCell ⟨rv, 0, none⟩ (.slice (some ⟨R, 0, none⟩) (l.length + r.length) 8)).heap.size = w2.heap.size := by simp
  have o3 : (w2.setCell ⟨rv, 0, none⟩ (.slice (some ⟨R, 0, none⟩) (l.length + r.length) 8)).os = w2.os ∧ (w2.setCell ⟨rv, 0, none⟩ (.slice (some ⟨R, 0, none⟩) (l.length + r.length) 8)).tape = w2.tape ∧ (w2.setCell ⟨rv, 0, none⟩ (.slice (some ⟨R, 0, none⟩) (l.length + r.length) 8)).output = w2.output := by
    have := (Below.refl rv w2).setCell (p := ⟨rv, 0, none⟩) (Nat.le_refl _) (.slice (some ⟨R, 0, none⟩) (l.length + r.length) 8)
    exact ⟨this.os, this.tape, this.output⟩
  have HO2 : Hid (w2.ownsRow R 24 3 (.slice (some ⟨R, 0, none⟩) (l.length + r.length) 8) (l.length + r.length) (flatV l ++ flatV r)) := own2
  clear own2 own1
  go_wp2_with fail
  have own2 := HO2.out
  obtain ⟨hx2, ⟨e2, _⟩ | ⟨gg, cap2, cur2, e2, hg2, hh2, hn2, hm2, hs2, ht2⟩⟩ := own2
  · cases e2
  injection e2 with e2a e2b e2c
  have e2a := Option.some.inj e2a
  injection e2a with e2a
  subst e2a e2c
  generalize w2.setCell ⟨rv, 0, none⟩ (.slice (some ⟨R, 0, none⟩) (l.length + r.length) 8) = w3 at *
  have hR3 : w3.heap[R]? = some (.cells cur2 24 (0, 0)) := (k3 R (by omega)).trans hh2
  have own3 : w3.ownsRow R 24 3 (.slice (some ⟨R, 0, none⟩) (l.length + r.length) 8) (l.length + r.length) (flatV (l ++ r)) := ⟨by rw [flatV_append]; exact hx2, .inr ⟨R, 8, cur2, rfl, Nat.le_refl _, hR3, hn2, hm2, hs2, by rw [flatV_append]; exact ht2⟩⟩
  obtain ⟨a3, c3', e3, sl3, _, _⟩ := own_vals own3 (by simp)
  injection e3 with e3a e3b e3c
  subst e3a e3c
  have kk : ∀ k, k < W.heap.size → k ≠ R → k ≠ rv → w3.heap[k]? = W.heap[k]? := fun k hk h1 h2 => (k3 k h2).trans (k2 k hk h1)
  have I3 : PInv wp R rv w3 := ⟨o3.1.trans (o2.1.trans hI.os), o3.2.1.trans (o2.2.1.trans hI.tape), o3.2.2.trans (o2.2.2.trans hI.output), by have := hI.size; omega, fun k hk h1 h2 => (kk k (by have := hI.size; omega) h1 h2).trans (hI.block k hk h1 h2), ⟨_, cv3⟩, fv3, cur2, hR3, by omega⟩
  have S3 : Since (rv + 1) W w3 := ⟨by omega, fun k h1 h2 => kk k h2 (by omega) (by omega)⟩
  have dc : Since lo wc w3 := ⟨by have := hcp.1; have := hI.size; omega, fun k h1 h2 => by
    rw [(I3.below hn).block k (by omega)]
    exact hcp.2 k h1 h2⟩
  have d := HD.out (l ++ r) (some ⟨R, 0, none⟩) 8 w3 hf sl3 dc
  rw [List.length_append, HT.out] at d
  refine d.mono ?_
  rintro e w4 ⟨rfl, hb4⟩
  have FI : Hid (PInv wp R rv w4) := I3.later hn (by have := I3.size; omega) hb4
  have FS : Hid (Since (rv + 1) W w4) := S3.trans (Since.of hb4)
  clear g1 g2 r2 k1 k2 kk hh hI hx2 ht2 hR3 hh2 own3 d k3 e2b e3b o2 o3 sl3 dc z1 z2 z3 I3 S3 cv fv ch cv3 fv3 ch3 HO2 hn2 hm2 hs2 d0 d1 hb0 c3 hc2 hfz hj0 hj1 hj2 hi
  dsimp only
  go_wp2_with fail
  go_ret
  exact ⟨rfl, FI.out, FS.out⟩
end Go.Proofs.YtfojonhblblbjaaGreat
/- The walk of ops.Filter. -/
namespace Go.Proofs.YtfojonhblblbjaaGreat
open Go.RowKit Go.Lib Go.Shelf

set_option maxHeartbeats 400000 in
theorem filter1_at (cols : List Int) (lo : Nat) (x : Ex) (u : Value) (b : Nat) (ra : Option Addr) (rc : Nat) (row : List Vl) (n : Int) (W : World) (hb : b < W.heap.size) (h0 : W.cell? ⟨b, 0, none⟩ = some u) (hA : Conds cols lo u x W) (hf : FitP cols row) (hs : SlAt W ra row) :
    Calls Tryz.prog 34 #[.agg #[.slice ra row.length rc, .int .i64 n], .pointer (some ⟨b, 0, none⟩)] W fun e w' => e = .returned (.bool (holdsP x row)) ∧ Below W.heap.size W w' := by
  obtain ⟨g, cb, rfl, eg, d⟩ := hA
  have hal : Below W.heap.size W (W.alloc (.cells #[.slice ra row.length rc, .int .i64 n] 53)) := (Below.refl _ _).alloc (Nat.le_refl _) _
  have d := d row ra rc _ hf (hs.next hal) (Since.of hal)
  have c0 := (hal.cell (p := ⟨b, 0, none⟩) hb).trans h0
  generalize holdsP x row = t at *
  go_enter Tryz.func34, Tryz.ntmps34
  go_wp2_with (go_at_fn g; refine d.mono ?_; rintro e w1 ⟨rfl, hb1⟩)
  go_ret
  exact ⟨rfl, chain hal hb1⟩

theorem row8 {cols : List Int} {z : List Zp} (h : InpOk cols z) : ∀ x ∈ z, x.1.length ≤ 8 := fun x hx => by
  have := (h.fit x hx).len
  have := h.cols8
  omega
theorem set_in {cols : List Int} {z : List Zp} (h : InpOk cols z) : ∀ x ∈ z, inW x.2 = true := fun x hx => (((wrongZ_iff z).1 h.set).2.1 x hx).2.2
theorem set_len {cols : List Int} {z : List Zp} (h : InpOk cols z) : z.length ≤ 400 := ((wrongZ_iff z).1 h.set).1

set_option maxRecDepth 100000 in
set_option maxHeartbeats 4000000 in
theorem filter_at (cols : List Int) (x : Ex) (ca : Option Addr) (ccap : Nat) (xa : Option Addr) (xcap : Nat) (a : Option Addr) (cap : Nat) (l : List Zp) (w : World) (hc : IsAt w.heap.size w ca cols) (hk : KsAt w.heap.size w xa x.ks) (h : ZsAt w a l) :
    Calls Tryz.prog 9 #[.slice ca cols.length ccap, exV x.k x.v x.c xa x.ks.length xcap, .slice a l.length cap] w fun e w' => ∃ v, e = .returned (.tuple #[v, .int .i64 (filtE cols x l)]) ∧ OwnZ w.heap.size w' v (filtZ cols x l) ∧ Below w.heap.size w w' := by
  have hal : Below w.heap.size w (w.alloc (.cells #[.int .i64 x.k, .int .i64 x.v.1, .int .i64 x.v.2.1, .string x.v.2.2, .int .i64 x.c, .slice xa x.ks.length xcap] 27)) := (Below.refl _ _).alloc (Nat.le_refl _) _
  have hk' := (KsAt.next hal (Nat.le_refl _) hk).up hal.size
  have hc' := (hc.next hal (Nat.le_refl _)).up hal.size
  by_cases h1 : condE cols x = 0
  · have con := condOk_at cols x ca ccap xa xcap _ hk' hc' h1
    have H1 : Hid (condE cols x = 0) := h1
    clear h1
    have HE : Hid (filtE cols x l = if inpE cols l ≠ 0 then inpE cols l else 0) := by
      show filtE cols x l = _
      unfold filtE
      rw [H1.out, if_neg (by simp)]
    generalize hfz : filtZ cols x l = fz
    generalize hfe : filtE cols x l = fe
    have HZ : Hid (filtZ cols x l = fz) := hfz
    have HF : Hid (filtE cols x l = fe) := hfe
    clear hfz hfe
    go_enter Tryz.func9, Tryz.ntmps9
    go_wp2_with fail
    generalize w.alloc (.cells #[.int .i64 x.k, .int .i64 x.v.1, .int .i64 x.v.2.1, .string x.v.2.2, .int .i64 x.c, .slice xa x.ks.length xcap] 27) = w1 at *
    refine con.mono ?_
    rintro e w2 ⟨u, rfl, hC2, hb2⟩
    clear con
    have hA := chain hal hb2
    have hC2 := hC2.down hal.size
    obtain ⟨ug, ucb, rfl⟩ : ∃ g cb, u = .func (.func g) #[] cb := by obtain ⟨g, cb, e, _⟩ := hC2; exact ⟨g, cb, e⟩
    have hal3 : Below w2.heap.size w2 (w2.alloc (.cells #[.func (.func ug) #[] ucb] 55)) := (Below.refl _ _).alloc (Nat.le_refl _) _
    have hA3 := chain hA hal3
    have con := wrongS_at cols ca ccap a cap l _ ((hc.next hA3 (Nat.le_refl _)).up hA3.size) (h.next hA3)
    have c3 : (w2.alloc (.cells #[.func (.func ug) #[] ucb] 55)).cell? ⟨w2.heap.size, 0, none⟩ = some (.func (.func ug) #[] ucb) := by simp
    have hC3 := hC2.next (Since.of hal3)
    have z3 : (w2.alloc (.cells #[.func (.func ug) #[] ucb] 55)).heap.size = w2.heap.size + 1 := by simp
    clear hk' hc'
    by_cases h2 : inpE cols l = 0
    · have hz := (inpE_ok cols l).1 h2
      rw [h2] at con
      have H2 : Hid (inpE cols l = 0) := h2
      clear h2
      have e0 : fe = 0 := by rw [← HF.out, HE.out, H2.out]; rfl
      have e1 : fz = canon (filtL x l) := by rw [← HZ.out]; unfold filtZ; rw [if_pos (by rw [HE.out, H2.out]; rfl)]
      have HN : Hid (fe = 0) := e0
      have HV : Hid (fz = canon (filtL x l)) := e1
      clear e0 e1
      go_wp2_with fail
      generalize w2.alloc (.cells #[.func (.func ug) #[] ucb] 55) = w3 at *
      refine con.mono ?_
      rintro e w4 ⟨rfl, hb4⟩
      clear con
      have hA4 := chain hA3 hb4
      have c4 := (hb4.cell (p := ⟨w2.heap.size, 0, none⟩) (by show w2.heap.size < _; omega)).trans c3
      have hC4 := hC3.next (Since.of hb4)
      have zs4 := h.next hA4
      have z4 := hb4.size
      have hl4 := set_len hz
      go_wp2_with fail
      refine (picked_at 34 #[.pointer (some ⟨w2.heap.size, 0, none⟩)] (fun p => holdsP x p.1) a cap l w4 w4 (fun W => Below w4.heap.size w4 W) zs4 (by omega) (enters_of Tryz.func34 (by kernel_rfl) rfl) (Below.refl _ _) (fun _ h => h) (fun _ _ h k => h.trans k) ?_).mono ?_
      · intro y hy ra rc W hW hs _
        refine (filter1_at cols w.heap.size x _ w2.heap.size ra rc y.1 y.2 W (by have := hW.size; omega) ((hW.cell (p := ⟨w2.heap.size, 0, none⟩) (by show w2.heap.size < _; omega)).trans c4) (hC4.next (Since.of hW)) (hz.fit y hy) (hs.next hW)).mono ?_
        rintro e w' ⟨rfl, hb⟩
        exact ⟨rfl, chain hW hb, Since.of hb⟩
      rintro e w5 ⟨v5, rfl, O5, hb5, _⟩
      obtain ⟨a5, c5, rfl, zs5, _⟩ := O5.zs hb5
      have hA5 := chain hA4 hb5
      have hfl : l.filter (fun p => holdsP x p.1) = filtL x l := rfl
      rw [hfl] at zs5
      have hsub : ∀ y ∈ filtL x l, y ∈ l := fun y hy => (List.mem_filter.1 hy).1
      have hfn : (filtL x l).length ≤ 400 := Nat.le_trans (List.length_filter_le _ _) hl4
      have hg0 : gatherE (filtL x l) = 0 := filt_gather hz.set _
      have con := gathered_at a5 c5 (filtL x l) w5 zs5 (by omega) (fun y hy => inW_big (set_in hz y (hsub y hy))) (fun y hy => row8 hz y (hsub y hy))
      have hgz : gatherZ (filtL x l) = fz := by rw [HV.out]; unfold gatherZ; rw [if_pos hg0]
      rw [hg0, hgz] at con
      clear hg0 hgz hC2 hC3 hC4 c3 c4 O5
      rw [hfl]
      go_wp2_with fail
      refine con.mono ?_
      rintro e w6 ⟨v6, rfl, O6, hb6⟩
      have O6' := O6.mono hA5.size
      obtain ⟨a6, c6, rfl, _⟩ := O6.zs
      go_wp2_with fail
      exact bodyPost_ret (v := .tuple #[.slice a6 fz.length c6, .int .i64 0]) (by simp [results, Tryz.results9, go_sem]) rfl ⟨_, by rw [HN.out], O6', chain hA5 hb6⟩
    · have e0 : fe = inpE cols l := by rw [← HF.out, HE.out, if_pos h2]
      have e1 : fz = [] := by rw [← HZ.out]; unfold filtZ; rw [HE.out, if_pos h2, if_neg h2]
      have HN : Hid (fe = inpE cols l) := e0
      have HV : Hid (fz = []) := e1
      have hne : (inpE cols l != 0) = true := by simpa using h2
      clear e0 e1
      generalize inpE cols l = t at *
      go_wp2_with fail
      generalize w2.alloc (.cells #[.func (.func ug) #[] ucb] 55) = w3 at *
      refine con.mono ?_
      rintro e w4 ⟨rfl, hb4⟩
      clear con
      go_wp2_with fail
      exact bodyPost_ret (v := .tuple #[.slice none 0 0, .int .i64 t]) (by simp [results, Tryz.results9, go_sem]) rfl ⟨_, by rw [HN.out], by rw [HV.out]; exact own_nil _ _, chain hA3 hb4⟩
  · have con := condBad_at cols x ca ccap xa xcap _ hk' hc' h1
    have e0 : filtE cols x l = condE cols x := by unfold filtE; rw [if_pos h1]
    have e1 : filtZ cols x l = [] := by unfold filtZ; rw [e0, if_neg h1]
    rw [e0, e1]
    have hne : (condE cols x != 0) = true := by simpa using h1
    generalize condE cols x = t at *
    clear e0 e1
    go_enter Tryz.func9, Tryz.ntmps9
    go_wp2_with fail
    generalize w.alloc (.cells #[.int .i64 x.k, .int .i64 x.v.1, .int .i64 x.v.2.1, .string x.v.2.2, .int .i64 x.c, .slice xa x.ks.length xcap] 27) = w1 at *
    refine con.mono ?_
    rintro e w2 ⟨rfl, hb2⟩
    have hA := chain hal hb2
    have hal3 : Below w2.heap.size w2 (w2.alloc (.cells #[.nilFunc] 55)) := (Below.refl _ _).alloc (Nat.le_refl _) _
    clear con
    go_wp2_with fail
    exact bodyPost_ret (v := .tuple #[.slice none 0 0, .int .i64 t]) (by simp [results, Tryz.results9, go_sem]) rfl ⟨_, rfl, own_nil _ _, chain hA hal3⟩
end Go.Proofs.YtfojonhblblbjaaGreat
/- The walk of slices.Concat at two slices of rows. -/
namespace Go.Proofs.YtfojonhblblbjaaGreat
open Go.RowKit Go.Lib Go.Shelf

/-- What has been laid behind each other so far. -/
def catTo (l l' : List Zp) : Nat → List Zp
  | 0 => []
  | 1 => l
  | _ => l ++ l'
structure Pair (w : World) (B : Nat) (l l' : List Zp) : Prop where
  lt : B < w.heap.size
  at_ : ∀ k, k < 2 → ∃ a cap ls, w.cell? ⟨B, k, none⟩ = some (.slice a ls.length cap) ∧ ZsAt w a ls ∧ (a = none → cap = 0) ∧ catTo l l' (k + 1) = catTo l l' k ++ ls
theorem Pair.next {w w1 : World} {B : Nat} {l l' : List Zp} (h : Pair w B l l') (hb : Below w.heap.size w w1) : Pair w1 B l l' :=
  ⟨Nat.lt_of_lt_of_le h.lt hb.size, fun k hk => by
    obtain ⟨a, cap, ls, h1, h2, h3, h4⟩ := h.at_ k hk
    exact ⟨a, cap, ls, (hb.cell (p := ⟨B, k, none⟩) h.lt).trans h1, h2.next hb, h3, h4⟩⟩
theorem catTo_len (l l' : List Zp) (k : Nat) : (catTo l l' k).length ≤ l.length + l'.length := by
  match k with
  | 0 => simp [catTo]
  | 1 => simp [catTo]
  | n + 2 => simp [catTo]

set_option maxRecDepth 100000 in
set_option maxHeartbeats 4000000 in
theorem concat_at (B : Nat) (l l' : List Zp) (w : World) (h : Pair w B l l') (hl : l.length + l'.length ≤ 200000) :
    Calls Tryz.prog 50 #[.slice (some ⟨B, 0, none⟩) 2 2] w fun e w' => ∃ a cap, e = .returned (.slice a (l ++ l').length cap) ∧ ZsAt w' a (l ++ l') ∧ (a = none → cap = 0) ∧ Below w.heap.size w w' := by
  obtain ⟨i0, hi, hj0, hj1, hj2⟩ := info_parts Tryz.info42
  go_enter Tryz.func50, Tryz.ntmps50
  go_wp2_with fail
  go_loopw [3, 11] (fun sz i wr => ∃ k : Nat, k ≤ 2 ∧ i = .int .i64 k ∧ sz = .int .i64 ((catTo l l' k).length : Int) ∧ wr = w) (fun _ i _ => 2 - (intOf i).toNat)
  case atStart => exact ⟨0, by omega, rfl, rfl, rfl⟩
  case round =>
    obtain ⟨k, hk, rfl, rfl, rfl⟩ := hrel
    have hcl := catTo_len l l' k
    by_cases hlt : k < 2
    · obtain ⟨a, cap, ls, c0, zs, hnil, hcat⟩ := h.at_ k hlt
      have hcl2 := catTo_len l l' (k + 1)
      rw [hcat, List.length_append] at hcl2
      have HCat : Hid (catTo l l' (k + 1) = catTo l l' k ++ ls) := hcat
      clear hcat
      generalize hq : catTo l l' k = q at *
      have HQ : Hid (catTo l l' k = q) := hq
      clear hq
      go_wp2_with fail
      go_roundw
      case rel => exact ⟨k + 1, by omega, by go_num, by rw [HCat.out, List.length_append]; go_num, by first | rfl | trivial⟩
      case measure => simp [intOf]; omega
    · have e : k = 2 := by omega
      subst e
      have el : ((catTo l l' 2).length : Int) = ((l ++ l').length : Nat) := rfl
      have gc := grow_at (l.length + l'.length) (by omega) wr
      rw [Int.natCast_add] at gc
      go_wp2_with fail
      refine gc.mono ?_
      clear gc el
      rintro e w1 ⟨v, rfl, ho, hb1⟩
      obtain ⟨a1, c1, rfl⟩ := own_shape ho
      have HS0 : SumTo wr w1 (.slice a1 0 c1) (catTo l l' 0) := ⟨[], ho, rfl, fun i hi => by simp [catTo] at hi⟩
      clear ho
      go_wp2_with fail
      generalize hw0 : wr = w0 at *
      have HW0 : Hid (wr = w0) := hw0
      clear hw0
      go_loopw [6, 27] (fun v i ws => ∃ k : Nat, k ≤ 2 ∧ i = .int .i64 k ∧ SumTo w0 ws v (catTo l l' k) ∧ Below w0.heap.size w0 ws) (fun _ i _ => 2 - (intOf i).toNat)
      case atStart => exact ⟨0, by omega, rfl, HS0, hb1⟩
      case round =>
        clear HS0
        obtain ⟨k, hk, rfl, HS, hb⟩ := hrel
        have hz := hb.size
        obtain ⟨xs, ho, he⟩ := HS
        by_cases hlt : k < 2
        · obtain ⟨a, cap, ls, c0, zs, hnil, hcat⟩ := h.at_ k hlt
          have hcl2 := catTo_len l l' (k + 1)
          rw [hcat, List.length_append] at hcl2
          have HCat : Hid (catTo l l' (k + 1) = catTo l l' k ++ ls) := hcat
          clear hcat
          obtain ⟨news, en, e1, en0, ec⟩ := src_of zs
          have c0' := (hb.cell (p := ⟨B, k, none⟩) h.lt).trans c0
          clear c0
          generalize catTo l l' k = q at *
          obtain ⟨a3, c3, rfl⟩ := own_shape ho
          rcases a with _ | ad
          · have hls := en0 rfl
            have hcp := hnil rfl
            subst hls hcp
            go_wp2_with (at_builtin; refine wpList_append_own_none rfl _ _ 28 rfl w0.heap.size 53 i0 2 Tryz.underlying28 hi _ _ _ rfl ho rfl ?_)
            go_roundw
            case rel => exact ⟨k + 1, by omega, by go_num, by rw [HCat.out, List.append_nil]; exact ⟨xs, ho, he⟩, hb⟩
            case measure => simp [intOf]; omega
          · have ec' : ∀ j u, news[j]? = some u → wr.cell? (ad.add j) = some u := fun j u hj => by
              have := ec ad rfl j u hj
              rw [hb.cell (World.block_lt_of_cell? _ _ this)]
              exact this
            go_wp2_with (at_builtin; refine wpList_append_own _ rfl _ _ 28 rfl w0.heap.size 53 i0 _ 2 32 Tryz.underlying28 hi hj0 hj1 hj2 rfl (by decide) _ _ _ rfl ho ad ls.length cap news rfl en.1 ec' e1 (by unfold maxLen; omega) (by omega) (by omega) ?_)
            intro v' w5 ho5 hg5 _
            have hb5 : Below w0.heap.size w0 w5 := hb.grown hg5 hz (fun q hq => (ho.lt q hq).1)
            clear hg5 ho
            go_wp2_with fail
            go_roundw
            case rel => exact ⟨k + 1, by omega, by go_num, by rw [HCat.out]; exact ⟨_, by simpa using ho5, encB_append he en⟩, hb5⟩
            case measure => simp [intOf]; omega
        · have e : k = 2 := by omega
          subst e
          obtain ⟨a3, c3, e3, z3⟩ := own_zsB ho rfl he hb
          have hn3 : a3 = none → c3 = 0 := by
            intro e
            subst e
            obtain ⟨_, ⟨e4, _⟩ | ⟨g, c1, cur, e4, _⟩⟩ := ho
            · rw [e3] at e4; injection e4
            · rw [e3] at e4; injection e4 with e4; cases e4
          subst e3
          go_wp2_with fail
          go_ret
          exact ⟨a3, c3, rfl, z3, hn3, by rw [HW0.out]; exact hb⟩
end Go.Proofs.YtfojonhblblbjaaGreat
/- The walks of zsets.withTimes, zsets.Add and zsets.Sub. -/
namespace Go.Proofs.YtfojonhblblbjaaGreat
open Go.RowKit Go.Lib Go.Shelf

theorem OwnZ.zs2 {base : Nat} {W : World} {v : Value} {l : List Zp} (h : OwnZ base W v l) : ∃ a cap, v = .slice a l.length cap ∧ ZsAt W a l ∧ (a = none → cap = 0) := by
  obtain ⟨a, cap, rfl, z⟩ := h.zs
  refine ⟨a, cap, rfl, z, ?_⟩
  intro e
  subst e
  obtain ⟨xs, ⟨_, ⟨e4, _⟩ | ⟨g, c1, cur, e4, _⟩⟩, _⟩ := h
  · injection e4
  · injection e4 with e4; cases e4

def timesF (t : Int) (w : Int) : Int := t * w
/-- What is wrong with two sets, or with what they make. -/
def bothE (t : Int) (a b : List Zp) : Int := if wrongZ a = 0 then (if wrongZ b = 0 then gatherE (a ++ weighL (timesF t) b) else wrongZ b) else wrongZ a
def bothZ (t : Int) (a b : List Zp) : List Zp := if bothE t a b = 0 then canon (a ++ weighL (timesF t) b) else []

theorem eg59 : ∀ args w, (callFunc 135 args).run Tryz.prog w = .ok (.enter 135 args) w := enters_of Tryz.func135 (by kernel_rfl) rfl
theorem makes59 (w : World) (B : Nat) (t : Int) (hB : w.cell? ⟨B, 0, none⟩ = some (.int .i64 t)) (ht : t = 1 ∨ t = -1) : Makes 135 #[.pointer (some ⟨B, 0, none⟩)] (timesF t) w := by
  intro x W hx hb
  have hx := (inW_iff _).1 hx
  have hc := (hb.cell (p := ⟨B, 0, none⟩) (World.block_lt_of_cell? _ _ hB)).trans hB
  show Calls Tryz.prog 135 #[.int .i64 x, .pointer (some ⟨B, 0, none⟩)] W _
  have e : timesF t x = t * x := rfl
  rw [e]
  rcases ht with rfl | rfl
  · go_enter Tryz.func135, Tryz.ntmps135
    go_wp2
    go_ret
    exact ⟨ret_int (by omega), Below.refl _ _⟩
  · go_enter Tryz.func135, Tryz.ntmps135
    go_wp2
    go_ret
    exact ⟨ret_int (by omega), Below.refl _ _⟩
theorem timesF_in (t : Int) (ht : t = 1 ∨ t = -1) (x : Int) (h : inW x = true) : inW (timesF t x) = true := by
  rw [inW_iff] at *
  unfold timesF
  rcases ht with rfl | rfl <;> omega

set_option maxRecDepth 100000 in
set_option maxHeartbeats 4000000 in
theorem withTimes_at (t : Int) (ht : t = 1 ∨ t = -1) (a b : Option Addr) (ca cb : Nat) (l l' : List Zp) (w : World) (h : ZsAt w a l) (h' : ZsAt w b l') (hn : a = none → ca = 0) :
    Calls Tryz.prog 101 #[.slice a l.length ca, .slice b l'.length cb, .int .i64 t] w fun e w' => ∃ v, e = .returned (.tuple #[v, .int .i64 (bothE t l l')]) ∧ OwnZ w.heap.size w' v (bothZ t l l') ∧ Below w.heap.size w w' := by
  have bA : Below w.heap.size w ((w.alloc (.cells #[.int .i64 t] 2)).alloc (.cells #[.slice a l.length ca, .slice b l'.length cb] 28)) := ((Below.refl _ _).alloc (Nat.le_refl _) _).alloc (by simp) _
  have cA0 : ((w.alloc (.cells #[.int .i64 t] 2)).alloc (.cells #[.slice a l.length ca, .slice b l'.length cb] 28)).cell? ⟨w.heap.size, 0, none⟩ = some (.int .i64 t) := by simp
  have cB0 : ((w.alloc (.cells #[.int .i64 t] 2)).alloc (.cells #[.slice a l.length ca, .slice b l'.length cb] 28)).cell? ⟨w.heap.size + 1, 0, none⟩ = some (.slice a l.length ca) := by simp
  have cB1 : ((w.alloc (.cells #[.int .i64 t] 2)).alloc (.cells #[.slice a l.length ca, .slice b l'.length cb] 28)).cell? ⟨w.heap.size + 1, 1, none⟩ = some (.slice b l'.length cb) := by simp
  have zA := h.next bA
  have zB := h'.next bA
  have hzA : w.heap.size + 2 ≤ ((w.alloc (.cells #[.int .i64 t] 2)).alloc (.cells #[.slice a l.length ca, .slice b l'.length cb] 28)).heap.size := by simp
  by_cases hw : wrongZ l = 0
  · have Hw : Hid (wrongZ l = 0) := hw
    by_cases hw' : wrongZ l' = 0
    · have Hw' : Hid (wrongZ l' = 0) := hw'
      have hok := (wrongZ_iff l).1 hw
      have hok' := (wrongZ_iff l').1 hw'
      have eE : bothE t l l' = gatherE (l ++ weighL (timesF t) l') := by simp [bothE, hw, hw']
      have eZ : bothZ t l l' = gatherZ (l ++ weighL (timesF t) l') := by unfold bothZ gatherZ; rw [eE]
      rw [eE, eZ]
      have hlen := weighL_len (timesF t) l'
      have hin : ∀ x ∈ l ++ weighL (timesF t) l', inW x.2 = true ∧ x.1.length ≤ 8 := by
        intro x hx
        rcases List.mem_append.1 hx with hx | hx
        · exact ⟨(hok.2.1 x hx).2.2, ((wrongRowF_zero _).1 (hok.2.1 x hx).1).1⟩
        · obtain ⟨y, hy, rfl, _⟩ := weighL_mem _ _ x hx
          exact ⟨timesF_in t ht _ (hok'.2.1 y hy).2.2, by simp only [bareL_length]; exact ((wrongRowF_zero _).1 (hok'.2.1 y hy).1).1⟩
      have HIn : Hid (∀ x ∈ l ++ weighL (timesF t) l', inW x.2 = true ∧ x.1.length ≤ 8) := hin
      clear hw hw' eE eZ hin
      go_enter Tryz.func101, Tryz.ntmps101
      go_wp2_with fail
      generalize ((w.alloc (.cells #[.int .i64 t] 2)).alloc (.cells #[.slice a l.length ca, .slice b l'.length cb] 28)) = wA at *
      refine wp_loop_rounds 3 ?_
      rw [rounds_succ]
      go_wp2_with fail
      refine (zWrong_at _ _ _ _ zA).mono ?_
      rintro e w1 ⟨rfl, hb1⟩
      rw [Hw.out]
      have cB1' := (hb1.cell (p := ⟨w.heap.size + 1, 1, none⟩) (World.block_lt_of_cell? _ _ cB1)).trans cB1
      have cA0' := (hb1.cell (p := ⟨w.heap.size, 0, none⟩) (World.block_lt_of_cell? _ _ cA0)).trans cA0
      go_wp2_with fail
      rw [rounds_succ]
      go_wp2_with fail
      refine (zWrong_at _ _ _ _ (zB.next hb1)).mono ?_
      rintro e w2 ⟨rfl, hb2⟩
      rw [Hw'.out]
      have cA2 := (hb2.cell (p := ⟨w.heap.size, 0, none⟩) (World.block_lt_of_cell? _ _ cA0')).trans cA0'
      go_wp2_with fail
      rw [rounds_succ]
      go_wp2_with fail
      refine (weighed_at 135 #[.pointer (some ⟨w.heap.size, 0, none⟩)] (timesF t) b cb l' w2 ((zB.next hb1).next hb2) eg59 (makes59 w2 w.heap.size t cA2 ht) (by omega) (fun x hx => ((wrongRowF_zero _).1 (hok'.2.1 x hx).1).1) (fun x hx => (hok'.2.1 x hx).2.2)).mono ?_
      rintro e w3 ⟨v3, rfl, O3, hb3⟩
      obtain ⟨a3, c3, rfl, z3, n3⟩ := O3.zs2
      have z1 := ((zA.next hb1).next hb2).next hb3
      have b3 := chain1 (chain1 (chain1 bA hb1) hb2) hb3
      have b4 : Below w3.heap.size w3 (w3.alloc (.cells #[.slice a l.length ca, .slice a3 (weighL (timesF t) l').length c3] 28)) := (Below.refl _ _).alloc (Nat.le_refl _) _
      have pr : Pair (w3.alloc (.cells #[.slice a l.length ca, .slice a3 (weighL (timesF t) l').length c3] 28)) w3.heap.size l (weighL (timesF t) l') := by
        refine ⟨by simp, fun k hk => ?_⟩
        match k, hk with
        | 0, _ => exact ⟨a, ca, l, by simp, z1.next b4, hn, by simp [catTo]⟩
        | 1, _ => exact ⟨a3, c3, _, by simp, z3.next b4, n3, by simp [catTo]⟩
      have cc := concat_at w3.heap.size l (weighL (timesF t) l') _ pr (by omega)
      clear O3 pr hb1 hb2 hb3 cA0 cB0 cB1 cA0' cB1' cA2 z1 z3
      generalize hm : weighL (timesF t) l' = m at *
      have HM : Hid (weighL (timesF t) l' = m) := hm
      clear hm
      go_wp2_with fail
      refine cc.mono ?_
      clear cc
      rintro e w5 ⟨a5, c5, rfl, z5, n5, hb5⟩
      have hql : (l ++ m).length ≤ 2000 := by simp; omega
      generalize hq : l ++ m = qq at *
      have HQ : Hid (l ++ m = qq) := hq
      clear hq
      go_wp2_with fail
      refine (gathered_at _ _ _ _ z5 (by omega) (fun x hx => inW_big (HIn.out x hx).1) (fun x hx => (HIn.out x hx).2)).mono ?_
      rintro e w6 ⟨v6, rfl, O6, hb6⟩
      have bb := chain1 (chain1 (chain1 b3 b4) hb5) hb6
      have O6' := O6.mono (Nat.le_trans (Nat.le_trans b3.size b4.size) hb5.size)
      obtain ⟨a6, c6, rfl, z6⟩ := O6.zs
      go_wp2_with fail
      exact bodyPost_ret (v := .tuple #[.slice a6 (gatherZ qq).length c6, .int .i64 (gatherE qq)]) (by simp [results, Tryz.results101, go_sem]) rfl ⟨_, by rw [HM.out, HQ.out], by rw [HM.out, HQ.out]; exact O6', bb⟩
    · have eE : bothE t l l' = wrongZ l' := by simp [bothE, hw, hw']
      have eZ : bothZ t l l' = [] := by simp [bothZ, eE, hw']
      rw [eE, eZ]
      have hne : (wrongZ l' != 0) = true := by simpa using hw'
      clear hw hw' eE eZ
      go_enter Tryz.func101, Tryz.ntmps101
      go_wp2_with fail
      generalize ((w.alloc (.cells #[.int .i64 t] 2)).alloc (.cells #[.slice a l.length ca, .slice b l'.length cb] 28)) = wA at *
      refine wp_loop_rounds 3 ?_
      rw [rounds_succ]
      go_wp2_with fail
      refine (zWrong_at _ _ _ _ zA).mono ?_
      rintro e w1 ⟨rfl, hb1⟩
      rw [Hw.out]
      have cB1' := (hb1.cell (p := ⟨w.heap.size + 1, 1, none⟩) (World.block_lt_of_cell? _ _ cB1)).trans cB1
      go_wp2_with fail
      rw [rounds_succ]
      go_wp2_with fail
      refine (zWrong_at _ _ _ _ (zB.next hb1)).mono ?_
      rintro e w2 ⟨rfl, hb2⟩
      go_wp2_with fail
      exact bodyPost_ret (v := .tuple #[.slice none 0 0, .int .i64 (wrongZ l')]) (by simp [results, Tryz.results101, go_sem]) rfl ⟨_, rfl, own_nil _ _, chain1 (chain1 bA hb1) hb2⟩
  · have eE : bothE t l l' = wrongZ l := by simp [bothE, hw]
    have eZ : bothZ t l l' = [] := by simp [bothZ, eE, hw]
    rw [eE, eZ]
    have hne : (wrongZ l != 0) = true := by simpa using hw
    clear hw eE eZ
    go_enter Tryz.func101, Tryz.ntmps101
    go_wp2_with fail
    generalize ((w.alloc (.cells #[.int .i64 t] 2)).alloc (.cells #[.slice a l.length ca, .slice b l'.length cb] 28)) = wA at *
    refine wp_loop_rounds 3 ?_
    rw [rounds_succ]
    go_wp2_with fail
    refine (zWrong_at _ _ _ _ zA).mono ?_
    rintro e w1 ⟨rfl, hb1⟩
    go_wp2_with fail
    exact bodyPost_ret (v := .tuple #[.slice none 0 0, .int .i64 (wrongZ l)]) (by simp [results, Tryz.results101, go_sem]) rfl ⟨_, rfl, own_nil _ _, chain1 bA hb1⟩

set_option maxRecDepth 100000 in
set_option maxHeartbeats 400000 in
theorem add_at (a b : Option Addr) (ca cb : Nat) (l l' : List Zp) (w : World) (h : ZsAt w a l) (h' : ZsAt w b l') (hn : a = none → ca = 0) :
    Calls Tryz.prog 62 #[.slice a l.length ca, .slice b l'.length cb] w fun e w' => ∃ v, e = .returned (.tuple #[v, .int .i64 (bothE 1 l l')]) ∧ OwnZ w.heap.size w' v (bothZ 1 l l') ∧ Below w.heap.size w w' := by
  go_enter Tryz.func62, Tryz.ntmps62
  go_wp2_with fail
  refine (withTimes_at 1 (by omega) a b ca cb l l' w h h' hn).mono ?_
  rintro e w1 ⟨v, rfl, O1, hb1⟩
  obtain ⟨a1, c1, rfl, z1⟩ := O1.zs
  go_wp2_with fail
  exact bodyPost_ret (v := .tuple #[.slice a1 (bothZ 1 l l').length c1, .int .i64 (bothE 1 l l')]) (by simp [results, Tryz.results62, go_sem]) rfl ⟨_, rfl, O1, hb1⟩

end Go.Proofs.YtfojonhblblbjaaGreat
