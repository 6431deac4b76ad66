/- Together: G3, G4, G5, G6, SA, G7, PF, G8, T1. -/
import Derived.Test.YtfojonhblblbjaaGreatUB8
import Derived.Test.YtfojonhblblbjaaGreatUB7
import Derived.Test.YtfojonhblblbjaaGreatUB3
/- What is known of rows; how many there are. -/
namespace Go.Proofs.YtfojonhblblbjaaGreat
open Go.RowKit Go.Lib Go.Shelf

/-- A value, and how often it is there. -/
abbrev Wp : Type := Vl × Int
def flatW : List Wp → List Value
 | [] => []
 | p :: r => .int .i64 p.1.1 :: .int .i64 p.1.2.1 :: .string p.1.2.2 :: .int .i64 p.2 :: flatW r
theorem flatW_append : ∀ l r : List Wp, flatW (l ++ r) = flatW l ++ flatW r
 | [], _ => rfl
 | p :: t, r => by rw [List.cons_append, flatW, flatW, flatW_append t r]; rfl
theorem flatW_at : ∀ (l : List Wp) (i : Nat) (h : i < l.length), (flatW l)[i * 4]? = some (.int .i64 l[i].1.1) ∧ (flatW l)[i * 4 + 1]? = some (.int .i64 l[i].1.2.1) ∧ (flatW l)[i * 4 + 2]? = some (.string l[i].1.2.2) ∧ (flatW l)[i * 4 + 3]? = some (.int .i64 l[i].2)
 | p :: r, 0, _ => ⟨rfl, rfl, rfl, rfl⟩
 | p :: r, i + 1, h => by
  have ih := flatW_at r i (by simpa using h)
  have e : (i + 1) * 4 = i * 4 + 4 := by omega
  rw [e]
  exact ih
/-- What is asked of rows, without what is not known. -/
def knownL (f : List Vl → Vl) (rows : List Zp) : List Wp := rows.filterMap fun r => if (f r.1).1 = 1 then none else some (f r.1, r.2)
theorem knownL_take (f : List Vl → Vl) {rows : List Zp} {k : Nat} (h : k < rows.length) : knownL f (rows.take (k + 1)) = knownL f (rows.take k) ++ (if (f rows[k].1).1 = 1 then [] else [(f rows[k].1, rows[k].2)]) := by
 unfold knownL
 rw [List.take_succ_eq_append_getElem h, List.filterMap_append]
 congr 1
 by_cases c : (f rows[k].1).1 = 1
 ·simp [c]
 ·simp [c]
theorem knownL_len (f : List Vl → Vl) (rows : List Zp) : (knownL f rows).length ≤ rows.length := List.length_filterMap_le _ _
theorem infoW : (Tryz.prog.info? 161).map (fun i => (i.zero, i.size, i.bytes)) = some (some (.agg #[.int .i64 0, .int .i64 0, .string ⟨#[]⟩, .int .i64 0]), 4, 40) := by kernel_rfl

set_option maxRecDepth 100000 in
set_option maxHeartbeats 2000000 in
theorem known_at (cols : List Int) (lo : Nat) (u : Value) (f : List Vl → Vl) (a : Option Addr) (cap : Nat) (rows : List Zp) (w : World) (hA : Asks cols lo u f w) (h : ZsAt w a rows) (hf : ∀ p ∈ rows, FitP cols p.1) (hl : rows.length ≤ 400) :
  Calls Tryz.prog 95 #[.slice a rows.length cap, u] w fun e w' => ∃ v, e = .returned v ∧ w'.ownsRow w.heap.size 161 4 v (knownL f rows).length (flatW (knownL f rows)) ∧ Below w.heap.size w w' := by
 obtain ⟨iw, hi, hj0, hj1, hj2⟩ := info_parts infoW
 obtain ⟨g, cb, rfl, eg, hd⟩ := hA
 have HD : Hid (∀ (row : List Vl) (a : Option Addr) (cap : Nat) (W : World), FitP cols row → SlAt W a row → Since lo w W → Calls Tryz.prog g (#[.slice a row.length cap] ++ cb) W fun e w' => e = .returned (agV (f row)) ∧ Below W.heap.size W w') := hd
 have HF : Hid (∀ p ∈ rows, FitP cols p.1) := hf
 clear hd hf
 go_enter Tryz.func95, Tryz.ntmps95
 go_wp2_with fail
 go_loopw [5, 11] (fun v i wr => ∃ k : Nat, k ≤ rows.length ∧ i = .int .i64 k ∧ wr.ownsRow w.heap.size 161 4 v (knownL f (rows.take k)).length (flatW (knownL f (rows.take k))) ∧ Below w.heap.size w wr) (fun _ i _ => rows.length - (intOf i).toNat)
 case atStart => exact ⟨0, Nat.zero_le _, rfl, World.ownsRow_nil _ _ _ _, Below.refl _ _⟩
 case round =>
  obtain ⟨k, hk, rfl, HO, hb⟩ := hrel
  have hz := hb.size
  by_cases hlt : k < rows.length
  ·obtain ⟨b, off, rfl, hbl, c1, ar, cr, c0, sr⟩ := (h.next hb).elem hlt
   have hal : Below wr.heap.size wr (wr.alloc (.cells #[.slice ar rows[k].1.length cr, .int .i64 rows[k].2] 53)) := (Below.refl _ _).alloc (Nat.le_refl _) _
   have q0 := heap_new wr #[.slice ar rows[k].1.length cr, .int .i64 rows[k].2] 53
   have hal' := chain hb hal
   have con := HD.out rows[k].1 ar cr _ (HF.out _ (List.getElem_mem hlt)) (sr.next hal) (Since.of hal')
   have HT : Hid (knownL f (rows.take (k + 1)) = knownL f (rows.take k) ++ (if (f rows[k].1).1 = 1 then [] else [(f rows[k].1, rows[k].2)])) := knownL_take f hlt
   have hkl := knownL_len f (rows.take k)
   rw [List.length_take] at hkl
   have O1 := own_next HO hal
   generalize f rows[k].1 = fv at *
   generalize knownL f (rows.take k) = acc at *
   unfold agV at con
   go_upto_region 5 with fail
   clear c0 c1 sr HO
   generalize wr.alloc (.cells #[.slice ar rows[k].1.length cr, .int .i64 rows[k].2] 53) = wk at *
   have p0 : wk.cell? ⟨wr.heap.size, 0, none⟩ = some (.slice ar rows[k].1.length cr) := cell_of (i := 0) q0 rfl
   go_upto_region 6 with (go_at_fn g; refine con.mono ?_; rintro e w2 ⟨rfl, hb2⟩)
   clear con p0
   have q2 := (hb2.block _ (lt_of_heap q0)).trans q0
   have O2 := own_next O1 hb2
   have hal2 : Below w2.heap.size w2 (w2.alloc (.cells #[.int .i64 fv.1, .int .i64 fv.2.1, .string fv.2.2] 24)) := (Below.refl _ _).alloc (Nat.le_refl _) _
   have q3 := heap_new w2 #[.int .i64 fv.1, .int .i64 fv.2.1, .string fv.2.2] 24
   have q2 := (hal2.block _ (lt_of_heap q2)).trans q2
   have O3 := own_next O2 hal2
   have hA3 := chain (chain hal' hb2) hal2
   have hz3 := hA3.size
   generalize w2.alloc (.cells #[.int .i64 fv.1, .int .i64 fv.2.1, .string fv.2.2] 24) = w3 at *
   have c0 : w3.cell? ⟨w2.heap.size, 0, none⟩ = some (.int .i64 fv.1) := cell_of (i := 0) q3 rfl
   have c1 : w3.cell? ⟨w2.heap.size, 1, none⟩ = some (.int .i64 fv.2.1) := cell_of (i := 1) q3 rfl
   have c2 : w3.cell? ⟨w2.heap.size, 2, none⟩ = some (.string fv.2.2) := cell_of (i := 2) q3 rfl
   have c3 : w3.cell? ⟨wr.heap.size, 1, none⟩ = some (.int .i64 rows[k].2) := cell_of (i := 1) q2 rfl
   by_cases hn : fv.1 = 1
   ·have hnb : (fv.1 != 1) = false := by simp [hn]
    have HT' : Hid (knownL f (rows.take (k + 1)) = acc) := by show _ = _; rw [HT.out, if_pos hn, List.append_nil]
    clear hn
    go_wp2_with fail
    go_roundw
    case rel => exact ⟨k + 1, by omega, by go_num, by rw [HT'.out]; exact O3, hA3⟩
    case measure => simp [intOf]; omega
   ·have hnb : (fv.1 != 1) = true := by simp [hn]
    have HT' : Hid (knownL f (rows.take (k + 1)) = acc ++ [(fv, rows[k].2)]) := by show _ = _; rw [HT.out, if_neg hn]
    clear hn
    go_wp2_with (first | (at_builtin; refine wpList_append_own _ rfl _ _ 128 rfl w.heap.size 161 iw _ 4 40 Tryz.underlying128 hi hj0 hj1 hj2 rfl (by decide) _ _ _ rfl (O3.alloc _) ⟨w3.heap.size, 0, none⟩ 1 1 [.int .i64 fv.1, .int .i64 fv.2.1, .string fv.2.2, .int .i64 rows[k].2] rfl rfl ?Ac1 ?Ac2 ?Ac3 ?Ac4 ?Ac5 ?_))
    case Ac1 =>
     intro i u hu
     match i, hu with
     | 0, hu => simp at hu; subst hu; simp [Addr.add]
     | 1, hu => simp at hu; subst hu; simp [Addr.add]
     | 2, hu => simp at hu; subst hu; simp [Addr.add]
     | 3, hu => simp at hu; subst hu; simp [Addr.add]
    case Ac2 => intro u hu; simp at hu; rcases hu with rfl | rfl | rfl | rfl <;> rfl
    case Ac3 => unfold maxLen; omega
    case Ac4 => omega
    case Ac5 => simp; omega
    intro v' w4 o4 g4 _
    have hb4 : Below w.heap.size w w4 := hA3.trans (((Below.refl _ _).alloc (by omega) _).grown g4 (by simp; omega) (fun q hq => ((O3.alloc (.cells #[.int .i64 fv.1, .int .i64 fv.2.1, .string fv.2.2, .int .i64 rows[k].2] 161)).lt q hq).1))
    have o4' : w4.ownsRow w.heap.size 161 4 v' (acc ++ [(fv, rows[k].2)]).length (flatW (acc ++ [(fv, rows[k].2)])) := by rw [flatW_append, List.length_append]; exact o4
    clear g4 o4 O3 O2 O1
    go_wp2_with fail
    go_roundw
    case rel => exact ⟨k + 1, by omega, by go_num, by rw [HT'.out]; exact o4', hb4⟩
    case measure => simp [intOf]; omega
  ·have e : k = rows.length := by omega
   subst e
   rw [List.take_length] at HO
   obtain ⟨av, cv, rfl⟩ := own_shapeF HO
   go_wp2_with fail
   go_ret
   exact ⟨_, rfl, HO, hb⟩

/-- Weighed values in a slice. -/
def WsAt (W : World) (a : Option Addr) (l : List Wp) : Prop := l.length ≤ maxLen ∧ (l = [] ∨ ∃ b off, a = some ⟨b, off, none⟩ ∧ b < W.heap.size ∧ ∀ (i : Nat) (h : i < l.length), W.cell? ⟨b, off + i * 4, none⟩ = some (.int .i64 l[i].1.1) ∧ W.cell? ⟨b, off + i * 4 + 1, none⟩ = some (.int .i64 l[i].1.2.1) ∧ W.cell? ⟨b, off + i * 4 + 2, none⟩ = some (.string l[i].1.2.2) ∧ W.cell? ⟨b, off + i * 4 + 3, none⟩ = some (.int .i64 l[i].2))
theorem WsAt.next {W w1 : World} {a : Option Addr} {l : List Wp} (h : WsAt W a l) (hb : Below W.heap.size W w1) : WsAt w1 a l := by
 obtain ⟨h0, h | ⟨b, off, e, hlt, hr⟩⟩ := h
 ·exact ⟨h0, .inl h⟩
 ·refine ⟨h0, .inr ⟨b, off, e, Nat.lt_of_lt_of_le hlt hb.size, fun i hi => ?_⟩⟩
  obtain ⟨a0, a1, a2, a3⟩ := hr i hi
  exact ⟨(hb.cell (p := ⟨b, _, none⟩) hlt).trans a0, (hb.cell (p := ⟨b, _, none⟩) hlt).trans a1, (hb.cell (p := ⟨b, _, none⟩) hlt).trans a2, (hb.cell (p := ⟨b, _, none⟩) hlt).trans a3⟩
theorem WsAt.elem {W : World} {a : Option Addr} {l : List Wp} (h : WsAt W a l) {i : Nat} (hi : i < l.length) : ∃ b off, a = some ⟨b, off, none⟩ ∧ b < W.heap.size ∧ W.cell? ⟨b, off + i * 4, none⟩ = some (.int .i64 l[i].1.1) ∧ W.cell? ⟨b, off + i * 4 + 1, none⟩ = some (.int .i64 l[i].1.2.1) ∧ W.cell? ⟨b, off + i * 4 + 2, none⟩ = some (.string l[i].1.2.2) ∧ W.cell? ⟨b, off + i * 4 + 3, none⟩ = some (.int .i64 l[i].2) := by
 obtain ⟨_, h | ⟨b, off, e, hlt, hr⟩⟩ := h
 ·subst h; simp at hi
 ·exact ⟨b, off, e, hlt, hr i hi⟩
theorem own_ws {W : World} {B : Nat} {v : Value} {l : List Wp} (h : W.ownsRow B 161 4 v l.length (flatW l)) : ∃ a c, v = .slice a l.length c ∧ WsAt W a l := by
 have h' := h
 rcases h.2 with ⟨rfl, h0⟩ | ⟨g, cap, cur, rfl, _, _, hn, hc, _⟩
 ·have : l = [] := List.eq_nil_of_length_eq_zero h0
  subst this
  exact ⟨none, 0, rfl, Nat.zero_le _, .inl rfl⟩
 ·refine ⟨_, _, rfl, Nat.le_trans hn hc, .inr ⟨g, 0, rfl, (h'.lt g rfl).2, fun i hi => ?_⟩⟩
  obtain ⟨a0, a1, a2, a3⟩ := flatW_at l i hi
  refine ⟨?_, ?_, ?_, ?_⟩
  ·rw [h'.cellAt _ (by omega), ← a0]; congr 1; omega
  ·rw [h'.cellAt _ (by omega), ← a1]; congr 1; omega
  ·rw [h'.cellAt _ (by omega), ← a2]; congr 1; omega
  ·rw [h'.cellAt _ (by omega), ← a3]; congr 1; omega
/-- A value's number is nothing where its kind has none. -/
def NumB (v : Vl) : Prop := bareN v.1 v.2.1 = v.2.1
theorem numB_bare (v : Vl) : NumB (bareP v) := by
 unfold NumB bareP bareN
 by_cases h : v.1 = 2 ∨ v.1 = 3 <;> simp [h]
theorem numB_tri (o : Option Bool) : NumB (tri o) := by rcases o with _ | _ | _ <;> rfl
theorem numB_rec (c : Int) (a b : Vl) : NumB (recP c a b) := by
 unfold NumB recP
 generalize recO c a.1 a.2.1 b.1 b.2.1 = o
 cases o with
 | none => simp [optK, optN, bareN]
 | some n =>
  simp only [optK, optN, intK, intN]
  split <;> simp [bareN]
theorem numB_join (a b : Vl) : NumB (joinP a b) := by
 unfold NumB joinP
 generalize joinK a.1 a.2.2 b.1 b.2.2 = k
 simp [bareN]
theorem numB_two {k : Int} {a b : Vl} (ha : NumB a) (hb : NumB b) : NumB (twoP k a b) := by
 have h1 : NumB (andP a b) := by unfold andP; exact numB_tri _
 have h2 : NumB (orP a b) := by unfold orP; exact numB_tri _
 have h3 : ∀ a b, NumB (eqP a b) := fun a b => by unfold eqP; exact numB_tri _
 have h4 : ∀ a, NumB (notP a) := fun a => by unfold notP; exact numB_tri _
 have h5 : ∀ a b, NumB (ltP a b) := fun a b => by unfold ltP; exact numB_tri _
 have h6 := numB_rec 43 a b
 have h7 := numB_rec 45 a b
 have h8 := numB_rec 42 a b
 have h9 := numB_join a b
 have hc : NumB (coalP a b) := by
  unfold coalP
  split
  ·exact hb
  ·exact ha
 have n1 := h4 (eqP a b)
 have n2 := h4 (ltP a b)
 have n3 := h4 (ltP b a)
 have e1 := h3 a b
 have l1 := h5 a b
 have l2 := h5 b a
 clear h3 h4 h5
 unfold twoP
 by_cases k4 : k = 4
 ·rw [if_pos k4]; exact h1
 rw [if_neg k4]
 by_cases k5 : k = 5
 ·rw [if_pos k5]; exact h2
 rw [if_neg k5]
 by_cases k6 : k = 6
 ·rw [if_pos k6]; exact e1
 rw [if_neg k6]
 by_cases k7 : k = 7
 ·rw [if_pos k7]; exact n1
 rw [if_neg k7]
 by_cases k8 : k = 8
 ·rw [if_pos k8]; exact l1
 rw [if_neg k8]
 by_cases k11 : k = 11
 ·rw [if_pos k11]; exact n2
 rw [if_neg k11]
 by_cases k10 : k = 10
 ·rw [if_pos k10]; exact l2
 rw [if_neg k10]
 by_cases k9 : k = 9
 ·rw [if_pos k9]; exact n3
 rw [if_neg k9]
 by_cases k12 : k = 12
 ·rw [if_pos k12]; exact h6
 rw [if_neg k12]
 by_cases k13 : k = 13
 ·rw [if_pos k13]; exact h7
 rw [if_neg k13]
 by_cases k14 : k = 14
 ·rw [if_pos k14]; exact h8
 rw [if_neg k14]
 by_cases k15 : k = 15
 ·rw [if_pos k15]; exact h9
 rw [if_neg k15]
 exact hc
theorem numB_valX (row : List Vl) : ∀ x, NumB (valX row x) := Ex.ind fun k v c ks ih => by
 have hk : ∀ i, NumB ((valsX row ks).getD i vl0) := fun i => by
  rw [valsX_map]
  by_cases h : i < ks.length
  ·have : (ks.map (valX row)).getD i vl0 = valX row ks[i] := by simp [List.getD, h]
   rw [this]
   exact ih _ (List.getElem_mem h)
  ·have : (ks.map (valX row)).getD i vl0 = vl0 := by simp [List.getD, h]
   rw [this]
   rfl
 rw [valX]
 unfold nodeV
 split
 ·exact numB_bare _
 split
 ·exact numB_bare _
 split
 ·exact numB_tri _
 split
 ·exact numB_tri _
 split
 ·split
  ·exact hk 1
  ·exact hk 2
 ·exact numB_two (hk 0) (hk 1)
theorem num_bd {v : Vl} (h : wrongP v = 0) (hn : NumB v) : -1000000000000000 ≤ v.2.1 ∧ v.2.1 ≤ 1000000000000000 := by
 unfold NumB bareN at hn
 unfold wrongP wrongF at h
 split at hn
 ·rename_i hk
  rcases hk with hk | hk
  ·rw [hk] at h
   simp at h
   omega
  ·rw [hk] at h
   simp at h
   omega
 ·omega
/-- Values and how often they are there that may be added up. -/
structure WOk (l : List Wp) : Prop where
 len : l.length ≤ 400
 wt : ∀ p ∈ l, 0 ≤ p.2 ∧ p.2 ≤ 1000000
 right : ∀ p ∈ l, wrongP p.1 = 0
 num : ∀ p ∈ l, NumB p.1
def sumW : List Wp → Int
 | [] => 0
 | p :: r => p.2 + sumW r
theorem sumW_take {l : List Wp} {k : Nat} (h : k < l.length) : sumW (l.take (k + 1)) = sumW (l.take k) + l[k].2 := by
 have aux : ∀ (l : List Wp) (p : Wp), sumW (l ++ [p]) = sumW l + p.2 := by
  intro l p
  induction l with
  | nil => simp [sumW]
  | cons q r ih => rw [List.cons_append, sumW, sumW, ih]; omega
 rw [List.take_succ_eq_append_getElem h, aux]
theorem sumW_bd {l : List Wp} (h : ∀ p ∈ l, 0 ≤ p.2 ∧ p.2 ≤ 1000000) : 0 ≤ sumW l ∧ sumW l ≤ 1000000 * (l.length : Int) := by
 induction l with
 | nil => simp [sumW]
 | cons p r ih =>
  have h1 := h p (by simp)
  have h2 := ih fun q hq => h q (by simp [hq])
  rw [sumW, List.length_cons]
  omega
def countP (l : List Wp) : Vl := (3, sumW l, ⟨#[]⟩)

set_option maxRecDepth 100000 in
set_option maxHeartbeats 2000000 in
theorem count_at (a : Option Addr) (cap : Nat) (l : List Wp) (w : World) (h : WsAt w a l) (hok : WOk l) :
  Calls Tryz.prog 134 #[.slice a l.length cap] w fun e w' => e = .returned (agV (countP l)) ∧ Below w.heap.size w w' := by
 have hl := hok.len
 have HK : Hid (WOk l) := hok
 clear hok
 have hal0 : Below w.heap.size w (w.alloc (.cells #[.int .i64 0, .int .i64 0, .string ⟨#[]⟩] 24)) := (Below.refl _ _).alloc (Nat.le_refl _) _
 have q00 := heap_new w #[.int .i64 0, .int .i64 0, .string ⟨#[]⟩] 24
 unfold agV countP
 generalize hs : sumW l = s
 have HS : Hid (sumW l = s) := hs
 clear hs
 go_enter Tryz.func134, Tryz.ntmps134
 go_wp2_with fail
 generalize w.alloc (.cells #[.int .i64 0, .int .i64 0, .string ⟨#[]⟩] 24) = w0 at *
 go_loopw [3, 8] (fun v i wr => ∃ (k : Nat) (n : Int), k ≤ l.length ∧ i = .int .i64 k ∧ v = .int .i64 n ∧ Hid (n = sumW (l.take k)) ∧ 0 ≤ n ∧ n ≤ 1000000 * (k : Int) ∧ Below w0.heap.size w0 wr) (fun _ i _ => l.length - (intOf i).toNat)
 case atStart => exact ⟨0, 0, Nat.zero_le _, rfl, rfl, rfl, by omega, by omega, Below.refl _ _⟩
 case round =>
  obtain ⟨k, n, hk, rfl, rfl, HN, hn0, hn1, hb⟩ := hrel
  have hA := chain hal0 hb
  by_cases hlt : k < l.length
  ·obtain ⟨b, off, rfl, hbl, c0, c1, c2, c3⟩ := (h.next hA).elem hlt
   have hw := HK.out.wt _ (List.getElem_mem hlt)
   have hal : Below wr.heap.size wr (wr.alloc (.cells #[.int .i64 l[k].1.1, .int .i64 l[k].1.2.1, .string l[k].1.2.2, .int .i64 l[k].2] 161)) := (Below.refl _ _).alloc (Nat.le_refl _) _
   have HN' : Hid (n + l[k].2 = sumW (l.take (k + 1))) := by show _ = _; rw [sumW_take hlt, HN.out]
   go_wp2_with fail
   go_roundw
   case rel => exact ⟨k + 1, n + l[k].2, by omega, by go_num, rfl, HN', by omega, by omega, chain hb hal⟩
   case measure => simp [intOf]; omega
  ·have e : k = l.length := by omega
   subst e
   have es : n = s := by rw [HN.out, List.take_length, HS.out]
   subst es
   have con := int_in n wr (by simp [inB]; omega)
   have c0 : w0.cell? ⟨w.heap.size, 0, none⟩ = some (.int .i64 0) := cell_of (i := 0) q00 rfl
   go_wp2_with fail
   refine con.mono ?_
   rintro e w2 ⟨rfl, hb2⟩
   clear con
   have q2 := ((chain hb hb2).block _ (lt_of_heap q00)).trans q00
   have d0 : w2.cell? ⟨w.heap.size, 0, none⟩ = some (.int .i64 0) := cell_of (i := 0) q2 rfl
   have d1 : w2.cell? ⟨w.heap.size, 1, none⟩ = some (.int .i64 0) := cell_of (i := 1) q2 rfl
   have d2 : w2.cell? ⟨w.heap.size, 2, none⟩ = some (.string ⟨#[]⟩) := cell_of (i := 2) q2 rfl
   have f0 : w2.frozen? ⟨w.heap.size, 0, none⟩ = false := frozen_of_row w2 w.heap.size 0 _ _ q2
   have f1 : w2.frozen? ⟨w.heap.size, 1, none⟩ = false := frozen_of_row w2 w.heap.size 1 _ _ q2
   have f2 : w2.frozen? ⟨w.heap.size, 2, none⟩ = false := frozen_of_row w2 w.heap.size 2 _ _ q2
   have hA2 := chain hA hb2
   go_wp2_with fail
   exact bodyPost_ret (v := .agg #[.int .i64 3, .int .i64 n, .string ⟨#[]⟩]) (by simp [results, Tryz.results134, go_sem, d0, d1, d2]) rfl ⟨rfl, ((hA2.setCell (p := ⟨w.heap.size, 0, none⟩) (Nat.le_refl _) _).setCell (p := ⟨w.heap.size, 1, none⟩) (Nat.le_refl _) _).setCell (p := ⟨w.heap.size, 2, none⟩) (Nat.le_refl _) _⟩
end Go.Proofs.YtfojonhblblbjaaGreat
/- Aggregates as function values. -/
namespace Go.Proofs.YtfojonhblblbjaaGreat
open Go.RowKit Go.Lib Go.Shelf

/-- Rows of a part: of the columns, there, and not too many. -/
structure ROk (cols : List Int) (rows : List Zp) : Prop where
 len : rows.length ≤ 400
 fit : ∀ p ∈ rows, FitP cols p.1
 wt : ∀ p ∈ rows, 0 ≤ p.2 ∧ p.2 ≤ 1000000
theorem ROk.known {cols : List Int} {rows : List Zp} (h : ROk cols rows) {f : List Vl → Vl} (hf : ∀ row, FitP cols row → wrongP (f row) = 0 ∧ NumB (f row)) : WOk (knownL f rows) := by
 have hm : ∀ p ∈ knownL f rows, ∃ q ∈ rows, p = (f q.1, q.2) := fun p hp => by
  unfold knownL at hp
  obtain ⟨q, hq, e⟩ := List.mem_filterMap.1 hp
  split at e
  ·cases e
  ·exact ⟨q, hq, (Option.some.inj e).symm⟩
 refine ⟨Nat.le_trans (knownL_len f rows) h.len, fun p hp => ?_, fun p hp => ?_, fun p hp => ?_⟩
 ·obtain ⟨q, hq, rfl⟩ := hm p hp; exact h.wt q hq
 ·obtain ⟨q, hq, rfl⟩ := hm p hp; exact (hf _ (h.fit q hq)).1
 ·obtain ⟨q, hq, rfl⟩ := hm p hp; exact (hf _ (h.fit q hq)).2
/-- A function value makes T of what is known, as long as all from lo on is as it was. -/
def TotF (lo : Nat) (u : Value) (T : List Wp → Vl) (w : World) : Prop :=
 ∃ g cb, u = .func (.func g) #[] cb ∧ (∀ args w, (callFunc g args).run Tryz.prog w = .ok (.enter g args) w) ∧
  ∀ (l : List Wp) (a : Option Addr) (cap : Nat) (W : World), WOk l → WsAt W a l → Since lo w W →
   Calls Tryz.prog g (#[.slice a l.length cap] ++ cb) W fun e w' => e = .returned (agV (T l)) ∧ Below W.heap.size W w'
theorem TotF.next {lo : Nat} {u : Value} {T : List Wp → Vl} {w w1 : World} (h : TotF lo u T w) (hb : Since lo w w1) : TotF lo u T w1 := by
 obtain ⟨g, cb, e, eg, hd⟩ := h
 exact ⟨g, cb, e, eg, fun l a cap W hk hs hW => hd l a cap W hk hs (hb.trans hW)⟩
theorem TotF.down {lo lo' : Nat} {u : Value} {T : List Wp → Vl} {w : World} (h : TotF lo u T w) (hl : lo' ≤ lo) : TotF lo' u T w := by
 obtain ⟨g, cb, e, eg, hd⟩ := h
 exact ⟨g, cb, e, eg, fun l a cap W hk hs hW => hd l a cap W hk hs (hW.up hl)⟩
/-- A function value makes F of rows. -/
def RowsF (cols : List Int) (lo : Nat) (u : Value) (F : List Zp → Vl) (w : World) : Prop :=
 ∃ g cb, u = .func (.func g) #[] cb ∧ (∀ args w, (callFunc g args).run Tryz.prog w = .ok (.enter g args) w) ∧
  ∀ (rows : List Zp) (a : Option Addr) (cap : Nat) (W : World), ROk cols rows → ZsAt W a rows → Since lo w W →
   Calls Tryz.prog g (#[.slice a rows.length cap] ++ cb) W fun e w' => e = .returned (agV (F rows)) ∧ Below W.heap.size W w'
theorem RowsF.next {cols : List Int} {lo : Nat} {u : Value} {F : List Zp → Vl} {w w1 : World} (h : RowsF cols lo u F w) (hb : Since lo w w1) : RowsF cols lo u F w1 := by
 obtain ⟨g, cb, e, eg, hd⟩ := h
 exact ⟨g, cb, e, eg, fun l a cap W hk hs hW => hd l a cap W hk hs (hb.trans hW)⟩
theorem RowsF.down {cols : List Int} {lo lo' : Nat} {u : Value} {F : List Zp → Vl} {w : World} (h : RowsF cols lo u F w) (hl : lo' ≤ lo) : RowsF cols lo' u F w := by
 obtain ⟨g, cb, e, eg, hd⟩ := h
 exact ⟨g, cb, e, eg, fun l a cap W hk hs hW => hd l a cap W hk hs (hW.up hl)⟩

set_option maxRecDepth 100000 in
set_option maxHeartbeats 2000000 in
theorem agg1_at (cols : List Int) (lo : Nat) (ut uv : Value) (T : List Wp → Vl) (f : List Vl → Vl) (hfr : ∀ row, FitP cols row → wrongP (f row) = 0 ∧ NumB (f row)) (tb vb : Nat) (a : Option Addr) (cap : Nat) (rows : List Zp) (W : World) (c0 : W.cell? ⟨tb, 0, none⟩ = some ut) (c1 : W.cell? ⟨vb, 0, none⟩ = some uv) (hT : TotF lo ut T W) (hV : Asks cols lo uv f W) (hr : ROk cols rows) (h : ZsAt W a rows) :
  Calls Tryz.prog 94 #[.slice a rows.length cap, .pointer (some ⟨tb, 0, none⟩), .pointer (some ⟨vb, 0, none⟩)] W fun e w' => e = .returned (agV (T (knownL f rows))) ∧ Below W.heap.size W w' := by
 have hV' := hV
 obtain ⟨gv, cv, rfl, _, _⟩ := hV'
 have hT' := hT
 obtain ⟨gt, ct, rfl, egt, dt⟩ := hT'
 have HDt : Hid (∀ (l : List Wp) (a : Option Addr) (cap : Nat) (W' : World), WOk l → WsAt W' a l → Since lo W W' → Calls Tryz.prog gt (#[.slice a l.length cap] ++ ct) W' fun e w' => e = .returned (agV (T l)) ∧ Below W'.heap.size W' w') := dt
 have HV : Hid (Asks cols lo (.func (.func gv) #[] cv) f W) := hV
 have HW : Hid (WOk (knownL f rows)) := hr.known hfr
 have HR : Hid (ROk cols rows) := hr
 clear hV hT dt hr hfr
 have hal : Below W.heap.size W (W.alloc (.cells #[.int .i64 0, .int .i64 0, .string ⟨#[]⟩] 24)) := (Below.refl _ _).alloc (Nat.le_refl _) _
 have q0 := heap_new W #[.int .i64 0, .int .i64 0, .string ⟨#[]⟩] 24
 generalize hres : T (knownL f rows) = res
 have HRes : Hid (T (knownL f rows) = res) := hres
 clear hres
 go_enter Tryz.func94, Tryz.ntmps94
 go_wp2_with fail
 generalize W.alloc (.cells #[.int .i64 0, .int .i64 0, .string ⟨#[]⟩] 24) = w0 at *
 have d0 := (hal.cell (p := ⟨tb, 0, none⟩) (World.block_lt_of_cell? _ _ c0)).trans c0
 have d1 := (hal.cell (p := ⟨vb, 0, none⟩) (World.block_lt_of_cell? _ _ c1)).trans c1
 have lt0 : tb < W.heap.size := World.block_lt_of_cell? _ _ c0
 have lt1 : vb < W.heap.size := World.block_lt_of_cell? _ _ c1
 have hCC : ∀ X X' : World, (X.cell? ⟨tb, 0, none⟩ = some (.func (.func gt) #[] ct) ∧ X.cell? ⟨vb, 0, none⟩ = some (.func (.func gv) #[] cv)) → Below X.heap.size X X' → (X'.cell? ⟨tb, 0, none⟩ = some (.func (.func gt) #[] ct) ∧ X'.cell? ⟨vb, 0, none⟩ = some (.func (.func gv) #[] cv)) := fun X X' h hb => ⟨(hb.cell (World.block_lt_of_cell? _ _ h.1)).trans h.1, (hb.cell (World.block_lt_of_cell? _ _ h.2)).trans h.2⟩
 have hdr : Below w0.heap.size w0 w0.drew := (Below.refl _ _).drew
 have CW : (w0.drew.cell? ⟨tb, 0, none⟩ = some (.func (.func gt) #[] ct) ∧ w0.drew.cell? ⟨vb, 0, none⟩ = some (.func (.func gv) #[] cv)) := hCC _ _ ⟨d0, d1⟩ hdr
 clear c0 c1
 refine wp_region_cls (fun X => (X.cell? ⟨tb, 0, none⟩ = some (.func (.func gt) #[] ct) ∧ X.cell? ⟨vb, 0, none⟩ = some (.func (.func gv) #[] cv))) (by kernel_rfl) ?_
 refine wpY_take hCC (some 5) (i := 0) (v := .func (.func gt) #[] ct) rfl rfl (by kernel_rfl) (by kernel_rfl) (by kernel_rfl) (fun _ _ _ h => h) (Or.inl ⟨rfl, fun n hn => ?_⟩) CW ?_
 ·have hc := hn.1
  go_simp
 simp only [Act.put, List.setIfInBounds_toArray, List.set_cons_zero, List.set_cons_succ]
 refine wpY_take hCC (some 6) (i := 1) (v := .slice a rows.length cap) rfl rfl (by kernel_rfl) (by kernel_rfl) (by kernel_rfl) (fun _ _ _ h => h) (Or.inl ⟨rfl, fun n hn => ?_⟩) CW ?_
 ·go_simp
 simp only [Act.put, List.setIfInBounds_toArray, List.set_cons_zero, List.set_cons_succ]
 refine wpY_take hCC (some 7) (i := 2) (v := .func (.func gv) #[] cv) rfl rfl (by kernel_rfl) (by kernel_rfl) (by kernel_rfl) (fun _ _ _ h => h) (Or.inl ⟨rfl, fun n hn => ?_⟩) CW ?_
 ·have hc := hn.2
  go_simp
 simp only [Act.put, List.setIfInBounds_toArray, List.set_cons_zero, List.set_cons_succ]
 refine wpY_step (rs := [3]) (by kernel_rfl) (by simp) ?_
 intro w3 hb3 jj hj
 obtain rfl : jj = 3 := by simpa using hj
 clear hj
 have CW3 := hCC _ _ CW hb3
 have D3 := chain hal (chain hdr hb3)
 have con := known_at cols lo _ f a cap rows w3 (HV.out.next (Since.of D3)) (h.next D3) HR.out.fit HR.out.len
 refine wpOp_step rfl (fun K hK => ?_)
 go_simp
 refine con.mono ?_
 rintro e w4 ⟨v4, rfl, O4, hb4⟩
 clear con
 obtain ⟨a4, c4, rfl, S4⟩ := own_ws O4
 have CW4 := hCC _ _ CW3 hb4
 have D4 := chain D3 hb4
 refine hK _ _ ⟨CW4, ?_⟩
 clear hK K O4
 refine wpY_step (rs := [4]) (by kernel_rfl) (by simp) ?_
 intro w5 hb5 jj hj
 obtain rfl : jj = 4 := by simpa using hj
 clear hj
 have CW5 := hCC _ _ CW4 hb5
 have D5 := chain D4 hb5
 have con := HDt.out (knownL f rows) a4 c4 w5 HW.out (S4.next hb5) (Since.of D5)
 rw [HRes.out] at con
 refine wpOp_step rfl (fun K hK => ?_)
 go_simp
 first | (refine con.mono ?_) | (go_at_fn gt; refine con.mono ?_)
 rintro e w6 ⟨rfl, hb6⟩
 clear con
 have CW6 := hCC _ _ CW5 hb6
 have D6 := chain D5 hb6
 refine hK _ _ ⟨CW6, ?_⟩
 clear hK K
 refine wpY_step (rs := [5]) (by kernel_rfl) (by simp) ?_
 intro w7 hb7 jj hj
 obtain rfl : jj = 5 := by simpa using hj
 clear hj
 have CW7 := hCC _ _ CW6 hb7
 have D7 := chain D6 hb7
 have q7 : w7.heap[W.heap.size]? = some (.cells #[.int .i64 0, .int .i64 0, .string ⟨#[]⟩] 24 (0, 0)) := ((chain hdr (chain hb3 (chain hb4 (chain hb5 (chain hb6 hb7))))).block _ (lt_of_heap q0)).trans q0
 have e0 : w7.cell? ⟨W.heap.size, 0, none⟩ = some (.int .i64 0) := cell_of (i := 0) q7 rfl
 have e1 : w7.cell? ⟨W.heap.size, 1, none⟩ = some (.int .i64 0) := cell_of (i := 1) q7 rfl
 have e2 : w7.cell? ⟨W.heap.size, 2, none⟩ = some (.string ⟨#[]⟩) := cell_of (i := 2) q7 rfl
 have f0 : w7.frozen? ⟨W.heap.size, 0, none⟩ = false := frozen_of_row w7 W.heap.size 0 _ _ q7
 have f1 : w7.frozen? ⟨W.heap.size, 1, none⟩ = false := frozen_of_row w7 W.heap.size 1 _ _ q7
 have f2 : w7.frozen? ⟨W.heap.size, 2, none⟩ = false := frozen_of_row w7 W.heap.size 2 _ _ q7
 have ne0 : ∀ o u (X : World), (X.setCell ⟨W.heap.size, o, none⟩ u).cell? ⟨tb, 0, none⟩ = X.cell? ⟨tb, 0, none⟩ := fun o u X => World.cell?_setCell_other _ _ _ _ (by intro e; injection e with e; omega)
 have ne1 : ∀ o u (X : World), (X.setCell ⟨W.heap.size, o, none⟩ u).cell? ⟨vb, 0, none⟩ = X.cell? ⟨vb, 0, none⟩ := fun o u X => World.cell?_setCell_other _ _ _ _ (by intro e; injection e with e; omega)
 unfold agV
 refine wpOp_step rfl (fun K hK => ?_)
 go_simp
 refine hK _ _ ⟨⟨by rw [ne0, ne0, ne0]; exact CW7.1, by rw [ne1, ne1, ne1]; exact CW7.2⟩, ?_⟩
 clear hK K CW3 CW4 CW5 CW6
 have B8 : Below W.heap.size W (((w7.setCell ⟨W.heap.size, 0, none⟩ (.int .i64 res.1)).setCell ⟨W.heap.size, 1, none⟩ (.int .i64 res.2.1)).setCell ⟨W.heap.size, 2, none⟩ (.string res.2.2)) := ((D7.setCell (p := ⟨W.heap.size, 0, none⟩) (Nat.le_refl _) _).setCell (p := ⟨W.heap.size, 1, none⟩) (Nat.le_refl _) _).setCell (p := ⟨W.heap.size, 2, none⟩) (Nat.le_refl _) _
 have g0 : (((w7.setCell ⟨W.heap.size, 0, none⟩ (.int .i64 res.1)).setCell ⟨W.heap.size, 1, none⟩ (.int .i64 res.2.1)).setCell ⟨W.heap.size, 2, none⟩ (.string res.2.2)).cell? ⟨W.heap.size, 0, none⟩ = some (.int .i64 res.1) := by simp [go_sem, e0]
 have g1 : (((w7.setCell ⟨W.heap.size, 0, none⟩ (.int .i64 res.1)).setCell ⟨W.heap.size, 1, none⟩ (.int .i64 res.2.1)).setCell ⟨W.heap.size, 2, none⟩ (.string res.2.2)).cell? ⟨W.heap.size, 1, none⟩ = some (.int .i64 res.2.1) := by simp [go_sem, e1]
 have g2 : (((w7.setCell ⟨W.heap.size, 0, none⟩ (.int .i64 res.1)).setCell ⟨W.heap.size, 1, none⟩ (.int .i64 res.2.1)).setCell ⟨W.heap.size, 2, none⟩ (.string res.2.2)).cell? ⟨W.heap.size, 2, none⟩ = some (.string res.2.2) := by simp [go_sem, e2]
 have l8 : W.heap.size < (((w7.setCell ⟨W.heap.size, 0, none⟩ (.int .i64 res.1)).setCell ⟨W.heap.size, 1, none⟩ (.int .i64 res.2.1)).setCell ⟨W.heap.size, 2, none⟩ (.string res.2.2)).heap.size := World.block_lt_of_cell? _ _ g0
 clear e0 e1 e2 f0 f1 f2 q7 CW7 ne0 ne1
 generalize (((w7.setCell ⟨W.heap.size, 0, none⟩ (.int .i64 res.1)).setCell ⟨W.heap.size, 1, none⟩ (.int .i64 res.2.1)).setCell ⟨W.heap.size, 2, none⟩ (.string res.2.2)) = w8 at *
 refine wpY_done (by kernel_rfl) ?_
 intro w9 hb9
 have k0 := (hb9.cell (p := ⟨W.heap.size, 0, none⟩) l8).trans g0
 have k1 := (hb9.cell (p := ⟨W.heap.size, 1, none⟩) l8).trans g1
 have k2 := (hb9.cell (p := ⟨W.heap.size, 2, none⟩) l8).trans g2
 have B9 := chain B8 hb9
 clear g0 g1 g2 CW hCC
 go_wp2_with fail
 exact bodyPost_ret (v := .agg #[.int .i64 res.1, .int .i64 res.2.1, .string res.2.2]) (by simp [results, Tryz.results94, go_sem, k0, k1, k2]) rfl ⟨rfl, B9⟩

/-- Function values in a slice in a variable: what they make of rows. -/
def KidsR (cols : List Int) (lo : Nat) (W : World) (kb : Nat) (Fs : List (List Zp → Vl)) : Prop :=
 ∃ K, lo ≤ kb ∧ kb < W.heap.size ∧ lo ≤ K ∧ K < W.heap.size ∧ W.cell? ⟨kb, 0, none⟩ = some (.slice (some ⟨K, 0, none⟩) Fs.length Fs.length) ∧
  ∀ (i : Nat) (h : i < Fs.length), ∃ u, W.cell? ⟨K, i, none⟩ = some u ∧ RowsF cols lo u Fs[i] W
theorem KidsR.next {cols : List Int} {lo : Nat} {W w1 : World} {kb : Nat} {Fs : List (List Zp → Vl)} (h : KidsR cols lo W kb Fs) (hb : Since lo W w1) : KidsR cols lo w1 kb Fs := by
 obtain ⟨K, h1, h2, h3, h4, h5, h6⟩ := h
 refine ⟨K, h1, Nat.lt_of_lt_of_le h2 hb.1, h3, Nat.lt_of_lt_of_le h4 hb.1, (hb.cell (p := ⟨kb, 0, none⟩) h1 h2).trans h5, fun i hi => ?_⟩
 obtain ⟨u, c, a⟩ := h6 i hi
 exact ⟨u, (hb.cell (p := ⟨K, i, none⟩) h3 h4).trans c, a.next hb⟩

set_option maxHeartbeats 1000000 in
theorem agg2_at (cols : List Int) (lo : Nat) (vb : Nat) (Fs : List (List Zp → Vl)) (a : Option Addr) (rows : List Zp) (cap : Nat) (W : World) (hK : KidsR cols lo W vb Fs) (h8 : Fs.length ≤ 8) (hr : ROk cols rows) (hs : ZsAt W a rows) :
  Calls Tryz.prog 96 #[.slice a rows.length cap, .pointer (some ⟨vb, 0, none⟩)] W fun e w' => e = .returned (.slice (some ⟨W.heap.size, 0, none⟩) Fs.length Fs.length) ∧ RowNew W.heap.size w' (Fs.map fun F => F rows) ∧ Below W.heap.size W w' := by
 obtain ⟨i0, hi, hz0, hz1, hz2⟩ := info_parts Tryz.info49
 obtain ⟨K, k1, k2, k3, k4, k5, k6⟩ := hK
 have HK : Hid (∀ (i : Nat) (h : i < Fs.length), ∃ u, W.cell? ⟨K, i, none⟩ = some u ∧ RowsF cols lo u Fs[i] W) := k6
 go_enter Tryz.func96, Tryz.ntmps96
 go_wp2_with (first | (at_make; refine wpList_make_full _ rfl _ _ 51 rfl W.heap.size 24 i0 _ 3 Tryz.underlying51 hi hz0 hz1 .i64 .i64 Fs.length Fs.length Fs.length rfl rfl rfl rfl (by rw [hz2]; omega) (by unfold maxLen; omega) (Nat.le_refl _) ?_))
 intro w1 hown hgrow
 have hb0 : Below W.heap.size W w1 := (Below.refl _ _).grown hgrow (Nat.le_refl _) (by simp)
 have hB0 : VTo w1 W.heap.size Fs.length (fun j => (Fs.getD j (fun _ => vl0)) rows) 0 := ⟨_, hown, fun j _ hj => absurd hj (Nat.not_lt_zero _)⟩
 have c1 := (hb0.cell (p := ⟨vb, 0, none⟩) k2).trans k5
 clear hown hgrow k5 k6
 go_wp2_with fail
 clear c1
 go_loopw [12] (fun i wr => ∃ k : Nat, k ≤ Fs.length ∧ i = .int .i64 k ∧ VTo wr W.heap.size Fs.length (fun j => (Fs.getD j (fun _ => vl0)) rows) k ∧ Below W.heap.size W wr) (fun i _ => Fs.length - (intOf i).toNat)
 case atStart => exact ⟨0, Nat.zero_le _, rfl, hB0, hb0⟩
 case round =>
  obtain ⟨k, hk, rfl, HB, hb⟩ := hrel
  have hz := hb.size
  by_cases hlt : k < Fs.length
  ·obtain ⟨u, cu, A⟩ := HK.out k hlt
   have cu := (hb.cell (p := ⟨K, k, none⟩) k4).trans cu
   obtain ⟨g, cb, rfl, eg, d⟩ := A
   have d := d rows a cap wr hr (hs.next hb) (Since.of hb)
   have ev : Fs[k] rows = (fun j => (Fs.getD j (fun _ => vl0)) rows) k := by simp [List.getD, hlt]
   rw [ev] at d
   generalize (fun j => (Fs.getD j (fun _ => vl0)) rows) = f at *
   have i0 : (0 : Int) ≤ (k : Int) := by omega
   have i1 : (k : Int) < (Fs.length : Int) := by omega
   go_wp2_with (go_at_fn g; refine d.mono ?_; rintro e w2 ⟨rfl, hb2⟩; have HB2 := HB.next hb2; obtain ⟨⟨u0, u1, u2, d0, d1, d2⟩, f0, f1, f2, hlb⟩ := HB2.cells hlt; have zz := hb2.size)
   go_roundw
   case rel =>
    refine ⟨k + 1, by omega, by go_num, ?_, ?_⟩
    ·exact HB2.step hlt
    ·exact (((chain hb hb2).setCell (p := ⟨W.heap.size, k * 3, none⟩) (Nat.le_refl _) _).setCell (p := ⟨W.heap.size, k * 3 + 1, none⟩) (Nat.le_refl _) _).setCell (p := ⟨W.heap.size, k * 3 + 2, none⟩) (Nat.le_refl _) _
   case measure => simp [intOf]; omega
  ·have e : k = Fs.length := by omega
   subst e
   go_wp2_with fail
   go_ret
   exact ⟨rfl, HB.done (Fs.map fun F : List Zp → Vl => F rows) (by simp) (fun j hj => by simp at hj; simp [List.getD, hj]) (by simp; omega), hb⟩
end Go.Proofs.YtfojonhblblbjaaGreat
/- What an aggregate asks; aggregates. -/
namespace Go.Proofs.YtfojonhblblbjaaGreat
open Go.RowKit Go.Lib Go.Shelf

/-- A kind, and an expression. -/
abbrev Ag : Type := Int × Ex
def measE (cols : List Int) (g : Ag) : Int := if g.1 = 1 then 0 else if g.1 < 2 ∨ 5 < g.1 then 1 else if (typeTop cols g.2).2 ≠ 0 then (typeTop cols g.2).2 else if g.1 = 3 ∧ (typeTop cols g.2).1 ≠ 3 ∧ (typeTop cols g.2).1 ≠ 1 then 9 else 0
def measF (g : Ag) : List Vl → Vl := if g.1 = 1 then fun _ => (2, 1, ⟨#[]⟩) else fun row => valX row g.2
theorem measF_right {cols : List Int} {g : Ag} (h : measE cols g = 0) : ∀ row, FitP cols row → wrongP (measF g row) = 0 ∧ NumB (measF g row) := by
 intro row hf
 unfold measF
 split
 ·exact ⟨by simp [wrongP, wrongF], rfl⟩
 ·rename_i h1
  unfold measE at h
  rw [if_neg h1] at h
  by_cases h2 : g.1 < 2 ∨ 5 < g.1
  ·rw [if_pos h2] at h; cases h
  ·rw [if_neg h2] at h
   by_cases h3 : (typeTop cols g.2).2 = 0
   ·exact ⟨(valX_of hf g.2 _ (typ_of h3)).1, numB_valX row g.2⟩
   ·rw [if_pos h3] at h; exact absurd h h3
def sumN : List Wp → Int
 | [] => 0
 | p :: r => p.2 * p.1.2.1 + sumN r
def sumP (l : List Wp) : Vl := if l = [] then (1, 0, ⟨#[]⟩) else if inB (sumN l) = true then (3, sumN l, ⟨#[]⟩) else (1, 0, ⟨#[]⟩)
def minP : List Wp → Vl
 | [] => (1, 0, ⟨#[]⟩)
 | p :: r => r.foldl (fun m x => if cmpP x.1 m < 0 then x.1 else m) p.1
def maxP : List Wp → Vl
 | [] => (1, 0, ⟨#[]⟩)
 | p :: r => r.foldl (fun m x => if 0 < cmpP x.1 m then x.1 else m) p.1
def totP (k : Int) (l : List Wp) : Vl := if k = 3 then sumP l else if k = 4 then minP l else if k = 5 then maxP l else countP l
/-- What an aggregate comes to. -/
def aggP (g : Ag) (rows : List Zp) : Vl := totP g.1 (knownL (measF g) rows)
/-- What is wrong with aggregates. -/
def aggsE (cols : List Int) : List Ag → Int
 | [] => 0
 | g :: r => if measE cols g = 0 then aggsE cols r else measE cols g
theorem aggsE_next (cols : List Int) (gs : List Ag) (j : Nat) (h : j < gs.length) (h0 : measE cols gs[j] = 0) : aggsE cols (gs.drop j) = aggsE cols (gs.drop (j + 1)) := by
 rw [List.drop_eq_getElem_cons h, aggsE, if_pos h0]
theorem aggsE_bad (cols : List Int) (gs : List Ag) (j : Nat) (h : j < gs.length) (h0 : ¬ measE cols gs[j] = 0) : aggsE cols (gs.drop j) = measE cols gs[j] := by
 rw [List.drop_eq_getElem_cons h, aggsE, if_neg h0]
/-- Aggregates in memory. -/
def AgAt (B : Nat) (W : World) (a : Option Addr) (l : List Ag) : Prop := l = [] ∨ ∃ (b off : Nat) (ai : Nat → Option Addr) (cap : Nat → Nat), a = some ⟨b, off, none⟩ ∧ b < B ∧ ∀ (i : Nat) (h : i < l.length), W.cell? ⟨b, off + i * 7, none⟩ = some (.int .i64 l[i].1) ∧ Six W b (off + i * 7 + 1) l[i].2.k l[i].2.v l[i].2.c (ai i) l[i].2.ks.length (cap i) ∧ KsAt B W (ai i) l[i].2.ks
theorem AgAt.next {B B' : Nat} {W w1 : World} (hb : Below B' W w1) (hB : B ≤ B') {a : Option Addr} {l : List Ag} (h : AgAt B W a l) : AgAt B w1 a l := by
 rcases h with h | ⟨b, off, ai, cap, e, hlt, h⟩
 ·exact .inl h
 ·refine .inr ⟨b, off, ai, cap, e, hlt, fun i hi => ?_⟩
  obtain ⟨h1, h2, h3⟩ := h i hi
  exact ⟨(hb.cell (p := ⟨b, _, none⟩) (Nat.lt_of_lt_of_le hlt hB)).trans h1, h2.next hb (Nat.lt_of_lt_of_le hlt hB), KsAt.next hb hB h3⟩
theorem AgAt.up {B B' : Nat} {W : World} (hB : B ≤ B') {a : Option Addr} {l : List Ag} (h : AgAt B W a l) : AgAt B' W a l := by
 rcases h with h | ⟨b, off, ai, cap, e, hlt, h⟩
 ·exact .inl h
 ·refine .inr ⟨b, off, ai, cap, e, Nat.lt_of_lt_of_le hlt hB, fun i hi => ?_⟩
  obtain ⟨h1, h2, h3⟩ := h i hi
  exact ⟨h1, h2, h3.up hB⟩
theorem AgAt.elem {B : Nat} {W : World} {a : Option Addr} {l : List Ag} (h : AgAt B W a l) {i : Nat} (hi : i < l.length) : ∃ b off ai ci, a = some ⟨b, off, none⟩ ∧ b < B ∧ W.cell? ⟨b, off + i * 7, none⟩ = some (.int .i64 l[i].1) ∧ Six W b (off + i * 7 + 1) l[i].2.k l[i].2.v l[i].2.c ai l[i].2.ks.length ci ∧ KsAt B W ai l[i].2.ks := by
 rcases h with h | ⟨b, off, ai, cap, e, hlt, h⟩
 ·subst h; simp at hi
 ·exact ⟨b, off, ai i, cap i, e, hlt, h i hi⟩

set_option maxHeartbeats 400000 in
theorem meas1_at (a : Option Addr) (n cap : Nat) (w : World) : Calls Tryz.prog 128 #[.slice a n cap] w fun e w' => e = .returned (.agg #[.int .i64 2, .int .i64 1, .string ⟨#[]⟩]) ∧ Below w.heap.size w w' := by
 have hal : Below w.heap.size w (w.alloc (.cells #[.int .i64 0, .int .i64 0, .string ⟨#[]⟩] 24)) := (Below.refl _ _).alloc (Nat.le_refl _) _
 have q0 := heap_new w #[.int .i64 0, .int .i64 0, .string ⟨#[]⟩] 24
 go_enter Tryz.func128, Tryz.ntmps128
 go_wp2_with fail
 generalize w.alloc (.cells #[.int .i64 0, .int .i64 0, .string ⟨#[]⟩] 24) = w0 at *
 refine (bool_true w0).mono ?_
 rintro e w2 ⟨rfl, hb2⟩
 have q2 := (hb2.block _ (lt_of_heap q0)).trans q0
 have d0 : w2.cell? ⟨w.heap.size, 0, none⟩ = some (.int .i64 0) := cell_of (i := 0) q2 rfl
 have d1 : w2.cell? ⟨w.heap.size, 1, none⟩ = some (.int .i64 0) := cell_of (i := 1) q2 rfl
 have d2 : w2.cell? ⟨w.heap.size, 2, none⟩ = some (.string ⟨#[]⟩) := cell_of (i := 2) q2 rfl
 have f0 : w2.frozen? ⟨w.heap.size, 0, none⟩ = false := frozen_of_row w2 w.heap.size 0 _ _ q2
 have f1 : w2.frozen? ⟨w.heap.size, 1, none⟩ = false := frozen_of_row w2 w.heap.size 1 _ _ q2
 have f2 : w2.frozen? ⟨w.heap.size, 2, none⟩ = false := frozen_of_row w2 w.heap.size 2 _ _ q2
 have hA2 := chain hal hb2
 go_wp2_with fail
 exact bodyPost_ret (v := .agg #[.int .i64 2, .int .i64 1, .string ⟨#[]⟩]) (by simp [results, Tryz.results128, go_sem, d0, d1, d2]) rfl ⟨rfl, ((hA2.setCell (p := ⟨w.heap.size, 0, none⟩) (Nat.le_refl _) _).setCell (p := ⟨w.heap.size, 1, none⟩) (Nat.le_refl _) _).setCell (p := ⟨w.heap.size, 2, none⟩) (Nat.le_refl _) _⟩

set_option maxRecDepth 100000 in
set_option maxHeartbeats 2000000 in
theorem measuredOk_at (cols : List Int) (g : Ag) (ca : Option Addr) (ccap : Nat) (a : Option Addr) (cap : Nat) (w : World) (hk : KsAt w.heap.size w a g.2.ks) (hc : IsAt w.heap.size w ca cols) (h : measE cols g = 0) :
  Calls Tryz.prog 92 #[.slice ca cols.length ccap, .agg #[.int .i64 g.1, .int .i64 g.2.k, .int .i64 g.2.v.1, .int .i64 g.2.v.2.1, .string g.2.v.2.2, .int .i64 g.2.c, .slice a g.2.ks.length cap]] w fun e w' => ∃ u, e = .returned (.tuple #[u, .int .i64 0]) ∧ Asks cols w.heap.size u (measF g) w' ∧ Below w.heap.size w w' := by
 have hal : Below w.heap.size w (w.alloc (.cells #[.int .i64 g.1, .int .i64 g.2.k, .int .i64 g.2.v.1, .int .i64 g.2.v.2.1, .string g.2.v.2.2, .int .i64 g.2.c, .slice a g.2.ks.length cap] 96)) := (Below.refl _ _).alloc (Nat.le_refl _) _
 have q0 := heap_new w #[.int .i64 g.1, .int .i64 g.2.k, .int .i64 g.2.v.1, .int .i64 g.2.v.2.1, .string g.2.v.2.2, .int .i64 g.2.c, .slice a g.2.ks.length cap] 96
 by_cases h1 : g.1 = 1
 ·have hF : measF g = fun _ => (2, 1, ⟨#[]⟩) := by unfold measF; rw [if_pos h1]
  have HF : Hid (measF g = fun _ => (2, 1, ⟨#[]⟩)) := hF
  clear hF h
  rw [h1] at hal
  generalize measF g = F at *
  go_enter Tryz.func92, Tryz.ntmps92
  go_wp2_with fail
  exact bodyPost_ret (v := .tuple #[.func (.func 128) #[] #[], .int .i64 0]) (by simp [results, Tryz.results92, go_sem]) rfl ⟨_, rfl, by
   rw [HF.out]
   exact ⟨128, #[], rfl, enters_of Tryz.func128 (by kernel_rfl) rfl, fun row a cap W _ _ _ => by simpa [agV] using meas1_at a row.length cap W⟩, hal⟩
 ·have hF : measF g = fun row => valX row g.2 := by unfold measF; rw [if_neg h1]
  have HF : Hid (measF g = fun row => valX row g.2) := hF
  have h2 : ¬ (g.1 < 2 ∨ 5 < g.1) := fun h2 => by unfold measE at h; rw [if_neg h1, if_pos h2] at h; cases h
  have h3 : (typeTop cols g.2).2 = 0 := Classical.byContradiction fun h3 => by unfold measE at h; rw [if_neg h1, if_neg h2, if_pos h3] at h; exact h3 h
  have h4 : g.1 = 3 → (typeTop cols g.2).1 = 3 ∨ (typeTop cols g.2).1 = 1 := fun e => by
   unfold measE at h
   rw [if_neg h1, if_neg h2, if_neg (by simpa using h3)] at h
   by_cases h5 : (typeTop cols g.2).1 = 3
   ·exact .inl h5
   ·by_cases h6 : (typeTop cols g.2).1 = 1
    ·exact .inr h6
    ·rw [if_pos ⟨e, h5, h6⟩] at h; cases h
  have con := readyOk_at cols g.2 ca ccap a cap _ ((KsAt.next hal (Nat.le_refl _) hk).up hal.size) ((hc.next hal (Nat.le_refl _)).up hal.size) h3
  have hk4 : g.1 = 2 ∨ g.1 = 3 ∨ g.1 = 4 ∨ g.1 = 5 := by omega
  clear hF h h3 h2 h1
  generalize measF g = F at *
  generalize (typeTop cols g.2).1 = t at *
  unfold exV at con
  go_enter Tryz.func92, Tryz.ntmps92
  generalize hk1 : g.1 = kd at *
  clear hk1
  have main : (kd = 2 ∨ kd = 4 ∨ kd = 5) ∨ (kd = 3 ∧ (t = 3 ∨ t = 1)) := by
   rcases hk4 with e | e | e | e
   ·exact .inl (.inl e)
   ·exact .inr ⟨e, h4 e⟩
   ·exact .inl (.inr (.inl e))
   ·exact .inl (.inr (.inr e))
  clear hk4 h4
  rcases main with (rfl | rfl | rfl) | ⟨rfl, rfl | rfl⟩
  all_goals (
   go_wp2_with fail
   generalize w.alloc (.cells #[_, .int .i64 g.2.k, .int .i64 g.2.v.1, .int .i64 g.2.v.2.1, .string g.2.v.2.2, .int .i64 g.2.c, .slice a g.2.ks.length cap] 96) = w1 at *
   refine con.mono ?_
   rintro e w2 ⟨u, rfl, hA2, hb2⟩
   have hA := chain hal hb2
   have q2 := (hb2.block _ (lt_of_heap q0)).trans q0
   have c0 := cell_of (i := 0) q2 rfl
   clear con
   have hA2 := hA2.down hal.size
   obtain ⟨g', cb, rfl⟩ : ∃ g' cb, u = .func (.func g') #[] cb := by obtain ⟨g', cb, e, _⟩ := hA2; exact ⟨g', cb, e⟩
   dsimp only
   go_wp2_with fail
   exact bodyPost_ret (v := .tuple #[.func (.func g') #[] cb, .int .i64 0]) (by simp [results, Tryz.results92, go_sem]) rfl ⟨_, rfl, by rw [HF.out]; exact hA2, hA⟩)
end Go.Proofs.YtfojonhblblbjaaGreat
/- Aggregates: the walk. -/
namespace Go.Proofs.YtfojonhblblbjaaGreat
open Go.RowKit Go.Lib Go.Shelf

set_option maxRecDepth 100000 in
set_option maxHeartbeats 2000000 in
theorem measuredBad_at (cols : List Int) (g : Ag) (ca : Option Addr) (ccap : Nat) (a : Option Addr) (cap : Nat) (w : World) (hk : KsAt w.heap.size w a g.2.ks) (hc : IsAt w.heap.size w ca cols) (h : ¬ measE cols g = 0) :
  Calls Tryz.prog 92 #[.slice ca cols.length ccap, .agg #[.int .i64 g.1, .int .i64 g.2.k, .int .i64 g.2.v.1, .int .i64 g.2.v.2.1, .string g.2.v.2.2, .int .i64 g.2.c, .slice a g.2.ks.length cap]] w fun e w' => e = .returned (.tuple #[.nilFunc, .int .i64 (measE cols g)]) ∧ Below w.heap.size w w' := by
 have hal : Below w.heap.size w (w.alloc (.cells #[.int .i64 g.1, .int .i64 g.2.k, .int .i64 g.2.v.1, .int .i64 g.2.v.2.1, .string g.2.v.2.2, .int .i64 g.2.c, .slice a g.2.ks.length cap] 96)) := (Below.refl _ _).alloc (Nat.le_refl _) _
 have q0 := heap_new w #[.int .i64 g.1, .int .i64 g.2.k, .int .i64 g.2.v.1, .int .i64 g.2.v.2.1, .string g.2.v.2.2, .int .i64 g.2.c, .slice a g.2.ks.length cap] 96
 have h1 : ¬ g.1 = 1 := fun h1 => h (by unfold measE; rw [if_pos h1])
 generalize hme : measE cols g = me at *
 have HM : Hid (measE cols g = me) := hme
 clear hme
 by_cases h2 : g.1 < 2 ∨ 5 < g.1
 ·have e : me = 1 := by rw [← HM.out]; unfold measE; rw [if_neg h1, if_pos h2]
  subst e
  have n1 : (g.1 == 1) = false := by simpa using h1
  have n2 : (g.1 == 2) = false := by simp; omega
  have n3 : (g.1 == 3) = false := by simp; omega
  have n4 : (g.1 == 4) = false := by simp; omega
  have n5 : (g.1 == 5) = false := by simp; omega
  clear h h1 h2
  go_enter Tryz.func92, Tryz.ntmps92
  go_wp2_with fail
  exact bodyPost_ret (v := .tuple #[.nilFunc, .int .i64 1]) (by simp [results, Tryz.results92, go_sem]) rfl ⟨rfl, hal⟩
 ·have hk4 : g.1 = 2 ∨ g.1 = 3 ∨ g.1 = 4 ∨ g.1 = 5 := by omega
  by_cases h3 : (typeTop cols g.2).2 = 0
  ·have e3 : g.1 = 3 ∧ (typeTop cols g.2).1 ≠ 3 ∧ (typeTop cols g.2).1 ≠ 1 := Classical.byContradiction fun hn => by
    have := HM.out
    unfold measE at this
    rw [if_neg h1, if_neg h2, if_neg (by simpa using h3), if_neg hn] at this
    exact h this.symm
   have e9 : me = 9 := by rw [← HM.out]; unfold measE; rw [if_neg h1, if_neg h2, if_neg (by simpa using h3), if_pos e3]
   subst e9
   have con := readyOk_at cols g.2 ca ccap a cap _ ((KsAt.next hal (Nat.le_refl _) hk).up hal.size) ((hc.next hal (Nat.le_refl _)).up hal.size) h3
   obtain ⟨e31, e32, e33⟩ := e3
   generalize (typeTop cols g.2).1 = t at *
   unfold exV at con
   go_enter Tryz.func92, Tryz.ntmps92
   clear h h1 h2 h3 hk4
   generalize hk1 : g.1 = kd at *
   clear hk1
   subst e31
   have t3 : (t != 3) = true := by simpa using e32
   have t1 : (t != 1) = true := by simpa using e33
   clear e32 e33
   go_wp2_with fail
   generalize w.alloc (.cells #[.int .i64 3, .int .i64 g.2.k, .int .i64 g.2.v.1, .int .i64 g.2.v.2.1, .string g.2.v.2.2, .int .i64 g.2.c, .slice a g.2.ks.length cap] 96) = w1 at *
   refine con.mono ?_
   rintro e w2 ⟨u, rfl, hA2, hb2⟩
   have hA := chain hal hb2
   have q2 := (hb2.block _ (lt_of_heap q0)).trans q0
   have c0 : w2.cell? ⟨w.heap.size, 0, none⟩ = some (.int .i64 3) := cell_of (i := 0) q2 rfl
   clear con
   obtain ⟨g', cb, rfl⟩ : ∃ g' cb, u = .func (.func g') #[] cb := by obtain ⟨g', cb, e, _⟩ := hA2; exact ⟨g', cb, e⟩
   dsimp only
   go_wp2_with fail
   exact bodyPost_ret (v := .tuple #[.nilFunc, .int .i64 9]) (by simp [results, Tryz.results92, go_sem]) rfl ⟨rfl, hA⟩
  ·have con := readyBad_at cols g.2 ca ccap a cap _ ((KsAt.next hal (Nat.le_refl _) hk).up hal.size) ((hc.next hal (Nat.le_refl _)).up hal.size) h3
   have em : me = (typeTop cols g.2).2 := by rw [← HM.out]; unfold measE; rw [if_neg h1, if_neg h2, if_pos h3]
   have hne : (me != 0) = true := by simpa using h
   rw [← em] at con
   unfold exV at con
   go_enter Tryz.func92, Tryz.ntmps92
   clear h h1 h2 h3 em HM
   generalize hk1 : g.1 = kd at *
   clear hk1
   rcases hk4 with rfl | rfl | rfl | rfl
   all_goals (
    go_wp2_with fail
    generalize w.alloc (.cells #[_, .int .i64 g.2.k, .int .i64 g.2.v.1, .int .i64 g.2.v.2.1, .string g.2.v.2.2, .int .i64 g.2.c, .slice a g.2.ks.length cap] 96) = w1 at *
    refine con.mono ?_
    rintro e w2 ⟨rfl, hb2⟩
    have hA := chain hal hb2
    clear con
    dsimp only
    go_wp2_with fail
    exact bodyPost_ret (v := .tuple #[.nilFunc, .int .i64 me]) (by simp [results, Tryz.results92, go_sem]) rfl ⟨rfl, hA⟩)

/-- totalOf makes what it should of a kind. -/
def TotalOk (k : Int) : Prop := ∀ w, Calls Tryz.prog 93 #[.int .i64 k] w fun e w' => ∃ u, e = .returned u ∧ TotF w.heap.size u (totP k) w' ∧ Below w.heap.size w w'
theorem count_tot (lo : Nat) (w : World) : TotF lo (.func (.func 134) #[] #[]) countP w :=
 ⟨134, #[], rfl, enters_of Tryz.func134 (by kernel_rfl) rfl, fun l a cap W hk hs _ => by simpa using count_at a cap l W hs hk⟩
set_option maxHeartbeats 400000 in
theorem totalC_ok (k : Int) (h3 : ¬ k = 3) (h4 : ¬ k = 4) (h5 : ¬ k = 5) : TotalOk k := by
 intro w
 have eT : totP k = countP := by funext l; unfold totP; rw [if_neg h3, if_neg h4, if_neg h5]
 rw [eT]
 have n3 : (k == 3) = false := by simpa using h3
 have n4 : (k == 4) = false := by simpa using h4
 have n5 : (k == 5) = false := by simpa using h5
 clear h3 h4 h5 eT
 go_enter Tryz.func93, Tryz.ntmps93
 go_wp2_with fail
 go_ret
 exact ⟨_, rfl, count_tot _ _, Below.refl _ _⟩

theorem make_rfuncs {n : Nat} (h : n ≤ 8) (w : World) : (Instr.makeSlice 123 (.int .i64 n) (.int .i64 n)).run Tryz.prog w = .ok (.slice (some ⟨w.heap.size, 0, none⟩) n n) (w.alloc (.cells (Array.replicate n Value.nilFunc) 130)) := by
 obtain rfl | rfl | rfl | rfl | rfl | rfl | rfl | rfl | rfl : n = 0 ∨ n = 1 ∨ n = 2 ∨ n = 3 ∨ n = 4 ∨ n = 5 ∨ n = 6 ∨ n = 7 ∨ n = 8 := by omega
 all_goals kernel_rfl
/-- Functions of rows in a slice in a variable, the first j of them made. -/
structure RTo (cols : List Int) (K kb M : Nat) (W : World) (Fs : List (List Zp → Vl)) (j : Nat) : Prop where
 lt : K < M ∧ kb < M ∧ K ≠ kb ∧ M ≤ W.heap.size
 box : W.cell? ⟨kb, 0, none⟩ = some (.slice (some ⟨K, 0, none⟩) Fs.length Fs.length)
 room : ∀ i, i < Fs.length → (∃ u, W.cell? ⟨K, i, none⟩ = some u) ∧ W.frozen? ⟨K, i, none⟩ = false
 done : ∀ i (h : i < Fs.length), i < j → ∃ u, W.cell? ⟨K, i, none⟩ = some u ∧ RowsF cols M u Fs[i] W
theorem RTo.next {cols : List Int} {K kb M : Nat} {W w1 : World} {Fs : List (List Zp → Vl)} {j : Nat} (h : RTo cols K kb M W Fs j) (hb : Below W.heap.size W w1) : RTo cols K kb M w1 Fs j := by
 obtain ⟨h1, h2, h3, h4⟩ := h
 have z := hb.size
 refine ⟨⟨h1.1, h1.2.1, h1.2.2.1, by omega⟩, (hb.cell (p := ⟨kb, 0, none⟩) (by show kb < _; omega)).trans h2, fun i hi => ?_, fun i hi hj => ?_⟩
 ·obtain ⟨⟨u, hu⟩, hf⟩ := h3 i hi
  exact ⟨⟨u, (hb.cell (p := ⟨K, i, none⟩) (by show K < _; omega)).trans hu⟩, (hb.frozen (p := ⟨K, i, none⟩) (by show K < _; omega)).trans hf⟩
 ·obtain ⟨u, hu, ha⟩ := h4 i hi hj
  exact ⟨u, (hb.cell (p := ⟨K, i, none⟩) (by show K < _; omega)).trans hu, ha.next (Since.of hb)⟩
theorem RTo.store {cols : List Int} {K kb M : Nat} {W : World} {Fs : List (List Zp → Vl)} {j : Nat} (h : RTo cols K kb M W Fs j) (hj : j < Fs.length) {u : Value} (ha : RowsF cols M u Fs[j] W) : RTo cols K kb M (W.setCell ⟨K, j, none⟩ u) Fs (j + 1) := by
 obtain ⟨h1, h2, h3, h4⟩ := h
 have hS : Since M W (W.setCell ⟨K, j, none⟩ u) := (Since.refl M W).set K j u (by omega)
 have same : (W.setCell ⟨K, j, none⟩ u).cell? ⟨K, j, none⟩ = some u := World.cell?_setCell_same' _ _ _ (by obtain ⟨⟨u', hu⟩, _⟩ := h3 j hj; rw [hu]; rfl)
 refine ⟨⟨h1.1, h1.2.1, h1.2.2.1, by simpa using h1.2.2.2⟩, ?_, fun i hi => ?_, fun i hi hij => ?_⟩
 ·rw [World.cell?_setCell_other _ _ _ _ (by intro e; injection e with e; omega)]; exact h2
 ·obtain ⟨⟨u', hu⟩, hf⟩ := h3 i hi
  refine ⟨?_, by rw [World.frozen?_setCell]; exact hf⟩
  by_cases e : i = j
  ·subst e; exact ⟨_, same⟩
  ·exact ⟨u', by rw [World.cell?_setCell_other _ _ _ _ (by intro e; injection e with _ e; omega)]; exact hu⟩
 ·by_cases e : i = j
  ·subst e; exact ⟨u, same, ha.next hS⟩
  ·obtain ⟨u', hu, ha'⟩ := h4 i hi (by omega)
   exact ⟨u', by rw [World.cell?_setCell_other _ _ _ _ (by intro e; injection e with _ e; omega)]; exact hu, ha'.next hS⟩
theorem RTo.kids {cols : List Int} {K kb M lo : Nat} {W : World} {Fs : List (List Zp → Vl)} (h : RTo cols K kb M W Fs Fs.length) (h1 : lo ≤ K) (h2 : lo ≤ kb) : KidsR cols lo W kb Fs := by
 obtain ⟨l1, l2, _, l4⟩ := h
 refine ⟨K, h2, by omega, h1, by omega, l2, fun i hi => ?_⟩
 obtain ⟨u, hu, ha⟩ := l4 i hi hi
 exact ⟨u, hu, ha.down (by omega)⟩
theorem RTo.new {cols : List Int} {w : World} {n : Nat} (Fs : List (List Zp → Vl)) (hn : n = Fs.length) (T T' : TypeId) :
  RTo cols w.heap.size (w.heap.size + 1) (w.heap.size + 2) ((w.alloc (.cells (Array.replicate n Value.nilFunc) T)).alloc (.cells #[.slice (some ⟨w.heap.size, 0, none⟩) n n] T')) Fs 0 := by
 subst hn
 refine ⟨⟨by omega, by omega, by omega, by simp⟩, ?_, fun i hi => ⟨⟨Value.nilFunc, ?_⟩, ?_⟩, fun i _ h => absurd h (Nat.not_lt_zero _)⟩
 ·rw [World.cell?_alloc_at _ _ _ _ (by simp)]; rfl
 ·rw [World.cell?_alloc_past _ _ _ (by simp), World.cell?_alloc_at _ _ _ _ rfl]
  simp [hi]
 ·rw [World.frozen?_alloc_past _ _ _ (by simp)]
  exact World.frozen?_alloc_at _ _ _ _ rfl
/-- A function value makes rows of what aggregates come to. -/
def AggF (cols : List Int) (lo : Nat) (u : Value) (gs : List Ag) (w : World) : Prop :=
 ∃ g cb, u = .func (.func g) #[] cb ∧ (∀ args w, (callFunc g args).run Tryz.prog w = .ok (.enter g args) w) ∧
  ∀ (rows : List Zp) (a : Option Addr) (cap : Nat) (W : World), ROk cols rows → ZsAt W a rows → Since lo w W →
   Calls Tryz.prog g (#[.slice a rows.length cap] ++ cb) W fun e w' => e = .returned (.slice (some ⟨W.heap.size, 0, none⟩) gs.length gs.length) ∧ RowNew W.heap.size w' (gs.map fun g => aggP g rows) ∧ Below W.heap.size W w'
theorem AggF.next {cols : List Int} {lo : Nat} {u : Value} {gs : List Ag} {w w1 : World} (h : AggF cols lo u gs w) (hb : Since lo w w1) : AggF cols lo u gs w1 := by
 obtain ⟨g, cb, e, eg, hd⟩ := h
 exact ⟨g, cb, e, eg, fun row a cap W hf hs hW => hd row a cap W hf hs (hb.trans hW)⟩
theorem agg_get {gs : List Ag} {j : Nat} (h : j < gs.length) : (gs.map fun g => aggP g)[j]'(by simpa using h) = aggP gs[j] := by simp

set_option maxRecDepth 100000 in
set_option maxHeartbeats 4000000 in
theorem aggregates_at (cols : List Int) (gs : List Ag) (hT : ∀ g ∈ gs, measE cols g = 0 → TotalOk g.1) (ca : Option Addr) (ccap : Nat) (xa : Option Addr) (xcap : Nat) (w : World) (hk : AgAt w.heap.size w xa gs) (hc : IsAt w.heap.size w ca cols) (h8 : gs.length ≤ 8) :
  Calls Tryz.prog 55 #[.slice ca cols.length ccap, .slice xa gs.length xcap] w fun e w' => ∃ u, e = .returned (.tuple #[u, .int .i64 (aggsE cols gs)]) ∧ ((aggsE cols gs = 0 ∧ AggF cols w.heap.size u gs w') ∨ (¬ aggsE cols gs = 0 ∧ u = .nilFunc)) ∧ Below w.heap.size w w' := by
 have HTot : Hid (∀ g ∈ gs, measE cols g = 0 → TotalOk g.1) := hT
 obtain ⟨Fs, eFs⟩ : ∃ Fs : List (List Zp → Vl), Fs = gs.map fun g => aggP g := ⟨_, rfl⟩
 have HFs : Hid (Fs = gs.map fun g => aggP g) := eFs
 have lFs : Fs.length = gs.length := by rw [eFs]; simp
 generalize hle : aggsE cols gs = le
 have HE : Hid (aggsE cols gs = le) := hle
 clear hT eFs hle
 have hmk := make_rfuncs h8
 have F0 : RTo cols w.heap.size (w.heap.size + 1) (w.heap.size + 2) ((w.alloc (.cells (Array.replicate gs.length Value.nilFunc) 130)).alloc (.cells #[.slice (some ⟨w.heap.size, 0, none⟩) gs.length gs.length] 123)) Fs 0 := RTo.new Fs lFs.symm _ _
 have hA : Below w.heap.size w ((w.alloc (.cells (Array.replicate gs.length Value.nilFunc) 130)).alloc (.cells #[.slice (some ⟨w.heap.size, 0, none⟩) gs.length gs.length] 123)) := ((Below.refl _ _).alloc (Nat.le_refl _) _).alloc (by simp) _
 go_enter Tryz.func55, Tryz.ntmps55
 go_wp2_with fail
 generalize (w.alloc (.cells (Array.replicate gs.length Value.nilFunc) 130)).alloc (.cells #[.slice (some ⟨w.heap.size, 0, none⟩) gs.length gs.length] 123) = w2 at *
 clear hmk
 go_loopw [17] (fun i wr => ∃ j : Nat, j ≤ gs.length ∧ i = .int .i64 j ∧ RTo cols w.heap.size (w.heap.size + 1) (w.heap.size + 2) wr Fs j ∧ Hid (le = aggsE cols (gs.drop j)) ∧ Below w.heap.size w wr) (fun i _ => gs.length - (intOf i).toNat)
 case atStart => exact ⟨0, Nat.zero_le _, rfl, F0, HE.out.symm, hA⟩
 case round =>
  clear F0 hA
  obtain ⟨j, hj, rfl, F, HT, hb⟩ := hrel
  have hz := hb.size
  have hzF := F.lt.2.2.2
  by_cases hlt : j < gs.length
  ·obtain ⟨b, off, ai, ci, rfl, hbl, x0, sx, kx⟩ := (AgAt.next hb (Nat.le_refl _) hk).elem hlt
   obtain ⟨x1, x2, x3, x4, x5, x6⟩ := sx
   have hal : Below wr.heap.size wr (wr.alloc (.cells #[.int .i64 gs[j].1, .int .i64 gs[j].2.k, .int .i64 gs[j].2.v.1, .int .i64 gs[j].2.v.2.1, .string gs[j].2.v.2.2, .int .i64 gs[j].2.c, .slice ai gs[j].2.ks.length ci] 96)) := (Below.refl _ _).alloc (Nat.le_refl _) _
   have q0 := heap_new wr #[.int .i64 gs[j].1, .int .i64 gs[j].2.k, .int .i64 gs[j].2.v.1, .int .i64 gs[j].2.v.2.1, .string gs[j].2.v.2.2, .int .i64 gs[j].2.c, .slice ai gs[j].2.ks.length ci] 96
   have Fk := F.next hal
   have zk : (wr.alloc (.cells #[.int .i64 gs[j].1, .int .i64 gs[j].2.k, .int .i64 gs[j].2.v.1, .int .i64 gs[j].2.v.2.1, .string gs[j].2.v.2.2, .int .i64 gs[j].2.c, .slice ai gs[j].2.ks.length ci] 96)).heap.size = wr.heap.size + 1 := by simp
   have kk := (KsAt.next hal hz kx).up (show w.heap.size ≤ (wr.alloc (.cells #[.int .i64 gs[j].1, .int .i64 gs[j].2.k, .int .i64 gs[j].2.v.1, .int .i64 gs[j].2.v.2.1, .string gs[j].2.v.2.2, .int .i64 gs[j].2.c, .slice ai gs[j].2.ks.length ci] 96)).heap.size by omega)
   have cc := ((hc.next hb (Nat.le_refl _)).next hal hz).up (show w.heap.size ≤ (wr.alloc (.cells #[.int .i64 gs[j].1, .int .i64 gs[j].2.k, .int .i64 gs[j].2.v.1, .int .i64 gs[j].2.v.2.1, .string gs[j].2.v.2.2, .int .i64 gs[j].2.c, .slice ai gs[j].2.ks.length ci] 96)).heap.size by omega)
   have hjz : (j : Int) < gs.length := by omega
   by_cases h0 : measE cols gs[j] = 0
   ·have con := measuredOk_at cols gs[j] ca ccap ai ci _ kk cc h0
    have HTo : Hid (TotalOk gs[j].1) := HTot.out _ (List.getElem_mem hlt) h0
    have Hr : Hid (∀ row, FitP cols row → wrongP (measF gs[j] row) = 0 ∧ NumB (measF gs[j] row)) := measF_right h0
    have HN : Hid (le = aggsE cols (gs.drop (j + 1))) := HT.out.trans (aggsE_next cols gs j hlt h0)
    clear h0 HT
    go_upto_region 5 with fail
    clear x0 x1 x2 x3 x4 x5 x6 kx kk cc
    generalize wr.alloc (.cells #[.int .i64 gs[j].1, .int .i64 gs[j].2.k, .int .i64 gs[j].2.v.1, .int .i64 gs[j].2.v.2.1, .string gs[j].2.v.2.2, .int .i64 gs[j].2.c, .slice ai gs[j].2.ks.length ci] 96) = wk at *
    have p0 : wk.cell? ⟨wr.heap.size, 0, none⟩ = some (.int .i64 gs[j].1) := cell_of (i := 0) q0 rfl
    have p1 : wk.cell? ⟨wr.heap.size, 1, none⟩ = some (.int .i64 gs[j].2.k) := cell_of (i := 1) q0 rfl
    have p2 : wk.cell? ⟨wr.heap.size, 2, none⟩ = some (.int .i64 gs[j].2.v.1) := cell_of (i := 2) q0 rfl
    have p3 : wk.cell? ⟨wr.heap.size, 3, none⟩ = some (.int .i64 gs[j].2.v.2.1) := cell_of (i := 3) q0 rfl
    have p4 : wk.cell? ⟨wr.heap.size, 4, none⟩ = some (.string gs[j].2.v.2.2) := cell_of (i := 4) q0 rfl
    have p5 : wk.cell? ⟨wr.heap.size, 5, none⟩ = some (.int .i64 gs[j].2.c) := cell_of (i := 5) q0 rfl
    have p6 : wk.cell? ⟨wr.heap.size, 6, none⟩ = some (.slice ai gs[j].2.ks.length ci) := cell_of (i := 6) q0 rfl
    go_wp2_with fail
    refine con.mono ?_
    rintro e w3 ⟨u, rfl, hA3, hb3⟩
    clear con p0 p1 p2 p3 p4 p5 p6
    obtain ⟨ug, ucb, rfl⟩ : ∃ g cb, u = .func (.func g) #[] cb := by obtain ⟨g, cb, e, _⟩ := hA3; exact ⟨g, cb, e⟩
    have hal4 : Below w3.heap.size w3 (w3.alloc (.cells #[.func (.func ug) #[] ucb] 103)) := (Below.refl _ _).alloc (Nat.le_refl _) _
    have q4 := heap_new w3 #[.func (.func ug) #[] ucb] 103
    have q0' := ((chain hb3 hal4).block _ (lt_of_heap q0)).trans q0
    have z3 := hb3.size
    have hV : Asks cols (w.heap.size + 2) (.func (.func ug) #[] ucb) (measF gs[j]) (w3.alloc (.cells #[.func (.func ug) #[] ucb] 103)) := (hA3.down (by omega)).next (Since.of hal4)
    have F4 := (Fk.next hb3).next hal4
    have hA4 := chain (chain (chain hb hal) hb3) hal4
    dsimp only
    go_upto_region 8 with fail
    clear hA3
    generalize w3.alloc (.cells #[.func (.func ug) #[] ucb] 103) = w4 at *
    have c8 : w4.cell? ⟨wr.heap.size, 0, none⟩ = some (.int .i64 gs[j].1) := cell_of (i := 0) q0' rfl
    have con := HTo.out w4
    go_wp2_with fail
    refine con.mono ?_
    rintro e w5 ⟨u5, rfl, hT5, hb5⟩
    clear con c8
    obtain ⟨tg, tcb, rfl⟩ : ∃ g cb, u5 = .func (.func g) #[] cb := by obtain ⟨g, cb, e, _⟩ := hT5; exact ⟨g, cb, e⟩
    have hal6 : Below w5.heap.size w5 (w5.alloc (.cells #[.func (.func tg) #[] tcb] 126)) := (Below.refl _ _).alloc (Nat.le_refl _) _
    have q6 := heap_new w5 #[.func (.func tg) #[] tcb] 126
    have q4' := ((chain hb5 hal6).block _ (lt_of_heap q4)).trans q4
    have z5 := hb5.size
    have z4 := hal4.size
    have hT6 : TotF (w.heap.size + 2) (.func (.func tg) #[] tcb) (totP gs[j].1) (w5.alloc (.cells #[.func (.func tg) #[] tcb] 126)) := (hT5.down (by omega)).next (Since.of hal6)
    have hV6 := (hV.next (Since.of hb5)).next (Since.of hal6)
    have F6 := (F4.next hb5).next hal6
    have hA6 := chain (chain hA4 hb5) hal6
    have t6 := lt_of_heap q6
    have v6 := lt_of_heap q4'
    dsimp only
    go_upto_region 9 with fail
    clear hT5 hV
    generalize w5.alloc (.cells #[.func (.func tg) #[] tcb] 126) = w6 at *
    have RF : RowsF cols (w.heap.size + 2) (.func (.func 94) #[] #[.pointer (some ⟨w5.heap.size, 0, none⟩), .pointer (some ⟨w3.heap.size, 0, none⟩)]) (aggP gs[j]) w6 := by
     refine ⟨94, _, rfl, enters_of Tryz.func94 (by kernel_rfl) rfl, fun rows a cap W hr hs hW => ?_⟩
     exact agg1_at cols (w.heap.size + 2) _ _ (totP gs[j].1) (measF gs[j]) Hr.out w5.heap.size w3.heap.size a cap rows W ((hW.cell (p := ⟨w5.heap.size, 0, none⟩) (by show _ ≤ w5.heap.size; omega) t6).trans (cell_of (i := 0) q6 rfl)) ((hW.cell (p := ⟨w3.heap.size, 0, none⟩) (by show _ ≤ w3.heap.size; omega) v6).trans (cell_of (i := 0) q4' rfl)) (hT6.next hW) (hV6.next hW) hr hs
    have HRF : Hid (RowsF cols (w.heap.size + 2) (.func (.func 94) #[] #[.pointer (some ⟨w5.heap.size, 0, none⟩), .pointer (some ⟨w3.heap.size, 0, none⟩)]) (Fs[j]'(by omega)) w6) := by
     show RowsF _ _ _ _ _
     have e : Fs[j]'(by omega) = aggP gs[j] := by simp only [HFs.out]; exact agg_get hlt
     rw [e]; exact RF
    have b6 := F6.box
    obtain ⟨⟨un, r2⟩, r3⟩ := F6.room j (by omega)
    rw [lFs] at b6
    clear RF hT6 hV6
    go_wp2_with fail
    go_roundw
    case rel => exact ⟨j + 1, by omega, by go_num, F6.store (by omega) HRF.out, HN, hA6.setCell (p := ⟨w.heap.size, j, none⟩) (Nat.le_refl _) _⟩
    case measure => simp [intOf]; omega
   ·have con := measuredBad_at cols gs[j] ca ccap ai ci _ kk cc h0
    have HN : Hid (le = measE cols gs[j]) := HT.out.trans (aggsE_bad cols gs j hlt h0)
    have hne : (measE cols gs[j] != 0) = true := by simpa using h0
    have HN0 : Hid (¬ le = 0) := by show ¬ _; rw [HN.out]; exact h0
    rw [← HN.out] at con hne
    clear h0 HT
    go_upto_region 5 with fail
    clear x0 x1 x2 x3 x4 x5 x6 kx kk cc
    generalize wr.alloc (.cells #[.int .i64 gs[j].1, .int .i64 gs[j].2.k, .int .i64 gs[j].2.v.1, .int .i64 gs[j].2.v.2.1, .string gs[j].2.v.2.2, .int .i64 gs[j].2.c, .slice ai gs[j].2.ks.length ci] 96) = wk at *
    have p0 : wk.cell? ⟨wr.heap.size, 0, none⟩ = some (.int .i64 gs[j].1) := cell_of (i := 0) q0 rfl
    have p1 : wk.cell? ⟨wr.heap.size, 1, none⟩ = some (.int .i64 gs[j].2.k) := cell_of (i := 1) q0 rfl
    have p2 : wk.cell? ⟨wr.heap.size, 2, none⟩ = some (.int .i64 gs[j].2.v.1) := cell_of (i := 2) q0 rfl
    have p3 : wk.cell? ⟨wr.heap.size, 3, none⟩ = some (.int .i64 gs[j].2.v.2.1) := cell_of (i := 3) q0 rfl
    have p4 : wk.cell? ⟨wr.heap.size, 4, none⟩ = some (.string gs[j].2.v.2.2) := cell_of (i := 4) q0 rfl
    have p5 : wk.cell? ⟨wr.heap.size, 5, none⟩ = some (.int .i64 gs[j].2.c) := cell_of (i := 5) q0 rfl
    have p6 : wk.cell? ⟨wr.heap.size, 6, none⟩ = some (.slice ai gs[j].2.ks.length ci) := cell_of (i := 6) q0 rfl
    go_wp2_with fail
    refine con.mono ?_
    rintro e w3 ⟨rfl, hb3⟩
    clear con p0 p1 p2 p3 p4 p5 p6
    have hal4 : Below w3.heap.size w3 (w3.alloc (.cells #[.nilFunc] 103)) := (Below.refl _ _).alloc (Nat.le_refl _) _
    dsimp only
    go_wp2_with fail
    exact bodyPost_ret (v := .tuple #[.nilFunc, .int .i64 le]) (by simp [results, Tryz.results55, go_sem]) rfl ⟨_, rfl, .inr ⟨HN0.out, rfl⟩, chain (chain (chain hb hal) hb3) hal4⟩
  ·have e : j = gs.length := by omega
   subst e
   have e0 : le = 0 := by rw [HT.out, List.drop_length]; rfl
   subst e0
   have KF : Hid (KidsR cols w.heap.size wr (w.heap.size + 1) Fs) := by rw [← lFs] at F; exact F.kids (Nat.le_refl _) (by omega)
   have AF : Hid (AggF cols w.heap.size (.func (.func 96) #[] #[.pointer (some ⟨w.heap.size + 1, 0, none⟩)]) gs wr) := ⟨96, _, rfl, enters_of Tryz.func96 (by kernel_rfl) rfl, fun rows a cap W hr hs hW => by
    have := agg2_at cols w.heap.size (w.heap.size + 1) Fs a rows cap W (KF.out.next hW) (by omega) hr hs
    have em : (Fs.map fun F : List Zp → Vl => F rows) = gs.map fun g => aggP g rows := by rw [HFs.out, List.map_map]; rfl
    rw [lFs, em] at this
    exact this⟩
   go_wp2_with fail
   first
    | exact bodyPost_ret (v := .tuple #[.func (.func 96) #[] #[.pointer (some ⟨w.heap.size + 1, 0, none⟩)], .int .i64 0]) (by simp [results, Tryz.results55, go_sem]) rfl ⟨_, rfl, .inl ⟨rfl, AF.out⟩, hb⟩
    | exact bodyPost_ret (v := .tuple #[.func (.func 96) #[] #[.pointer (some ⟨w.heap.size + 1, 0, none⟩)], .int .i64 0]) (by simp [results, Tryz.results55, go_sem]) rfl ⟨_, rfl, AF.out, hb⟩
end Go.Proofs.YtfojonhblblbjaaGreat
/- The walk of ops.Top. -/
namespace Go.Proofs.YtfojonhblblbjaaGreat
open Go.RowKit Go.Lib Go.Shelf

/-- The first rows: as many as are left. -/
def topL : Int → List Kp → List Zp
 | _, [] => []
 | n, x :: r => (x.2.1, min x.2.2 n) :: topL (n - min x.2.2 n) r
theorem inOrd_mem {xs : List Ex} {z : List Zp} {x : Kp} : x ∈ inOrd xs z ↔ (x.2 ∈ z ∧ 0 < x.2.2) ∧ x.1 = rowX xs x.2.1 := by
 rw [(inOrd_perm xs z).mem_iff]
 unfold withK
 rw [List.mem_map]
 constructor
 ·rintro ⟨p, hp, rfl⟩
  have := List.mem_filter.1 hp
  exact ⟨⟨this.1, by simpa using this.2⟩, rfl⟩
 ·rintro ⟨⟨h1, h2⟩, h3⟩
  exact ⟨x.2, List.mem_filter.2 ⟨h1, by simpa using h2⟩, by rw [← h3]⟩
end Go.Proofs.YtfojonhblblbjaaGreat
/- The walk of ops.Group. -/
namespace Go.Proofs.YtfojonhblblbjaaGreat
open Go.RowKit Go.Lib Go.Shelf

theorem partL_mem (L : List Kp) : ∀ p ∈ partL L, (∀ r ∈ p.2, ∃ x ∈ L, x.2 = r) ∧ ∃ x ∈ L, p.1 = x.1 := by
 have aux : ∀ (L : List Kp) (ps : List Pt) (P : Zp → Prop) (Q : List Vl → Prop), (∀ x ∈ L, P x.2 ∧ Q x.1) → (∀ p ∈ ps, (∀ r ∈ p.2, P r) ∧ Q p.1) → ∀ p ∈ L.foldl (fun ps x => putR (openP ps x) x.2) ps, (∀ r ∈ p.2, P r) ∧ Q p.1 := by
  intro L
  induction L with
  | nil => intro ps P Q _ h; exact h
  | cons x r ih =>
   intro ps P Q hL h
   rw [List.foldl_cons]
   refine ih _ P Q (fun y hy => hL y (by simp [hy])) ?_
   have hx := hL x (by simp)
   have ho : ∀ p ∈ openP ps x, (∀ r ∈ p.2, P r) ∧ Q p.1 := fun p hp => by
    have hnew : ∀ p ∈ ps ++ [((x.1, []) : Pt)], (∀ r ∈ p.2, P r) ∧ Q p.1 := fun p hp => by
     rcases List.mem_append.1 hp with hp | hp
     ·exact h p hp
     ·rw [List.mem_singleton.1 hp]; exact ⟨fun r hr => by simp at hr, hx.2⟩
    unfold openP at hp
    split at hp
    ·exact hnew p hp
    ·split at hp
     ·exact h p hp
     ·exact hnew p hp
   intro p hp
   unfold putR at hp
   split at hp
   ·exact ho p hp
   ·rename_i hne
    rcases List.mem_or_eq_of_mem_set hp with hp | rfl
    ·exact ho p hp
    ·have hl := ho _ (List.getElem_mem (l := openP ps x) (n := (openP ps x).length - 1) (by omega))
     refine ⟨fun r hr => ?_, hl.2⟩
     rcases List.mem_append.1 hr with hr | hr
     ·exact hl.1 r hr
     ·rw [List.mem_singleton.1 hr]; exact hx.1
 intro p hp
 exact aux L [] (fun r => ∃ x ∈ L, x.2 = r) (fun k => ∃ x ∈ L, k = x.1) (fun x hx => ⟨⟨x, hx, rfl⟩, ⟨x, hx, rfl⟩⟩) (fun p hp => by simp at hp) p hp
def partsG (xs : List Ex) (L : List Kp) : List Pt := if xs.length = 0 ∧ (partL L).length = 0 then [([], [])] else partL L
def groupL (xs : List Ex) (gs : List Ag) (L : List Kp) : List Zp := (partsG xs L).map fun p => (p.1 ++ gs.map fun g => aggP g p.2, 1)
def groupE (cols : List Int) (xs : List Ex) (gs : List Ag) (z : List Zp) : Int := if 8 < xs.length + gs.length then 5 else if listE cols xs ≠ 0 then listE cols xs else if aggsE cols gs ≠ 0 then aggsE cols gs else if inpE cols z ≠ 0 then inpE cols z else gatherE (groupL xs gs (inOrd xs z))
def groupZ (cols : List Int) (xs : List Ex) (gs : List Ag) (z : List Zp) : List Zp := if groupE cols xs gs z = 0 then canon (groupL xs gs (inOrd xs z)) else []
theorem parts_ok {cols : List Int} {xs : List Ex} {z : List Zp} (h : InpOk cols z) : (partsG xs (inOrd xs z)).length ≤ 401 ∧ ∀ p ∈ partsG xs (inOrd xs z), ROk cols p.2 ∧ p.1.length = xs.length := by
 have hs := partL_small (inOrd xs z)
 have hl := inOrd_len xs z
 have h4 := set_len h
 have hp : ∀ p ∈ partL (inOrd xs z), ROk cols p.2 ∧ p.1.length = xs.length := fun p hp => by
  obtain ⟨h1, x, hx, e⟩ := partL_mem (inOrd xs z) p hp
  refine ⟨⟨by have := hs.2 p hp; omega, fun r hr => ?_, fun r hr => ?_⟩, ?_⟩
  ·obtain ⟨y, hy, rfl⟩ := h1 r hr
   exact h.fit _ (inOrd_mem.1 hy).1.1
  ·obtain ⟨y, hy, rfl⟩ := h1 r hr
   have hm := inOrd_mem.1 hy
   have := set_in h y.2 hm.1.1
   rw [inW_iff] at this
   have := hm.1.2
   omega
  ·rw [e, (inOrd_mem.1 hx).2]; simp [rowX]
 unfold partsG
 split
 ·rename_i hc
  refine ⟨by simp, fun p hp' => ?_⟩
  rw [List.mem_singleton.1 hp']
  exact ⟨⟨Nat.zero_le _, fun r hr => by simp at hr, fun r hr => by simp at hr⟩, hc.1.symm⟩
 ·exact ⟨by have := hs.1; omega, hp⟩

/-- Parts in memory, to be read. -/
def ElP (W : World) (b o : Nat) (p : Pt) : Prop := (∃ ka kc, W.cell? ⟨b, o, none⟩ = some (.slice ka p.1.length kc) ∧ SlAt W ka p.1) ∧ ∃ ra rc, W.cell? ⟨b, o + 1, none⟩ = some (.slice ra p.2.length rc) ∧ ZsAt W ra p.2
theorem ElP.next {W w1 : World} {b o : Nat} {p : Pt} (h : ElP W b o p) (hlt : b < W.heap.size) (hb : Below W.heap.size W w1) : ElP w1 b o p := by
 obtain ⟨⟨ka, kc, h1, h2⟩, ra, rc, h3, h4⟩ := h
 exact ⟨⟨ka, kc, (hb.cell (p := ⟨b, _, none⟩) hlt).trans h1, h2.next hb⟩, ra, rc, (hb.cell (p := ⟨b, _, none⟩) hlt).trans h3, h4.next hb⟩
def PtAt (W : World) (a : Option Addr) (ps : List Pt) : Prop := ps = [] ∨ ∃ b off, a = some ⟨b, off, none⟩ ∧ b < W.heap.size ∧ ∀ i (hi : i < ps.length), ElP W b (off + i * 2) ps[i]
theorem PtAt.next {W w1 : World} {a : Option Addr} {ps : List Pt} (h : PtAt W a ps) (hb : Below W.heap.size W w1) : PtAt w1 a ps := by
 rcases h with h | ⟨b, off, e, hlt, h⟩
 ·exact .inl h
 ·exact .inr ⟨b, off, e, Nat.lt_of_lt_of_le hlt hb.size, fun i hi => (h i hi).next hlt hb⟩
theorem PtAt.elem {W : World} {a : Option Addr} {ps : List Pt} (h : PtAt W a ps) {i : Nat} (hi : i < ps.length) : ∃ b off, a = some ⟨b, off, none⟩ ∧ b < W.heap.size ∧ ElP W b (off + i * 2) ps[i] := by
 rcases h with h | ⟨b, off, e, hlt, h⟩
 ·subst h; simp at hi
 ·exact ⟨b, off, e, hlt, h i hi⟩
theorem PsAt.pt {w0 : World} {B : Nat} {W : World} {v : Value} {ps : List Pt} (h : PsAt w0 B W v ps) (hb : Below w0.heap.size w0 W) : ∃ a c, v = .slice a ps.length c ∧ PtAt W a ps := by
 obtain ⟨xs, Bl, rv, zs, I⟩ := h
 have o := I.own
 rcases o.2 with ⟨rfl, h0⟩ | ⟨g, cap, cur, rfl, _⟩
 ·exact ⟨none, 0, by rw [h0], .inl (List.eq_nil_of_length_eq_zero h0)⟩
 ·refine ⟨_, cap, rfl, .inr ⟨g, 0, rfl, (o.lt g rfl).2, fun i hi => ?_⟩⟩
  obtain ⟨ka, kc, e0, s0⟩ := I.key i hi
  obtain ⟨ra, rc, er, zr⟩ := own_zsB (I.rowB hi) rfl (I.row i hi).2 hb
  refine ⟨⟨ka, kc, ?_, s0.next hb⟩, ra, rc, ?_, zr⟩
  ·rw [Nat.zero_add, o.cellAt _ (by omega)]; exact e0
  ·rw [Nat.zero_add, o.cellAt _ (by omega), I.cell i hi, er]

set_option maxRecDepth 100000 in
set_option maxHeartbeats 8000000 in
theorem group_at (cols : List Int) (xs : List Ex) (gs : List Ag) (hT : ∀ g ∈ gs, measE cols g = 0 → TotalOk g.1) (hsum : xs.length + gs.length ≤ 9223372036854775807) (ca : Option Addr) (ccap : Nat) (xa : Option Addr) (xcap : Nat) (ga : Option Addr) (gcap : Nat) (a : Option Addr) (cap : Nat) (l : List Zp) (w : World) (hc : IsAt w.heap.size w ca cols) (hk : KsAt w.heap.size w xa xs) (hg : AgAt w.heap.size w ga gs) (h : ZsAt w a l) :
  Calls Tryz.prog 21 #[.slice ca cols.length ccap, .slice xa xs.length xcap, .slice ga gs.length gcap, .slice a l.length cap] w fun e w' => ∃ v, e = .returned (.tuple #[v, .int .i64 (groupE cols xs gs l)]) ∧ OwnZ w.heap.size w' v (groupZ cols xs gs l) ∧ Below w.heap.size w w' := by
 obtain ⟨i0, hi, hz0, hz1, hz2⟩ := info_parts Tryz.info42
 have con := list_at cols xs ca ccap xa xcap w hk hc
 generalize hfz : groupZ cols xs gs l = fz
 generalize hfe : groupE cols xs gs l = fe
 have HZ : Hid (groupZ cols xs gs l = fz) := hfz
 have HF : Hid (groupE cols xs gs l = fe) := hfe
 have HTo : Hid (∀ g ∈ gs, measE cols g = 0 → TotalOk g.1) := hT
 clear hfz hfe hT
 have hW : IntKind.i64.wrap ((xs.length : Int) + (gs.length : Int)) = (xs.length : Int) + (gs.length : Int) := IntWalk.i64_in _ ⟨by omega, by omega⟩
 by_cases h8 : 8 < xs.length + gs.length
 ·have e0 : fe = 5 := by rw [← HF.out]; unfold groupE; rw [if_pos h8]
  have e1 : fz = [] := by rw [← HZ.out]; unfold groupZ; rw [HF.out, e0, if_neg (by decide)]
  subst e0 e1
  have hz : (8 : Int) < (xs.length : Int) + (gs.length : Int) := by omega
  clear con
  go_enter Tryz.func21, Tryz.ntmps21
  go_wp2_with fail
  exact bodyPost_ret (v := .tuple #[.slice none 0 0, .int .i64 5]) (by simp [results, Tryz.results21, go_sem]) rfl ⟨_, rfl, own_nil _ _, Below.refl _ _⟩
 have hz : ¬ (8 : Int) < (xs.length : Int) + (gs.length : Int) := by omega
 have HN8 : Hid (¬ 8 < xs.length + gs.length) := h8
 by_cases h1 : listE cols xs = 0
 ·have H1 : Hid (listE cols xs = 0) := h1
  rw [h1] at con
  clear h1
  go_enter Tryz.func21, Tryz.ntmps21
  go_wp2_with fail
  refine con.mono ?_
  rintro e w1 ⟨u, rfl, hL, hb1⟩
  clear con
  have hL : ListF cols w.heap.size u xs w1 := by
   rcases hL with ⟨_, hL⟩ | ⟨hL, _⟩
   ·exact hL
   ·exact absurd (by trivial) hL
  have HL : Hid (ListF cols w.heap.size u xs w1) := hL
  obtain ⟨ug, ucb, rfl⟩ : ∃ g cb, u = .func (.func g) #[] cb := by obtain ⟨g, cb, e, _⟩ := hL; exact ⟨g, cb, e⟩
  clear hL
  have con := aggregates_at cols gs HTo.out ca ccap ga gcap w1 ((AgAt.next hb1 (Nat.le_refl _) hg).up hb1.size) ((hc.next hb1 (Nat.le_refl _)).up hb1.size) (by omega)
  by_cases h2 : aggsE cols gs = 0
  ·have H2 : Hid (aggsE cols gs = 0) := h2
   rw [h2] at con
   clear h2
   dsimp only
   go_wp2_with fail
   refine con.mono ?_
   rintro e w2 ⟨u2, rfl, hG, hb2⟩
   clear con
   have hG : AggF cols w1.heap.size u2 gs w2 := by
    rcases hG with ⟨_, hG⟩ | ⟨hG, _⟩
    ·exact hG
    ·exact absurd (by trivial) hG
   obtain ⟨tg, tcb, rfl, egt, dt⟩ := hG
   have HD : Hid (∀ (rows : List Zp) (a : Option Addr) (cap : Nat) (W : World), ROk cols rows → ZsAt W a rows → Since w1.heap.size w2 W → Calls Tryz.prog tg (#[.slice a rows.length cap] ++ tcb) W fun e w' => e = .returned (.slice (some ⟨W.heap.size, 0, none⟩) gs.length gs.length) ∧ RowNew W.heap.size w' (gs.map fun g => aggP g rows) ∧ Below W.heap.size W w') := dt
   clear dt
   have hA2 := chain hb1 hb2
   have con := wrongS_at cols ca ccap a cap l w2 ((hc.next hA2 (Nat.le_refl _)).up hA2.size) (h.next hA2)
   by_cases h3 : inpE cols l = 0
   ·have HO : Hid (InpOk cols l) := (inpE_ok cols l).1 h3
    rw [h3] at con
    have H3 : Hid (inpE cols l = 0) := h3
    clear h3
    have HE : Hid (fe = gatherE (groupL xs gs (inOrd xs l))) := by
     show fe = _
     rw [← HF.out]; unfold groupE; rw [if_neg HN8.out, H1.out, H2.out, H3.out, if_neg (by simp), if_neg (by simp), if_neg (by simp)]
    have HV : Hid (fz = gatherZ (groupL xs gs (inOrd xs l))) := by
     show fz = _
     rw [← HZ.out]; unfold groupZ gatherZ; rw [HF.out, HE.out]
    have hl4 := set_len HO.out
    dsimp only
    go_wp2_with fail
    refine con.mono ?_
    rintro e w3 ⟨rfl, hb3⟩
    clear con
    have hA3 := chain hA2 hb3
    have con := inOrder_at cols xs (.func (.func ug) #[] ucb) w.heap.size a cap l w3 (HL.out.next (Since.of (chain hb2 hb3))) HO.out (h.next hA3)
    have hil := inOrd_len xs l
    dsimp only
    go_wp2_with fail
    refine con.mono ?_
    rintro e w4 ⟨a4, c4, rfl, kd, hb4⟩
    clear con
    have con := parted_at a4 c4 (inOrd xs l) w4 kd (by omega)
    have hpk := parts_ok (xs := xs) HO.out
    have HPk : Hid (∀ p ∈ partsG xs (inOrd xs l), ROk cols p.2 ∧ p.1.length = xs.length) := hpk.2
    have hpl := hpk.1
    clear hpk
    dsimp only
    go_wp2_with fail
    refine con.mono ?_
    rintro e w5 ⟨v5, rfl, PS, hb5⟩
    clear con kd
    obtain ⟨a5, c5, rfl, PT⟩ := PS.pt hb5
    clear PS
    have hA5 := chain (chain hA3 hb4) hb5
    have hS5 := chain (chain hb3 hb4) hb5
    have HG : Hid (groupL xs gs (inOrd xs l) = (partsG xs (inOrd xs l)).map fun p => (p.1 ++ gs.map fun g => aggP g p.2, 1)) := rfl
    dsimp only
    by_cases hcx : xs.length = 0 ∧ (partL (inOrd xs l)).length = 0
    ·obtain ⟨hx0, hp0⟩ := hcx
     have eG : partsG xs (inOrd xs l) = [([], [])] := by unfold partsG; rw [if_pos ⟨hx0, hp0⟩]
     have hx0b : ((xs.length : Int) == 0) = true := by simp [hx0]
     have hp0b : (((partL (inOrd xs l)).length : Int) == 0) = true := by simp [hp0]
     obtain ⟨ps, eps⟩ : ∃ ps, ps = partsG xs (inOrd xs l) := ⟨_, rfl⟩
     have HPs : Hid (partsG xs (inOrd xs l) = ps) := eps.symm
     have hpsl : ps.length = 1 := by rw [eps, eG]; rfl
     have hplx : ps.length ≤ 401 := by omega
     generalize hpn : (partL (inOrd xs l)).length = pn at *
     have hal5 : Below w5.heap.size w5 (w5.alloc (.cells #[.slice none 0 0, .slice none 0 0] 91)) := (Below.refl _ _).alloc (Nat.le_refl _) _
     have q5 := heap_new w5 #[.slice none 0 0, .slice none 0 0] 91
     have PT : PtAt (w5.alloc (.cells #[.slice none 0 0, .slice none 0 0] 91)) (some ⟨w5.heap.size, 0, none⟩) ps := by
      rw [eps, eG]
      refine .inr ⟨w5.heap.size, 0, rfl, lt_of_heap q5, fun i hi => ?_⟩
      have e0 : i = 0 := by simpa using hi
      subst e0
      exact ⟨⟨none, 0, cell_of (i := 0) q5 rfl, Nat.zero_le _, .inl rfl⟩, none, 0, cell_of (i := 1) q5 rfl, Nat.zero_le _, .inl rfl⟩
     clear eps hpn eG hp0
     go_upto_region 15 with fail
     have hbx := chain hA5 hal5
     have hSx := chain hS5 hal5
     generalize w5.alloc (.cells #[.slice none 0 0, .slice none 0 0] 91) = wx at *
     obtain ⟨pa, epa⟩ : ∃ pa, pa = some (⟨w5.heap.size, 0, none⟩ : Addr) := ⟨_, rfl⟩
     rw [← epa] at PT ⊢
     clear epa
     rw [show (1 : Nat) = ps.length from hpsl.symm]
     clear hpsl hx0b hp0b hx0
     have hgl : (groupL xs gs (inOrd xs l)).length = ps.length := by rw [HG.out, HPs.out]; simp
     go_wp2_with (first | (at_make; refine wpList_make_full _ rfl _ _ 28 rfl wx.heap.size 53 i0 _ 2 Tryz.underlying28 hi hz0 hz1 .i64 .i64 ps.length ps.length ps.length rfl rfl rfl rfl (by rw [hz2]; omega) (by unfold maxLen; omega) (Nat.le_refl _) ?_))
     intro w6 hown hgrow
     have hb6 : Below wx.heap.size wx w6 := (Below.refl _ _).grown hgrow (Nat.le_refl _) (by simp)
     obtain ⟨f, hf⟩ : ∃ f : Nat → Zp, f = (fun j => (groupL xs gs (inOrd xs l)).getD j ([], 0)) := ⟨_, rfl⟩
     have HFn : Hid (f = (fun j => (groupL xs gs (inOrd xs l)).getD j ([], 0))) := hf
     have HGl : Hid ((groupL xs gs (inOrd xs l)).length = ps.length) := hgl
     clear hf hgl
     have hB0 : MTo w6 wx.heap.size ps.length f 0 := ⟨_, hown, fun j _ hj => absurd hj (Nat.not_lt_zero _)⟩
     clear hown hgrow
     go_wp2_with fail
     go_loopw [67] (fun i wr => ∃ k : Nat, k ≤ ps.length ∧ i = .int .i64 k ∧ MTo wr wx.heap.size ps.length f k ∧ wx.heap.size < wr.heap.size ∧ Below wx.heap.size wx wr) (fun i _ => ps.length - (intOf i).toNat)
     case atStart => exact ⟨0, Nat.zero_le _, rfl, hB0, (by obtain ⟨xs0, o0, _⟩ := hB0; exact (o0.lt wx.heap.size rfl).2), hb6⟩
     case round =>
      clear hB0 hb6
      obtain ⟨k, hk', rfl, HB, hwx, hb⟩ := hrel
      have hzz := hb.size
      by_cases hlt : k < ps.length
      ·obtain ⟨b, off, rfl, hbl, ⟨ka, kc, c0, sk⟩, ra, rc, c1, zr⟩ := (PT.next hb).elem hlt
       have hal : Below wr.heap.size wr (wr.alloc (.cells #[.slice ka ps[k].1.length kc, .slice ra ps[k].2.length rc] 91)) := (Below.refl _ _).alloc (Nat.le_refl _) _
       have q0 := heap_new wr #[.slice ka ps[k].1.length kc, .slice ra ps[k].2.length rc] 91
       have hpo := HPk.out ps[k] (by rw [HPs.out]; exact List.getElem_mem hlt)
       have HRo : Hid (ROk cols ps[k].2) := hpo.1
       have hkl := hpo.2
       have HSk : Hid (SlAt wr ka ps[k].1) := sk
       have HZr : Hid (ZsAt wr ra ps[k].2) := zr
       have ef : f k = (ps[k].1 ++ gs.map fun g => aggP g ps[k].2, 1) := by
        rw [HFn.out]
        simp only [HG.out, HPs.out]
        simp [List.getD, hlt]
       have EF : Hid (f k = (ps[k].1 ++ gs.map fun g => aggP g ps[k].2, 1)) := ef
       have i0' : (0 : Int) ≤ (k : Int) := by omega
       have i1 : (k : Int) < (ps.length : Int) := by omega
       have hkl8 : ps[k].1.length + gs.length ≤ 8 := by omega
       clear ef sk zr hpo hkl
       go_wp2_with fail
       clear c0 c1
       generalize wr.alloc (.cells #[.slice ka ps[k].1.length kc, .slice ra ps[k].2.length rc] 91) = wk at *
       have hCC : ∀ W W' : World, (W.heap[wr.heap.size]? = some (.cells #[.slice ka ps[k].1.length kc, .slice ra ps[k].2.length rc] 91 (0, 0))) → Below W.heap.size W W' → (W'.heap[wr.heap.size]? = some (.cells #[.slice ka ps[k].1.length kc, .slice ra ps[k].2.length rc] 91 (0, 0))) := fun W W' h hb => (hb.block _ (lt_of_heap h)).trans h
       have hd : Below wk.heap.size wk wk.drew := (Below.refl _ _).drew
       have CW : (wk.drew.heap[wr.heap.size]? = some (.cells #[.slice ka ps[k].1.length kc, .slice ra ps[k].2.length rc] 91 (0, 0))) := hCC _ _ q0 hd
       refine wp_region_cls (fun W => (W.heap[wr.heap.size]? = some (.cells #[.slice ka ps[k].1.length kc, .slice ra ps[k].2.length rc] 91 (0, 0)))) (by kernel_rfl) ?_
       refine wpY_take hCC (some 72) (i := 0) (v := .slice (some ⟨wx.heap.size, 0, none⟩) ps.length ps.length) rfl rfl (by kernel_rfl) (by kernel_rfl) (by kernel_rfl) (fun _ _ _ h => h) (Or.inl ⟨rfl, fun n hn => ?_⟩) CW ?_
       ·go_simp
       simp only [Act.put, List.setIfInBounds_toArray, List.set_cons_zero, List.set_cons_succ]
       refine wpY_take hCC (some 73) (i := 1) (v := .int .i64 (k : Int)) rfl rfl (by kernel_rfl) (by kernel_rfl) (by kernel_rfl) (fun _ _ _ h => h) (Or.inl ⟨rfl, fun n hn => ?_⟩) CW ?_
       ·go_simp
       simp only [Act.put, List.setIfInBounds_toArray, List.set_cons_zero, List.set_cons_succ]
       refine wpY_take hCC (some 74) (i := 2) (v := .pointer (some ⟨wr.heap.size, 0, none⟩)) rfl rfl (by kernel_rfl) (by kernel_rfl) (by kernel_rfl) (fun _ _ _ h => h) (Or.inl ⟨rfl, fun n hn => ?_⟩) CW ?_
       ·go_simp
       simp only [Act.put, List.setIfInBounds_toArray, List.set_cons_zero, List.set_cons_succ]
       refine wpY_take hCC (some 75) (i := 3) (v := .slice ka ps[k].1.length kc) rfl rfl (by kernel_rfl) (by kernel_rfl) (by kernel_rfl) (fun _ _ _ h => h) (Or.inl ⟨rfl, fun n hn => ?_⟩) CW ?_
       ·have hc : n.cell? ⟨wr.heap.size, 0, none⟩ = some (.slice ka ps[k].1.length kc) := cell_of (i := 0) hn rfl
        go_simp
       simp only [Act.put, List.setIfInBounds_toArray, List.set_cons_zero, List.set_cons_succ]
       refine wpY_take hCC (some 76) (i := 4) (v := .func (.func tg) #[] tcb) rfl rfl (by kernel_rfl) (by kernel_rfl) (by kernel_rfl) (fun _ _ _ h => h) (Or.inl ⟨rfl, fun n hn => ?_⟩) CW ?_
       ·go_simp
       simp only [Act.put, List.setIfInBounds_toArray, List.set_cons_zero, List.set_cons_succ]
       refine wpY_take hCC (some 77) (i := 5) (v := .pointer (some ⟨wr.heap.size, 1, none⟩)) rfl rfl (by kernel_rfl) (by kernel_rfl) (by kernel_rfl) (fun _ _ _ h => h) (Or.inl ⟨rfl, fun n hn => ?_⟩) CW ?_
       ·go_simp
       simp only [Act.put, List.setIfInBounds_toArray, List.set_cons_zero, List.set_cons_succ]
       refine wpY_take hCC (some 78) (i := 6) (v := .slice ra ps[k].2.length rc) rfl rfl (by kernel_rfl) (by kernel_rfl) (by kernel_rfl) (fun _ _ _ h => h) (Or.inl ⟨rfl, fun n hn => ?_⟩) CW ?_
       ·have hc : n.cell? ⟨wr.heap.size, 1, none⟩ = some (.slice ra ps[k].2.length rc) := cell_of (i := 1) hn rfl
        go_simp
       simp only [Act.put, List.setIfInBounds_toArray, List.set_cons_zero, List.set_cons_succ]
       refine wpY_step (rs := [7]) (by kernel_rfl) (by simp) ?_
       intro w7 hb7 jj hj
       obtain rfl : jj = 7 := by simpa using hj
       clear hj
       have CW7 := hCC _ _ CW hb7
       have D7 := chain hal (chain hd hb7)
       have con := HD.out ps[k].2 ra rc w7 HRo.out (HZr.out.next D7) (Since.of (chain hSx (chain hb D7)))
       refine wpOp_step rfl (fun K hK => ?_)
       go_simp
       first | (refine con.mono ?_) | (go_at_fn tg; refine con.mono ?_)
       rintro e w8 ⟨rfl, hRN, hb8⟩
       clear con
       have CW8 := hCC _ _ CW7 hb8
       have D8 := chain D7 hb8
       refine hK _ _ ⟨CW8, ?_⟩
       clear hK K
       refine wpY_step (rs := [8]) (by kernel_rfl) (by simp) ?_
       intro w9 hb9 jj hj
       obtain rfl : jj = 8 := by simpa using hj
       clear hj
       refine wpOp_step rfl (fun K hK => ?_)
       go_simp
       have CW9 := hCC _ _ CW8 hb9
       have D9 := chain D8 hb9
       have R2 := raw_vals (hRN.1.next hb9)
       have hgm : (gs.map fun g => aggP g ps[k].2).length = gs.length := by simp
       rw [hgm] at R2
       have PC := PairC.new kc gs.length (raw_vals (HSk.out.next D9)) R2 51
       have halA : Below w9.heap.size w9 (w9.alloc (.cells #[.slice ka ps[k].1.length kc, .slice (some ⟨w7.heap.size, 0, none⟩) gs.length gs.length] 51)) := (Below.refl _ _).alloc (Nat.le_refl _) _
       have CWA := hCC _ _ CW9 halA
       have DA := chain D9 halA
       refine hK _ _ ⟨CWA, ?_⟩
       clear hK K R2 hgm hRN
       generalize w9.alloc (.cells #[.slice ka ps[k].1.length kc, .slice (some ⟨w7.heap.size, 0, none⟩) gs.length gs.length] 51) = wA at *
       refine wpY_step (rs := [9]) (by kernel_rfl) (by simp) ?_
       intro wB hbB jj hj
       obtain rfl : jj = 9 := by simpa using hj
       clear hj
       refine wpOp_step rfl (fun K hK => ?_)
       go_simp
       have CWB := hCC _ _ CWA hbB
       have DB := chain DA hbB
       refine (concatV_at _ _ _ _ _ wB (PC.next hbB) (by omega)).mono ?_
       rintro e wC ⟨vC, rfl, OC, hbC⟩
       rw [← flatV_append] at OC
       obtain ⟨aC, cC, rfl, SC, TC, _⟩ := own_vals OC (by simp)
       have CWC := hCC _ _ CWB hbC
       have DC := chain DB hbC
       refine hK _ _ ⟨CWC, ?_⟩
       clear hK K OC PC CW7 CW8 CW9 CWA CWB CW
       obtain ⟨rr, err⟩ : ∃ rr, rr = ps[k].1 ++ gs.map fun g => aggP g ps[k].2 := ⟨_, rfl⟩
       rw [← err] at SC ⊢
       have EFr : Hid (f k = (rr, 1)) := by show _ = _; rw [err]; exact EF.out
       clear err EF
       refine wpY_take hCC (some 82) (i := 10) (v := .agg #[.slice aC rr.length cC, .int .i64 1]) rfl rfl (by kernel_rfl) (by kernel_rfl) (by kernel_rfl) (fun _ _ _ h => h) (Or.inl ⟨rfl, fun n hn => ?_⟩) CWC ?_
       ·go_simp
       simp only [Act.put, List.setIfInBounds_toArray, List.set_cons_zero, List.set_cons_succ]
       refine wpY_take hCC (some 83) (i := 11) (v := .pointer (some ⟨wx.heap.size, k * 2, none⟩)) rfl rfl (by kernel_rfl) (by kernel_rfl) (by kernel_rfl) (fun _ _ _ h => h) (Or.inl ⟨rfl, fun n hn => ?_⟩) CWC ?_
       ·go_simp
       simp only [Act.put, List.setIfInBounds_toArray, List.set_cons_zero, List.set_cons_succ]
       refine wpY_step (rs := [12]) (by kernel_rfl) (by simp) ?_
       intro wD hbD jj hj
       obtain rfl : jj = 12 := by simpa using hj
       clear hj
       have CWD := hCC _ _ CWC hbD
       have DD := chain DC hbD
       have HBD := (HB.next DD)
       obtain ⟨⟨u0, u1, d0, d1⟩, f0, f1, hlb⟩ := HBD.cells hlt
       have MS := HBD.step hlt (a := aC) (cap := cC) (by rw [EFr.out]; exact SC.next hbD) (TC.next hbD)
       rw [EFr.out] at MS
       have hne : wr.heap.size ≠ wx.heap.size := by omega
       have CWE : (((wD.setCell ⟨wx.heap.size, k * 2, none⟩ (.slice aC rr.length cC)).setCell ⟨wx.heap.size, k * 2 + 1, none⟩ (.int .i64 1)).heap[wr.heap.size]? = some (.cells #[.slice ka ps[k].1.length kc, .slice ra ps[k].2.length rc] 91 (0, 0))) := (Below.heap_setCell _ _ _ _ hne).trans ((Below.heap_setCell _ _ _ _ hne).trans CWD)
       have BE : Below wx.heap.size wx ((wD.setCell ⟨wx.heap.size, k * 2, none⟩ (.slice aC rr.length cC)).setCell ⟨wx.heap.size, k * 2 + 1, none⟩ (.int .i64 1)) := ((chain hb DD).setCell (p := ⟨wx.heap.size, k * 2, none⟩) (Nat.le_refl _) _).setCell (p := ⟨wx.heap.size, k * 2 + 1, none⟩) (Nat.le_refl _) _
       have zE : wx.heap.size < ((wD.setCell ⟨wx.heap.size, k * 2, none⟩ (.slice aC rr.length cC)).setCell ⟨wx.heap.size, k * 2 + 1, none⟩ (.int .i64 1)).heap.size := by simpa [World.setCell] using hlb
       refine wpOp_step rfl (fun K hK => ?_)
       go_simp
       refine hK _ _ ⟨CWE, ?_⟩
       clear hK K CWD CWC d0 d1 f0 f1 HBD SC TC
       generalize (wD.setCell ⟨wx.heap.size, k * 2, none⟩ (.slice aC rr.length cC)).setCell ⟨wx.heap.size, k * 2 + 1, none⟩ (.int .i64 1) = wE at *
       refine wpY_done (by kernel_rfl) ?_
       intro wF hbF
       have MF := MS.next hbF
       have BF := chain BE hbF
       have zF := hbF.size
       clear MS BE CWE hCC
       go_wp2_with fail
       go_roundw
       case rel => exact ⟨k + 1, by omega, by go_num, MF, by omega, BF⟩
       case measure => simp [intOf]; omega
      ·have e : k = ps.length := by omega
       subst e
       have zsm := HB.done (groupL xs gs (inOrd xs l)) HGl.out.symm (fun j hj => by rw [HFn.out]; simp [List.getD, hj]) (by rw [HGl.out]; omega)
       have hmem : ∀ y ∈ groupL xs gs (inOrd xs l), y.2 = 1 ∧ y.1.length ≤ 8 := fun y hy => by
        rw [HG.out] at hy
        obtain ⟨p, hp, rfl⟩ := List.mem_map.1 hy
        have := (HPk.out p hp).2
        exact ⟨rfl, by simp; omega⟩
       have con := gathered_at (some ⟨wx.heap.size, 0, none⟩) ps.length (groupL xs gs (inOrd xs l)) wr zsm (by rw [HGl.out]; omega) (fun y hy => by rw [(hmem y hy).1]; rfl) (fun y hy => (hmem y hy).2)
       rw [HGl.out, ← HE.out, ← HV.out] at con
       clear zsm HB hmem
       have hAr := chain hbx hb
       go_wp2_with fail
       refine con.mono ?_
       rintro e w9 ⟨v9, rfl, O9, hb9⟩
       have O9' := O9.mono hAr.size
       obtain ⟨a9, c9, rfl, _⟩ := O9.zs
       clear con O9
       dsimp only
       go_wp2_with fail
       exact bodyPost_ret (v := .tuple #[.slice a9 fz.length c9, .int .i64 fe]) (by simp [results, Tryz.results21, go_sem]) rfl ⟨_, rfl, O9', chain hAr hb9⟩
    ·have eG : partsG xs (inOrd xs l) = partL (inOrd xs l) := by unfold partsG; rw [if_neg hcx]
     obtain ⟨ps, eps⟩ : ∃ ps, ps = partsG xs (inOrd xs l) := ⟨_, rfl⟩
     have HPs : Hid (partsG xs (inOrd xs l) = ps) := eps.symm
     have eP : partL (inOrd xs l) = ps := by rw [eps, eG]
     rw [eP] at hcx PT ⊢
     have hplx : ps.length ≤ 401 := by rw [eps]; exact hpl
     clear eps eG eP
     obtain ⟨wx, hwx5⟩ : ∃ z, z = w5 := ⟨_, rfl⟩
     subst hwx5
     have hbx := hA5
     have hSx := hS5
     by_cases e1 : xs.length = 0
     ·have e2n : ¬ (ps.length : Int) = 0 := fun e2 => hcx ⟨e1, by omega⟩
      have e2 : ((ps.length : Int) == 0) = false := by rw [beq_eq_false_iff_ne]; exact e2n
      have e1b : ((xs.length : Int) == 0) = true := by simp [e1]
      clear hcx e1
      go_upto_region 15 with fail
      clear e1b e2 e2n
      have hgl : (groupL xs gs (inOrd xs l)).length = ps.length := by rw [HG.out, HPs.out]; simp
      go_wp2_with (first | (at_make; refine wpList_make_full _ rfl _ _ 28 rfl wx.heap.size 53 i0 _ 2 Tryz.underlying28 hi hz0 hz1 .i64 .i64 ps.length ps.length ps.length rfl rfl rfl rfl (by rw [hz2]; omega) (by unfold maxLen; omega) (Nat.le_refl _) ?_))
      intro w6 hown hgrow
      have hb6 : Below wx.heap.size wx w6 := (Below.refl _ _).grown hgrow (Nat.le_refl _) (by simp)
      obtain ⟨f, hf⟩ : ∃ f : Nat → Zp, f = (fun j => (groupL xs gs (inOrd xs l)).getD j ([], 0)) := ⟨_, rfl⟩
      have HFn : Hid (f = (fun j => (groupL xs gs (inOrd xs l)).getD j ([], 0))) := hf
      have HGl : Hid ((groupL xs gs (inOrd xs l)).length = ps.length) := hgl
      clear hf hgl
      have hB0 : MTo w6 wx.heap.size ps.length f 0 := ⟨_, hown, fun j _ hj => absurd hj (Nat.not_lt_zero _)⟩
      clear hown hgrow
      go_wp2_with fail
      go_loopw [67] (fun i wr => ∃ k : Nat, k ≤ ps.length ∧ i = .int .i64 k ∧ MTo wr wx.heap.size ps.length f k ∧ wx.heap.size < wr.heap.size ∧ Below wx.heap.size wx wr) (fun i _ => ps.length - (intOf i).toNat)
      case atStart => exact ⟨0, Nat.zero_le _, rfl, hB0, (by obtain ⟨xs0, o0, _⟩ := hB0; exact (o0.lt wx.heap.size rfl).2), hb6⟩
      case round =>
       clear hB0 hb6
       obtain ⟨k, hk', rfl, HB, hwx, hb⟩ := hrel
       have hzz := hb.size
       by_cases hlt : k < ps.length
       ·obtain ⟨b, off, rfl, hbl, ⟨ka, kc, c0, sk⟩, ra, rc, c1, zr⟩ := (PT.next hb).elem hlt
        have hal : Below wr.heap.size wr (wr.alloc (.cells #[.slice ka ps[k].1.length kc, .slice ra ps[k].2.length rc] 91)) := (Below.refl _ _).alloc (Nat.le_refl _) _
        have q0 := heap_new wr #[.slice ka ps[k].1.length kc, .slice ra ps[k].2.length rc] 91
        have hpo := HPk.out ps[k] (by rw [HPs.out]; exact List.getElem_mem hlt)
        have HRo : Hid (ROk cols ps[k].2) := hpo.1
        have hkl := hpo.2
        have HSk : Hid (SlAt wr ka ps[k].1) := sk
        have HZr : Hid (ZsAt wr ra ps[k].2) := zr
        have ef : f k = (ps[k].1 ++ gs.map fun g => aggP g ps[k].2, 1) := by
         rw [HFn.out]
         simp only [HG.out, HPs.out]
         simp [List.getD, hlt]
        have EF : Hid (f k = (ps[k].1 ++ gs.map fun g => aggP g ps[k].2, 1)) := ef
        have i0' : (0 : Int) ≤ (k : Int) := by omega
        have i1 : (k : Int) < (ps.length : Int) := by omega
        have hkl8 : ps[k].1.length + gs.length ≤ 8 := by omega
        clear ef sk zr hpo hkl
        go_wp2_with fail
        clear c0 c1
        generalize wr.alloc (.cells #[.slice ka ps[k].1.length kc, .slice ra ps[k].2.length rc] 91) = wk at *
        have hCC : ∀ W W' : World, (W.heap[wr.heap.size]? = some (.cells #[.slice ka ps[k].1.length kc, .slice ra ps[k].2.length rc] 91 (0, 0))) → Below W.heap.size W W' → (W'.heap[wr.heap.size]? = some (.cells #[.slice ka ps[k].1.length kc, .slice ra ps[k].2.length rc] 91 (0, 0))) := fun W W' h hb => (hb.block _ (lt_of_heap h)).trans h
        have hd : Below wk.heap.size wk wk.drew := (Below.refl _ _).drew
        have CW : (wk.drew.heap[wr.heap.size]? = some (.cells #[.slice ka ps[k].1.length kc, .slice ra ps[k].2.length rc] 91 (0, 0))) := hCC _ _ q0 hd
        refine wp_region_cls (fun W => (W.heap[wr.heap.size]? = some (.cells #[.slice ka ps[k].1.length kc, .slice ra ps[k].2.length rc] 91 (0, 0)))) (by kernel_rfl) ?_
        refine wpY_take hCC (some 72) (i := 0) (v := .slice (some ⟨wx.heap.size, 0, none⟩) ps.length ps.length) rfl rfl (by kernel_rfl) (by kernel_rfl) (by kernel_rfl) (fun _ _ _ h => h) (Or.inl ⟨rfl, fun n hn => ?_⟩) CW ?_
        ·go_simp
        simp only [Act.put, List.setIfInBounds_toArray, List.set_cons_zero, List.set_cons_succ]
        refine wpY_take hCC (some 73) (i := 1) (v := .int .i64 (k : Int)) rfl rfl (by kernel_rfl) (by kernel_rfl) (by kernel_rfl) (fun _ _ _ h => h) (Or.inl ⟨rfl, fun n hn => ?_⟩) CW ?_
        ·go_simp
        simp only [Act.put, List.setIfInBounds_toArray, List.set_cons_zero, List.set_cons_succ]
        refine wpY_take hCC (some 74) (i := 2) (v := .pointer (some ⟨wr.heap.size, 0, none⟩)) rfl rfl (by kernel_rfl) (by kernel_rfl) (by kernel_rfl) (fun _ _ _ h => h) (Or.inl ⟨rfl, fun n hn => ?_⟩) CW ?_
        ·go_simp
        simp only [Act.put, List.setIfInBounds_toArray, List.set_cons_zero, List.set_cons_succ]
        refine wpY_take hCC (some 75) (i := 3) (v := .slice ka ps[k].1.length kc) rfl rfl (by kernel_rfl) (by kernel_rfl) (by kernel_rfl) (fun _ _ _ h => h) (Or.inl ⟨rfl, fun n hn => ?_⟩) CW ?_
        ·have hc : n.cell? ⟨wr.heap.size, 0, none⟩ = some (.slice ka ps[k].1.length kc) := cell_of (i := 0) hn rfl
         go_simp
        simp only [Act.put, List.setIfInBounds_toArray, List.set_cons_zero, List.set_cons_succ]
        refine wpY_take hCC (some 76) (i := 4) (v := .func (.func tg) #[] tcb) rfl rfl (by kernel_rfl) (by kernel_rfl) (by kernel_rfl) (fun _ _ _ h => h) (Or.inl ⟨rfl, fun n hn => ?_⟩) CW ?_
        ·go_simp
        simp only [Act.put, List.setIfInBounds_toArray, List.set_cons_zero, List.set_cons_succ]
        refine wpY_take hCC (some 77) (i := 5) (v := .pointer (some ⟨wr.heap.size, 1, none⟩)) rfl rfl (by kernel_rfl) (by kernel_rfl) (by kernel_rfl) (fun _ _ _ h => h) (Or.inl ⟨rfl, fun n hn => ?_⟩) CW ?_
        ·go_simp
        simp only [Act.put, List.setIfInBounds_toArray, List.set_cons_zero, List.set_cons_succ]
        refine wpY_take hCC (some 78) (i := 6) (v := .slice ra ps[k].2.length rc) rfl rfl (by kernel_rfl) (by kernel_rfl) (by kernel_rfl) (fun _ _ _ h => h) (Or.inl ⟨rfl, fun n hn => ?_⟩) CW ?_
        ·have hc : n.cell? ⟨wr.heap.size, 1, none⟩ = some (.slice ra ps[k].2.length rc) := cell_of (i := 1) hn rfl
         go_simp
        simp only [Act.put, List.setIfInBounds_toArray, List.set_cons_zero, List.set_cons_succ]
        refine wpY_step (rs := [7]) (by kernel_rfl) (by simp) ?_
        intro w7 hb7 jj hj
        obtain rfl : jj = 7 := by simpa using hj
        clear hj
        have CW7 := hCC _ _ CW hb7
        have D7 := chain hal (chain hd hb7)
        have con := HD.out ps[k].2 ra rc w7 HRo.out (HZr.out.next D7) (Since.of (chain hSx (chain hb D7)))
        refine wpOp_step rfl (fun K hK => ?_)
        go_simp
        first | (refine con.mono ?_) | (go_at_fn tg; refine con.mono ?_)
        rintro e w8 ⟨rfl, hRN, hb8⟩
        clear con
        have CW8 := hCC _ _ CW7 hb8
        have D8 := chain D7 hb8
        refine hK _ _ ⟨CW8, ?_⟩
        clear hK K
        refine wpY_step (rs := [8]) (by kernel_rfl) (by simp) ?_
        intro w9 hb9 jj hj
        obtain rfl : jj = 8 := by simpa using hj
        clear hj
        refine wpOp_step rfl (fun K hK => ?_)
        go_simp
        have CW9 := hCC _ _ CW8 hb9
        have D9 := chain D8 hb9
        have R2 := raw_vals (hRN.1.next hb9)
        have hgm : (gs.map fun g => aggP g ps[k].2).length = gs.length := by simp
        rw [hgm] at R2
        have PC := PairC.new kc gs.length (raw_vals (HSk.out.next D9)) R2 51
        have halA : Below w9.heap.size w9 (w9.alloc (.cells #[.slice ka ps[k].1.length kc, .slice (some ⟨w7.heap.size, 0, none⟩) gs.length gs.length] 51)) := (Below.refl _ _).alloc (Nat.le_refl _) _
        have CWA := hCC _ _ CW9 halA
        have DA := chain D9 halA
        refine hK _ _ ⟨CWA, ?_⟩
        clear hK K R2 hgm hRN
        generalize w9.alloc (.cells #[.slice ka ps[k].1.length kc, .slice (some ⟨w7.heap.size, 0, none⟩) gs.length gs.length] 51) = wA at *
        refine wpY_step (rs := [9]) (by kernel_rfl) (by simp) ?_
        intro wB hbB jj hj
        obtain rfl : jj = 9 := by simpa using hj
        clear hj
        refine wpOp_step rfl (fun K hK => ?_)
        go_simp
        have CWB := hCC _ _ CWA hbB
        have DB := chain DA hbB
        refine (concatV_at _ _ _ _ _ wB (PC.next hbB) (by omega)).mono ?_
        rintro e wC ⟨vC, rfl, OC, hbC⟩
        rw [← flatV_append] at OC
        obtain ⟨aC, cC, rfl, SC, TC, _⟩ := own_vals OC (by simp)
        have CWC := hCC _ _ CWB hbC
        have DC := chain DB hbC
        refine hK _ _ ⟨CWC, ?_⟩
        clear hK K OC PC CW7 CW8 CW9 CWA CWB CW
        obtain ⟨rr, err⟩ : ∃ rr, rr = ps[k].1 ++ gs.map fun g => aggP g ps[k].2 := ⟨_, rfl⟩
        rw [← err] at SC ⊢
        have EFr : Hid (f k = (rr, 1)) := by show _ = _; rw [err]; exact EF.out
        clear err EF
        refine wpY_take hCC (some 82) (i := 10) (v := .agg #[.slice aC rr.length cC, .int .i64 1]) rfl rfl (by kernel_rfl) (by kernel_rfl) (by kernel_rfl) (fun _ _ _ h => h) (Or.inl ⟨rfl, fun n hn => ?_⟩) CWC ?_
        ·go_simp
        simp only [Act.put, List.setIfInBounds_toArray, List.set_cons_zero, List.set_cons_succ]
        refine wpY_take hCC (some 83) (i := 11) (v := .pointer (some ⟨wx.heap.size, k * 2, none⟩)) rfl rfl (by kernel_rfl) (by kernel_rfl) (by kernel_rfl) (fun _ _ _ h => h) (Or.inl ⟨rfl, fun n hn => ?_⟩) CWC ?_
        ·go_simp
        simp only [Act.put, List.setIfInBounds_toArray, List.set_cons_zero, List.set_cons_succ]
        refine wpY_step (rs := [12]) (by kernel_rfl) (by simp) ?_
        intro wD hbD jj hj
        obtain rfl : jj = 12 := by simpa using hj
        clear hj
        have CWD := hCC _ _ CWC hbD
        have DD := chain DC hbD
        have HBD := (HB.next DD)
        obtain ⟨⟨u0, u1, d0, d1⟩, f0, f1, hlb⟩ := HBD.cells hlt
        have MS := HBD.step hlt (a := aC) (cap := cC) (by rw [EFr.out]; exact SC.next hbD) (TC.next hbD)
        rw [EFr.out] at MS
        have hne : wr.heap.size ≠ wx.heap.size := by omega
        have CWE : (((wD.setCell ⟨wx.heap.size, k * 2, none⟩ (.slice aC rr.length cC)).setCell ⟨wx.heap.size, k * 2 + 1, none⟩ (.int .i64 1)).heap[wr.heap.size]? = some (.cells #[.slice ka ps[k].1.length kc, .slice ra ps[k].2.length rc] 91 (0, 0))) := (Below.heap_setCell _ _ _ _ hne).trans ((Below.heap_setCell _ _ _ _ hne).trans CWD)
        have BE : Below wx.heap.size wx ((wD.setCell ⟨wx.heap.size, k * 2, none⟩ (.slice aC rr.length cC)).setCell ⟨wx.heap.size, k * 2 + 1, none⟩ (.int .i64 1)) := ((chain hb DD).setCell (p := ⟨wx.heap.size, k * 2, none⟩) (Nat.le_refl _) _).setCell (p := ⟨wx.heap.size, k * 2 + 1, none⟩) (Nat.le_refl _) _
        have zE : wx.heap.size < ((wD.setCell ⟨wx.heap.size, k * 2, none⟩ (.slice aC rr.length cC)).setCell ⟨wx.heap.size, k * 2 + 1, none⟩ (.int .i64 1)).heap.size := by simpa [World.setCell] using hlb
        refine wpOp_step rfl (fun K hK => ?_)
        go_simp
        refine hK _ _ ⟨CWE, ?_⟩
        clear hK K CWD CWC d0 d1 f0 f1 HBD SC TC
        generalize (wD.setCell ⟨wx.heap.size, k * 2, none⟩ (.slice aC rr.length cC)).setCell ⟨wx.heap.size, k * 2 + 1, none⟩ (.int .i64 1) = wE at *
        refine wpY_done (by kernel_rfl) ?_
        intro wF hbF
        have MF := MS.next hbF
        have BF := chain BE hbF
        have zF := hbF.size
        clear MS BE CWE hCC
        go_wp2_with fail
        go_roundw
        case rel => exact ⟨k + 1, by omega, by go_num, MF, by omega, BF⟩
        case measure => simp [intOf]; omega
       ·have e : k = ps.length := by omega
        subst e
        have zsm := HB.done (groupL xs gs (inOrd xs l)) HGl.out.symm (fun j hj => by rw [HFn.out]; simp [List.getD, hj]) (by rw [HGl.out]; omega)
        have hmem : ∀ y ∈ groupL xs gs (inOrd xs l), y.2 = 1 ∧ y.1.length ≤ 8 := fun y hy => by
         rw [HG.out] at hy
         obtain ⟨p, hp, rfl⟩ := List.mem_map.1 hy
         have := (HPk.out p hp).2
         exact ⟨rfl, by simp; omega⟩
        have con := gathered_at (some ⟨wx.heap.size, 0, none⟩) ps.length (groupL xs gs (inOrd xs l)) wr zsm (by rw [HGl.out]; omega) (fun y hy => by rw [(hmem y hy).1]; rfl) (fun y hy => (hmem y hy).2)
        rw [HGl.out, ← HE.out, ← HV.out] at con
        clear zsm HB hmem
        have hAr := chain hbx hb
        go_wp2_with fail
        refine con.mono ?_
        rintro e w9 ⟨v9, rfl, O9, hb9⟩
        have O9' := O9.mono hAr.size
        obtain ⟨a9, c9, rfl, _⟩ := O9.zs
        clear con O9
        dsimp only
        go_wp2_with fail
        exact bodyPost_ret (v := .tuple #[.slice a9 fz.length c9, .int .i64 fe]) (by simp [results, Tryz.results21, go_sem]) rfl ⟨_, rfl, O9', chain hAr hb9⟩
     ·have e1n : ¬ (xs.length : Int) = 0 := by omega
      have e1b : ((xs.length : Int) == 0) = false := by rw [beq_eq_false_iff_ne]; exact e1n
      clear hcx e1
      go_upto_region 15 with fail
      clear e1b e1n
      have hgl : (groupL xs gs (inOrd xs l)).length = ps.length := by rw [HG.out, HPs.out]; simp
      go_wp2_with (first | (at_make; refine wpList_make_full _ rfl _ _ 28 rfl wx.heap.size 53 i0 _ 2 Tryz.underlying28 hi hz0 hz1 .i64 .i64 ps.length ps.length ps.length rfl rfl rfl rfl (by rw [hz2]; omega) (by unfold maxLen; omega) (Nat.le_refl _) ?_))
      intro w6 hown hgrow
      have hb6 : Below wx.heap.size wx w6 := (Below.refl _ _).grown hgrow (Nat.le_refl _) (by simp)
      obtain ⟨f, hf⟩ : ∃ f : Nat → Zp, f = (fun j => (groupL xs gs (inOrd xs l)).getD j ([], 0)) := ⟨_, rfl⟩
      have HFn : Hid (f = (fun j => (groupL xs gs (inOrd xs l)).getD j ([], 0))) := hf
      have HGl : Hid ((groupL xs gs (inOrd xs l)).length = ps.length) := hgl
      clear hf hgl
      have hB0 : MTo w6 wx.heap.size ps.length f 0 := ⟨_, hown, fun j _ hj => absurd hj (Nat.not_lt_zero _)⟩
      clear hown hgrow
      go_wp2_with fail
      go_loopw [67] (fun i wr => ∃ k : Nat, k ≤ ps.length ∧ i = .int .i64 k ∧ MTo wr wx.heap.size ps.length f k ∧ wx.heap.size < wr.heap.size ∧ Below wx.heap.size wx wr) (fun i _ => ps.length - (intOf i).toNat)
      case atStart => exact ⟨0, Nat.zero_le _, rfl, hB0, (by obtain ⟨xs0, o0, _⟩ := hB0; exact (o0.lt wx.heap.size rfl).2), hb6⟩
      case round =>
       clear hB0 hb6
       obtain ⟨k, hk', rfl, HB, hwx, hb⟩ := hrel
       have hzz := hb.size
       by_cases hlt : k < ps.length
       ·obtain ⟨b, off, rfl, hbl, ⟨ka, kc, c0, sk⟩, ra, rc, c1, zr⟩ := (PT.next hb).elem hlt
        have hal : Below wr.heap.size wr (wr.alloc (.cells #[.slice ka ps[k].1.length kc, .slice ra ps[k].2.length rc] 91)) := (Below.refl _ _).alloc (Nat.le_refl _) _
        have q0 := heap_new wr #[.slice ka ps[k].1.length kc, .slice ra ps[k].2.length rc] 91
        have hpo := HPk.out ps[k] (by rw [HPs.out]; exact List.getElem_mem hlt)
        have HRo : Hid (ROk cols ps[k].2) := hpo.1
        have hkl := hpo.2
        have HSk : Hid (SlAt wr ka ps[k].1) := sk
        have HZr : Hid (ZsAt wr ra ps[k].2) := zr
        have ef : f k = (ps[k].1 ++ gs.map fun g => aggP g ps[k].2, 1) := by
         rw [HFn.out]
         simp only [HG.out, HPs.out]
         simp [List.getD, hlt]
        have EF : Hid (f k = (ps[k].1 ++ gs.map fun g => aggP g ps[k].2, 1)) := ef
        have i0' : (0 : Int) ≤ (k : Int) := by omega
        have i1 : (k : Int) < (ps.length : Int) := by omega
        have hkl8 : ps[k].1.length + gs.length ≤ 8 := by omega
        clear ef sk zr hpo hkl
        go_wp2_with fail
        clear c0 c1
        generalize wr.alloc (.cells #[.slice ka ps[k].1.length kc, .slice ra ps[k].2.length rc] 91) = wk at *
        have hCC : ∀ W W' : World, (W.heap[wr.heap.size]? = some (.cells #[.slice ka ps[k].1.length kc, .slice ra ps[k].2.length rc] 91 (0, 0))) → Below W.heap.size W W' → (W'.heap[wr.heap.size]? = some (.cells #[.slice ka ps[k].1.length kc, .slice ra ps[k].2.length rc] 91 (0, 0))) := fun W W' h hb => (hb.block _ (lt_of_heap h)).trans h
        have hd : Below wk.heap.size wk wk.drew := (Below.refl _ _).drew
        have CW : (wk.drew.heap[wr.heap.size]? = some (.cells #[.slice ka ps[k].1.length kc, .slice ra ps[k].2.length rc] 91 (0, 0))) := hCC _ _ q0 hd
        refine wp_region_cls (fun W => (W.heap[wr.heap.size]? = some (.cells #[.slice ka ps[k].1.length kc, .slice ra ps[k].2.length rc] 91 (0, 0)))) (by kernel_rfl) ?_
        refine wpY_take hCC (some 72) (i := 0) (v := .slice (some ⟨wx.heap.size, 0, none⟩) ps.length ps.length) rfl rfl (by kernel_rfl) (by kernel_rfl) (by kernel_rfl) (fun _ _ _ h => h) (Or.inl ⟨rfl, fun n hn => ?_⟩) CW ?_
        ·go_simp
        simp only [Act.put, List.setIfInBounds_toArray, List.set_cons_zero, List.set_cons_succ]
        refine wpY_take hCC (some 73) (i := 1) (v := .int .i64 (k : Int)) rfl rfl (by kernel_rfl) (by kernel_rfl) (by kernel_rfl) (fun _ _ _ h => h) (Or.inl ⟨rfl, fun n hn => ?_⟩) CW ?_
        ·go_simp
        simp only [Act.put, List.setIfInBounds_toArray, List.set_cons_zero, List.set_cons_succ]
        refine wpY_take hCC (some 74) (i := 2) (v := .pointer (some ⟨wr.heap.size, 0, none⟩)) rfl rfl (by kernel_rfl) (by kernel_rfl) (by kernel_rfl) (fun _ _ _ h => h) (Or.inl ⟨rfl, fun n hn => ?_⟩) CW ?_
        ·go_simp
        simp only [Act.put, List.setIfInBounds_toArray, List.set_cons_zero, List.set_cons_succ]
        refine wpY_take hCC (some 75) (i := 3) (v := .slice ka ps[k].1.length kc) rfl rfl (by kernel_rfl) (by kernel_rfl) (by kernel_rfl) (fun _ _ _ h => h) (Or.inl ⟨rfl, fun n hn => ?_⟩) CW ?_
        ·have hc : n.cell? ⟨wr.heap.size, 0, none⟩ = some (.slice ka ps[k].1.length kc) := cell_of (i := 0) hn rfl
         go_simp
        simp only [Act.put, List.setIfInBounds_toArray, List.set_cons_zero, List.set_cons_succ]
        refine wpY_take hCC (some 76) (i := 4) (v := .func (.func tg) #[] tcb) rfl rfl (by kernel_rfl) (by kernel_rfl) (by kernel_rfl) (fun _ _ _ h => h) (Or.inl ⟨rfl, fun n hn => ?_⟩) CW ?_
        ·go_simp
        simp only [Act.put, List.setIfInBounds_toArray, List.set_cons_zero, List.set_cons_succ]
        refine wpY_take hCC (some 77) (i := 5) (v := .pointer (some ⟨wr.heap.size, 1, none⟩)) rfl rfl (by kernel_rfl) (by kernel_rfl) (by kernel_rfl) (fun _ _ _ h => h) (Or.inl ⟨rfl, fun n hn => ?_⟩) CW ?_
        ·go_simp
        simp only [Act.put, List.setIfInBounds_toArray, List.set_cons_zero, List.set_cons_succ]
        refine wpY_take hCC (some 78) (i := 6) (v := .slice ra ps[k].2.length rc) rfl rfl (by kernel_rfl) (by kernel_rfl) (by kernel_rfl) (fun _ _ _ h => h) (Or.inl ⟨rfl, fun n hn => ?_⟩) CW ?_
        ·have hc : n.cell? ⟨wr.heap.size, 1, none⟩ = some (.slice ra ps[k].2.length rc) := cell_of (i := 1) hn rfl
         go_simp
        simp only [Act.put, List.setIfInBounds_toArray, List.set_cons_zero, List.set_cons_succ]
        refine wpY_step (rs := [7]) (by kernel_rfl) (by simp) ?_
        intro w7 hb7 jj hj
        obtain rfl : jj = 7 := by simpa using hj
        clear hj
        have CW7 := hCC _ _ CW hb7
        have D7 := chain hal (chain hd hb7)
        have con := HD.out ps[k].2 ra rc w7 HRo.out (HZr.out.next D7) (Since.of (chain hSx (chain hb D7)))
        refine wpOp_step rfl (fun K hK => ?_)
        go_simp
        first | (refine con.mono ?_) | (go_at_fn tg; refine con.mono ?_)
        rintro e w8 ⟨rfl, hRN, hb8⟩
        clear con
        have CW8 := hCC _ _ CW7 hb8
        have D8 := chain D7 hb8
        refine hK _ _ ⟨CW8, ?_⟩
        clear hK K
        refine wpY_step (rs := [8]) (by kernel_rfl) (by simp) ?_
        intro w9 hb9 jj hj
        obtain rfl : jj = 8 := by simpa using hj
        clear hj
        refine wpOp_step rfl (fun K hK => ?_)
        go_simp
        have CW9 := hCC _ _ CW8 hb9
        have D9 := chain D8 hb9
        have R2 := raw_vals (hRN.1.next hb9)
        have hgm : (gs.map fun g => aggP g ps[k].2).length = gs.length := by simp
        rw [hgm] at R2
        have PC := PairC.new kc gs.length (raw_vals (HSk.out.next D9)) R2 51
        have halA : Below w9.heap.size w9 (w9.alloc (.cells #[.slice ka ps[k].1.length kc, .slice (some ⟨w7.heap.size, 0, none⟩) gs.length gs.length] 51)) := (Below.refl _ _).alloc (Nat.le_refl _) _
        have CWA := hCC _ _ CW9 halA
        have DA := chain D9 halA
        refine hK _ _ ⟨CWA, ?_⟩
        clear hK K R2 hgm hRN
        generalize w9.alloc (.cells #[.slice ka ps[k].1.length kc, .slice (some ⟨w7.heap.size, 0, none⟩) gs.length gs.length] 51) = wA at *
        refine wpY_step (rs := [9]) (by kernel_rfl) (by simp) ?_
        intro wB hbB jj hj
        obtain rfl : jj = 9 := by simpa using hj
        clear hj
        refine wpOp_step rfl (fun K hK => ?_)
        go_simp
        have CWB := hCC _ _ CWA hbB
        have DB := chain DA hbB
        refine (concatV_at _ _ _ _ _ wB (PC.next hbB) (by omega)).mono ?_
        rintro e wC ⟨vC, rfl, OC, hbC⟩
        rw [← flatV_append] at OC
        obtain ⟨aC, cC, rfl, SC, TC, _⟩ := own_vals OC (by simp)
        have CWC := hCC _ _ CWB hbC
        have DC := chain DB hbC
        refine hK _ _ ⟨CWC, ?_⟩
        clear hK K OC PC CW7 CW8 CW9 CWA CWB CW
        obtain ⟨rr, err⟩ : ∃ rr, rr = ps[k].1 ++ gs.map fun g => aggP g ps[k].2 := ⟨_, rfl⟩
        rw [← err] at SC ⊢
        have EFr : Hid (f k = (rr, 1)) := by show _ = _; rw [err]; exact EF.out
        clear err EF
        refine wpY_take hCC (some 82) (i := 10) (v := .agg #[.slice aC rr.length cC, .int .i64 1]) rfl rfl (by kernel_rfl) (by kernel_rfl) (by kernel_rfl) (fun _ _ _ h => h) (Or.inl ⟨rfl, fun n hn => ?_⟩) CWC ?_
        ·go_simp
        simp only [Act.put, List.setIfInBounds_toArray, List.set_cons_zero, List.set_cons_succ]
        refine wpY_take hCC (some 83) (i := 11) (v := .pointer (some ⟨wx.heap.size, k * 2, none⟩)) rfl rfl (by kernel_rfl) (by kernel_rfl) (by kernel_rfl) (fun _ _ _ h => h) (Or.inl ⟨rfl, fun n hn => ?_⟩) CWC ?_
        ·go_simp
        simp only [Act.put, List.setIfInBounds_toArray, List.set_cons_zero, List.set_cons_succ]
        refine wpY_step (rs := [12]) (by kernel_rfl) (by simp) ?_
        intro wD hbD jj hj
        obtain rfl : jj = 12 := by simpa using hj
        clear hj
        have CWD := hCC _ _ CWC hbD
        have DD := chain DC hbD
        have HBD := (HB.next DD)
        obtain ⟨⟨u0, u1, d0, d1⟩, f0, f1, hlb⟩ := HBD.cells hlt
        have MS := HBD.step hlt (a := aC) (cap := cC) (by rw [EFr.out]; exact SC.next hbD) (TC.next hbD)
        rw [EFr.out] at MS
        have hne : wr.heap.size ≠ wx.heap.size := by omega
        have CWE : (((wD.setCell ⟨wx.heap.size, k * 2, none⟩ (.slice aC rr.length cC)).setCell ⟨wx.heap.size, k * 2 + 1, none⟩ (.int .i64 1)).heap[wr.heap.size]? = some (.cells #[.slice ka ps[k].1.length kc, .slice ra ps[k].2.length rc] 91 (0, 0))) := (Below.heap_setCell _ _ _ _ hne).trans ((Below.heap_setCell _ _ _ _ hne).trans CWD)
        have BE : Below wx.heap.size wx ((wD.setCell ⟨wx.heap.size, k * 2, none⟩ (.slice aC rr.length cC)).setCell ⟨wx.heap.size, k * 2 + 1, none⟩ (.int .i64 1)) := ((chain hb DD).setCell (p := ⟨wx.heap.size, k * 2, none⟩) (Nat.le_refl _) _).setCell (p := ⟨wx.heap.size, k * 2 + 1, none⟩) (Nat.le_refl _) _
        have zE : wx.heap.size < ((wD.setCell ⟨wx.heap.size, k * 2, none⟩ (.slice aC rr.length cC)).setCell ⟨wx.heap.size, k * 2 + 1, none⟩ (.int .i64 1)).heap.size := by simpa [World.setCell] using hlb
        refine wpOp_step rfl (fun K hK => ?_)
        go_simp
        refine hK _ _ ⟨CWE, ?_⟩
        clear hK K CWD CWC d0 d1 f0 f1 HBD SC TC
        generalize (wD.setCell ⟨wx.heap.size, k * 2, none⟩ (.slice aC rr.length cC)).setCell ⟨wx.heap.size, k * 2 + 1, none⟩ (.int .i64 1) = wE at *
        refine wpY_done (by kernel_rfl) ?_
        intro wF hbF
        have MF := MS.next hbF
        have BF := chain BE hbF
        have zF := hbF.size
        clear MS BE CWE hCC
        go_wp2_with fail
        go_roundw
        case rel => exact ⟨k + 1, by omega, by go_num, MF, by omega, BF⟩
        case measure => simp [intOf]; omega
       ·have e : k = ps.length := by omega
        subst e
        have zsm := HB.done (groupL xs gs (inOrd xs l)) HGl.out.symm (fun j hj => by rw [HFn.out]; simp [List.getD, hj]) (by rw [HGl.out]; omega)
        have hmem : ∀ y ∈ groupL xs gs (inOrd xs l), y.2 = 1 ∧ y.1.length ≤ 8 := fun y hy => by
         rw [HG.out] at hy
         obtain ⟨p, hp, rfl⟩ := List.mem_map.1 hy
         have := (HPk.out p hp).2
         exact ⟨rfl, by simp; omega⟩
        have con := gathered_at (some ⟨wx.heap.size, 0, none⟩) ps.length (groupL xs gs (inOrd xs l)) wr zsm (by rw [HGl.out]; omega) (fun y hy => by rw [(hmem y hy).1]; rfl) (fun y hy => (hmem y hy).2)
        rw [HGl.out, ← HE.out, ← HV.out] at con
        clear zsm HB hmem
        have hAr := chain hbx hb
        go_wp2_with fail
        refine con.mono ?_
        rintro e w9 ⟨v9, rfl, O9, hb9⟩
        have O9' := O9.mono hAr.size
        obtain ⟨a9, c9, rfl, _⟩ := O9.zs
        clear con O9
        dsimp only
        go_wp2_with fail
        exact bodyPost_ret (v := .tuple #[.slice a9 fz.length c9, .int .i64 fe]) (by simp [results, Tryz.results21, go_sem]) rfl ⟨_, rfl, O9', chain hAr hb9⟩
   ·have e0 : fe = inpE cols l := by rw [← HF.out]; unfold groupE; rw [if_neg HN8.out, H1.out, H2.out, if_neg (by simp), if_neg (by simp), if_pos h3]
    have e1 : fz = [] := by rw [← HZ.out]; unfold groupZ; rw [HF.out, e0, if_neg h3]
    have hne : (inpE cols l != 0) = true := by simpa using h3
    rw [← e0] at con hne
    have HV : Hid (fz = []) := e1
    clear e0 e1 h3
    dsimp only
    go_wp2_with fail
    refine con.mono ?_
    rintro e w3 ⟨rfl, hb3⟩
    clear con
    dsimp only
    go_wp2_with fail
    exact bodyPost_ret (v := .tuple #[.slice none 0 0, .int .i64 fe]) (by simp [results, Tryz.results21, go_sem]) rfl ⟨_, rfl, by rw [HV.out]; exact own_nil _ _, chain hA2 hb3⟩
  ·have e0 : fe = aggsE cols gs := by rw [← HF.out]; unfold groupE; rw [if_neg HN8.out, H1.out, if_neg (by simp), if_pos h2]
   have e1 : fz = [] := by rw [← HZ.out]; unfold groupZ; rw [HF.out, e0, if_neg h2]
   have hne : (aggsE cols gs != 0) = true := by simpa using h2
   have HL2 : Hid (¬ aggsE cols gs = 0) := h2
   rw [← e0] at hne
   have HV : Hid (fz = []) := e1
   have HN : Hid (fe = aggsE cols gs) := e0
   clear e0 e1 h2
   dsimp only
   go_wp2_with fail
   refine con.mono ?_
   rintro e w2 ⟨u2, rfl, hG, hb2⟩
   obtain ⟨_, rfl⟩ : ¬ aggsE cols gs = 0 ∧ u2 = .nilFunc := by
    rcases hG with ⟨hG, _⟩ | hG
    ·exact absurd hG HL2.out
    ·exact hG
   rw [← HN.out]
   clear con
   dsimp only
   go_wp2_with fail
   exact bodyPost_ret (v := .tuple #[.slice none 0 0, .int .i64 fe]) (by simp [results, Tryz.results21, go_sem]) rfl ⟨_, rfl, by rw [HV.out]; exact own_nil _ _, chain hb1 hb2⟩
 ·have e0 : fe = listE cols xs := by rw [← HF.out]; unfold groupE; rw [if_neg HN8.out, if_pos h1]
  have e1 : fz = [] := by rw [← HZ.out]; unfold groupZ; rw [HF.out, e0, if_neg h1]
  have hne : (listE cols xs != 0) = true := by simpa using h1
  have HL : Hid (¬ listE cols xs = 0) := h1
  rw [← e0] at hne
  have HV : Hid (fz = []) := e1
  have HN : Hid (fe = listE cols xs) := e0
  clear e0 e1 h1
  go_enter Tryz.func21, Tryz.ntmps21
  go_wp2_with fail
  refine con.mono ?_
  rintro e w1 ⟨u, rfl, hL, hb1⟩
  obtain ⟨_, rfl⟩ : ¬ listE cols xs = 0 ∧ u = .nilFunc := by
   rcases hL with ⟨hL, _⟩ | hL
   ·exact absurd hL HL.out
   ·exact hL
  rw [← HN.out]
  clear con
  go_wp2_with fail
  exact bodyPost_ret (v := .tuple #[.slice none 0 0, .int .i64 fe]) (by simp [results, Tryz.results21, go_sem]) rfl ⟨_, rfl, by rw [HV.out]; exact own_nil _ _, hb1⟩
end Go.Proofs.YtfojonhblblbjaaGreat
/- The first rows come first: plain facts. -/
namespace Go.Proofs.YtfojonhblblbjaaGreat
open Go.RowKit

def oneW : List Vl → Int := fun _ => 1
theorem topL_zero : ∀ (l : List Kp), (∀ x ∈ l, 0 < x.2.2) → (∀ q, wt (topL 0 l) q = 0) ∧ tot oneW (topL 0 l) = 0
 | [], _ => ⟨fun _ => rfl, rfl⟩
 | x :: r, h => by
  have hx := h x (by simp)
  obtain ⟨h1, h2⟩ := topL_zero r fun y hy => h y (by simp [hy])
  have e : topL 0 (x :: r) = (x.2.1, 0) :: topL 0 r := by
   rw [topL, show min x.2.2 0 = 0 by omega]; rfl
  rw [e]
  refine ⟨fun q => ?_, ?_⟩
  ·rw [wt, h1]; simp
  ·rw [tot, h2]; simp
theorem StK.irrefl (x : Kp) : ¬ StK x x := fun h => StK.not h h
/-- How many rows there are that are there. -/
def posW : List Zp → Int
 | [] => 0
 | x :: r => (if 0 < x.2 then x.2 else 0) + posW r
structure FirstOk (cols : List Int) (key : Int) (n : Int) (z t : List Zp) : Prop where
 k0 : 0 ≤ key
 k1 : key < cols.length
 n0 : 0 ≤ n ∧ n ≤ 50
 inp : InpOk cols z
 set : IsSet t
 len : t.length ≤ 400
 row : ∀ y ∈ t, 1 ≤ y.2 ∧ y.2 ≤ wt z y.1 ∧ y.1.length = cols.length
 w6 : ∀ y ∈ t, y.2 ≤ 1000000
 kind : ∀ y ∈ t, 1 ≤ (y.1.getD key.toNat vl0).1 ∧ (y.1.getD key.toNat vl0).1 ≤ 4
 kindz : ∀ y ∈ z, 1 ≤ (y.1.getD key.toNat vl0).1 ∧ (y.1.getD key.toNat vl0).1 ≤ 4
 sum : tot oneW t = min n (posW z)
 rest : ∀ r ∈ z, 0 < r.2 → wt t r.1 < r.2 → tot oneW t = n ∧ ∀ y ∈ t, 0 ≤ cmpP (r.1.getD key.toNat vl0) (y.1.getD key.toNat vl0)
theorem wt_some {l : List Zp} {q : List Vl} (h : wt l q ≠ 0) : ∃ x ∈ l, cmpL x.1 q = 0 := by
 induction l with
 | nil => exact absurd rfl h
 | cons x r ih =>
  by_cases c : cmpL x.1 q = 0
  ·exact ⟨x, by simp, c⟩
  ·rw [wt, if_neg c] at h
   obtain ⟨y, hy, e⟩ := ih (by simpa using h)
   exact ⟨y, by simp [hy], e⟩
theorem cmpL_len : ∀ {a b : List Vl}, cmpL a b = 0 → a.length = b.length
 | [], [], _ => rfl
 | [], _ :: _, h => by simp [cmpL] at h
 | _ :: _, [], h => by simp [cmpL] at h
 | x :: r, y :: t, h => by
  rw [cmpL] at h
  split at h
  ·rw [List.length_cons, List.length_cons, cmpL_len h]
  ·rename_i c; exact absurd h c
theorem kind_ok {v : Vl} (h : wrongP v = 0) : 1 ≤ v.1 ∧ v.1 ≤ 4 := by
 unfold wrongP wrongF at h
 split at h
 ·omega
 ·omega
end Go.Proofs.YtfojonhblblbjaaGreat
/- All are counted: plain facts. -/
namespace Go.Proofs.YtfojonhblblbjaaGreat
open Go.RowKit

theorem parts_rise : ∀ (L : List Kp) (ps : List Pt), L.Pairwise (fun x y => cmpL x.1 y.1 ≤ 0) → ps.Pairwise (fun p q => cmpL p.1 q.1 < 0) → (∀ p ∈ ps, ∀ x ∈ L, cmpL p.1 x.1 ≤ 0) → (L.foldl (fun ps x => putR (openP ps x) x.2) ps).Pairwise (fun p q => cmpL p.1 q.1 < 0)
 | [], _, _, h, _ => h
 | x :: r, ps, hL, h, hp => by
  rw [List.foldl_cons]
  obtain ⟨l1, l2⟩ := List.pairwise_cons.1 hL
  have push : (∀ p ∈ ps, cmpL p.1 x.1 < 0) → (ps ++ [((x.1, []) : Pt)]).Pairwise (fun p q => cmpL p.1 q.1 < 0) ∧ ∀ p ∈ ps ++ [((x.1, []) : Pt)], ∀ y ∈ r, cmpL p.1 y.1 ≤ 0 := fun hlt => by
   refine ⟨List.pairwise_append.2 ⟨h, List.pairwise_singleton _ _, fun p hp' q hq => by rw [List.mem_singleton.1 hq]; exact hlt p hp'⟩, fun p hp' y hy => ?_⟩
   rcases List.mem_append.1 hp' with hp' | hp'
   ·exact hp p hp' y (by simp [hy])
   ·rw [List.mem_singleton.1 hp']; exact l1 y hy
  have ho : (openP ps x).Pairwise (fun p q => cmpL p.1 q.1 < 0) ∧ ∀ p ∈ openP ps x, ∀ y ∈ r, cmpL p.1 y.1 ≤ 0 := by
   unfold openP
   split
   ·rename_i h0
    have : ps = [] := List.eq_nil_of_length_eq_zero h0
    refine push fun p hp' => ?_
    rw [this] at hp'; simp at hp'
   ·rename_i h0
    split
    ·exact ⟨h, fun p hp' y hy => hp p hp' y (by simp [hy])⟩
    ·rename_i hc
     refine push fun p hp' => ?_
     obtain ⟨i, hi, rfl⟩ := List.getElem_of_mem hp'
     have hlast := hp _ (List.getElem_mem (l := ps) (n := ps.length - 1) (by omega)) x (by simp)
     by_cases e : i = ps.length - 1
     ·subst e; omega
     ·have := List.pairwise_iff_getElem.1 h i (ps.length - 1) hi (by omega) (by omega)
      exact cmpL_lt_le this hlast
  have hkey : ∀ i (hi : i < (putR (openP ps x) x.2).length), ((putR (openP ps x) x.2)[i]).1 = ((openP ps x)[i]'(by rw [putR_len] at hi; exact hi)).1 := fun i hi => by
   unfold putR
   split
   ·rfl
   ·rw [List.getElem_set]
    split
    ·rename_i e; subst e; rfl
    ·rfl
  refine parts_rise r _ l2 ?_ ?_
  ·refine List.pairwise_iff_getElem.2 fun i j hi hj hij => ?_
   rw [hkey i hi, hkey j hj]
   exact List.pairwise_iff_getElem.1 ho.1 i j _ _ hij
  ·intro p hp' y hy
   obtain ⟨i, hi, rfl⟩ := List.getElem_of_mem hp'
   rw [hkey i hi]
   exact ho.2 _ (List.getElem_mem _) y hy
theorem partL_rise {xs : List Ex} {z : List Zp} (h : Rise z) : (partL (inOrd xs z)).Pairwise (fun p q => cmpL p.1 q.1 < 0) :=
 parts_rise _ [] ((inOrd_sorted h).imp fun {x y} hs => by rcases hs with h | ⟨h, _⟩ <;> omega) List.Pairwise.nil (fun p hp => by simp at hp)
theorem cmpL_app {a b x y : List Vl} (hl : a.length = b.length) (h : cmpL (a ++ x) (b ++ y) = 0) : cmpL a b = 0 := by
 have e := bareL_of h
 unfold bareL at e
 rw [List.map_append, List.map_append] at e
 have e1 := (List.append_inj e (by simp [hl])).1
 have e2 : bareL a = bareL b := e1
 have c1 : cmpL a b = cmpL a (bareL b) := (cmpL_bareR a b).symm
 rw [c1, ← e2, cmpL_bareR, cmpL_refl]
theorem wt_apart {l : List Zp} (h : l.Pairwise fun x y => cmpL x.1 y.1 ≠ 0) : ∀ x ∈ l, wt l x.1 = x.2 := by
 induction l with
 | nil => intro x hx; cases hx
 | cons y t ih =>
  obtain ⟨h1, h2⟩ := List.pairwise_cons.1 h
  intro x hx
  rcases List.mem_cons.1 hx with rfl | hx
  ·rw [wt, if_pos (cmpL_refl _), wt_none fun v hv hc => h1 v hv (by have := cmpL_neg x.1 v.1; omega)]
   omega
  ·rw [wt, if_neg (h1 x hx), ih h2 x hx]
   omega

/-- The number at a place, as far as its kind has one. -/
def numAt (k : Nat) (r : List Vl) : Int := ((bareL r).getD k vl0).2.1
structure CntOk (xs : List Ex) (z t : List Zp) : Prop where
 len : t.length ≤ 401
 row : ∀ y ∈ t, y.2 = 1 ∧ y.1.length = xs.length + 1 ∧ 0 ≤ numAt xs.length y.1 ∧ numAt xs.length y.1 ≤ 400000000
 num : ∀ y ∈ t, (y.1.getD xs.length vl0).2.1 = numAt xs.length y.1
 sum : tot (numAt xs.length) t = posW z
 one : xs.length = 0 → t.length = 1
end Go.Proofs.YtfojonhblblbjaaGreat
/- The document's small functions of types: Letter, kids, Together. -/
namespace Go.Proofs.YtfojonhblblbjaaGreat
open Go.RowKit

/-- A type's letter. -/
def ltr (t : Int) : Int := if t = 1 then 97 else if t = 2 then 98 else if t = 3 then 105 else 116
theorem letter_at (t : Int) (w : World) (h : inT t) : Calls Tryz.prog 110 #[.int .i64 t] w fun e w' => e = .returned (.int .u8 (ltr t)) ∧ Below w.heap.size w w' := by
 unfold inT at h
 obtain rfl | rfl | rfl | rfl : t = 1 ∨ t = 2 ∨ t = 3 ∨ t = 4 := by omega
 ·have e : ltr 1 = 97 := rfl
  rw [e]
  go_enter Tryz.func110, Tryz.ntmps110
  go_wp2_with fail
  go_ret
  exact ⟨rfl, Below.refl _ _⟩
 ·have e : ltr 2 = 98 := rfl
  rw [e]
  go_enter Tryz.func110, Tryz.ntmps110
  go_wp2_with fail
  go_ret
  exact ⟨rfl, Below.refl _ _⟩
 ·have e : ltr 3 = 105 := rfl
  rw [e]
  go_enter Tryz.func110, Tryz.ntmps110
  go_wp2_with fail
  go_ret
  exact ⟨rfl, Below.refl _ _⟩
 ·have e : ltr 4 = 116 := rfl
  rw [e]
  go_enter Tryz.func110, Tryz.ntmps110
  go_wp2_with fail
  go_ret
  exact ⟨rfl, Below.refl _ _⟩
def kidsR (k : Int) : Int := if k < 1 ∨ 18 < k then -1 else kidsN k
set_option maxHeartbeats 2000000 in
theorem kids_at (k : Int) (w : World) : Calls Tryz.prog 150 #[.int .i64 k] w fun e w' => e = .returned (.int .i64 (kidsR k)) ∧ Below w.heap.size w w' := by
 by_cases h1 : k < 1
 ·have e : kidsR k = -1 := by simp [kidsR, h1]
  rw [e]
  go_enter Tryz.func150, Tryz.ntmps150
  go_wp2_with fail
  go_ret
  exact ⟨rfl, Below.refl _ _⟩
 by_cases h2 : 18 < k
 ·have e : kidsR k = -1 := by simp [kidsR, h2]
  rw [e]
  go_enter Tryz.func150, Tryz.ntmps150
  go_wp2_with fail
  go_ret
  exact ⟨rfl, Below.refl _ _⟩
 obtain ⟨j, rfl⟩ : ∃ j : Nat, k = j := ⟨k.toNat, by omega⟩
 have e : kidsR j = kidsN j := by simp only [kidsR]; rw [if_neg (by omega)]
 have hl : (#[.int .i64 0, .int .i64 0, .int .i64 0, .int .i64 1, .int .i64 2, .int .i64 2, .int .i64 2, .int .i64 2, .int .i64 2, .int .i64 2, .int .i64 2, .int .i64 2, .int .i64 2, .int .i64 2, .int .i64 2, .int .i64 2, .int .i64 1, .int .i64 3, .int .i64 2] : Array Value)[j]? = some (.int .i64 (kidsN j : Nat)) := by
  obtain rfl | rfl | rfl | rfl | rfl | rfl | rfl | rfl | rfl | rfl | rfl | rfl | rfl | rfl | rfl | rfl | rfl | rfl : j = 1 ∨ j = 2 ∨ j = 3 ∨ j = 4 ∨ j = 5 ∨ j = 6 ∨ j = 7 ∨ j = 8 ∨ j = 9 ∨ j = 10 ∨ j = 11 ∨ j = 12 ∨ j = 13 ∨ j = 14 ∨ j = 15 ∨ j = 16 ∨ j = 17 ∨ j = 18 := by omega
  all_goals rfl
 have hc : (w.alloc (.cells #[.int .i64 0, .int .i64 0, .int .i64 0, .int .i64 1, .int .i64 2, .int .i64 2, .int .i64 2, .int .i64 2, .int .i64 2, .int .i64 2, .int .i64 2, .int .i64 2, .int .i64 2, .int .i64 2, .int .i64 2, .int .i64 2, .int .i64 1, .int .i64 3, .int .i64 2] 3)).cell? ⟨w.heap.size, j, none⟩ = some (.int .i64 (kidsN j : Nat)) := by
  rw [World.cell?_alloc_new]; exact hl
 rw [e]
 clear hl e
 generalize kidsN j = r at *
 have hj : j < 19 := by omega
 go_enter Tryz.func150, Tryz.ntmps150
 go_wp2_with fail
 go_ret
 exact ⟨rfl, (Below.refl _ _).alloc (Nat.le_refl _) _⟩
/-- What two letters are together. -/
def togL (a b : Int) : Int := if a = 97 ∨ a = b then b else if b = 97 then a else 0
theorem togl_at (a b : Int) (w : World) : Calls Tryz.prog 151 #[.int .u8 a, .int .u8 b] w fun e w' => e = .returned (.int .u8 (togL a b)) ∧ Below w.heap.size w w' := by
 by_cases h1 : a = 97
 ·have e : togL a b = b := by simp [togL, h1]
  rw [e]
  subst h1
  go_enter Tryz.func151, Tryz.ntmps151
  go_wp2_with fail
  go_ret
  exact ⟨rfl, Below.refl _ _⟩
 have q1 : (a == 97) = false := by simpa using h1
 by_cases h2 : a = b
 ·have e : togL a b = b := by simp [togL, h2]
  rw [e]
  subst h2
  go_enter Tryz.func151, Tryz.ntmps151
  go_wp2_with fail
  go_ret
  exact ⟨rfl, Below.refl _ _⟩
 have q2 : (a == b) = false := by simpa using h2
 by_cases h3 : b = 97
 ·have e : togL a b = a := by rw [togL, if_neg (by omega), if_pos h3]
  rw [e]
  subst h3
  go_enter Tryz.func151, Tryz.ntmps151
  go_wp2_with fail
  go_ret
  exact ⟨rfl, Below.refl _ _⟩
 have q3 : (b == 97) = false := by simpa using h3
 have e : togL a b = 0 := by rw [togL, if_neg (by omega), if_neg h3]
 rw [e]
 go_enter Tryz.func151, Tryz.ntmps151
 go_wp2_with fail
 go_ret
 exact ⟨rfl, Below.refl _ _⟩
theorem togL_tog {a b : Int} (ha : inT a) (hb : inT b) : togL (ltr a) (ltr b) = (match tog a b with | some t => ltr t | none => 0) := by
 unfold inT at ha hb
 obtain rfl | rfl | rfl | rfl : a = 1 ∨ a = 2 ∨ a = 3 ∨ a = 4 := by omega
 all_goals (obtain rfl | rfl | rfl | rfl : b = 1 ∨ b = 2 ∨ b = 3 ∨ b = 4 := by omega)
 all_goals rfl
theorem ltr_ne {t : Int} : ltr t ≠ 0 := by
 unfold ltr
 repeat' split
 all_goals omega
theorem ltr_inj {a b : Int} (ha : inT a) (hb : inT b) (h : ltr a = ltr b) : a = b := by
 unfold inT at ha hb
 obtain rfl | rfl | rfl | rfl : a = 1 ∨ a = 2 ∨ a = 3 ∨ a = 4 := by omega
 all_goals (obtain rfl | rfl | rfl | rfl : b = 1 ∨ b = 2 ∨ b = 3 ∨ b = 4 := by omega)
 all_goals first
  | rfl
  | (exact absurd h (by decide))
end Go.Proofs.YtfojonhblblbjaaGreat
