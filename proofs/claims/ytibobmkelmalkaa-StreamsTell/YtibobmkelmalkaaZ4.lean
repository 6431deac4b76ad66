/- The walk of zsets.weighed, whatever is made of weights. -/
import Derived.Test.YtibobmkelmalkaaZ3
import Derived.Shelf.Abstract
namespace Go.Proofs.Ytibobmkelmalkaa
open Go.RowKit

/-- Rows with what is made of their weights, without those that are then gone, and without what values have not. -/
def weighL (f : Int → Int) : List Zp → List Zp
  | [] => []
  | x :: r => if f x.2 = 0 then weighL f r else (bareL x.1, f x.2) :: weighL f r
theorem weighL_append (f : Int → Int) (l t : List Zp) : weighL f (l ++ t) = weighL f l ++ weighL f t := by
  induction l with
  | nil => rfl
  | cons x r ih =>
    rw [List.cons_append, weighL, weighL, ih]
    split <;> simp
theorem weighL_take (f : Int → Int) (l : List Zp) (k : Nat) (h : k < l.length) : weighL f (l.take (k + 1)) = weighL f (l.take k) ++ (if f l[k].2 = 0 then [] else [(bareL l[k].1, f l[k].2)]) := by
  rw [List.take_succ_eq_append_getElem h, weighL_append]
  simp [weighL]
theorem weighL_len (f : Int → Int) (l : List Zp) : (weighL f l).length ≤ l.length := by
  induction l with
  | nil => simp [weighL]
  | cons x r ih =>
    rw [weighL]
    split <;> simp <;> omega

/-- A function value makes f of a weight, in whatever world that has grown out of this one, and makes memory alone. -/
def Makes (g : Nat) (cb : Array Value) (f : Int → Int) (w : World) : Prop :=
  ∀ (x : Int) (W : World), inW x = true → Below w.heap.size w W → Calls Try.prog g (#[.int .i64 x] ++ cb) W fun e w' => e = .returned (.int .i64 (f x)) ∧ Below W.heap.size W w'

set_option maxHeartbeats 2000000 in
theorem weighed_at (g : Nat) (cb : Array Value) (f : Int → Int) (a : Option Addr) (cap : Nat) (l : List Zp) (w : World) (h : ZsAt w a l)
    (eg : ∀ args w, (callFunc g args).run Try.prog w = .ok (.enter g args) w) (hm : Makes g cb f w) (hl : l.length ≤ 200000) (hr : ∀ x ∈ l, x.1.length ≤ 8) (hw : ∀ x ∈ l, inW x.2 = true) :
    Calls Try.prog 31 #[.slice a l.length cap, .func (.func g) #[] cb] w fun e w' => ∃ v, e = .returned v ∧ OwnZ w.heap.size w' v (weighL f l) ∧ Below w.heap.size w w' := by
  obtain ⟨i0, hi, hj0, hj1, hj2⟩ := info_parts Try.info42
  go_enter Try.func31, Try.ntmps31
  go_wp2_with fail
  go_loopw [5, 11] (fun v i wr => ∃ k : Nat, k ≤ l.length ∧ i = .int .i64 k ∧ OwnZ w.heap.size wr v (weighL f (l.take k)) ∧ Below w.heap.size w wr) (fun _ i _ => l.length - (intOf i).toNat)
  case atStart => exact ⟨0, Nat.zero_le _, rfl, ⟨[], by simpa [weighL] using World.ownsRow_nil _ _ _ _, by simp [weighL, EncT]⟩, Below.refl _ _⟩
  case round =>
    obtain ⟨k, hk, rfl, HO, hb⟩ := hrel
    have hz := hb.size
    by_cases hlt : k < l.length
    · obtain ⟨b, off, rfl, hbl, c1, ar, cr, c0, sr⟩ := (h.next hb).elem hlt
      have hin := hw l[k] (List.getElem_mem hlt)
      have h8 := hr l[k] (List.getElem_mem hlt)
      have HI : Hid (inW l[k].2 = true) := hin
      have H8 : Hid (l[k].1.length ≤ 8) := h8
      clear hin h8
      have hlen := weighL_len f (l.take k)
      simp only [List.length_take] at hlen
      by_cases h0 : f l[k].2 = 0
      · have H0 : Hid (f l[k].2 = 0) := h0
        clear h0
        go_wp2_with (go_at_fn g; refine (hm _ _ HI.out (hb.alloc hz _)).mono ?_; rintro e w1 ⟨rfl, hb1⟩; rw [H0.out])
        go_roundw
        case rel => exact ⟨k + 1, by omega, by go_num, by rw [weighL_take f l k hlt, if_pos H0.out, List.append_nil]; exact (HO.next ((Below.refl _ _).alloc (Nat.le_refl _) _)).next hb1, chain2 hb hb1⟩
        case measure => simp [intOf]; omega
      · have H0 : Hid (¬ f l[k].2 = 0) := h0
        have n0 : (f l[k].2 != 0) = true := by simpa using h0
        clear h0
        obtain ⟨xs, ho, he⟩ := HO
        go_wp2_with (go_at_fn g; refine (hm _ _ HI.out (hb.alloc hz _)).mono ?_; rintro e w1 ⟨rfl, hb1⟩; have q0 : w1.cell? ⟨wr.heap.size, 0, none⟩ = some (.slice ar l[k].1.length cr) := (hb1.cell (p := ⟨wr.heap.size, 0, none⟩) (by simp)).trans (by simp))
        have hb1' := chain2 hb hb1
        have hz1 := hb1'.size
        have s1 := (sr.next ((Below.refl _ _).alloc (Nat.le_refl _) _)).next hb1
        have o1 := own_next (own_next ho ((Below.refl _ _).alloc (Nat.le_refl _) _)) hb1
        have e1 := (he.next ((Below.refl _ _).alloc (Nat.le_refl _) _)).next hb1
        refine (bareRow_at _ _ _ _ s1 H8.out).mono ?_
        rintro e w2 ⟨rfl, ⟨s2, t2⟩, hb2⟩
        have o2 := own_next o1 hb2
        have e2 := e1.next hb2
        have hz2' := hb2.size
        clear o1 e1 ho he s1
        have bl : (bareL l[k].1).length = l[k].1.length := by simp [bareL]
        have ss := (s2.next ((Below.refl _ _).alloc (Nat.le_refl _) (.cells #[.slice (some ⟨w1.heap.size, 0, none⟩) l[k].1.length l[k].1.length, .int .i64 (f l[k].2)] 45)))
        have st := (t2.next ((Below.refl _ _).alloc (Nat.le_refl _) (.cells #[.slice (some ⟨w1.heap.size, 0, none⟩) l[k].1.length l[k].1.length, .int .i64 (f l[k].2)] 45)))
        have eo := e2.next ((Below.refl _ _).alloc (Nat.le_refl _) (.cells #[.slice (some ⟨w1.heap.size, 0, none⟩) l[k].1.length l[k].1.length, .int .i64 (f l[k].2)] 45))
        go_wp2_with (at_builtin; (refine wpList_append_own _ rfl _ _ 34 rfl w.heap.size 45 i0 _ 2 32 Try.underlying34 hi hj0 hj1 hj2 rfl (by decide) _ _ _ rfl (o2.alloc _) ⟨w2.heap.size, 0, none⟩ 1 1 [.slice (some ⟨w1.heap.size, 0, none⟩) l[k].1.length l[k].1.length, .int .i64 (f l[k].2)] rfl rfl ?c1 ?c2 ?c3 ?c4 ?c5 ?_))
        case c1 =>
          intro j u hj
          match j, hj with
          | 0, hj => simp at hj; subst hj; simp [Addr.add]
          | 1, hj => simp at hj; subst hj; simp [Addr.add]
        case c2 => intro u hu; simp at hu; rcases hu with rfl | rfl <;> rfl
        case c3 => unfold maxLen; omega
        case c4 => omega
        case c5 => simp; omega
        intro v' w3 ho3 hg3 _
        have R := own_push (o2.alloc _) eo ss st (by rw [bl]; exact ho3) hg3
        have hb3 : Below w.heap.size w w3 := ((chain1 hb1' hb2).alloc (by omega) _).grown hg3 (by simp; omega) (fun q hq => ((o2.alloc (.cells #[.slice (some ⟨w1.heap.size, 0, none⟩) l[k].1.length l[k].1.length, .int .i64 (f l[k].2)] 45)).lt q hq).1)
        clear ho3 hg3 o2 e2 eo ss st s2 t2
        go_wp2_with fail
        go_roundw
        case rel => exact ⟨k + 1, by omega, by go_num, by rw [weighL_take f l k hlt, if_neg H0.out]; exact R, hb3⟩
        case measure => simp [intOf]; omega
    · have e : k = l.length := by omega
      subst e
      rw [List.take_length] at HO
      obtain ⟨av, cv, rfl, _⟩ := HO.zs
      go_wp2_with fail
      go_ret
      exact ⟨_, rfl, HO, hb⟩
end Go.Proofs.Ytibobmkelmalkaa
