/- For the document's answer: rows of old and of new memory in a slice of the call's own; the walk of its Bare. -/
import Derived.Test.YtibobmkelmalkaaRP
namespace Go.Proofs.Ytibobmkelmalkaa
open Go.RowKit Go.Lib Go.Shelf

/-- A row's values lie below B, or in a block of values. -/
def Safe (B : Nat) (W : World) (a : Option Addr) (r : List Vl) : Prop := r = [] ∨ TyAt W a ∨ ∀ b off, a = some ⟨b, off, none⟩ → b < B
theorem Safe.next {B : Nat} {W w1 : World} {a : Option Addr} {r : List Vl} (h : Safe B W a r) (hb : Below W.heap.size W w1) : Safe B w1 a r := by
  rcases h with h | h | h
  · exact .inl h
  · exact .inr (.inl (h.next hb))
  · exact .inr (.inr h)
theorem sl_grownM {W w1 : World} {B n : Nat} {v : Value} {xs : List Value} {a : Option Addr} {r : List Vl} (h : SlAt W a r) (hs : Safe B W a r) (ho : W.ownsRow B 45 2 v n xs) (hg : W.grownBy w1 v.ownBlock) : SlAt w1 a r ∧ Safe B w1 a r := by
  rcases hs with hs | hs | hs
  · subst hs; exact ⟨⟨by simp, .inl rfl⟩, .inl rfl⟩
  · have := sl_grown h hs ho hg
    exact ⟨this.1, .inr (.inl this.2)⟩
  · refine ⟨⟨h.1, ?_⟩, .inr (.inr hs)⟩
    rcases h.2 with h | ⟨b, off, e, hr, hlt⟩
    · exact .inl h
    · refine .inr ⟨b, off, e, fun i hi => ?_, Nat.lt_of_lt_of_le hlt hg.size⟩
      have k : w1.heap[b]? = W.heap[b]? := hg.block b hlt fun e' => by
        have := (ho.lt b e'.symm).1
        have := hs b off e
        omega
      obtain ⟨c0, c1, c2⟩ := hr i hi
      exact ⟨(World.cell?_of_block (a := ⟨b, _, none⟩) k).trans c0, (World.cell?_of_block (a := ⟨b, _, none⟩) k).trans c1, (World.cell?_of_block (a := ⟨b, _, none⟩) k).trans c2⟩
def EncM (B : Nat) (W : World) (xs : List Value) (l : List Zp) : Prop :=
  xs.length = l.length * 2 ∧ ∀ (i : Nat) (h : i < l.length), ∃ a cap, xs[i * 2]? = some (.slice a l[i].1.length cap) ∧ xs[i * 2 + 1]? = some (.int .i64 l[i].2) ∧ SlAt W a l[i].1 ∧ Safe B W a l[i].1
theorem EncM.next {B : Nat} {W w1 : World} {xs : List Value} {l : List Zp} (h : EncM B W xs l) (hb : Below W.heap.size W w1) : EncM B w1 xs l :=
  ⟨h.1, fun i hi => by
    obtain ⟨a, cap, h1, h2, h3, h4⟩ := h.2 i hi
    exact ⟨a, cap, h1, h2, h3.next hb, h4.next hb⟩⟩
theorem EncM.append {B : Nat} {W : World} {xs ys : List Value} {l t : List Zp} (h : EncM B W xs l) (k : EncM B W ys t) : EncM B W (xs ++ ys) (l ++ t) := by
  have lx := h.1
  have ly := k.1
  refine ⟨by simp [lx, ly]; omega, fun i hi => ?_⟩
  by_cases hi' : i < l.length
  · obtain ⟨a', c', h1, h2, h3⟩ := h.2 i hi'
    rw [List.getElem_append_left hi']
    refine ⟨a', c', ?_, ?_, h3⟩
    · rw [List.getElem?_append_left (by omega), h1]
    · rw [List.getElem?_append_left (by omega), h2]
  · have hi2 : i - l.length < t.length := by simp at hi; omega
    obtain ⟨a', c', h1, h2, h3⟩ := k.2 (i - l.length) hi2
    rw [List.getElem_append_right (by omega)]
    refine ⟨a', c', ?_, ?_, h3⟩
    · rw [List.getElem?_append_right (by omega), ← h1]; congr 1; omega
    · rw [List.getElem?_append_right (by omega), ← h2]; congr 1; omega
theorem encM_of {w W : World} {xs : List Value} {l : List Zp} (h : EncB w xs l) (hb : Below w.heap.size w W) : EncM w.heap.size W xs l :=
  ⟨h.1, fun i hi => by
    obtain ⟨a, cap, h1, h2, h3⟩ := h.2 i hi
    refine ⟨a, cap, h1, h2, h3.next hb, ?_⟩
    rcases h3.2 with h | ⟨b, off, e, _, hlt⟩
    · exact .inl h
    · refine .inr (.inr fun b' off' e' => ?_)
      rw [e] at e'
      injection e' with e'
      injection e' with e' _ _
      omega⟩
/-- A slice of the call's own holds these rows. -/
def OwnM (B : Nat) (W : World) (v : Value) (l : List Zp) : Prop := ∃ xs, W.ownsRow B 45 2 v l.length xs ∧ EncM B W xs l
theorem OwnM.next {B : Nat} {W w1 : World} {v : Value} {l : List Zp} (h : OwnM B W v l) (hb : Below W.heap.size W w1) : OwnM B w1 v l := by
  obtain ⟨xs, h1, h2⟩ := h
  exact ⟨xs, own_next h1 hb, h2.next hb⟩
theorem ownM_push {B n : Nat} {W w1 : World} {v v' : Value} {xs ys : List Value} {l t : List Zp} (ho : W.ownsRow B 45 2 v n xs) (he : EncM B W xs l) (hk : EncM B W ys t) (ho' : w1.ownsRow B 45 2 v' (l ++ t).length (xs ++ ys)) (hg : W.grownBy w1 v.ownBlock) : OwnM B w1 v' (l ++ t) := by
  refine ⟨_, ho', ?_⟩
  have h := he.append hk
  exact ⟨h.1, fun i hi => by
    obtain ⟨a, cap, h1, h2, h3, h4⟩ := h.2 i hi
    have g := sl_grownM h3 h4 ho hg
    exact ⟨a, cap, h1, h2, g.1, g.2⟩⟩
/-- How a slice may lie: nil has no room; there is room for what there is. -/
structure Lie (a : Option Addr) (cap n : Nat) : Prop where
  nil : a = none → cap = 0
  room : n ≤ cap
  max : cap ≤ maxLen
theorem OwnM.zs {B : Nat} {W : World} {v : Value} {l : List Zp} (h : OwnM B W v l) : ∃ a cap, v = .slice a l.length cap ∧ ZsAt W a l ∧ Lie a cap l.length := by
  obtain ⟨xs, h1, h2⟩ := h
  have h1' := h1
  obtain ⟨hx, h1 | ⟨g, cap, cur, e, hg, hh, hn, hc, hs, ht⟩⟩ := h1
  · obtain ⟨rfl, h0⟩ := h1
    have : l = [] := List.eq_nil_of_length_eq_zero h0
    subst this
    exact ⟨none, 0, rfl, ⟨Nat.zero_le _, .inl rfl⟩, fun _ => rfl, by simp, Nat.zero_le _⟩
  · subst e
    refine ⟨_, cap, rfl, ⟨Nat.le_trans hn hc, .inr ⟨g, 0, rfl, ?_, ?_⟩⟩, fun e => (by cases e), hn, hc⟩
    · exact (h1'.lt g rfl).2
    · intro i hi
      obtain ⟨a, cp, e0, e1, e2, e3⟩ := h2.2 i hi
      refine ⟨?_, a, cp, ?_, e2⟩
      · rw [h1'.cellAt _ (by omega), ← e1]; congr 1; omega
      · rw [h1'.cellAt _ (by omega), ← e0]; congr 1; omega

theorem own_shapeE {W : World} {base e size n : Nat} {v : Value} {xs : List Value} (h : W.ownsRow base e size v n xs) : ∃ a c, v = .slice a n c := by
  obtain ⟨_, ⟨rfl, h0⟩ | ⟨g, c1, cur, rfl, _⟩⟩ := h
  · exact ⟨none, 0, by rw [h0]⟩
  · exact ⟨_, c1, rfl⟩
/-- Cells that hold bare values. -/
def EncV (xs : List Value) (l : List Vl) : Prop := xs.length = l.length * 3 ∧ ∀ (i : Nat) (h : i < l.length), xs[i * 3]? = some (.int .i64 l[i].1) ∧ xs[i * 3 + 1]? = some (.int .i64 l[i].2.1) ∧ xs[i * 3 + 2]? = some (.string l[i].2.2)
theorem EncV.push {xs : List Value} {l : List Vl} (h : EncV xs l) (v : Vl) : EncV (xs ++ [.int .i64 v.1, .int .i64 v.2.1, .string v.2.2]) (l ++ [v]) := by
  have lx := h.1
  refine ⟨by simp [lx]; omega, fun i hi => ?_⟩
  by_cases hi' : i < l.length
  · obtain ⟨h0, h1, h2⟩ := h.2 i hi'
    rw [List.getElem_append_left hi']
    refine ⟨?_, ?_, ?_⟩
    · rw [List.getElem?_append_left (by omega), h0]
    · rw [List.getElem?_append_left (by omega), h1]
    · rw [List.getElem?_append_left (by omega), h2]
  · have : i = l.length := by simp at hi; omega
    subst this
    simp only [List.getElem_concat_length]
    refine ⟨?_, ?_, ?_⟩
    · rw [List.getElem?_append_right (by omega)]; simp [lx]
    · rw [List.getElem?_append_right (by omega)]; simp [lx]
    · rw [List.getElem?_append_right (by omega)]; simp [lx]
theorem own_valsR {W : World} {B n : Nat} {v : Value} {xs : List Value} {l : List Vl} (ho : W.ownsRow B 47 3 v n xs) (hn : n = l.length) (he : EncV xs l) : ∃ a cap, v = .slice a l.length cap ∧ SlAt W a l ∧ TyAt W a := by
  subst hn
  have ho' := ho
  obtain ⟨hx, h1 | ⟨g, cap, cur, e, hg, hh, hn, hc, hs, ht⟩⟩ := ho
  · obtain ⟨rfl, h0⟩ := h1
    have : l = [] := List.eq_nil_of_length_eq_zero h0
    subst this
    exact ⟨none, 0, rfl, ⟨Nat.zero_le _, .inl rfl⟩, fun b off e => by cases e⟩
  · subst e
    refine ⟨_, cap, rfl, ⟨Nat.le_trans hn hc, .inr ⟨g, 0, rfl, ?_, (ho'.lt g rfl).2⟩⟩, ?_⟩
    · intro i hi
      obtain ⟨e0, e1, e2⟩ := he.2 i hi
      refine ⟨?_, ?_, ?_⟩
      · rw [ho'.cellAt _ (by omega), ← e0]; congr 1; omega
      · rw [ho'.cellAt _ (by omega), ← e1]; congr 1; omega
      · rw [ho'.cellAt _ (by omega), ← e2]; congr 1; omega
    · intro b off e
      injection e with e
      injection e with e _ _
      subst e
      exact ⟨_, _, hh⟩
theorem news3 {W : World} {B : Nat} (hB : W.heap.size = B) (u0 u1 u2 : Value) : ∀ j u, [u0, u1, u2][j]? = some u → (W.alloc (.cells #[u0, u1, u2] 47)).cell? ((⟨B, 0, none⟩ : Addr).add j) = some u := by
  subst hB
  intro j u hj
  match j, hj with
  | 0, hj => simp at hj; subst hj; simp [Addr.add]
  | 1, hj => simp at hj; subst hj; simp [Addr.add]
  | 2, hj => simp at hj; subst hj; simp [Addr.add]
theorem one3 (x y : Int) (s : ByteArray) : ∀ u ∈ [Value.int .i64 x, .int .i64 y, .string s], u.oneCell' = true := by
  intro u hu; simp at hu; rcases hu with rfl | rfl | rfl <;> rfl

set_option maxRecDepth 100000 in
set_option maxHeartbeats 2000000 in
theorem refBareRow_at (a : Option Addr) (cap : Nat) (l : List Vl) (w : World) (h : SlAt w a l) (h8 : l.length ≤ 8) :
    Calls Try.prog 47 #[.slice a l.length cap] w fun e w' => (∃ a' c', e = .returned (.slice a' l.length c') ∧ SlAt w' a' (bareL l) ∧ TyAt w' a') ∧ Below w.heap.size w w' := by
  obtain ⟨i0, hi, hj0, hj1, hj2⟩ := info_parts Try.info49
  go_enter Try.func47, Try.ntmps47
  go_wp2_with fail
  go_loopw [3, 8] (fun v i wr => ∃ k : Nat, k ≤ l.length ∧ i = .int .i64 k ∧ (∃ xs, wr.ownsRow w.heap.size 47 3 v k xs ∧ EncV xs (bareL (l.take k))) ∧ Below w.heap.size w wr) (fun _ i _ => l.length - (intOf i).toNat)
  case atStart => exact ⟨0, Nat.zero_le _, rfl, ⟨[], World.ownsRow_nil _ _ _ _, rfl, fun i hi => by simp [bareL] at hi⟩, Below.refl _ _⟩
  case round =>
    obtain ⟨k, hk, rfl, ⟨xs, ho, he⟩, hb⟩ := hrel
    have hz := hb.size
    by_cases hlt : k < l.length
    · obtain ⟨b, off, rfl, hbl, c0, c1, c2⟩ := (h.next hb).elem hlt
      obtain ⟨a3, c3, rfl⟩ := own_shapeE ho
      go_wp2_with fail
      refine (refBare_any _ _ _ _).mono ?_
      rintro e w1 ⟨rfl, hb1⟩
      have hb1' := chain2 hb hb1
      have hz1 := hb1'.size
      have ho1 := own_next (own_next ho ((Below.refl _ _).alloc (Nat.le_refl _) _)) hb1
      have stp : Hid (bareL (l.take (k + 1)) = bareL (l.take k) ++ [bareP l[k]]) := by
        show List.map bareP (l.take (k + 1)) = List.map bareP (l.take k) ++ [bareP l[k]]
        rw [List.take_succ_eq_append_getElem hlt, List.map_append]; rfl
      clear ho
      go_wp2_with (at_builtin; refine wpList_append_own _ rfl _ _ 43 rfl w.heap.size 47 i0 _ 3 32 Try.underlying43 hi hj0 hj1 hj2 rfl (by decide) _ _ _ rfl (ho1.alloc _) ⟨w1.heap.size, 0, none⟩ 1 1 [.int .i64 l[k].1, .int .i64 (bareN l[k].1 l[k].2.1), .string (bareS l[k].1 l[k].2.2)] rfl rfl (news3 rfl _ _ _) (one3 _ _ _) (by unfold maxLen; omega) (by omega) (by simp; omega) ?_)
      intro v' w2 ho2 hg2 _
      have hb2 : Below w.heap.size w w2 := (hb1'.alloc hz1 _).grown hg2 (by simp; omega) (fun q hq => ((ho1.alloc (.cells #[.int .i64 l[k].1, .int .i64 (bareN l[k].1 l[k].2.1), .string (bareS l[k].1 l[k].2.2)] 47)).lt q hq).1)
      clear hg2 ho1
      go_wp2_with fail
      go_roundw
      case rel => exact ⟨k + 1, by omega, by go_num, ⟨_, ho2, by rw [stp.out]; exact he.push (bareP l[k])⟩, hb2⟩
      case measure => simp [intOf]; omega
    · have e : k = l.length := by omega
      subst e
      rw [List.take_length] at he
      obtain ⟨a3, c3, e3, s3, t3⟩ := own_valsR ho (bareL_length l).symm he
      rw [bareL_length] at e3
      subst e3
      go_wp2_with fail
      go_ret
      exact ⟨⟨a3, c3, rfl, s3, t3⟩, hb⟩
end Go.Proofs.Ytibobmkelmalkaa
