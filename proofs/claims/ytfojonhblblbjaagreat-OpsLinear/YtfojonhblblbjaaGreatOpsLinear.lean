/- The walk of tidelaw4.OpsLinear. -/
import Derived.Test.YtfojonhblblbjaaGreatB8
import Derived.Laws.EntriesVeiled
namespace Go.Proofs.YtfojonhblblbjaaGreat
open Go.RowKit Go.Lib Go.Shelf

set_option maxHeartbeats 400000 in
theorem lin1_at (cols : List Int) (x : Ex) (ca : Option Addr) (ccap : Nat) (xa : Option Addr) (xcap : Nat) (cb xb : Nat) (a : Option Addr) (cap : Nat) (z : List Zp) (W : World) (c0 : W.cell? ⟨cb, 0, none⟩ = some (.slice ca cols.length ccap)) (S : Six W xb 0 x.k x.v x.c xa x.ks.length xcap)
    (hc : IsAt W.heap.size W ca cols) (hk : KsAt W.heap.size W xa x.ks) (h : ZsAt W a z) :
    Calls Tryz.prog 25 #[.slice a z.length cap, .pointer (some ⟨cb, 0, none⟩), .pointer (some ⟨xb, 0, none⟩)] W fun e w' => ∃ v, e = .returned (.tuple #[v, .int .i64 (filtE cols x z)]) ∧ OwnZ W.heap.size w' v (filtZ cols x z) ∧ Below W.heap.size W w' := by
  obtain ⟨s0, s1, s2, s3, s4, s5⟩ := S
  simp only [Nat.zero_add] at s1 s2 s3 s4 s5
  have con := filter_at cols x ca ccap xa xcap a cap z W hc hk h
  generalize filtE cols x z = t at *
  generalize filtZ cols x z = f at *
  go_enter Tryz.func25, Tryz.ntmps25
  go_wp2_with fail
  refine con.mono ?_
  rintro e w1 ⟨v, rfl, O, hb⟩
  obtain ⟨a1, c1, rfl, _⟩ := O.zs
  go_wp2_with fail
  exact bodyPost_ret (v := .tuple #[.slice a1 f.length c1, .int .i64 t]) (by simp [results, Tryz.results25, go_sem]) rfl ⟨_, rfl, O, hb⟩
set_option maxHeartbeats 400000 in
theorem lin2_at (cols : List Int) (xs : List Ex) (ca : Option Addr) (ccap : Nat) (xa : Option Addr) (xcap : Nat) (cb xb : Nat) (a : Option Addr) (cap : Nat) (z : List Zp) (W : World) (c0 : W.cell? ⟨cb, 0, none⟩ = some (.slice ca cols.length ccap)) (s0 : W.cell? ⟨xb, 0, none⟩ = some (.slice xa xs.length xcap))
    (hc : IsAt W.heap.size W ca cols) (hk : KsAt W.heap.size W xa xs) (h : ZsAt W a z) :
    Calls Tryz.prog 26 #[.slice a z.length cap, .pointer (some ⟨cb, 0, none⟩), .pointer (some ⟨xb, 0, none⟩)] W fun e w' => ∃ v, e = .returned (.tuple #[v, .int .i64 (mapE cols xs z)]) ∧ OwnZ W.heap.size w' v (mapZ cols xs z) ∧ Below W.heap.size W w' := by
  have con := map_at cols xs ca ccap xa xcap a cap z W hc hk h
  generalize mapE cols xs z = t at *
  generalize mapZ cols xs z = f at *
  go_enter Tryz.func26, Tryz.ntmps26
  go_wp2_with fail
  refine con.mono ?_
  rintro e w1 ⟨v, rfl, O, hb⟩
  obtain ⟨a1, c1, rfl, _⟩ := O.zs
  go_wp2_with fail
  exact bodyPost_ret (v := .tuple #[.slice a1 f.length c1, .int .i64 t]) (by simp [results, Tryz.results26, go_sem]) rfl ⟨_, rfl, O, hb⟩

/-- A function value that makes sets of sets, and sums of sums. -/
def Lf (l l' : List Zp) (u : Value) (w : World) : Prop :=
  ∃ (g : Nat) (cb : Array Value) (E : List Zp → Int) (Z : List Zp → List Zp), u = .func (.func g) #[] cb ∧ (∀ args w, (callFunc g args).run Tryz.prog w = .ok (.enter g args) w) ∧
    (∀ (a : Option Addr) (cap : Nat) (z : List Zp) (W : World), ZsAt W a z → Below w.heap.size w W → Calls Tryz.prog g (#[.slice a z.length cap] ++ cb) W fun e w' => ∃ v, e = .returned (.tuple #[v, .int .i64 (E z)]) ∧ OwnZ W.heap.size w' v (Z z) ∧ Below W.heap.size W w') ∧
    (E l = 0 → E l' = 0 → E (bothZ 1 l l') = 0 → bothE 1 (Z l) (Z l') = 0 ∧ bothZ 1 (Z l) (Z l') = Z (bothZ 1 l l'))

set_option maxRecDepth 100000 in
set_option maxHeartbeats 8000000 in
theorem linear_walk (ca : Option Addr) (ccap : Nat) (cols : List Int) (x : Ex) (xa : Option Addr) (xcap : Nat) (ya : Option Addr) (ycap : Nat) (xs : List Ex) (a : Option Addr) (acap : Nat) (l : List Zp) (b : Option Addr) (bcap : Nat) (l' : List Zp) (w : World)
    (hc : IsAt w.heap.size w ca cols) (hx : KsAt w.heap.size w xa x.ks) (hk : KsAt w.heap.size w ya xs) (h : ZsAt w a l) (h' : ZsAt w b l') (na : a = none → acap = 0) (_nb : b = none → bcap = 0) :
    Calls Tryz.prog 6 #[.slice ca cols.length ccap, exV x.k x.v x.c xa x.ks.length xcap, .slice ya xs.length ycap, .slice a l.length acap, .slice b l'.length bcap] w fun e w' => e = .returned (.bool true) ∧ Below w.heap.size w w' := by
  have h1 : Below w.heap.size w (w.alloc (.cells #[.slice ca cols.length ccap] 22)) := (Below.refl _ _).alloc (Nat.le_refl _) _
  have c1 : (w.alloc (.cells #[.slice ca cols.length ccap] 22)).cell? ⟨w.heap.size, 0, none⟩ = some (.slice ca cols.length ccap) := by simp
  have z1 : (w.alloc (.cells #[.slice ca cols.length ccap] 22)).heap.size = w.heap.size + 1 := by simp
  go_enter Tryz.func6, Tryz.ntmps6
  go_wp2_with fail
  generalize w.alloc (.cells #[.slice ca cols.length ccap] 22) = w1 at *
  have h2 : Below w1.heap.size w1 (w1.alloc (.cells #[.int .i64 x.k, .int .i64 x.v.1, .int .i64 x.v.2.1, .string x.v.2.2, .int .i64 x.c, .slice xa x.ks.length xcap] 27)) := (Below.refl _ _).alloc (Nat.le_refl _) _
  have S2 := Six.new w1 x.k x.v x.c xa x.ks.length xcap 27
  have z2 : (w1.alloc (.cells #[.int .i64 x.k, .int .i64 x.v.1, .int .i64 x.v.2.1, .string x.v.2.2, .int .i64 x.c, .slice xa x.ks.length xcap] 27)).heap.size = w1.heap.size + 1 := by simp
  generalize w1.alloc (.cells #[.int .i64 x.k, .int .i64 x.v.1, .int .i64 x.v.2.1, .string x.v.2.2, .int .i64 x.c, .slice xa x.ks.length xcap] 27) = w2 at *
  have h3 : Below w2.heap.size w2 (w2.alloc (.cells #[.slice ya xs.length ycap] 25)) := (Below.refl _ _).alloc (Nat.le_refl _) _
  have c3 : (w2.alloc (.cells #[.slice ya xs.length ycap] 25)).cell? ⟨w2.heap.size, 0, none⟩ = some (.slice ya xs.length ycap) := by simp
  have z3 : (w2.alloc (.cells #[.slice ya xs.length ycap] 25)).heap.size = w2.heap.size + 1 := by simp
  have S3 := S2.next h3 (by omega)
  have c1 := ((chain h2 h3).cell (p := ⟨w.heap.size, 0, none⟩) (by show w.heap.size < _; omega)).trans c1
  generalize w2.alloc (.cells #[.slice ya xs.length ycap] 25) = w3 at *
  have hA3 := chain (chain h1 h2) h3
  have e1 : w1.heap.size = w.heap.size + 1 := by omega
  have e2 : w2.heap.size = w.heap.size + 1 + 1 := by omega
  rw [e1] at S3
  rw [e2] at c3
  clear S2
  refine (alive_at w3).mono ?_
  rintro e w4 ⟨rfl, hb4⟩
  have hA4 := chain hA3 hb4
  have H4 : Hid (Below w3.heap.size w3 w4) := hb4
  have con := plus_at a b acap bcap l l' w4 (h.next hA4) (h'.next hA4) na
  have Lin1 : ∀ W6, Below w3.heap.size w3 W6 → Lf l l' (.func (.func 25) #[] #[.pointer (some ⟨w.heap.size, 0, none⟩), .pointer (some ⟨w.heap.size + 1, 0, none⟩)]) W6 ∨ bothE 1 l l' ≠ 0 := fun W6 hW6 => by
    by_cases q : bothE 1 l l' = 0
    · left
      refine ⟨_, _, filtE cols x, filtZ cols x, rfl, enters_of Tryz.func25 (by kernel_rfl) rfl, fun a cap z W hz hW => ?_, fun q1 q2 q3 => linear_filt q q1 q2 q3⟩
      have hD := chain hW6 hW
      have hE := chain hA3 hD
      exact lin1_at cols x ca ccap xa xcap _ _ a cap z W ((hD.cell (p := ⟨w.heap.size, 0, none⟩) (by show w.heap.size < _; omega)).trans c1) (S3.next hD (by omega)) ((hc.next hE (Nat.le_refl _)).up hE.size) ((KsAt.next hE (Nat.le_refl _) hx).up hE.size) hz
    · exact .inr q
  have Lin2 : ∀ W6, Below w3.heap.size w3 W6 → Lf l l' (.func (.func 26) #[] #[.pointer (some ⟨w.heap.size, 0, none⟩), .pointer (some ⟨w.heap.size + 1 + 1, 0, none⟩)]) W6 ∨ bothE 1 l l' ≠ 0 := fun W6 hW6 => by
    by_cases q : bothE 1 l l' = 0
    · left
      refine ⟨_, _, mapE cols xs, mapZ cols xs, rfl, enters_of Tryz.func26 (by kernel_rfl) rfl, fun a cap z W hz hW => ?_, fun q1 q2 q3 => linear_map q q1 q2 q3⟩
      have hD := chain hW6 hW
      have hE := chain hA3 hD
      exact lin2_at cols xs ca ccap ya ycap _ _ a cap z W ((hD.cell (p := ⟨w.heap.size, 0, none⟩) (by show w.heap.size < _; omega)).trans c1) ((hD.cell (p := ⟨w.heap.size + 1 + 1, 0, none⟩) (by show w.heap.size + 1 + 1 < _; omega)).trans c3) ((hc.next hE (Nat.le_refl _)).up hE.size) ((KsAt.next hE (Nat.le_refl _) hk).up hE.size) hz
    · exact .inr q
  have HL1 : Hid _ := Lin1
  have HL2 : Hid _ := Lin2
  clear Lin1 Lin2 c1 c3 S3 hb4
  by_cases q : bothE 1 l l' = 0
  · have HQ : Hid (bothE 1 l l' = 0) := q
    rw [q] at con
    generalize hs : bothZ 1 l l' = s at con
    have HS : Hid (bothZ 1 l l' = s) := hs
    clear hs q
    have t0 : ((0 : Int) == 0) = true := rfl
    rw [t0] at con
    go_wp2_with fail
    refine con.mono ?_
    rintro e w5 ⟨v5, rfl, O5, hb5⟩
    obtain ⟨sa, sc, rfl, zs5⟩ := O5.zs
    have hA5 := chain hA4 hb5
    clear con O5
    go_wp2_with fail
    have h6 : Below w5.heap.size w5 (w5.alloc (.cells #[.func (.func 25) #[] #[.pointer (some ⟨w.heap.size, 0, none⟩), .pointer (some ⟨w.heap.size + 1, 0, none⟩)], .func (.func 26) #[] #[.pointer (some ⟨w.heap.size, 0, none⟩), .pointer (some ⟨w.heap.size + 1 + 1, 0, none⟩)]] 46)) := (Below.refl _ _).alloc (Nat.le_refl _) _
    have f0 : (w5.alloc (.cells #[.func (.func 25) #[] #[.pointer (some ⟨w.heap.size, 0, none⟩), .pointer (some ⟨w.heap.size + 1, 0, none⟩)], .func (.func 26) #[] #[.pointer (some ⟨w.heap.size, 0, none⟩), .pointer (some ⟨w.heap.size + 1 + 1, 0, none⟩)]] 46)).cell? ⟨w5.heap.size, 0, none⟩ = some (.func (.func 25) #[] #[.pointer (some ⟨w.heap.size, 0, none⟩), .pointer (some ⟨w.heap.size + 1, 0, none⟩)]) := by simp
    have f1 : (w5.alloc (.cells #[.func (.func 25) #[] #[.pointer (some ⟨w.heap.size, 0, none⟩), .pointer (some ⟨w.heap.size + 1, 0, none⟩)], .func (.func 26) #[] #[.pointer (some ⟨w.heap.size, 0, none⟩), .pointer (some ⟨w.heap.size + 1 + 1, 0, none⟩)]] 46)).cell? ⟨w5.heap.size, 1, none⟩ = some (.func (.func 26) #[] #[.pointer (some ⟨w.heap.size, 0, none⟩), .pointer (some ⟨w.heap.size + 1 + 1, 0, none⟩)]) := by simp
    have z6 : w5.heap.size < (w5.alloc (.cells #[.func (.func 25) #[] #[.pointer (some ⟨w.heap.size, 0, none⟩), .pointer (some ⟨w.heap.size + 1, 0, none⟩)], .func (.func 26) #[] #[.pointer (some ⟨w.heap.size, 0, none⟩), .pointer (some ⟨w.heap.size + 1 + 1, 0, none⟩)]] 46)).heap.size := by simp
    generalize w5.alloc (.cells #[.func (.func 25) #[] #[.pointer (some ⟨w.heap.size, 0, none⟩), .pointer (some ⟨w.heap.size + 1, 0, none⟩)], .func (.func 26) #[] #[.pointer (some ⟨w.heap.size, 0, none⟩), .pointer (some ⟨w.heap.size + 1 + 1, 0, none⟩)]] 46) = w6 at *
    have hA6 := chain hA5 h6
    have h36 := chain (chain H4.out hb5) h6
    have zs6 := zs5.next h6
    have HF : Hid (∀ k, k < 2 → ∃ u, w6.cell? ⟨w5.heap.size, k, none⟩ = some u ∧ Lf l l' u w6) := fun k hk => by
      match k, hk with
      | 0, _ => exact ⟨_, f0, (HL1.out w6 h36).resolve_right (fun n => n HQ.out)⟩
      | 1, _ => exact ⟨_, f1, (HL2.out w6 h36).resolve_right (fun n => n HQ.out)⟩
    clear f0 f1 zs5
    go_loopw [37] (fun i wr => ∃ k : Nat, k ≤ 2 ∧ i = .int .i64 k ∧ Below w6.heap.size w6 wr) (fun i _ => 2 - (intOf i).toNat)
    case atStart => exact ⟨0, by omega, rfl, Below.refl _ _⟩
    case round =>
      obtain ⟨k, hk, rfl, hb⟩ := hrel
      by_cases hlt : k < 2
      · obtain ⟨u, cu, g, cb, E, Z, rfl, eg, con, fact⟩ := HF.out k hlt
        have cu := (hb.cell (p := ⟨w5.heap.size, k, none⟩) z6).trans cu
        have HC : Hid _ := con
        have HT : Hid _ := fact
        clear con fact
        rw [HS.out] at HT
        have hkz : (k : Int) < 2 := by omega
        have hA7 := chain hA6 hb
        have con1 := HC.out a acap l wr (h.next hA7) hb
        go_wp2_with (go_at_fn g; refine con1.mono ?_; rintro e w7 ⟨v7, rfl, O7, hb7⟩; obtain ⟨a7, c7, rfl, zs7, n7⟩ := O7.zs2)
        have con2 := HC.out b bcap l' w7 (h'.next (chain hA7 hb7)) (chain hb hb7)
        refine con2.mono ?_
        rintro e w8 ⟨v8, rfl, O8, hb8⟩
        obtain ⟨a8, c8, rfl, zs8, n8⟩ := O8.zs2
        have hb8' := chain (chain hb hb7) hb8
        have con3 := HC.out sa sc s w8 (zs6.next hb8') hb8'
        clear con1 con2 cu O7 O8
        go_wp2_with fail
        refine con3.mono ?_
        rintro e w9 ⟨v9, rfl, O9, hb9⟩
        obtain ⟨a9, c9, rfl, zs9⟩ := O9.zs
        have hb9' := chain hb8' hb9
        clear con3 O9
        by_cases e1 : E l = 0
        · by_cases e2 : E l' = 0
          · by_cases e3 : E s = 0
            · obtain ⟨p1, p2⟩ := HT.out e1 e2 e3
              have con4 := plus_at a7 a8 c7 c8 (Z l) (Z l') w9 ((zs7.next hb8).next hb9) (zs8.next hb9) n7
              rw [p1, p2] at con4
              have t0 : ((0 : Int) == 0) = true := rfl
              rw [t0] at con4
              rw [e1, e2, e3]
              clear e1 e2 e3 p1 p2
              go_wp2_with fail
              refine con4.mono ?_
              rintro e w10 ⟨v10, rfl, O10, hb10⟩
              obtain ⟨a10, c10, rfl, zs10⟩ := O10.zs
              have con5 := same_eq a9 a10 c9 c10 (Z s) w10 (zs9.next hb10) zs10
              clear con4 O10
              go_wp2_with fail
              refine con5.mono ?_
              rintro e w11 ⟨rfl, hb11⟩
              clear con5
              go_wp2_with fail
              go_roundw
              case rel => exact ⟨k + 1, by omega, by go_num, chain (chain hb9' hb10) hb11⟩
              case measure => simp [intOf]; omega
            · have q3 : (E s != 0) = true := by simpa using e3
              have q1 : (E l != 0) = false := by simpa using e1
              have q2 : (E l' != 0) = false := by simpa using e2
              go_wp2_with fail
              go_roundw
              case rel => exact ⟨k + 1, by omega, by go_num, hb9'⟩
              case measure => simp [intOf]; omega
          · have q1 : (E l != 0) = false := by simpa using e1
            have q2 : (E l' != 0) = true := by simpa using e2
            go_wp2_with fail
            go_roundw
            case rel => exact ⟨k + 1, by omega, by go_num, hb9'⟩
            case measure => simp [intOf]; omega
        · have q1 : (E l != 0) = true := by simpa using e1
          go_wp2_with fail
          go_roundw
          case rel => exact ⟨k + 1, by omega, by go_num, hb9'⟩
          case measure => simp [intOf]; omega
      · go_wp2_with fail
        go_ret
        exact ⟨rfl, chain hA6 hb⟩
  · have q' : (bothE 1 l l' == 0) = false := by simpa using q
    rw [q'] at con
    go_wp2_with fail
    refine con.mono ?_
    rintro e w5 ⟨v5, rfl, O5, hb5⟩
    obtain ⟨sa, sc, rfl, zs5⟩ := O5.zs
    go_wp2_with fail
    go_ret
    exact ⟨rfl, chain hA4 hb5⟩
end Go.Proofs.YtfojonhblblbjaaGreat
