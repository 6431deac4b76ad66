/- The walk of tidelaw4.OpsCounts. -/
import Derived.Test.YtajbjhaoeeiigaaGreatE1
import Derived.Test.YtajbjhaoeeiigaaGreatB9
import Derived.Laws.EntriesVeiled
namespace Go.Proofs.YtajbjhaoeeiigaaGreat
open Go.RowKit Go.Lib Go.Shelf

theorem totG_take (g : List Vl → Int) {t : List Zp} {k : Nat} (h : k < t.length) : tot g (t.take (k + 1)) = tot g (t.take k) + g t[k].1 * t[k].2 := by
  rw [List.take_succ_eq_append_getElem h, tot_append]
  simp [tot]
theorem posC_append : ∀ a b : List Zp, posW (a ++ b) = posW a + posW b
  | [], b => by simp [posW]
  | x :: r, b => by rw [List.cons_append, posW, posW, posC_append r b]; omega
theorem posC_take {t : List Zp} {k : Nat} (h : k < t.length) : posW (t.take (k + 1)) = posW (t.take k) + (if 0 < t[k].2 then t[k].2 else 0) := by
  rw [List.take_succ_eq_append_getElem h, posC_append]
  simp [posW]
def exZ : Ex := .mk 0 (0, 0, ⟨#[]⟩) 0 []
theorem ag_one (w : World) : AgAt (w.heap.size + 1) (w.alloc (.cells #[.int .i64 1, .int .i64 0, .int .i64 0, .int .i64 0, .string ⟨#[]⟩, .int .i64 0, .slice none 0 0] 34)) (some ⟨w.heap.size, 0, none⟩) (cntG exZ) := by
  have q := heap_new w #[.int .i64 1, .int .i64 0, .int .i64 0, .int .i64 0, .string ⟨#[]⟩, .int .i64 0, .slice none 0 0] 34
  refine .inr ⟨w.heap.size, 0, fun _ => none, fun _ => 0, rfl, Nat.lt_succ_self _, fun i hi => ?_⟩
  have e : i = 0 := by simpa [cntG] using hi
  subst e
  exact ⟨cell_of (i := 0) q rfl, ⟨cell_of (i := 1) q rfl, cell_of (i := 2) q rfl, cell_of (i := 3) q rfl, cell_of (i := 4) q rfl, cell_of (i := 5) q rfl, cell_of (i := 6) q rfl⟩, .nil _⟩

set_option maxRecDepth 100000 in
set_option maxHeartbeats 4000000 in
theorem counts_walk (ca : Option Addr) (ccap : Nat) (cols : List Int) (xa : Option Addr) (xcap : Nat) (xs : List Ex) (a : Option Addr) (cap : Nat) (l : List Zp) (w : World)
    (hc : IsAt w.heap.size w ca cols) (hk : KsAt w.heap.size w xa xs) (h : ZsAt w a l) (_na : a = none → cap = 0) (hxl : xs.length ≤ 100000000000000) :
    Calls Tryz.prog 3 #[.slice ca cols.length ccap, .slice xa xs.length xcap, .slice a l.length cap] w fun e w' => e = .returned (.bool true) ∧ Below w.heap.size w w' := by
  go_enter Tryz.func3, Tryz.ntmps3
  go_wp2_with fail
  refine (alive_at w).mono ?_
  rintro e w1 ⟨rfl, hb1⟩
  have h2 : Below w1.heap.size w1 (w1.alloc (.cells #[.int .i64 1, .int .i64 0, .int .i64 0, .int .i64 0, .string ⟨#[]⟩, .int .i64 0, .slice none 0 0] 34)) := (Below.refl _ _).alloc (Nat.le_refl _) _
  have z2 : (w1.alloc (.cells #[.int .i64 1, .int .i64 0, .int .i64 0, .int .i64 0, .string ⟨#[]⟩, .int .i64 0, .slice none 0 0] 34)).heap.size = w1.heap.size + 1 := by simp
  have hA2 := chain hb1 h2
  have con := group_at cols xs (cntG exZ) (fun g hg _ => by rw [List.mem_singleton.1 hg]; exact totalC_ok 1 (by decide) (by decide) (by decide)) (by simp [cntG]; omega) ca ccap xa xcap (some ⟨w1.heap.size, 0, none⟩) 1 a cap l _ ((hc.next hA2 (Nat.le_refl _)).up hA2.size) ((KsAt.next hA2 (Nat.le_refl _) hk).up hA2.size) ((ag_one w1).up (by omega)) (h.next hA2)
  rw [show (cntG exZ).length = 1 from rfl] at con
  generalize ht : groupE cols xs (cntG exZ) l = te at con
  generalize hz : groupZ cols xs (cntG exZ) l = t at con
  have HT : Hid (groupE cols xs (cntG exZ) l = te) := ht
  have HZ : Hid (groupZ cols xs (cntG exZ) l = t) := hz
  clear ht hz
  dsimp only
  go_wp2_with fail
  generalize w1.alloc (.cells #[.int .i64 1, .int .i64 0, .int .i64 0, .int .i64 0, .string ⟨#[]⟩, .int .i64 0, .slice none 0 0] 34) = w2 at *
  refine con.mono ?_
  rintro e w3 ⟨v3, rfl, O3, hb3⟩
  obtain ⟨a3, c3, rfl, zs3⟩ := O3.zs
  clear con O3
  have hA3 := chain hA2 hb3
  dsimp only
  by_cases h0 : te = 0
  · subst h0
    have HC : Hid (CntOk xs l t) := by show CntOk _ _ _; rw [← HZ.out]; exact count_ok HT.out
    have HO : Hid (InpOk cols l) := (groupE_ok HT.out).1
    have hl4 := set_len HO.out
    have ht4 := HC.out.len
    clear HT HZ
    go_wp2_with fail
    go_loopw [9, 33] (fun v i wr => ∃ (k : Nat) (n : Int), k ≤ l.length ∧ i = .int .i64 k ∧ v = .int .i64 n ∧ Hid (n = posW (l.take k)) ∧ 0 ≤ n ∧ n ≤ 1000000 * (k : Int) ∧ Below w3.heap.size w3 wr) (fun _ i _ => l.length - (intOf i).toNat)
    case atStart => exact ⟨0, 0, Nat.zero_le _, rfl, rfl, rfl, by omega, by omega, Below.refl _ _⟩
    case round =>
      obtain ⟨k, n, hk', rfl, rfl, HN, hn0, hn1, hb⟩ := hrel
      by_cases hlt : k < l.length
      · obtain ⟨b, off, rfl, hbl, c1, ar, cr, c0, sr⟩ := (h.next (chain hA3 hb)).elem hlt
        have hal : Below wr.heap.size wr (wr.alloc (.cells #[.slice ar l[k].1.length cr, .int .i64 l[k].2] 38)) := (Below.refl _ _).alloc (Nat.le_refl _) _
        have hw := set_in HO.out l[k] (List.getElem_mem hlt)
        rw [inW_iff] at hw
        clear sr
        by_cases hp : 0 < l[k].2
        · have HN' : Hid (n + l[k].2 = posW (l.take (k + 1))) := by show _ = _; rw [posC_take hlt, if_pos hp, HN.out]
          go_wp2_with fail
          go_roundw
          case rel => exact ⟨k + 1, n + l[k].2, by omega, by go_num, rfl, HN', by omega, by omega, chain hb hal⟩
          case measure => simp [intOf]; omega
        · have HN' : Hid (n = posW (l.take (k + 1))) := by show _ = _; rw [posC_take hlt, if_neg hp, ← HN.out]; omega
          go_wp2_with fail
          go_roundw
          case rel => exact ⟨k + 1, n, by omega, by go_num, rfl, HN', by omega, by omega, chain hb hal⟩
          case measure => simp [intOf]; omega
      · have e : k = l.length := by omega
        subst e
        have HNl : Hid (n = posW l) := by show _ = _; have := HN.out; rwa [List.take_length] at this
        obtain ⟨w4, hw4⟩ : ∃ z, z = wr := ⟨_, rfl⟩
        subst hw4
        have zs4 := zs3.next hb
        clear HN
        go_wp2_with fail
        go_loopw [10, 47] (fun v i wr => ∃ (k : Nat) (m : Int), k ≤ t.length ∧ i = .int .i64 k ∧ v = .int .i64 m ∧ Hid (m = tot (numAt xs.length) (t.take k)) ∧ 0 ≤ m ∧ m ≤ 400000000 * (k : Int) ∧ Below w4.heap.size w4 wr) (fun _ i _ => t.length - (intOf i).toNat)
        case atStart => exact ⟨0, 0, Nat.zero_le _, rfl, rfl, rfl, by omega, by omega, Below.refl _ _⟩
        case round =>
          obtain ⟨k, m, hk2, rfl, rfl, HM, hm0, hm1, hb5⟩ := hrel
          have hz5 := hb5.size
          by_cases hlt : k < t.length
          · obtain ⟨b, off, rfl, hbl, c1, ar, cr, c0, sr⟩ := (zs4.next hb5).elem hlt
            obtain ⟨r1, r2, r3, r4⟩ := HC.out.row t[k] (List.getElem_mem hlt)
            have hal : Below wr.heap.size wr (wr.alloc (.cells #[.slice ar (xs.length + 1) cr, .int .i64 1] 38)) := (Below.refl _ _).alloc (Nat.le_refl _) _
            have hxlt : xs.length < t[k].1.length := by omega
            obtain ⟨rb, ro, rfl, rlt, d0, d1, d2⟩ := (sr.next hal).elem hxlt
            have en : t[k].1[xs.length].2.1 = numAt xs.length t[k].1 := by
              rw [← HC.out.num t[k] (List.getElem_mem hlt)]
              simp [List.getD, hxlt]
            rw [en] at d1
            have HM' : Hid (m + numAt xs.length t[k].1 = tot (numAt xs.length) (t.take (k + 1))) := by show _ = _; rw [totG_take _ hlt, r1, HM.out]; omega
            rw [r1] at c1
            rw [r2] at c0
            have rlt' := (sr.next hal)
            generalize numAt xs.length t[k].1 = q at *
            have x0 : (0 : Int) ≤ (xs.length : Int) := by omega
            have x1 : (xs.length : Int) < (xs.length : Int) + 1 := by omega
            have x2 : (xs.length : Int) ≤ 100000000000000 := by omega
            have hW : IntKind.i64.wrap ((xs.length : Int) + 1) = (xs.length : Int) + 1 := IntWalk.i64_in _ ⟨by omega, by omega⟩
            clear d0 d2 r1 r2 en sr rlt' HM hxlt
            go_wp2_with fail
            go_roundw
            case rel => exact ⟨k + 1, m + q, by omega, by go_num, rfl, HM', by omega, by omega, chain hb5 hal⟩
            case measure => simp [intOf]; omega
          · have e : k = t.length := by omega
            subst e
            have em : m = n := by
              have := HM.out
              rw [List.take_length, HC.out.sum] at this
              rw [this, HNl.out]
            subst em
            have hA5 := chain (chain hA3 hb) hb5
            by_cases hx0 : xs.length = 0
            · have ht1 := HC.out.one hx0
              have ht1' : (t.length : Int) = 1 := by omega
              have hxn : ¬ (0 : Int) < (xs.length : Int) := by omega
              have hb1 : ((t.length : Int) == 1) = true := by rw [ht1']; rfl
              clear HM HNl
              go_wp2_with fail
              go_ret
              exact ⟨rfl, hA5⟩
            · have hxp : (0 : Int) < (xs.length : Int) := by omega
              clear HM HNl
              go_wp2_with fail
              go_ret
              exact ⟨rfl, hA5⟩
  · have et : t = [] := by rw [← HZ.out]; unfold groupZ; rw [HT.out, if_neg h0]
    subst et
    have hne : (te != 0) = true := by simpa using h0
    clear h0 HT HZ
    go_wp2_with fail
    go_ret
    exact ⟨rfl, hA3⟩
end Go.Proofs.YtajbjhaoeeiigaaGreat
