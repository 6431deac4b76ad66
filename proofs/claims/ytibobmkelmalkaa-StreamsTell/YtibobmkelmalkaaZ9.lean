/- The walks of zsets.gathered, zsets.Of, zsets.weighedSet and what is built on them. -/
import Derived.Test.YtibobmkelmalkaaZ8
namespace Go.Proofs.Ytibobmkelmalkaa
open Go.RowKit Go.Lib Go.Shelf

def outW (z : List Zp) : Bool := z.any fun x => !inW x.2
def gatherE (l : List Zp) : Int := if outW (canon l) = true then 3 else if 400 < (canon l).length then 5 else 0
def gatherZ (l : List Zp) : List Zp := if gatherE l = 0 then canon l else []
theorem outW_weigh (z : List Zp) : outW (weighL (fun w => w) z) = outW z := by
  induction z with
  | nil => rfl
  | cons x r ih =>
    unfold outW at ih ⊢
    rw [weighL]
    split
    · rename_i h0
      rw [ih, List.any_cons, h0]
      simp [inW]
    · rw [List.any_cons, ih, List.any_cons]
theorem outW_no {z : List Zp} {k : Nat} (hk : k < z.length) (h : inW z[k].2 = false) : outW z = true := by
  unfold outW
  rw [List.any_eq_true]
  exact ⟨z[k], List.getElem_mem hk, by simp [h]⟩
theorem outW_ok {z : List Zp} (h : ∀ j (hj : j < z.length), inW z[j].2 = true) : outW z = false := by
  unfold outW
  rw [List.any_eq_false]
  intro x hx
  obtain ⟨j, hj, rfl⟩ := List.getElem_of_mem hx
  simp [h j hj]
theorem own_nil (base : Nat) (W : World) : OwnZ base W (.slice none 0 0) [] := ⟨[], World.ownsRow_nil _ _ _ _, rfl, fun i hi => by simp at hi⟩

theorem eg58 : ∀ args w, (callFunc 32 args).run Try.prog w = .ok (.enter 32 args) w := enters_of Try.func32 (by kernel_rfl) rfl
theorem makes58 (w : World) : Makes 32 #[] (fun w => w) w := by
  intro x W _ _
  show Calls Try.prog 32 #[.int .i64 x] W _
  go_enter Try.func32, Try.ntmps32
  go_wp2
  go_ret
  exact ⟨rfl, Below.refl _ _⟩

/-- What zsets.summed leaves. -/
def Summed (l : List Zp) (w : World) (e : Ending) (w' : World) : Prop :=
  ∃ s a' c', e = .returned (.slice a' (mergedL s).length c') ∧ s.Perm l ∧ (s.Pairwise fun x y => cmpL x.1 y.1 ≤ 0) ∧ ZsAt w' a' (mergedL s) ∧ Below w.heap.size w w'

set_option maxHeartbeats 2000000 in
theorem gathered_of (a : Option Addr) (cap : Nat) (l : List Zp) (w : World) (hsum : Calls Try.prog 29 #[.slice a l.length cap] w (Summed l w)) (hl : l.length ≤ 200000) (h8 : ∀ x ∈ l, x.1.length ≤ 8) :
    Calls Try.prog 20 #[.slice a l.length cap] w fun e w' => ∃ v, e = .returned (.tuple #[v, .int .i64 (gatherE l)]) ∧ OwnZ w.heap.size w' v (gatherZ l) ∧ Below w.heap.size w w' := by
  go_enter Try.func20, Try.ntmps20
  go_wp2_with fail
  refine hsum.mono ?_
  clear hsum
  rintro e w1 ⟨s, a1, c1, rfl, hp, hs, z1, hb1⟩
  have hcan := gather_canon hp hs
  have hm := merged_ok s hs
  have hlen := mergedL_len s
  rw [hp.length_eq] at hlen
  have h81 : ∀ y ∈ mergedL s, y.1.length ≤ 8 := by
    intro y hy
    obtain ⟨x, hx, e⟩ := hm.row y hy
    rw [e]
    exact h8 x (hp.mem_iff.1 hx)
  have HCan : Hid (weighL (fun w => w) (mergedL s) = canon l) := hcan
  clear hcan hm hp hs h8
  generalize mergedL s = m at *
  go_wp2_with fail
  go_loopw [12] (fun i wr => ∃ k : Nat, k ≤ m.length ∧ i = .int .i64 k ∧ Hid (∀ j (hj : j < m.length), j < k → inW m[j].2 = true) ∧ Below w1.heap.size w1 wr) (fun i _ => m.length - (intOf i).toNat)
  case atStart => exact ⟨0, Nat.zero_le _, rfl, fun j _ hj => absurd hj (Nat.not_lt_zero _), Below.refl _ _⟩
  case round =>
    obtain ⟨k, hk, rfl, HI, hb⟩ := hrel
    have hz := hb.size
    by_cases hlt : k < m.length
    · obtain ⟨b, off, rfl, hbl, d1, ar, cr, d0, sr⟩ := (z1.next hb).elem hlt
      cases hin : inW m[k].2
      · have HO : Hid (inW m[k].2 = false) := hin
        have he : Hid (gatherE l = 3) := by
          show gatherE l = 3
          unfold gatherE
          rw [← HCan.out, outW_weigh, if_pos (outW_no hlt hin)]
        clear hin
        go_wp2_with fail
        refine (zInRange_any _ _).mono ?_
        rintro e w2 ⟨rfl, rfl⟩
        rw [HO.out]
        go_wp2_with fail
        refine bodyPost_ret (v := .tuple #[.slice none 0 0, .int .i64 3]) (by simp [results, Try.results20, go_sem]) rfl ⟨_, by rw [he.out], ?_, (chain1 hb1 hb).alloc (by have := hb1.size; omega) _⟩
        have hgz : gatherZ l = [] := by unfold gatherZ; rw [he.out]; rfl
        rw [hgz]
        exact own_nil _ _
      · have HO : Hid (inW m[k].2 = true) := hin
        clear hin
        go_wp2_with fail
        refine (zInRange_any _ _).mono ?_
        rintro e w2 ⟨rfl, rfl⟩
        rw [HO.out]
        go_wp2_with fail
        go_roundw
        case rel => exact ⟨k + 1, by omega, by go_num, fun j hj hjk => by
          by_cases e : j = k
          · subst e; exact HO.out
          · exact HI.out j hj (by omega), hb.alloc hz _⟩
        case measure => simp [intOf]; omega
    · have e : k = m.length := by omega
      subst e
      have hall : ∀ x ∈ m, inW x.2 = true := by
        intro x hx
        obtain ⟨j, hj, rfl⟩ := List.getElem_of_mem hx
        exact HI.out j hj hj
      have ho : outW (canon l) = false := by
        rw [← HCan.out, outW_weigh]
        exact outW_ok fun j hj => HI.out j hj hj
      go_wp2_with fail
      refine (weighed_at 32 #[] (fun w => w) a1 c1 m wr (z1.next hb) eg58 (makes58 _) (by omega) h81 hall).mono ?_
      rintro e w3 ⟨v, rfl, O3, hb3⟩
      rw [HCan.out] at O3
      have hb3' := chain1 (chain1 hb1 hb) hb3
      have O3' := O3.mono (Nat.le_trans hb1.size hb.size)
      obtain ⟨a3, c3, rfl, z3⟩ := O3.zs
      by_cases h4 : 400 < (canon l).length
      · have he : Hid (gatherE l = 5) := by
          show gatherE l = 5
          unfold gatherE
          rw [ho, if_neg (by decide), if_pos h4]
        go_wp2_with fail
        refine bodyPost_ret (v := .tuple #[.slice none 0 0, .int .i64 5]) (by simp [results, Try.results20, go_sem]) rfl ⟨_, by rw [he.out], ?_, hb3'⟩
        have hgz : gatherZ l = [] := by unfold gatherZ; rw [he.out]; rfl
        rw [hgz]
        exact own_nil _ _
      · have he : Hid (gatherE l = 0) := by
          show gatherE l = 0
          unfold gatherE
          rw [ho, if_neg (by decide), if_neg h4]
        go_wp2_with fail
        refine bodyPost_ret (v := .tuple #[.slice a3 (canon l).length c3, .int .i64 0]) (by simp [results, Try.results20, go_sem]) rfl ⟨_, by rw [he.out], ?_, hb3'⟩
        have hgz : gatherZ l = canon l := by unfold gatherZ; rw [he.out]; rfl
        rw [hgz]
        exact O3'
end Go.Proofs.Ytibobmkelmalkaa
