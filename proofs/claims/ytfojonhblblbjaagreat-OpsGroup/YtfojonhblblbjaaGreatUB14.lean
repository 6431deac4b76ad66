/- Together: VK, L1, OpsGroup, XOpen, ZOpen, ZOpen2, AOpen, EOpen. -/
import Derived.Laws.StructEq
import Derived.Laws.EntriesVeiled
import Derived.Deep.Slices
import Derived.Deep.Strs
import Derived.ProofKit
import Derived.OpenShut
import Derived.ChangeOld
import Derived.Lib.SmallJoins
import Derived.SizedLaws
import Derived.Test.YtfojonhblblbjaaGreatUB13
import Derived.Test.YtfojonhblblbjaaGreatUB9
import Derived.Test.YtfojonhblblbjaaGreatUB12
import Derived.Test.YtfojonhblblbjaaGreatUB7
import Derived.Test.YtfojonhblblbjaaGreatUB4
import Derived.Test.YtfojonhblblbjaaGreatUB2
/- The document's answer, chapter 4: groups. -/
namespace Go.Proofs.YtfojonhblblbjaaGreat
open Go.RowKit Go.Lib Go.Shelf

theorem OwnH.at {W : World} {base : Nat} {a : Option Addr} {n c : Nat} {H : List (List Vl)} (h : OwnH base W (.slice a n c) H) {i : Nat} (hi : i < H.length) : ∃ b off ka kc, a = some ⟨b, off, none⟩ ∧ W.cell? ⟨b, off + i, none⟩ = some (.slice ka H[i].length kc) ∧ SlAt W ka H[i] ∧ TyAt W ka := by
 obtain ⟨a', c', e, he⟩ := h.elem
 injection e with e1 e2 e3
 subst e1
 exact he i hi
theorem heads_right {cols : List Int} {xs : List Ex} {l : List Zp} (hx : listE cols xs = 0) (hO : InpOk cols l) (D : List Zp) (hD : ∀ r ∈ D, r ∈ l) : ∀ h ∈ headsR xs D, rightB h = true ∧ h.length = xs.length := fun h hh => by
 rcases (heads_inv xs D).from' h hh with ⟨rfl, e⟩ | ⟨r, hr, _, rfl⟩
 ·exact ⟨rfl, e.symm⟩
 ·exact ⟨rowF_right hx (hO.fit r (hD r hr)), rowX_len _ _⟩
theorem heads_len0 (xs : List Ex) (l : List Zp) (h : l.length ≤ 400) : (headsR xs l).length ≤ 401 := Nat.le_trans (heads_inv xs l).len (Nat.succ_le_succ h)
theorem heads_len (xs : List Ex) (l : List Zp) (k : Nat) (h : l.length ≤ 400) : (headsR xs (l.take k)).length ≤ 401 := heads_len0 xs _ (Nat.le_trans (by rw [List.length_take]; exact Nat.min_le_right _ _) h)
theorem heads_one (w : World) : OwnH w.heap.size (w.alloc (.cells #[.slice none 0 0] 51)) (.slice (some ⟨w.heap.size, 0, none⟩) 1 1) [[]] := by
 refine ⟨[.slice none 0 0], ?_, rfl, fun i hi => ?_⟩
 ·exact World.ownsRow_lit (e := 51) (size := 1) w #[.slice none 0 0] 1 (Nat.le_refl _) (by decide) rfl
 ·have e0 : i = 0 := by simpa using hi
  subst e0
  exact ⟨none, 0, rfl, ⟨Nat.zero_le _, .inl rfl⟩, fun b off e => by cases e⟩
theorem rowsR_take {xs : List Ex} {z : List Zp} {h : List Vl} {k : Nat} (hk : k < z.length) : rowsR xs (z.take (k + 1)) h = rowsR xs (z.take k) h ++ (if 0 < z[k].2 ∧ cmpL (rowX xs z[k].1) h = 0 then [z[k]] else []) := by
 unfold rowsR
 rw [List.take_succ_eq_append_getElem hk, List.filter_append]
 congr 1
 by_cases c : 0 < z[k].2 ∧ cmpL (rowX xs z[k].1) h = 0
 ·rw [if_pos c]; simp [c.1, c.2]
 ·rw [if_neg c]
  simp only [List.filter_cons, List.filter_nil]
  rw [if_neg (by simpa using c)]
theorem rowsR_ok {cols : List Int} {xs : List Ex} {z : List Zp} (hO : InpOk cols z) (h : List Vl) : ROk cols (rowsR xs z h) := by
 refine ⟨Nat.le_trans (List.length_filter_le _ _) (set_len hO), fun p hp => hO.fit p (List.mem_filter.1 hp).1, fun p hp => ?_⟩
 have h1 := List.mem_filter.1 hp
 have h2 : 0 < p.2 := by
  have := h1.2
  simp at this
  exact this.1
 have := set_in hO p h1.1
 rw [inW_iff] at this
 omega
theorem fold_in {P : Vl → Prop} (f : Vl → Wp → Vl) (hf : ∀ m x, f m x = m ∨ f m x = x.1) : ∀ (r : List Wp) (m : Vl), P m → (∀ x ∈ r, P x.1) → P (r.foldl f m)
 | [], m, h, _ => h
 | x :: r, m, h, hr => by
  rw [List.foldl_cons]
  refine fold_in f hf r _ ?_ fun y hy => hr y (by simp [hy])
  rcases hf m x with e | e
  ·rw [e]; exact h
  ·rw [e]; exact hr x (by simp)
theorem tot_right {k : Int} {l : List Wp} (h : WOk l) : wrongP (totP k l) = 0 := by
 unfold totP
 split
 ·unfold sumP
  split
  ·simp [wrongP, wrongF]
  ·split
   ·rename_i hb
    have : -1000000000000000 ≤ sumN l ∧ sumN l ≤ 1000000000000000 := by simpa [inB] using hb
    simp [wrongP, wrongF, this.1, this.2]
   ·simp [wrongP, wrongF]
 ·split
  ·match l, h with
   | [], _ => simp [minP, wrongP, wrongF]
   | p :: r, h => exact fold_in (P := fun v => wrongP v = 0) _ (fun m x => by by_cases c : cmpP x.1 m < 0 <;> simp [c]) r p.1 (h.right p (by simp)) fun x hx => h.right x (by simp [hx])
  ·split
   ·match l, h with
    | [], _ => simp [maxP, wrongP, wrongF]
    | p :: r, h => exact fold_in (P := fun v => wrongP v = 0) _ (fun m x => by by_cases c : 0 < cmpP x.1 m <;> simp [c]) r p.1 (h.right p (by simp)) fun x hx => h.right x (by simp [hx])
   ·have := sumW_bd h.wt
    have := h.len
    have h1 : -1000000000000000 ≤ sumW l := by omega
    have h2 : sumW l ≤ 1000000000000000 := by omega
    simp [countP, wrongP, wrongF, h1, h2]
theorem agg_right {cols : List Int} {g : Ag} (hm : measE cols g = 0) {rows : List Zp} (hr : ROk cols rows) : wrongP (aggP g rows) = 0 := tot_right (hr.known (measF_right hm))
theorem refRow_right {cols : List Int} {xs : List Ex} {gs : List Ag} {l : List Zp} (hx : listE cols xs = 0) (hO : InpOk cols l) (hm : ∀ g ∈ gs, measE cols g = 0) {h : List Vl} (hh : h ∈ headsR xs l) : rightB (h ++ gs.map fun g => aggP g (rowsR xs l h)) = true := by
 refine right_append (heads_right hx hO l (fun r hr => hr) h hh).1 ?_
 unfold rightB
 rw [List.all_map, List.all_eq_true]
 intro g hg
 have := agg_right (hm g hg) (rowsR_ok (xs := xs) hO h)
 simpa [wrongP] using this
theorem aggsE_all {cols : List Int} : ∀ {gs : List Ag}, aggsE cols gs = 0 → ∀ g ∈ gs, measE cols g = 0
 | [], _, g, hg => by cases hg
 | g' :: r, h, g, hg => by
  unfold aggsE at h
  by_cases h0 : measE cols g' = 0
  ·rw [if_pos h0] at h
   rcases List.mem_cons.1 hg with rfl | hg
   ·exact h0
   ·exact aggsE_all h g hg
  ·rw [if_neg h0] at h; exact absurd h h0

set_option maxRecDepth 100000 in
set_option maxHeartbeats 16000000 in
theorem refGroup_at (cols : List Int) (xs : List Ex) (gs : List Ag) (hsum : xs.length + gs.length ≤ 9223372036854775807) (ca : Option Addr) (ccap : Nat) (xa : Option Addr) (xcap : Nat) (ga : Option Addr) (gcap : Nat) (a : Option Addr) (cap : Nat) (l : List Zp) (w : World) (hc : IsAt w.heap.size w ca cols) (hx : KsAt w.heap.size w xa xs) (hg : AgAt w.heap.size w ga gs) (h : ZsAt w a l) :
  Calls Tryz.prog 22 #[.slice ca cols.length ccap, .slice xa xs.length xcap, .slice ga gs.length gcap, .slice a l.length cap] w fun e w' => ∃ v, e = .returned (.tuple #[v, .int .i64 (groupE cols xs gs l)]) ∧ (∃ ua uc, v = .slice ua (groupZ cols xs gs l).length uc ∧ ZsAt w' ua (groupZ cols xs gs l)) ∧ Below w.heap.size w w' := by
 obtain ⟨ih, hih, hh0, hh1, hh2⟩ := info_parts infoH
 obtain ⟨iz, hiz, hz0, hz1, hz2⟩ := info_parts Tryz.info42
 obtain ⟨iv, hiv, hv0, hv1, hv2⟩ := info_parts infoV
 generalize hfz : groupZ cols xs gs l = fz
 generalize hfe : groupE cols xs gs l = fe
 have HZ : Hid (groupZ cols xs gs l = fz) := hfz
 have HE : Hid (groupE cols xs gs l = fe) := hfe
 clear hfz hfe
 have hlen0 : xs.length ≤ 9223372036854775807 := by omega
 have hW : IntKind.i64.wrap ((xs.length : Int) + (gs.length : Int)) = (xs.length : Int) + (gs.length : Int) := IntWalk.i64_in _ ⟨by omega, by omega⟩
 go_enter Tryz.func22, Tryz.ntmps22
 by_cases hmany : 8 < xs.length + gs.length
 ·have hmz : 8 < (xs.length : Int) + (gs.length : Int) := by omega
  have e0 : fe = 5 := by rw [← HE.out]; unfold groupE; rw [if_pos hmany]
  have e1 : fz = [] := by rw [← HZ.out]; unfold groupZ; rw [HE.out, e0, if_neg (by decide)]
  subst e0 e1
  go_wp2_with fail
  exact bodyPost_ret (v := .tuple #[.slice none 0 0, .int .i64 5]) (by simp [results, Tryz.results22, go_sem]) rfl ⟨_, rfl, ⟨_, _, rfl, ⟨by simp, .inl rfl⟩⟩, Below.refl _ _⟩
 have hmz : ¬ 8 < (xs.length : Int) + (gs.length : Int) := by omega
 have HMany : Hid (¬ 8 < xs.length + gs.length) := hmany
 have con := refTypes_at cols xs ca ccap xa xcap w hx hc
 generalize hte : listE cols xs = te at con
 have HTe : Hid (listE cols xs = te) := hte
 clear hte
 go_wp2_with fail
 refine con.mono ?_
 rintro e w2 ⟨u, rfl, hA2⟩
 clear con hmz hW
 dsimp only
 by_cases ht : te = 0
 rotate_left
 ·have hE : fe = te := by rw [← HE.out]; unfold groupE; rw [if_neg HMany.out, HTe.out, if_pos ht]
  have hZ : fz = [] := by rw [← HZ.out]; unfold groupZ; rw [HE.out, hE, if_neg ht]
  have htb : (te != 0) = true := by simpa using ht
  subst hE hZ
  clear HE HZ HTe
  go_wp2_with fail
  exact bodyPost_ret (v := .tuple #[.slice none 0 0, .int .i64 fe]) (by simp [results, Tryz.results22, go_sem]) rfl ⟨_, rfl, ⟨_, _, rfl, ⟨by simp, .inl rfl⟩⟩, hA2⟩
 subst ht
 have con := refAggTypes_at cols gs ca ccap ga gcap w2 ((AgAt.next hA2 (Nat.le_refl _) hg).up hA2.size) ((hc.next hA2 (Nat.le_refl _)).up hA2.size) (by have := HMany.out; omega)
 generalize hae : aggsE cols gs = ae at con
 have HAe : Hid (aggsE cols gs = ae) := hae
 clear hae
 go_wp2_with fail
 refine con.mono ?_
 rintro e w3 ⟨u3, rfl, hb3⟩
 clear con
 have hA3 := chain hA2 hb3
 dsimp only
 by_cases ha : ae = 0
 rotate_left
 ·have hE : fe = ae := by rw [← HE.out]; unfold groupE; rw [if_neg HMany.out, HTe.out, HAe.out, if_neg (by simp), if_pos ha]
  have hZ : fz = [] := by rw [← HZ.out]; unfold groupZ; rw [HE.out, hE, if_neg ha]
  have htb : (ae != 0) = true := by simpa using ha
  subst hE hZ
  clear HE HZ HTe HAe
  go_wp2_with fail
  exact bodyPost_ret (v := .tuple #[.slice none 0 0, .int .i64 fe]) (by simp [results, Tryz.results22, go_sem]) rfl ⟨_, rfl, ⟨_, _, rfl, ⟨by simp, .inl rfl⟩⟩, hA3⟩
 subst ha
 have con := refInput_at cols ca ccap a cap l w3 ((hc.next hA3 (Nat.le_refl _)).up hA3.size) (h.next hA3)
 generalize hie : inpE cols l = ie at con
 have HIe : Hid (inpE cols l = ie) := hie
 clear hie
 go_wp2_with fail
 refine con.mono ?_
 rintro e w4 ⟨rfl, hb4⟩
 clear con
 have hA4 := chain hA3 hb4
 dsimp only
 by_cases hii : ie = 0
 rotate_left
 ·have hE : fe = ie := by rw [← HE.out]; unfold groupE; rw [if_neg HMany.out, HTe.out, HAe.out, HIe.out, if_neg (by simp), if_neg (by simp), if_pos hii]
  have hZ : fz = [] := by rw [← HZ.out]; unfold groupZ; rw [HE.out, hE, if_neg hii]
  have htb : (ie != 0) = true := by simpa using hii
  subst hE hZ
  clear HE HZ HTe HAe HIe
  go_wp2_with fail
  exact bodyPost_ret (v := .tuple #[.slice none 0 0, .int .i64 fe]) (by simp [results, Tryz.results22, go_sem]) rfl ⟨_, rfl, ⟨_, _, rfl, ⟨by simp, .inl rfl⟩⟩, hA4⟩
 subst hii
 have HO : Hid (InpOk cols l) := (inpE_ok cols l).1 HIe.out
 have hl4 := set_len HO.out
 have HRise : Hid (Rise l) := ((wrongZ_iff l).1 HO.out.set).2.2
 have e0 : fe = 0 := by rw [← HE.out]; unfold groupE; rw [if_neg HMany.out, HTe.out, HAe.out, HIe.out, if_neg (by simp), if_neg (by simp), if_neg (by simp)]; exact group_gather gs HRise.out hl4
 have e1 : fz = canon (refL xs gs l (headsR xs l)) := by rw [← HZ.out]; unfold groupZ; rw [HE.out, e0, if_pos rfl, ref_canon gs HRise.out]
 subst e0
 have HZe : Hid (fz = canon (refL xs gs l (headsR xs l))) := e1
 have HMs : Hid (∀ g ∈ gs, measE cols g = 0) := aggsE_all HAe.out
 have hx8 : xs.length + gs.length ≤ 8 := by have := HMany.out; omega
 clear HE HZ e1 HIe HAe HMany hb4 hb3 hA2 hA3 hsum hlen0 hmany
 have hbase : Below w4.heap.size w4 w4 := Below.refl _ _
 have start : xs.length = 0 ∨ ¬ xs.length = 0 := Decidable.em _
 rcases start with hx0 | hx0
 ·have hxb : ((xs.length : Int) == 0) = true := by simp [hx0]
  have hal0 : Below w4.heap.size w4 (w4.alloc (.cells #[.slice none 0 0] 51)) := (Below.refl _ _).alloc (Nat.le_refl _) _
  have HS : OwnH w4.heap.size (w4.alloc (.cells #[.slice none 0 0] 51)) (.slice (some ⟨w4.heap.size, 0, none⟩) 1 1) (headsR xs (l.take 0)) := by
   have e : headsR xs (l.take 0) = [[]] := by simp [headsR, hx0]
   rw [e]
   exact heads_one w4
  go_wp2_with fail
  generalize w4.alloc (.cells #[.slice none 0 0] 51) = wS at *
  clear hxb hx0
  go_loopw [15, 67] (fun v i wr => ∃ k : Nat, k ≤ l.length ∧ i = .int .i64 k ∧ OwnH w4.heap.size wr v (headsR xs (l.take k)) ∧ Below w4.heap.size w4 wr) (fun _ i _ => l.length - (intOf i).toNat)
  case atStart => exact ⟨0, Nat.zero_le _, rfl, HS, hal0⟩
  case round =>
   obtain ⟨k, hk, rfl, HH, hb⟩ := hrel
   clear HS hal0
   obtain ⟨wo, hwo⟩ : ∃ z, z = wr := ⟨_, rfl⟩
   subst hwo
   have hAo := chain hA4 hb
   by_cases hlt : k < l.length
   ·have hHl := heads_len xs l k hl4
    have HRt : Hid (∀ h ∈ headsR xs (l.take k), rightB h = true ∧ h.length = xs.length) := heads_right HTe.out HO.out _ fun r hr => List.mem_of_mem_take hr
    have HTk : Hid (headsR xs (l.take (k + 1)) = headStep xs (headsR xs (l.take k)) l[k]) := headsR_take xs hlt
    generalize headsR xs (l.take k) = H at *
    have HHx := HH
    obtain ⟨ha, hcap, rfl, _⟩ := HHx.elem
    clear HHx
    obtain ⟨bb, off, rfl, hbl, c1, ar, cr, c0, sr⟩ := (h.next hAo).elem hlt
    have hal : Below wo.heap.size wo (wo.alloc (.cells #[.slice ar l[k].1.length cr, .int .i64 l[k].2] 53)) := (Below.refl _ _).alloc (Nat.le_refl _) _
    have q0 := heap_new wo #[.slice ar l[k].1.length cr, .int .i64 l[k].2] 53
    have HFt : Hid (FitP cols l[k].1) := HO.out.fit l[k] (List.getElem_mem hlt)
    have hAk := chain hAo hal
    have HHk := HH.next hal
    have HSr : Hid (SlAt (wo.alloc (.cells #[.slice ar l[k].1.length cr, .int .i64 l[k].2] 53)) ar l[k].1) := sr.next hal
    clear sr HH
    go_upto_region 18 with fail
    clear c0 c1
    generalize wo.alloc (.cells #[.slice ar l[k].1.length cr, .int .i64 l[k].2] 53) = wk at *
    have con := refValues_at (cols := cols) xs HTe.out l[k].1 HFt.out xa xcap ar cr wk ((KsAt.next hAk (Nat.le_refl _) hx).up hAk.size) HSr.out
    have p0 : wk.cell? ⟨wo.heap.size, 0, none⟩ = some (.slice ar l[k].1.length cr) := cell_of (i := 0) q0 rfl
    go_wp2_with fail
    refine con.mono ?_
    rintro e w5 ⟨v5, rfl, O5, hb5⟩
    clear con p0
    obtain ⟨a5, c5, rfl, S5, T5, _⟩ := own_vals O5 (by rw [rowX_len])
    clear O5
    have q5 := (hb5.block _ (lt_of_heap q0)).trans q0
    have p1 : w5.cell? ⟨wo.heap.size, 1, none⟩ = some (.int .i64 l[k].2) := cell_of (i := 1) q5 rfl
    have HH5 := HHk.next hb5
    have hb45 := chain hb (chain hal hb5)
    clear HHk q0 q5 HSr
    go_wp2_with fail
    go_loopw [19, 80] (fun t j wr => ∃ (i : Nat) (tb : Bool), i ≤ H.length ∧ j = .int .i64 i ∧ t = .bool tb ∧ Hid (tb = true ↔ (l[k].2 ≤ 0 ∨ ∃ h ∈ H.take i, cmpL h (rowX xs l[k].1) = 0)) ∧ Below w5.heap.size w5 wr) (fun _ j _ => H.length - (intOf j).toNat)
    case atStart => exact ⟨0, decide (l[k].2 ≤ 0), Nat.zero_le _, rfl, rfl, (show _ ↔ _ by simp), Below.refl _ _⟩
    case round =>
     obtain ⟨i, tb, hi, rfl, rfl, HB, hbi⟩ := hrel
     by_cases hil : i < H.length
     ·obtain ⟨b1, o1, ka, kc, rfl, cE, sE, tE⟩ := (HH5.next hbi).at hil
      have hiz : (i : Int) < (H.length : Int) := by omega
      have HT1 : Hid ((∃ h ∈ H.take (i + 1), cmpL h (rowX xs l[k].1) = 0) ↔ ((∃ h ∈ H.take i, cmpL h (rowX xs l[k].1) = 0) ∨ cmpL H[i] (rowX xs l[k].1) = 0)) := by
       show _ ↔ _
       rw [List.take_succ_eq_append_getElem hil]
       simp only [List.mem_append, List.mem_singleton]
       constructor
       ·rintro ⟨h, h1 | rfl, h2⟩
        ·exact .inl ⟨h, h1, h2⟩
        ·exact .inr h2
       ·rintro (⟨h, h1, h2⟩ | h2)
        ·exact ⟨h, .inl h1, h2⟩
        ·exact ⟨H[i], .inr rfl, h2⟩
      cases tb with
      | true =>
       have HB' : Hid (true = true ↔ (l[k].2 ≤ 0 ∨ ∃ h ∈ H.take (i + 1), cmpL h (rowX xs l[k].1) = 0)) := by
        show _ ↔ _
        rw [HT1.out]
        have := HB.out.1 rfl
        exact ⟨fun _ => this.imp id .inl, fun _ => rfl⟩
       clear HB HT1
       go_wp2_with fail
       go_roundw
       case rel => exact ⟨i + 1, true, by omega, by go_num, rfl, HB', hbi⟩
       case measure => simp [intOf]; omega
      | false =>
       have con := refRows_at ka a5 kc c5 H[i] (rowX xs l[k].1) wr sE (S5.next hbi) (HRt.out H[i] (List.getElem_mem hil)).1
       have HN : Hid (¬ (l[k].2 ≤ 0 ∨ ∃ h ∈ H.take i, cmpL h (rowX xs l[k].1) = 0)) := fun c => by have := HB.out.2 c; cases this
       generalize hcv : cmpL H[i] (rowX xs l[k].1) = cv at *
       clear HB
       go_wp2_with fail
       refine con.mono ?_
       rintro e w6 ⟨rfl, hb6⟩
       clear con
       dsimp only
       by_cases hz : cv = 0
       ·have hzb : (cv == 0) = true := by simpa using hz
        have HB' : Hid (true = true ↔ (l[k].2 ≤ 0 ∨ ∃ h ∈ H.take (i + 1), cmpL h (rowX xs l[k].1) = 0)) := by
         show _ ↔ _
         rw [HT1.out]
         exact ⟨fun _ => .inr (.inr hz), fun _ => rfl⟩
        clear HT1 HN hz hcv
        go_wp2_with fail
        go_roundw
        case rel => exact ⟨i + 1, true, by omega, by go_num, rfl, HB', chain hbi hb6⟩
        case measure => simp [intOf]; omega
       ·have hzb : (cv == 0) = false := by rw [beq_eq_false_iff_ne]; exact hz
        have HB' : Hid (false = true ↔ (l[k].2 ≤ 0 ∨ ∃ h ∈ H.take (i + 1), cmpL h (rowX xs l[k].1) = 0)) := by
         show _ ↔ _
         rw [HT1.out]
         refine ⟨fun c => (by cases c), fun c => ?_⟩
         rcases c with c | c | c
         ·exact absurd (.inl c) HN.out
         ·exact absurd (.inr c) HN.out
         ·exact absurd c hz
        clear HT1 HN hz hcv
        go_wp2_with fail
        go_roundw
        case rel => exact ⟨i + 1, false, by omega, by go_num, rfl, HB', chain hbi hb6⟩
        case measure => simp [intOf]; omega
     ·have e : i = H.length := by omega
      subst e
      rw [List.take_length] at HB
      have hbw := chain hb45 hbi
      cases tb with
      | true =>
       have HE' : Hid (headsR xs (l.take (k + 1)) = H) := by
        show _ = _
        rw [HTk.out]
        unfold headStep
        rw [if_pos (HB.out.1 rfl)]
       clear HB HTk
       go_wp2_with fail
       go_roundw
       case rel => exact ⟨k + 1, by omega, by go_num, by rw [HE'.out]; exact HH5.next hbi, hbw⟩
       case measure => simp [intOf]; omega
      | false =>
       have HE' : Hid (headsR xs (l.take (k + 1)) = H ++ [rowX xs l[k].1]) := by
        show _ = _
        rw [HTk.out]
        unfold headStep
        rw [if_neg fun c => by have := HB.out.2 c; cases this]
       clear HB HTk
       obtain ⟨ys, Oh, Eh⟩ := HH5.next hbi
       have S6 := S5.next hbi
       have T6 := T5.next hbi
       have hzw := hbw.size
       have one1 : ∀ u ∈ [Value.slice a5 (rowX xs l[k].1).length c5], u.oneCell' = true := by intro u hu; simp at hu; subst hu; rfl
       have at1 : ∀ i u, [Value.slice a5 (rowX xs l[k].1).length c5][i]? = some u → (wr.alloc (.cells #[.slice a5 (rowX xs l[k].1).length c5] 51)).cell? ((⟨wr.heap.size, 0, none⟩ : Addr).add i) = some u := by
        intro i u hu
        match i, hu with
        | 0, hu => simp at hu; subst hu; simp [Addr.add]
       have len1 : H.length + 1 ≤ maxLen := by unfold maxLen; omega
       have byt1 : (H.length + 1) * 24 ≤ 140737488355328 := by omega
       have bas1 : w4.heap.size ≤ (wr.alloc (.cells #[.slice a5 (rowX xs l[k].1).length c5] 51)).heap.size := by simp; omega
       have hal6 : Below wr.heap.size wr (wr.alloc (.cells #[.slice a5 (rowX xs l[k].1).length c5] 51)) := (Below.refl _ _).alloc (Nat.le_refl _) _
       have OA := own_next Oh hal6
       have EA := Eh.next hal6
       have SA := S6.next hal6
       have TA := T6.next hal6
       clear S6 T6 Oh Eh HH5 S5 T5
       go_wp2_with (first | (at_builtin; refine wpList_append_own _ rfl _ _ 94 rfl w4.heap.size 51 ih _ 1 24 Tryz.underlying94 hih hh0 hh1 hh2 rfl (by decide) _ _ _ rfl OA ⟨wr.heap.size, 0, none⟩ 1 1 [.slice a5 (rowX xs l[k].1).length c5] rfl rfl at1 one1 len1 byt1 bas1 ?_))
       intro v' w7 o7 g7 _
       have hb7 : Below w4.heap.size w4 w7 := hbw.trans (((Below.refl _ _).alloc (by omega) _).grown g7 (by simp; omega) (fun q hq => (OA.lt q hq).1))
       have HH7 : OwnH w4.heap.size w7 v' (H ++ [rowX xs l[k].1]) := OwnH.push OA EA SA TA o7 g7
       clear g7 o7 OA EA SA TA one1 at1
       go_wp2_with fail
       go_roundw
       case rel => exact ⟨k + 1, by omega, by go_num, by rw [HE'.out]; exact HH7, hb7⟩
       case measure => simp [intOf]; omega
   ·have e : k = l.length := by omega
    subst e
    rw [List.take_length] at HH
    have hHl := heads_len0 xs l hl4
    have HRt : Hid (∀ h ∈ headsR xs l, rightB h = true ∧ h.length = xs.length) := heads_right HTe.out HO.out _ fun r hr => hr
    have HRw : Hid (∀ h ∈ headsR xs l, rightB (h ++ gs.map fun g => aggP g (rowsR xs l h)) = true) := fun h hh => refRow_right HTe.out HO.out HMs.out hh
    generalize headsR xs l = H at *
    obtain ⟨ha, hcap, rfl, _⟩ := HH.elem
    go_wp2_with fail
    go_loopw [22, 101] (fun v i wr => ∃ k : Nat, k ≤ H.length ∧ i = .int .i64 k ∧ Acc wr v (refL xs gs l (H.take k)) ∧ POk k (refL xs gs l (H.take k)) ∧ Below wo.heap.size wo wr) (fun _ i _ => H.length - (intOf i).toNat)
    case atStart => exact ⟨0, Nat.zero_le _, rfl, Acc.nil _, ⟨Nat.zero_le _, fun y hy => by cases hy⟩, Below.refl _ _⟩
    case round =>
     obtain ⟨k, hkH, rfl, HA, HP, hbC⟩ := hrel
     obtain ⟨wc, hwc⟩ : ∃ z, z = wr := ⟨_, rfl⟩
     subst hwc
     obtain ⟨uc, huc⟩ : ∃ z, z = u22 := ⟨_, rfl⟩
     subst huc
     have hAc := chain hAo hbC
     by_cases hltH : k < H.length
     ·obtain ⟨b1, o1, ka, kc, rfl, cE, sE, tE⟩ := (HH.next hbC).at hltH
      have hkz : (k : Int) < (H.length : Int) := by omega
      obtain ⟨hr1, hr2⟩ := HRt.out H[k] (List.getElem_mem hltH)
      have HR1 : Hid (rightB H[k] = true) := hr1
      have HRr : Hid (rightB (H[k] ++ gs.map fun g => aggP g (rowsR xs l H[k])) = true) := HRw.out H[k] (List.getElem_mem hltH)
      have HTk : Hid (refL xs gs l (H.take (k + 1)) = refL xs gs l (H.take k) ++ [(H[k] ++ gs.map (fun g => aggP g (rowsR xs l H[k])), 1)]) := refL_take hltH
      have HPk : Hid (POk k (refL xs gs l (H.take k))) := HP
      have HL : Hid (H[k].length = xs.length) := hr2
      have hhd8 : H[k].length + gs.length ≤ 8 := by omega
      clear hr1 hr2 HP
      generalize refL xs gs l (H.take k) = pre at *
      generalize H[k] = hd at *
      go_upto_region 32 with fail
      clear cE
      go_wp2_with fail
      go_loopw [25, 107] (fun v i wr => ∃ j : Nat, j ≤ l.length ∧ i = .int .i64 j ∧ (∃ ys, wr.ownsRow wc.heap.size 53 2 v (rowsR xs (l.take j) hd).length ys ∧ EncB wc ys (rowsR xs (l.take j) hd)) ∧ Below wc.heap.size wc wr) (fun _ i _ => l.length - (intOf i).toNat)
      case atStart => exact ⟨0, Nat.zero_le _, rfl, ⟨[], World.ownsRow_nil _ _ _ _, ⟨rfl, fun i hi => by simp [rowsR] at hi⟩⟩, Below.refl _ _⟩
      case round =>
       obtain ⟨j, hj, rfl, ⟨ys, OD, ED⟩, hbD⟩ := hrel
       have hAD := chain hAc hbD
       by_cases hjl : j < l.length
       ·obtain ⟨bb, off, rfl, hbl, d1, ar, cr, d0, src0⟩ := (h.next hAc).elem hjl
        have c1 := (hbD.cell (p := ⟨bb, _, none⟩) hbl).trans d1
        have c0 := (hbD.cell (p := ⟨bb, _, none⟩) hbl).trans d0
        have sr := src0.next hbD
        clear d0 d1
        have hal : Below wr.heap.size wr (wr.alloc (.cells #[.slice ar l[j].1.length cr, .int .i64 l[j].2] 53)) := (Below.refl _ _).alloc (Nat.le_refl _) _
        have q0 := heap_new wr #[.slice ar l[j].1.length cr, .int .i64 l[j].2] 53
        have HFt : Hid (FitP cols l[j].1) := HO.out.fit l[j] (List.getElem_mem hjl)
        have HTj : Hid (rowsR xs (l.take (j + 1)) hd = rowsR xs (l.take j) hd ++ (if 0 < l[j].2 ∧ cmpL (rowX xs l[j].1) hd = 0 then [l[j]] else [])) := rowsR_take hjl
        have hRl : (rowsR xs (l.take j) hd).length ≤ 400 := by
         have := List.length_filter_le (fun r : Zp => decide (0 < r.2) && decide (cmpL (rowX xs r.1) hd = 0)) (l.take j)
         rw [List.length_take] at this
         unfold rowsR
         omega
        generalize rowsR xs (l.take j) hd = acc at *
        have hAk := chain hAD hal
        have hbk := chain hbD hal
        have OD1 := own_next OD hal
        have HSr : Hid (SlAt (wr.alloc (.cells #[.slice ar l[j].1.length cr, .int .i64 l[j].2] 53)) ar l[j].1) := sr.next hal
        clear sr OD
        go_upto_region 36 with fail
        clear c0 c1
        generalize wr.alloc (.cells #[.slice ar l[j].1.length cr, .int .i64 l[j].2] 53) = wk at *
        have p0 : wk.cell? ⟨wr.heap.size, 0, none⟩ = some (.slice ar l[j].1.length cr) := cell_of (i := 0) q0 rfl
        have p1 : wk.cell? ⟨wr.heap.size, 1, none⟩ = some (.int .i64 l[j].2) := cell_of (i := 1) q0 rfl
        by_cases hw : 0 < l[j].2
        ·have con := refValues_at (cols := cols) xs HTe.out l[j].1 HFt.out xa xcap ar cr wk ((KsAt.next hAk (Nat.le_refl _) hx).up hAk.size) HSr.out
         go_wp2_with fail
         refine con.mono ?_
         rintro e w5 ⟨v5, rfl, O5, hb5⟩
         clear con p0 p1
         obtain ⟨a5, c5, rfl, S5, T5, _⟩ := own_vals O5 (by rw [rowX_len])
         clear O5
         have q5 := (hb5.block _ (lt_of_heap q0)).trans q0
         have OD5 := own_next OD1 hb5
         have hb5c := chain hbk hb5
         have con := refRows_at a5 ka c5 kc (rowX xs l[j].1) hd w5 S5 (sE.next hb5c) (rowF_right HTe.out HFt.out)
         generalize hcv : cmpL (rowX xs l[j].1) hd = cv at *
         dsimp only
         go_wp2_with fail
         refine con.mono ?_
         rintro e w6 ⟨rfl, hb6⟩
         clear con
         have q6 := (hb6.block _ (lt_of_heap q5)).trans q5
         have p0 : w6.cell? ⟨wr.heap.size, 0, none⟩ = some (.slice ar l[j].1.length cr) := cell_of (i := 0) q6 rfl
         have p1 : w6.cell? ⟨wr.heap.size, 1, none⟩ = some (.int .i64 l[j].2) := cell_of (i := 1) q6 rfl
         have OD6 := own_next OD5 hb6
         have hb6c := chain hb5c hb6
         have hz6 := hb6c.size
         clear OD5 OD1 q0 q5 S5 T5 HSr
         dsimp only
         by_cases hz : cv = 0
         ·have hzb : (cv == 0) = true := by simpa using hz
          have HT' : Hid (rowsR xs (l.take (j + 1)) hd = acc ++ [l[j]]) := by show _ = _; rw [HTj.out, if_pos ⟨hw, hz⟩]
          clear HTj hz hcv
          go_wp2_with (first | (at_builtin; refine wpList_append_own _ rfl _ _ 28 rfl wc.heap.size 53 iz _ 2 32 Tryz.underlying28 hiz hz0 hz1 hz2 rfl (by decide) _ _ _ rfl (OD6.alloc _) ⟨w6.heap.size, 0, none⟩ 1 1 [.slice ar l[j].1.length cr, .int .i64 l[j].2] rfl rfl ?Ac1 ?Ac2 ?Ac3 ?Ac4 ?Ac5 ?_))
          case Ac1 =>
           intro i u hu
           match i, hu with
           | 0, hu => simp at hu; subst hu; simp [Addr.add]
           | 1, hu => simp at hu; subst hu; simp [Addr.add]
          case Ac2 => intro u hu; simp at hu; rcases hu with rfl | rfl <;> rfl
          case Ac3 => unfold maxLen; omega
          case Ac4 => omega
          case Ac5 => simp; omega
          intro v' w7 o7 g7 _
          have hb7 : Below wc.heap.size wc w7 := hb6c.trans (((Below.refl _ _).alloc (by omega) _).grown g7 (by simp; omega) (fun q hq => ((OD6.alloc (.cells #[.slice ar l[j].1.length cr, .int .i64 l[j].2] 53)).lt q hq).1))
          have E7 := ED.push (x := l[j]) (cap := cr) src0
          have o7' : w7.ownsRow wc.heap.size 53 2 v' (acc ++ [l[j]]).length (ys ++ [.slice ar l[j].1.length cr, .int .i64 l[j].2]) := by rw [List.length_append]; exact o7
          clear g7 o7 OD6 p0 p1 q6
          go_wp2_with fail
          go_roundw
          case rel => exact ⟨j + 1, by omega, by go_num, by rw [HT'.out]; exact ⟨_, o7', E7⟩, hb7⟩
          case measure => simp [intOf]; omega
         ·have hzb : (cv == 0) = false := by rw [beq_eq_false_iff_ne]; exact hz
          have HT' : Hid (rowsR xs (l.take (j + 1)) hd = acc) := by show _ = _; rw [HTj.out, if_neg fun c => hz c.2, List.append_nil]
          clear HTj hz hcv p0 p1 q6
          go_wp2_with fail
          go_roundw
          case rel => exact ⟨j + 1, by omega, by go_num, by rw [HT'.out]; exact ⟨_, OD6, ED⟩, hb6c⟩
          case measure => simp [intOf]; omega
        ·have HT' : Hid (rowsR xs (l.take (j + 1)) hd = acc) := by show _ = _; rw [HTj.out, if_neg fun c => hw c.1, List.append_nil]
         clear HTj
         go_wp2_with fail
         go_roundw
         case rel => exact ⟨j + 1, by omega, by go_num, by rw [HT'.out]; exact ⟨_, OD1, ED⟩, hbk⟩
         case measure => simp [intOf]; omega
       ·have e : j = l.length := by omega
        subst e
        rw [List.take_length] at OD ED
        have HROk : Hid (ROk cols (rowsR xs l hd)) := rowsR_ok HO.out hd
        obtain ⟨ra, rc, rfl, ZR⟩ := own_zsB OD rfl ED hbD
        clear OD ED
        obtain ⟨wd, hwd⟩ : ∃ z, z = wr := ⟨_, rfl⟩
        subst hwd
        have con := refBoth_at ka none kc 0 hd [] wd (sE.next hbD) ⟨Nat.zero_le _, .inl rfl⟩ (by simp; omega)
        go_wp2_with fail
        refine con.mono ?_
        rintro e w8 ⟨v8, rfl, O8, hb8⟩
        clear con
        rw [List.append_nil] at O8
        dsimp only
        go_wp2_with fail
        go_loopw [28, 132] (fun v i wr => ∃ j : Nat, j ≤ gs.length ∧ i = .int .i64 j ∧ wr.ownsRow wd.heap.size 24 3 v (hd.length + j) (flatV (hd ++ (gs.take j).map fun g => aggP g (rowsR xs l hd))) ∧ Below wd.heap.size wd wr) (fun _ i _ => gs.length - (intOf i).toNat)
        case atStart => exact ⟨0, Nat.zero_le _, rfl, by simpa using O8, hb8⟩
        case round =>
         obtain ⟨j, hj, rfl, OE, hbE⟩ := hrel
         have hAE := chain hAD hbE
         have hzE := hbE.size
         by_cases hjg : j < gs.length
         ·obtain ⟨b, off, ai, ci, rfl, hbl, x0, sx, kx⟩ := (AgAt.next hAE (Nat.le_refl _) hg).elem hjg
          obtain ⟨x1, x2, x3, x4, x5, x6⟩ := sx
          have hjz : (j : Int) < gs.length := by omega
          have hal : Below wr.heap.size wr (wr.alloc (.cells #[.int .i64 gs[j].1, .int .i64 gs[j].2.k, .int .i64 gs[j].2.v.1, .int .i64 gs[j].2.v.2.1, .string gs[j].2.v.2.2, .int .i64 gs[j].2.c, .slice ai gs[j].2.ks.length ci] 96)) := (Below.refl _ _).alloc (Nat.le_refl _) _
          have q0 := heap_new wr #[.int .i64 gs[j].1, .int .i64 gs[j].2.k, .int .i64 gs[j].2.v.1, .int .i64 gs[j].2.v.2.1, .string gs[j].2.v.2.2, .int .i64 gs[j].2.c, .slice ai gs[j].2.ks.length ci] 96
          have O1 := own_next OE hal
          have hbk := chain hbE hal
          have hAk := chain hAE hal
          have kk := (KsAt.next hal hAE.size kx).up (Nat.le_trans hAE.size hal.size)
          have con := refAgg_at (cols := cols) gs[j].1 gs[j].2 (HMs.out gs[j] (List.getElem_mem hjg)) (rowsR xs l hd) HROk.out ai ci ra rc _ kk (ZR.next hbk)
          have HR : Hid (flatV (hd ++ (gs.take (j + 1)).map fun g => aggP g (rowsR xs l hd)) = flatV (hd ++ (gs.take j).map fun g => aggP g (rowsR xs l hd)) ++ flatV [aggP (gs[j].1, gs[j].2) (rowsR xs l hd)]) := by
           show _ = _
           rw [← flatV_append, List.append_assoc, List.take_succ_eq_append_getElem hjg, List.map_append]
           rfl
          clear OE kx kk
          generalize flatV (hd ++ (gs.take j).map fun g => aggP g (rowsR xs l hd)) = fl at *
          go_upto_region 43 with fail
          clear x0 x1 x2 x3 x4 x5 x6
          generalize wr.alloc (.cells #[.int .i64 gs[j].1, .int .i64 gs[j].2.k, .int .i64 gs[j].2.v.1, .int .i64 gs[j].2.v.2.1, .string gs[j].2.v.2.2, .int .i64 gs[j].2.c, .slice ai gs[j].2.ks.length ci] 96) = wk at *
          generalize aggP (gs[j].1, gs[j].2) (rowsR xs l hd) = u at *
          unfold agV at con
          have p0 : wk.cell? ⟨wr.heap.size, 0, none⟩ = some (.int .i64 gs[j].1) := cell_of (i := 0) q0 rfl
          have p1 : wk.cell? ⟨wr.heap.size, 1, none⟩ = some (.int .i64 gs[j].2.k) := cell_of (i := 1) q0 rfl
          have p2 : wk.cell? ⟨wr.heap.size, 2, none⟩ = some (.int .i64 gs[j].2.v.1) := cell_of (i := 2) q0 rfl
          have p3 : wk.cell? ⟨wr.heap.size, 3, none⟩ = some (.int .i64 gs[j].2.v.2.1) := cell_of (i := 3) q0 rfl
          have p4 : wk.cell? ⟨wr.heap.size, 4, none⟩ = some (.string gs[j].2.v.2.2) := cell_of (i := 4) q0 rfl
          have p5 : wk.cell? ⟨wr.heap.size, 5, none⟩ = some (.int .i64 gs[j].2.c) := cell_of (i := 5) q0 rfl
          have p6 : wk.cell? ⟨wr.heap.size, 6, none⟩ = some (.slice ai gs[j].2.ks.length ci) := cell_of (i := 6) q0 rfl
          go_wp2_with fail
          refine con.mono ?_
          rintro e w9 ⟨rfl, hb9⟩
          clear con p0 p1 p2 p3 p4 p5 p6 q0
          have O9 := own_next O1 hb9
          have hb9d := chain hbk hb9
          have hz9 := hb9d.size
          dsimp only
          go_wp2_with (first | (at_builtin; refine wpList_append_own _ rfl _ _ 51 rfl wd.heap.size 24 iv _ 3 32 Tryz.underlying51 hiv hv0 hv1 hv2 rfl (by decide) _ _ _ rfl (O9.alloc _) ⟨w9.heap.size, 0, none⟩ 1 1 [.int .i64 u.1, .int .i64 u.2.1, .string u.2.2] rfl rfl ?Ac1 ?Ac2 ?Ac3 ?Ac4 ?Ac5 ?_))
          case Ac1 =>
           intro i u hu
           match i, hu with
           | 0, hu => simp at hu; subst hu; simp [Addr.add]
           | 1, hu => simp at hu; subst hu; simp [Addr.add]
           | 2, hu => simp at hu; subst hu; simp [Addr.add]
          case Ac2 => intro u hu; simp at hu; rcases hu with rfl | rfl | rfl <;> rfl
          case Ac3 => unfold maxLen; omega
          case Ac4 => omega
          case Ac5 => simp; omega
          intro v' w10 o10 g10 _
          have hb10 : Below wd.heap.size wd w10 := hb9d.trans (((Below.refl _ _).alloc (by omega) _).grown g10 (by simp; omega) (fun q hq => ((O9.alloc (.cells #[.int .i64 u.1, .int .i64 u.2.1, .string u.2.2] 24)).lt q hq).1))
          have o10' : w10.ownsRow wd.heap.size 24 3 v' (hd.length + (j + 1)) (flatV (hd ++ (gs.take (j + 1)).map fun g => aggP g (rowsR xs l hd))) := by rw [HR.out]; exact o10
          clear g10 O9 O1 o10 HR
          go_wp2_with fail
          go_roundw
          case rel => exact ⟨j + 1, by omega, by go_num, o10', hb10⟩
          case measure => simp [intOf]; omega
         ·have e : j = gs.length := by omega
          subst e
          rw [List.take_length] at OE
          have hle : hd.length + gs.length = (hd ++ gs.map fun g => aggP g (rowsR xs l hd)).length := by simp
          have h8r : (hd ++ gs.map fun g => aggP g (rowsR xs l hd)).length ≤ 8 := by rw [← hle]; exact hhd8
          obtain ⟨a9, c9, rfl, S9, _, _⟩ := own_vals OE hle
          clear hle OE
          generalize (hd ++ gs.map fun g => aggP g (rowsR xs l hd)) = row at *
          have con := putC_at uc pre k (by omega) HPk.out a9 c9 row 1 wr (HA.next (chain hbD hbE)) S9 h8r (by omega)
          have hbf := chain hbC (chain hbD hbE)
          go_wp2_with fail
          refine con.mono ?_
          rintro e w9 ⟨v9, rfl, HA9, hb9⟩
          clear con
          have HP9 : POk (k + 1) (pre ++ [(row, 1)]) := HPk.out.push ⟨HRr.out, by omega, by omega⟩
          dsimp only
          go_wp2_with fail
          go_roundw
          case rel => exact ⟨k + 1, by omega, by go_num, by rw [HTk.out]; exact HA9, by rw [HTk.out]; exact HP9, chain hbf hb9⟩
          case measure => simp [intOf]; omega
     ·have e : k = H.length := by omega
      subst e
      rw [List.take_length] at HA
      unfold Acc at HA
      rw [← HZe.out] at HA
      obtain ⟨ua, uk, rfl, z, _⟩ := HA
      go_wp2_with fail
      first
       | exact bodyPost_ret (v := .tuple #[.slice ua fz.length uk, .int .i64 0]) (by simp [results, Tryz.results22, go_sem]) rfl ⟨_, rfl, ⟨ua, uk, rfl, z⟩, hAc⟩
       | trace_state
 ·have hxb : ((xs.length : Int) == 0) = false := by rw [beq_eq_false_iff_ne]; omega
  have HS : OwnH w4.heap.size w4 (.slice none 0 0) (headsR xs (l.take 0)) := by
   have e : headsR xs (l.take 0) = [] := by simp [headsR, hx0]
   rw [e]
   exact OwnH.nil _ _
  have hal0 := hbase
  go_wp2_with fail
  clear hxb hx0
  go_loopw [15, 67] (fun v i wr => ∃ k : Nat, k ≤ l.length ∧ i = .int .i64 k ∧ OwnH w4.heap.size wr v (headsR xs (l.take k)) ∧ Below w4.heap.size w4 wr) (fun _ i _ => l.length - (intOf i).toNat)
  case atStart => exact ⟨0, Nat.zero_le _, rfl, HS, hal0⟩
  case round =>
   obtain ⟨k, hk, rfl, HH, hb⟩ := hrel
   clear HS hal0
   obtain ⟨wo, hwo⟩ : ∃ z, z = wr := ⟨_, rfl⟩
   subst hwo
   have hAo := chain hA4 hb
   by_cases hlt : k < l.length
   ·have hHl := heads_len xs l k hl4
    have HRt : Hid (∀ h ∈ headsR xs (l.take k), rightB h = true ∧ h.length = xs.length) := heads_right HTe.out HO.out _ fun r hr => List.mem_of_mem_take hr
    have HTk : Hid (headsR xs (l.take (k + 1)) = headStep xs (headsR xs (l.take k)) l[k]) := headsR_take xs hlt
    generalize headsR xs (l.take k) = H at *
    have HHx := HH
    obtain ⟨ha, hcap, rfl, _⟩ := HHx.elem
    clear HHx
    obtain ⟨bb, off, rfl, hbl, c1, ar, cr, c0, sr⟩ := (h.next hAo).elem hlt
    have hal : Below wo.heap.size wo (wo.alloc (.cells #[.slice ar l[k].1.length cr, .int .i64 l[k].2] 53)) := (Below.refl _ _).alloc (Nat.le_refl _) _
    have q0 := heap_new wo #[.slice ar l[k].1.length cr, .int .i64 l[k].2] 53
    have HFt : Hid (FitP cols l[k].1) := HO.out.fit l[k] (List.getElem_mem hlt)
    have hAk := chain hAo hal
    have HHk := HH.next hal
    have HSr : Hid (SlAt (wo.alloc (.cells #[.slice ar l[k].1.length cr, .int .i64 l[k].2] 53)) ar l[k].1) := sr.next hal
    clear sr HH
    go_upto_region 18 with fail
    clear c0 c1
    generalize wo.alloc (.cells #[.slice ar l[k].1.length cr, .int .i64 l[k].2] 53) = wk at *
    have con := refValues_at (cols := cols) xs HTe.out l[k].1 HFt.out xa xcap ar cr wk ((KsAt.next hAk (Nat.le_refl _) hx).up hAk.size) HSr.out
    have p0 : wk.cell? ⟨wo.heap.size, 0, none⟩ = some (.slice ar l[k].1.length cr) := cell_of (i := 0) q0 rfl
    go_wp2_with fail
    refine con.mono ?_
    rintro e w5 ⟨v5, rfl, O5, hb5⟩
    clear con p0
    obtain ⟨a5, c5, rfl, S5, T5, _⟩ := own_vals O5 (by rw [rowX_len])
    clear O5
    have q5 := (hb5.block _ (lt_of_heap q0)).trans q0
    have p1 : w5.cell? ⟨wo.heap.size, 1, none⟩ = some (.int .i64 l[k].2) := cell_of (i := 1) q5 rfl
    have HH5 := HHk.next hb5
    have hb45 := chain hb (chain hal hb5)
    clear HHk q0 q5 HSr
    go_wp2_with fail
    go_loopw [19, 80] (fun t j wr => ∃ (i : Nat) (tb : Bool), i ≤ H.length ∧ j = .int .i64 i ∧ t = .bool tb ∧ Hid (tb = true ↔ (l[k].2 ≤ 0 ∨ ∃ h ∈ H.take i, cmpL h (rowX xs l[k].1) = 0)) ∧ Below w5.heap.size w5 wr) (fun _ j _ => H.length - (intOf j).toNat)
    case atStart => exact ⟨0, decide (l[k].2 ≤ 0), Nat.zero_le _, rfl, rfl, (show _ ↔ _ by simp), Below.refl _ _⟩
    case round =>
     obtain ⟨i, tb, hi, rfl, rfl, HB, hbi⟩ := hrel
     by_cases hil : i < H.length
     ·obtain ⟨b1, o1, ka, kc, rfl, cE, sE, tE⟩ := (HH5.next hbi).at hil
      have hiz : (i : Int) < (H.length : Int) := by omega
      have HT1 : Hid ((∃ h ∈ H.take (i + 1), cmpL h (rowX xs l[k].1) = 0) ↔ ((∃ h ∈ H.take i, cmpL h (rowX xs l[k].1) = 0) ∨ cmpL H[i] (rowX xs l[k].1) = 0)) := by
       show _ ↔ _
       rw [List.take_succ_eq_append_getElem hil]
       simp only [List.mem_append, List.mem_singleton]
       constructor
       ·rintro ⟨h, h1 | rfl, h2⟩
        ·exact .inl ⟨h, h1, h2⟩
        ·exact .inr h2
       ·rintro (⟨h, h1, h2⟩ | h2)
        ·exact ⟨h, .inl h1, h2⟩
        ·exact ⟨H[i], .inr rfl, h2⟩
      cases tb with
      | true =>
       have HB' : Hid (true = true ↔ (l[k].2 ≤ 0 ∨ ∃ h ∈ H.take (i + 1), cmpL h (rowX xs l[k].1) = 0)) := by
        show _ ↔ _
        rw [HT1.out]
        have := HB.out.1 rfl
        exact ⟨fun _ => this.imp id .inl, fun _ => rfl⟩
       clear HB HT1
       go_wp2_with fail
       go_roundw
       case rel => exact ⟨i + 1, true, by omega, by go_num, rfl, HB', hbi⟩
       case measure => simp [intOf]; omega
      | false =>
       have con := refRows_at ka a5 kc c5 H[i] (rowX xs l[k].1) wr sE (S5.next hbi) (HRt.out H[i] (List.getElem_mem hil)).1
       have HN : Hid (¬ (l[k].2 ≤ 0 ∨ ∃ h ∈ H.take i, cmpL h (rowX xs l[k].1) = 0)) := fun c => by have := HB.out.2 c; cases this
       generalize hcv : cmpL H[i] (rowX xs l[k].1) = cv at *
       clear HB
       go_wp2_with fail
       refine con.mono ?_
       rintro e w6 ⟨rfl, hb6⟩
       clear con
       dsimp only
       by_cases hz : cv = 0
       ·have hzb : (cv == 0) = true := by simpa using hz
        have HB' : Hid (true = true ↔ (l[k].2 ≤ 0 ∨ ∃ h ∈ H.take (i + 1), cmpL h (rowX xs l[k].1) = 0)) := by
         show _ ↔ _
         rw [HT1.out]
         exact ⟨fun _ => .inr (.inr hz), fun _ => rfl⟩
        clear HT1 HN hz hcv
        go_wp2_with fail
        go_roundw
        case rel => exact ⟨i + 1, true, by omega, by go_num, rfl, HB', chain hbi hb6⟩
        case measure => simp [intOf]; omega
       ·have hzb : (cv == 0) = false := by rw [beq_eq_false_iff_ne]; exact hz
        have HB' : Hid (false = true ↔ (l[k].2 ≤ 0 ∨ ∃ h ∈ H.take (i + 1), cmpL h (rowX xs l[k].1) = 0)) := by
         show _ ↔ _
         rw [HT1.out]
         refine ⟨fun c => (by cases c), fun c => ?_⟩
         rcases c with c | c | c
         ·exact absurd (.inl c) HN.out
         ·exact absurd (.inr c) HN.out
         ·exact absurd c hz
        clear HT1 HN hz hcv
        go_wp2_with fail
        go_roundw
        case rel => exact ⟨i + 1, false, by omega, by go_num, rfl, HB', chain hbi hb6⟩
        case measure => simp [intOf]; omega
     ·have e : i = H.length := by omega
      subst e
      rw [List.take_length] at HB
      have hbw := chain hb45 hbi
      cases tb with
      | true =>
       have HE' : Hid (headsR xs (l.take (k + 1)) = H) := by
        show _ = _
        rw [HTk.out]
        unfold headStep
        rw [if_pos (HB.out.1 rfl)]
       clear HB HTk
       go_wp2_with fail
       go_roundw
       case rel => exact ⟨k + 1, by omega, by go_num, by rw [HE'.out]; exact HH5.next hbi, hbw⟩
       case measure => simp [intOf]; omega
      | false =>
       have HE' : Hid (headsR xs (l.take (k + 1)) = H ++ [rowX xs l[k].1]) := by
        show _ = _
        rw [HTk.out]
        unfold headStep
        rw [if_neg fun c => by have := HB.out.2 c; cases this]
       clear HB HTk
       obtain ⟨ys, Oh, Eh⟩ := HH5.next hbi
       have S6 := S5.next hbi
       have T6 := T5.next hbi
       have hzw := hbw.size
       have one1 : ∀ u ∈ [Value.slice a5 (rowX xs l[k].1).length c5], u.oneCell' = true := by intro u hu; simp at hu; subst hu; rfl
       have at1 : ∀ i u, [Value.slice a5 (rowX xs l[k].1).length c5][i]? = some u → (wr.alloc (.cells #[.slice a5 (rowX xs l[k].1).length c5] 51)).cell? ((⟨wr.heap.size, 0, none⟩ : Addr).add i) = some u := by
        intro i u hu
        match i, hu with
        | 0, hu => simp at hu; subst hu; simp [Addr.add]
       have len1 : H.length + 1 ≤ maxLen := by unfold maxLen; omega
       have byt1 : (H.length + 1) * 24 ≤ 140737488355328 := by omega
       have bas1 : w4.heap.size ≤ (wr.alloc (.cells #[.slice a5 (rowX xs l[k].1).length c5] 51)).heap.size := by simp; omega
       have hal6 : Below wr.heap.size wr (wr.alloc (.cells #[.slice a5 (rowX xs l[k].1).length c5] 51)) := (Below.refl _ _).alloc (Nat.le_refl _) _
       have OA := own_next Oh hal6
       have EA := Eh.next hal6
       have SA := S6.next hal6
       have TA := T6.next hal6
       clear S6 T6 Oh Eh HH5 S5 T5
       go_wp2_with (first | (at_builtin; refine wpList_append_own _ rfl _ _ 94 rfl w4.heap.size 51 ih _ 1 24 Tryz.underlying94 hih hh0 hh1 hh2 rfl (by decide) _ _ _ rfl OA ⟨wr.heap.size, 0, none⟩ 1 1 [.slice a5 (rowX xs l[k].1).length c5] rfl rfl at1 one1 len1 byt1 bas1 ?_))
       intro v' w7 o7 g7 _
       have hb7 : Below w4.heap.size w4 w7 := hbw.trans (((Below.refl _ _).alloc (by omega) _).grown g7 (by simp; omega) (fun q hq => (OA.lt q hq).1))
       have HH7 : OwnH w4.heap.size w7 v' (H ++ [rowX xs l[k].1]) := OwnH.push OA EA SA TA o7 g7
       clear g7 o7 OA EA SA TA one1 at1
       go_wp2_with fail
       go_roundw
       case rel => exact ⟨k + 1, by omega, by go_num, by rw [HE'.out]; exact HH7, hb7⟩
       case measure => simp [intOf]; omega
   ·have e : k = l.length := by omega
    subst e
    rw [List.take_length] at HH
    have hHl := heads_len0 xs l hl4
    have HRt : Hid (∀ h ∈ headsR xs l, rightB h = true ∧ h.length = xs.length) := heads_right HTe.out HO.out _ fun r hr => hr
    have HRw : Hid (∀ h ∈ headsR xs l, rightB (h ++ gs.map fun g => aggP g (rowsR xs l h)) = true) := fun h hh => refRow_right HTe.out HO.out HMs.out hh
    generalize headsR xs l = H at *
    obtain ⟨ha, hcap, rfl, _⟩ := HH.elem
    go_wp2_with fail
    go_loopw [22, 101] (fun v i wr => ∃ k : Nat, k ≤ H.length ∧ i = .int .i64 k ∧ Acc wr v (refL xs gs l (H.take k)) ∧ POk k (refL xs gs l (H.take k)) ∧ Below wo.heap.size wo wr) (fun _ i _ => H.length - (intOf i).toNat)
    case atStart => exact ⟨0, Nat.zero_le _, rfl, Acc.nil _, ⟨Nat.zero_le _, fun y hy => by cases hy⟩, Below.refl _ _⟩
    case round =>
     obtain ⟨k, hkH, rfl, HA, HP, hbC⟩ := hrel
     obtain ⟨wc, hwc⟩ : ∃ z, z = wr := ⟨_, rfl⟩
     subst hwc
     obtain ⟨uc, huc⟩ : ∃ z, z = u22 := ⟨_, rfl⟩
     subst huc
     have hAc := chain hAo hbC
     by_cases hltH : k < H.length
     ·obtain ⟨b1, o1, ka, kc, rfl, cE, sE, tE⟩ := (HH.next hbC).at hltH
      have hkz : (k : Int) < (H.length : Int) := by omega
      obtain ⟨hr1, hr2⟩ := HRt.out H[k] (List.getElem_mem hltH)
      have HR1 : Hid (rightB H[k] = true) := hr1
      have HRr : Hid (rightB (H[k] ++ gs.map fun g => aggP g (rowsR xs l H[k])) = true) := HRw.out H[k] (List.getElem_mem hltH)
      have HTk : Hid (refL xs gs l (H.take (k + 1)) = refL xs gs l (H.take k) ++ [(H[k] ++ gs.map (fun g => aggP g (rowsR xs l H[k])), 1)]) := refL_take hltH
      have HPk : Hid (POk k (refL xs gs l (H.take k))) := HP
      have HL : Hid (H[k].length = xs.length) := hr2
      have hhd8 : H[k].length + gs.length ≤ 8 := by omega
      clear hr1 hr2 HP
      generalize refL xs gs l (H.take k) = pre at *
      generalize H[k] = hd at *
      go_upto_region 32 with fail
      clear cE
      go_wp2_with fail
      go_loopw [25, 107] (fun v i wr => ∃ j : Nat, j ≤ l.length ∧ i = .int .i64 j ∧ (∃ ys, wr.ownsRow wc.heap.size 53 2 v (rowsR xs (l.take j) hd).length ys ∧ EncB wc ys (rowsR xs (l.take j) hd)) ∧ Below wc.heap.size wc wr) (fun _ i _ => l.length - (intOf i).toNat)
      case atStart => exact ⟨0, Nat.zero_le _, rfl, ⟨[], World.ownsRow_nil _ _ _ _, ⟨rfl, fun i hi => by simp [rowsR] at hi⟩⟩, Below.refl _ _⟩
      case round =>
       obtain ⟨j, hj, rfl, ⟨ys, OD, ED⟩, hbD⟩ := hrel
       have hAD := chain hAc hbD
       by_cases hjl : j < l.length
       ·obtain ⟨bb, off, rfl, hbl, d1, ar, cr, d0, src0⟩ := (h.next hAc).elem hjl
        have c1 := (hbD.cell (p := ⟨bb, _, none⟩) hbl).trans d1
        have c0 := (hbD.cell (p := ⟨bb, _, none⟩) hbl).trans d0
        have sr := src0.next hbD
        clear d0 d1
        have hal : Below wr.heap.size wr (wr.alloc (.cells #[.slice ar l[j].1.length cr, .int .i64 l[j].2] 53)) := (Below.refl _ _).alloc (Nat.le_refl _) _
        have q0 := heap_new wr #[.slice ar l[j].1.length cr, .int .i64 l[j].2] 53
        have HFt : Hid (FitP cols l[j].1) := HO.out.fit l[j] (List.getElem_mem hjl)
        have HTj : Hid (rowsR xs (l.take (j + 1)) hd = rowsR xs (l.take j) hd ++ (if 0 < l[j].2 ∧ cmpL (rowX xs l[j].1) hd = 0 then [l[j]] else [])) := rowsR_take hjl
        have hRl : (rowsR xs (l.take j) hd).length ≤ 400 := by
         have := List.length_filter_le (fun r : Zp => decide (0 < r.2) && decide (cmpL (rowX xs r.1) hd = 0)) (l.take j)
         rw [List.length_take] at this
         unfold rowsR
         omega
        generalize rowsR xs (l.take j) hd = acc at *
        have hAk := chain hAD hal
        have hbk := chain hbD hal
        have OD1 := own_next OD hal
        have HSr : Hid (SlAt (wr.alloc (.cells #[.slice ar l[j].1.length cr, .int .i64 l[j].2] 53)) ar l[j].1) := sr.next hal
        clear sr OD
        go_upto_region 36 with fail
        clear c0 c1
        generalize wr.alloc (.cells #[.slice ar l[j].1.length cr, .int .i64 l[j].2] 53) = wk at *
        have p0 : wk.cell? ⟨wr.heap.size, 0, none⟩ = some (.slice ar l[j].1.length cr) := cell_of (i := 0) q0 rfl
        have p1 : wk.cell? ⟨wr.heap.size, 1, none⟩ = some (.int .i64 l[j].2) := cell_of (i := 1) q0 rfl
        by_cases hw : 0 < l[j].2
        ·have con := refValues_at (cols := cols) xs HTe.out l[j].1 HFt.out xa xcap ar cr wk ((KsAt.next hAk (Nat.le_refl _) hx).up hAk.size) HSr.out
         go_wp2_with fail
         refine con.mono ?_
         rintro e w5 ⟨v5, rfl, O5, hb5⟩
         clear con p0 p1
         obtain ⟨a5, c5, rfl, S5, T5, _⟩ := own_vals O5 (by rw [rowX_len])
         clear O5
         have q5 := (hb5.block _ (lt_of_heap q0)).trans q0
         have OD5 := own_next OD1 hb5
         have hb5c := chain hbk hb5
         have con := refRows_at a5 ka c5 kc (rowX xs l[j].1) hd w5 S5 (sE.next hb5c) (rowF_right HTe.out HFt.out)
         generalize hcv : cmpL (rowX xs l[j].1) hd = cv at *
         dsimp only
         go_wp2_with fail
         refine con.mono ?_
         rintro e w6 ⟨rfl, hb6⟩
         clear con
         have q6 := (hb6.block _ (lt_of_heap q5)).trans q5
         have p0 : w6.cell? ⟨wr.heap.size, 0, none⟩ = some (.slice ar l[j].1.length cr) := cell_of (i := 0) q6 rfl
         have p1 : w6.cell? ⟨wr.heap.size, 1, none⟩ = some (.int .i64 l[j].2) := cell_of (i := 1) q6 rfl
         have OD6 := own_next OD5 hb6
         have hb6c := chain hb5c hb6
         have hz6 := hb6c.size
         clear OD5 OD1 q0 q5 S5 T5 HSr
         dsimp only
         by_cases hz : cv = 0
         ·have hzb : (cv == 0) = true := by simpa using hz
          have HT' : Hid (rowsR xs (l.take (j + 1)) hd = acc ++ [l[j]]) := by show _ = _; rw [HTj.out, if_pos ⟨hw, hz⟩]
          clear HTj hz hcv
          go_wp2_with (first | (at_builtin; refine wpList_append_own _ rfl _ _ 28 rfl wc.heap.size 53 iz _ 2 32 Tryz.underlying28 hiz hz0 hz1 hz2 rfl (by decide) _ _ _ rfl (OD6.alloc _) ⟨w6.heap.size, 0, none⟩ 1 1 [.slice ar l[j].1.length cr, .int .i64 l[j].2] rfl rfl ?Ac1 ?Ac2 ?Ac3 ?Ac4 ?Ac5 ?_))
          case Ac1 =>
           intro i u hu
           match i, hu with
           | 0, hu => simp at hu; subst hu; simp [Addr.add]
           | 1, hu => simp at hu; subst hu; simp [Addr.add]
          case Ac2 => intro u hu; simp at hu; rcases hu with rfl | rfl <;> rfl
          case Ac3 => unfold maxLen; omega
          case Ac4 => omega
          case Ac5 => simp; omega
          intro v' w7 o7 g7 _
          have hb7 : Below wc.heap.size wc w7 := hb6c.trans (((Below.refl _ _).alloc (by omega) _).grown g7 (by simp; omega) (fun q hq => ((OD6.alloc (.cells #[.slice ar l[j].1.length cr, .int .i64 l[j].2] 53)).lt q hq).1))
          have E7 := ED.push (x := l[j]) (cap := cr) src0
          have o7' : w7.ownsRow wc.heap.size 53 2 v' (acc ++ [l[j]]).length (ys ++ [.slice ar l[j].1.length cr, .int .i64 l[j].2]) := by rw [List.length_append]; exact o7
          clear g7 o7 OD6 p0 p1 q6
          go_wp2_with fail
          go_roundw
          case rel => exact ⟨j + 1, by omega, by go_num, by rw [HT'.out]; exact ⟨_, o7', E7⟩, hb7⟩
          case measure => simp [intOf]; omega
         ·have hzb : (cv == 0) = false := by rw [beq_eq_false_iff_ne]; exact hz
          have HT' : Hid (rowsR xs (l.take (j + 1)) hd = acc) := by show _ = _; rw [HTj.out, if_neg fun c => hz c.2, List.append_nil]
          clear HTj hz hcv p0 p1 q6
          go_wp2_with fail
          go_roundw
          case rel => exact ⟨j + 1, by omega, by go_num, by rw [HT'.out]; exact ⟨_, OD6, ED⟩, hb6c⟩
          case measure => simp [intOf]; omega
        ·have HT' : Hid (rowsR xs (l.take (j + 1)) hd = acc) := by show _ = _; rw [HTj.out, if_neg fun c => hw c.1, List.append_nil]
         clear HTj
         go_wp2_with fail
         go_roundw
         case rel => exact ⟨j + 1, by omega, by go_num, by rw [HT'.out]; exact ⟨_, OD1, ED⟩, hbk⟩
         case measure => simp [intOf]; omega
       ·have e : j = l.length := by omega
        subst e
        rw [List.take_length] at OD ED
        have HROk : Hid (ROk cols (rowsR xs l hd)) := rowsR_ok HO.out hd
        obtain ⟨ra, rc, rfl, ZR⟩ := own_zsB OD rfl ED hbD
        clear OD ED
        obtain ⟨wd, hwd⟩ : ∃ z, z = wr := ⟨_, rfl⟩
        subst hwd
        have con := refBoth_at ka none kc 0 hd [] wd (sE.next hbD) ⟨Nat.zero_le _, .inl rfl⟩ (by simp; omega)
        go_wp2_with fail
        refine con.mono ?_
        rintro e w8 ⟨v8, rfl, O8, hb8⟩
        clear con
        rw [List.append_nil] at O8
        dsimp only
        go_wp2_with fail
        go_loopw [28, 132] (fun v i wr => ∃ j : Nat, j ≤ gs.length ∧ i = .int .i64 j ∧ wr.ownsRow wd.heap.size 24 3 v (hd.length + j) (flatV (hd ++ (gs.take j).map fun g => aggP g (rowsR xs l hd))) ∧ Below wd.heap.size wd wr) (fun _ i _ => gs.length - (intOf i).toNat)
        case atStart => exact ⟨0, Nat.zero_le _, rfl, by simpa using O8, hb8⟩
        case round =>
         obtain ⟨j, hj, rfl, OE, hbE⟩ := hrel
         have hAE := chain hAD hbE
         have hzE := hbE.size
         by_cases hjg : j < gs.length
         ·obtain ⟨b, off, ai, ci, rfl, hbl, x0, sx, kx⟩ := (AgAt.next hAE (Nat.le_refl _) hg).elem hjg
          obtain ⟨x1, x2, x3, x4, x5, x6⟩ := sx
          have hjz : (j : Int) < gs.length := by omega
          have hal : Below wr.heap.size wr (wr.alloc (.cells #[.int .i64 gs[j].1, .int .i64 gs[j].2.k, .int .i64 gs[j].2.v.1, .int .i64 gs[j].2.v.2.1, .string gs[j].2.v.2.2, .int .i64 gs[j].2.c, .slice ai gs[j].2.ks.length ci] 96)) := (Below.refl _ _).alloc (Nat.le_refl _) _
          have q0 := heap_new wr #[.int .i64 gs[j].1, .int .i64 gs[j].2.k, .int .i64 gs[j].2.v.1, .int .i64 gs[j].2.v.2.1, .string gs[j].2.v.2.2, .int .i64 gs[j].2.c, .slice ai gs[j].2.ks.length ci] 96
          have O1 := own_next OE hal
          have hbk := chain hbE hal
          have hAk := chain hAE hal
          have kk := (KsAt.next hal hAE.size kx).up (Nat.le_trans hAE.size hal.size)
          have con := refAgg_at (cols := cols) gs[j].1 gs[j].2 (HMs.out gs[j] (List.getElem_mem hjg)) (rowsR xs l hd) HROk.out ai ci ra rc _ kk (ZR.next hbk)
          have HR : Hid (flatV (hd ++ (gs.take (j + 1)).map fun g => aggP g (rowsR xs l hd)) = flatV (hd ++ (gs.take j).map fun g => aggP g (rowsR xs l hd)) ++ flatV [aggP (gs[j].1, gs[j].2) (rowsR xs l hd)]) := by
           show _ = _
           rw [← flatV_append, List.append_assoc, List.take_succ_eq_append_getElem hjg, List.map_append]
           rfl
          clear OE kx kk
          generalize flatV (hd ++ (gs.take j).map fun g => aggP g (rowsR xs l hd)) = fl at *
          go_upto_region 43 with fail
          clear x0 x1 x2 x3 x4 x5 x6
          generalize wr.alloc (.cells #[.int .i64 gs[j].1, .int .i64 gs[j].2.k, .int .i64 gs[j].2.v.1, .int .i64 gs[j].2.v.2.1, .string gs[j].2.v.2.2, .int .i64 gs[j].2.c, .slice ai gs[j].2.ks.length ci] 96) = wk at *
          generalize aggP (gs[j].1, gs[j].2) (rowsR xs l hd) = u at *
          unfold agV at con
          have p0 : wk.cell? ⟨wr.heap.size, 0, none⟩ = some (.int .i64 gs[j].1) := cell_of (i := 0) q0 rfl
          have p1 : wk.cell? ⟨wr.heap.size, 1, none⟩ = some (.int .i64 gs[j].2.k) := cell_of (i := 1) q0 rfl
          have p2 : wk.cell? ⟨wr.heap.size, 2, none⟩ = some (.int .i64 gs[j].2.v.1) := cell_of (i := 2) q0 rfl
          have p3 : wk.cell? ⟨wr.heap.size, 3, none⟩ = some (.int .i64 gs[j].2.v.2.1) := cell_of (i := 3) q0 rfl
          have p4 : wk.cell? ⟨wr.heap.size, 4, none⟩ = some (.string gs[j].2.v.2.2) := cell_of (i := 4) q0 rfl
          have p5 : wk.cell? ⟨wr.heap.size, 5, none⟩ = some (.int .i64 gs[j].2.c) := cell_of (i := 5) q0 rfl
          have p6 : wk.cell? ⟨wr.heap.size, 6, none⟩ = some (.slice ai gs[j].2.ks.length ci) := cell_of (i := 6) q0 rfl
          go_wp2_with fail
          refine con.mono ?_
          rintro e w9 ⟨rfl, hb9⟩
          clear con p0 p1 p2 p3 p4 p5 p6 q0
          have O9 := own_next O1 hb9
          have hb9d := chain hbk hb9
          have hz9 := hb9d.size
          dsimp only
          go_wp2_with (first | (at_builtin; refine wpList_append_own _ rfl _ _ 51 rfl wd.heap.size 24 iv _ 3 32 Tryz.underlying51 hiv hv0 hv1 hv2 rfl (by decide) _ _ _ rfl (O9.alloc _) ⟨w9.heap.size, 0, none⟩ 1 1 [.int .i64 u.1, .int .i64 u.2.1, .string u.2.2] rfl rfl ?Ac1 ?Ac2 ?Ac3 ?Ac4 ?Ac5 ?_))
          case Ac1 =>
           intro i u hu
           match i, hu with
           | 0, hu => simp at hu; subst hu; simp [Addr.add]
           | 1, hu => simp at hu; subst hu; simp [Addr.add]
           | 2, hu => simp at hu; subst hu; simp [Addr.add]
          case Ac2 => intro u hu; simp at hu; rcases hu with rfl | rfl | rfl <;> rfl
          case Ac3 => unfold maxLen; omega
          case Ac4 => omega
          case Ac5 => simp; omega
          intro v' w10 o10 g10 _
          have hb10 : Below wd.heap.size wd w10 := hb9d.trans (((Below.refl _ _).alloc (by omega) _).grown g10 (by simp; omega) (fun q hq => ((O9.alloc (.cells #[.int .i64 u.1, .int .i64 u.2.1, .string u.2.2] 24)).lt q hq).1))
          have o10' : w10.ownsRow wd.heap.size 24 3 v' (hd.length + (j + 1)) (flatV (hd ++ (gs.take (j + 1)).map fun g => aggP g (rowsR xs l hd))) := by rw [HR.out]; exact o10
          clear g10 O9 O1 o10 HR
          go_wp2_with fail
          go_roundw
          case rel => exact ⟨j + 1, by omega, by go_num, o10', hb10⟩
          case measure => simp [intOf]; omega
         ·have e : j = gs.length := by omega
          subst e
          rw [List.take_length] at OE
          have hle : hd.length + gs.length = (hd ++ gs.map fun g => aggP g (rowsR xs l hd)).length := by simp
          have h8r : (hd ++ gs.map fun g => aggP g (rowsR xs l hd)).length ≤ 8 := by rw [← hle]; exact hhd8
          obtain ⟨a9, c9, rfl, S9, _, _⟩ := own_vals OE hle
          clear hle OE
          generalize (hd ++ gs.map fun g => aggP g (rowsR xs l hd)) = row at *
          have con := putC_at uc pre k (by omega) HPk.out a9 c9 row 1 wr (HA.next (chain hbD hbE)) S9 h8r (by omega)
          have hbf := chain hbC (chain hbD hbE)
          go_wp2_with fail
          refine con.mono ?_
          rintro e w9 ⟨v9, rfl, HA9, hb9⟩
          clear con
          have HP9 : POk (k + 1) (pre ++ [(row, 1)]) := HPk.out.push ⟨HRr.out, by omega, by omega⟩
          dsimp only
          go_wp2_with fail
          go_roundw
          case rel => exact ⟨k + 1, by omega, by go_num, by rw [HTk.out]; exact HA9, by rw [HTk.out]; exact HP9, chain hbf hb9⟩
          case measure => simp [intOf]; omega
     ·have e : k = H.length := by omega
      subst e
      rw [List.take_length] at HA
      unfold Acc at HA
      rw [← HZe.out] at HA
      obtain ⟨ua, uk, rfl, z, _⟩ := HA
      go_wp2_with fail
      first
       | exact bodyPost_ret (v := .tuple #[.slice ua fz.length uk, .int .i64 0]) (by simp [results, Tryz.results22, go_sem]) rfl ⟨_, rfl, ⟨ua, uk, rfl, z⟩, hAc⟩
       | trace_state
end Go.Proofs.YtfojonhblblbjaaGreat
/- The statements' own small functions: num, col, alive, plus. -/
namespace Go.Proofs.YtfojonhblblbjaaGreat
open Go.RowKit Go.Lib Go.Shelf

def zA : List Zp := [([(3, 1, ⟨#[]⟩)], 2), ([(3, 2, ⟨#[]⟩)], 1)]
def sA : List Zp := [([(3, 1, ⟨#[]⟩)], 4), ([(3, 2, ⟨#[]⟩)], 2)]
end Go.Proofs.YtfojonhblblbjaaGreat
/- The walk of tidelaw4.OpsGroup. -/
namespace Go.Proofs.YtfojonhblblbjaaGreat
open Go.RowKit Go.Lib Go.Shelf

set_option maxRecDepth 100000 in
set_option maxHeartbeats 4000000 in
theorem group_walk (ca : Option Addr) (ccap : Nat) (cols : List Int) (xa : Option Addr) (xcap : Nat) (xs : List Ex) (ga : Option Addr) (gcap : Nat) (gs : List Ag) (a : Option Addr) (cap : Nat) (l : List Zp) (w : World)
  (hc : IsAt w.heap.size w ca cols) (hx : KsAt w.heap.size w xa xs) (hg : AgAt w.heap.size w ga gs) (h : ZsAt w a l) (_na : a = none → cap = 0) (hxl : xs.length ≤ 100000000000000) (hgl : gs.length ≤ 100000000000000) :
  Calls Tryz.prog 5 #[.slice ca cols.length ccap, .slice xa xs.length xcap, .slice ga gs.length gcap, .slice a l.length cap] w fun e w' => e = .returned (.bool true) ∧ Below w.heap.size w w' := by
 have con1 := group_at cols xs gs (fun g _ _ => total_all g.1) (by omega) ca ccap xa xcap ga gcap a cap l w hc hx hg h
 have R1 : Hid (∀ W, Below w.heap.size w W → Calls Tryz.prog 22 #[.slice ca cols.length ccap, .slice xa xs.length xcap, .slice ga gs.length gcap, .slice a l.length cap] W fun e w' => ∃ v, e = .returned (.tuple #[v, .int .i64 (groupE cols xs gs l)]) ∧ (∃ ua uc, v = .slice ua (groupZ cols xs gs l).length uc ∧ ZsAt w' ua (groupZ cols xs gs l)) ∧ Below W.heap.size W w') := fun W hW =>
  refGroup_at cols xs gs (by omega) ca ccap xa xcap ga gcap a cap l W ((hc.next hW (Nat.le_refl _)).up hW.size) ((KsAt.next hW (Nat.le_refl _) hx).up hW.size) ((AgAt.next hW (Nat.le_refl _) hg).up hW.size) (h.next hW)
 generalize groupE cols xs gs l = fe at *
 generalize groupZ cols xs gs l = fz at *
 go_enter Tryz.func5, Tryz.ntmps5
 go_wp2_with fail
 refine con1.mono ?_
 rintro e w2 ⟨v2, rfl, O2, hb2⟩
 obtain ⟨a2, c2, rfl, zs2⟩ := O2.zs
 clear O2 con1
 dsimp only
 go_wp2_with fail
 refine (R1.out w2 hb2).mono ?_
 rintro e w3 ⟨v3, rfl, ⟨a3, c3, rfl, zs3⟩, hb3⟩
 have hA3 := chain hb2 hb3
 have con := same_eq a2 a3 c2 c3 fz w3 (zs2.next hb3) zs3
 have heq : (fe == fe) = true := by simp
 clear zs2 zs3
 dsimp only
 go_wp2_with fail
 refine con.mono ?_
 rintro e wA ⟨rfl, hbA⟩
 clear con
 have hAA := chain hA3 hbA
 dsimp only
 go_wp2_with fail
 go_ret
 exact ⟨rfl, hAA⟩
end Go.Proofs.YtfojonhblblbjaaGreat
/- Opening arguments: numbers, values, expressions. -/
namespace Go.Proofs.YtfojonhblblbjaaGreat
open Go.ChangeShapes Go.WideShapes Go.ChangeAt Go.RowKit Go.Joins

set_option maxRecDepth 100000 in
theorem addr_addX (b off i : Nat) : (⟨b, off, none⟩ : Addr).add i = ⟨b, off + i, none⟩ := by
 unfold Addr.add
 by_cases h : i = 0 <;> simp [h]
theorem q3 : Tryz.prog.cellsOf 3 = 1 := by kernel_rfl
theorem q2 : Tryz.prog.cellsOf 2 = 1 := by kernel_rfl
theorem q9 : Tryz.prog.cellsOf 9 = 1 := by kernel_rfl
theorem q24 : Tryz.prog.cellsOf 24 = 3 := by kernel_rfl
theorem q25 : Tryz.prog.cellsOf 25 = 1 := by kernel_rfl
theorem q27 : Tryz.prog.cellsOf 27 = 6 := by kernel_rfl
set_option maxRecDepth 100000 in
theorem open_valT {H : Type} {enc : TypeId × Value → H} {W : World} {base : Nat} {sp : Nat → Bool} {hd : Bool} {fuel : Nat} {cs : List Value} {x : DataW H × List MemPlace}
  (h : DataW.trod enc Tryz.prog W base sp hd fuel 24 cs = some x) : ∃ v : Vl, cs = [.int .i64 v.1, .int .i64 v.2.1, .string v.2.2] := by
 obtain ⟨y0, y1, y2, m, _, hlen, h0, h1, h2⟩ := Go.Deep.trod_struct3 Tryz.underlying24 h
 rw [q24] at hlen
 match cs, hlen with
 | [c0, c1, c2], _ =>
  simp only [q3, q2, q9] at h0 h1 h2
  obtain ⟨k, e0, _, _⟩ := DataW.trod_int Tryz.underlying3 h0
  obtain ⟨n, e1, _, _⟩ := DataW.trod_int Tryz.underlying2 h1
  obtain ⟨s, e2, _, _⟩ := DataW.trod_string Tryz.underlying9 h2
  simp at e0 e1 e2
  subst e0 e1 e2
  exact ⟨(k, n, s), rfl⟩
set_option maxRecDepth 100000 in
theorem open_ints {H : Type} {enc : TypeId × Value → H} {W : World} {r : Reach} {b0 : Nat} {v : Value} {d : DataW H} {p : List MemPlace}
  (hv : Value.okWide Tryz.prog W r b0 22 v) (h : DataW.Trod enc Tryz.prog W 0 (fun _ => true) true 22 v d p) : ∃ (a : Option Addr) (cap : Nat) (l : List Int), v = .slice a l.length cap ∧ IsAt W.heap.size W a l := by
 obtain ⟨a0, len, cap, rfl⟩ := okWide_slice Tryz.underlying22 hv
 obtain ⟨fuel, hf⟩ := h
 rcases Go.Deep.open_slice1 Tryz.underlying22 q3 hf with ⟨hcs, _⟩ | ⟨a, len', cap', m, n, V, D, Pl, hcs, _, hl, hm, hmm, _, hx⟩
 ·simp [Value.cells] at hcs
  obtain ⟨rfl, rfl, rfl⟩ := hcs
  exact ⟨none, 0, [], rfl, by simp, .inl rfl⟩
 ·simp [Value.cells] at hcs
  obtain ⟨rfl, rfl, rfl⟩ := hcs
  simp only [if_true] at hmm
  obtain ⟨f, hf'⟩ := Go.Deep.choose_lt (α := Int) (n := len) (p := fun i (k : Int) => W.cell? (a.add i) = some (.int .i64 k)) (fun i hi => by
   obtain ⟨h1, h2⟩ := hx i (by omega)
   obtain ⟨k, e0, _, _⟩ := DataW.trod_int Tryz.underlying3 h2
   simp at e0
   exact ⟨k, by rw [h1, e0]⟩)
  refine ⟨some a, cap, (List.range len).map f, by simp, ?_, ?_⟩
  ·simp; omega
  by_cases h0 : len = 0
  ·left; simp [h0]
  ·right
   obtain ⟨b, off, spot⟩ := a
   have hc := hf' 0 (by omega)
   have hspot : spot = none := by simpa [Addr.add] using World.cell?_spot hc
   subst hspot
   refine ⟨b, off, rfl, World.block_lt_of_cell? W _ (by simpa [Addr.add] using hc), fun i hi => ?_⟩
   have hi' : i < len := by simpa using hi
   have := hf' i hi'
   simp only [addr_addX] at this
   simp only [List.getElem_map, List.getElem_range]
   exact this
instance : Inhabited Ex := ⟨.mk 0 (0, 0, ⟨#[]⟩) 0 []⟩
/-- The kids' opening, at less fuel. -/
def KidsOpen {H : Type} (enc : TypeId × Value → H) (W : World) (hd : Bool) (m : Nat) : Prop :=
 ∀ cs x, DataW.trod enc Tryz.prog W 0 (fun _ => true) hd m 25 cs = some x → ∃ (a : Option Addr) (cap : Nat) (l : List Ex), cs = [.slice a l.length cap] ∧ KsAt W.heap.size W a l
set_option maxRecDepth 100000 in
theorem open_exprT {H : Type} {enc : TypeId × Value → H} {W : World} {hd : Bool} {fuel : Nat} (ih : ∀ m, m < fuel → KidsOpen enc W hd m) {cs : List Value} {x : DataW H × List MemPlace}
  (h : DataW.trod enc Tryz.prog W 0 (fun _ => true) hd fuel 27 cs = some x) :
  ∃ (e : Ex) (a : Option Addr) (cap : Nat), cs = [.int .i64 e.k, .int .i64 e.v.1, .int .i64 e.v.2.1, .string e.v.2.2, .int .i64 e.c, .slice a e.ks.length cap] ∧ KsAt W.heap.size W a e.ks := by
 obtain ⟨xs, n, hn, _, hl, hlen, hf⟩ := DataW.trod_struct Tryz.underlying27 h
 rw [q27] at hl
 match xs, hlen with
 | [y0, y1, y2, y3], _ =>
  have h0 := hf 0 _ rfl
  have h1 := hf 1 _ rfl
  have h2 := hf 2 _ rfl
  have h3 := hf 3 _ rfl
  match cs, hl with
  | [c0, c1, c2, c3, c4, c5], _ =>
   simp [q3, q24, q25] at h0 h1 h2 h3
   obtain ⟨k, e0, _, _⟩ := DataW.trod_int Tryz.underlying3 h0
   obtain ⟨v, e1⟩ := open_valT h1
   obtain ⟨c, e2, _, _⟩ := DataW.trod_int Tryz.underlying3 h2
   obtain ⟨a, cap, l, e3, hk⟩ := ih n (by omega) _ _ h3
   simp at e0 e1 e2 e3
   obtain ⟨r1, r2, r3⟩ := e1
   subst e0 r1 r2 r3 e2 e3
   exact ⟨.mk k v c l, a, cap, rfl, hk⟩
set_option maxRecDepth 100000 in
theorem kidsOpen {H : Type} (enc : TypeId × Value → H) (W : World) (hd : Bool) (fuel : Nat) : KidsOpen enc W hd fuel := by
 induction fuel using Nat.strongRecOn with
 | ind fuel ih =>
  intro cs x h
  rcases DataW.trod_slice Tryz.underlying25 h with ⟨hcs, _⟩ | ⟨a, len, cap, elems, rest, n, hn, hcs, _, _, _, _, hlen, hel, _, _⟩
  ·exact ⟨none, 0, [], hcs, .nil _⟩
  ·rw [q27] at hel
   obtain ⟨f, hf⟩ := Go.Deep.choose_lt (α := Ex × Option Addr × Nat) (n := len) (p := fun i (y : Ex × Option Addr × Nat) =>
     (W.cell? ((a.add (i * 6)).add 0) = some (.int .i64 y.1.k) ∧ W.cell? ((a.add (i * 6)).add 1) = some (.int .i64 y.1.v.1) ∧ W.cell? ((a.add (i * 6)).add 2) = some (.int .i64 y.1.v.2.1) ∧ W.cell? ((a.add (i * 6)).add 3) = some (.string y.1.v.2.2) ∧
      W.cell? ((a.add (i * 6)).add 4) = some (.int .i64 y.1.c) ∧ W.cell? ((a.add (i * 6)).add 5) = some (.slice y.2.1 y.1.ks.length y.2.2)) ∧ KsAt W.heap.size W y.2.1 y.1.ks) (fun i hi => by
    have key := hel i hi
    rw [List.getElem?_eq_getElem (by omega)] at key
    obtain ⟨cs', h1, h2⟩ := Option.bind_eq_some_iff.1 key
    obtain ⟨_, hl6, hcell⟩ := World.cells?_some h1
    obtain ⟨e, ai, ci, rfl, hk⟩ := open_exprT (fun m hm => ih m (by omega)) h2
    exact ⟨(e, ai, ci), ⟨hcell 0 (by simp), hcell 1 (by simp), hcell 2 (by simp), hcell 3 (by simp), hcell 4 (by simp), hcell 5 (by simp)⟩, hk⟩)
   refine ⟨some a, cap, (List.range len).map fun i => (f i).1, by simpa using hcs, ?_⟩
   by_cases h0 : len = 0
   ·subst h0; exact .nil _
   ·obtain ⟨b, off, spot⟩ := a
    have hc := (hf 0 (by omega)).1.1
    have hspot : spot = none := by simpa [Addr.add] using World.cell?_spot hc
    subst hspot
    refine .some b off _ (fun i => (f i).2.1) (fun i => (f i).2.2) (World.block_lt_of_cell? W _ (by simpa [Addr.add] using hc)) (fun i hi => ?_) (fun i hi => ?_)
    ·have hi' : i < len := by simpa using hi
     have := (hf i hi').1
     simp only [addr_addX] at this
     simp only [List.getElem_map, List.getElem_range]
     exact ⟨this.1, this.2.1, this.2.2.1, this.2.2.2.1, this.2.2.2.2.1, this.2.2.2.2.2⟩
    ·have hi' : i < len := by simpa using hi
     simp only [List.getElem_map, List.getElem_range]
     exact (hf i hi').2
set_option maxRecDepth 100000 in
theorem open_exprs {H : Type} {enc : TypeId × Value → H} {W : World} {r : Reach} {b0 : Nat} {v : Value} {d : DataW H} {p : List MemPlace}
  (hv : Value.okWide Tryz.prog W r b0 25 v) (h : DataW.Trod enc Tryz.prog W 0 (fun _ => true) true 25 v d p) : ∃ (a : Option Addr) (cap : Nat) (l : List Ex), v = .slice a l.length cap ∧ KsAt W.heap.size W a l := by
 obtain ⟨a0, len, cap, rfl⟩ := okWide_slice Tryz.underlying25 hv
 obtain ⟨fuel, hf⟩ := h
 obtain ⟨a, c, l, e, hs⟩ := kidsOpen enc W true fuel _ _ hf
 refine ⟨a, c, l, ?_, hs⟩
 simpa [Value.cells] using e
end Go.Proofs.YtfojonhblblbjaaGreat
/- Opening arguments: slices of values, and slices of rows with weights. -/
namespace Go.Proofs.YtfojonhblblbjaaGreat
open Go.ChangeShapes Go.WideShapes Go.ChangeAt Go.RowKit Go.Joins

set_option maxRecDepth 100000 in
theorem addr_add (b off i : Nat) : (⟨b, off, none⟩ : Addr).add i = ⟨b, off + i, none⟩ := by
 unfold Addr.add
 by_cases h : i = 0 <;> simp [h]
set_option maxRecDepth 100000 in
theorem open_row {H : Type} {enc : TypeId × Value → H} {W : World} {base : Nat} {sp : Nat → Bool} {hd : Bool} {fuel : Nat} {cs : List Value} {x : DataW H × List MemPlace} {a : Addr}
  (hc : W.cells? base a 3 = some cs) (h : DataW.trod enc Tryz.prog W base sp hd fuel 24 cs = some x) :
  ∃ v : Vl, W.cell? (a.add 0) = some (.int .i64 v.1) ∧ W.cell? (a.add 1) = some (.int .i64 v.2.1) ∧ W.cell? (a.add 2) = some (.string v.2.2) := by
 obtain ⟨_, hlen, hcell⟩ := World.cells?_some hc
 obtain ⟨y0, y1, y2, m, _, _, h0, h1, h2⟩ := Go.Deep.trod_struct3 Tryz.underlying24 h
 have q3 : Tryz.prog.cellsOf 3 = 1 := by kernel_rfl
 have q2 : Tryz.prog.cellsOf 2 = 1 := by kernel_rfl
 have q9 : Tryz.prog.cellsOf 9 = 1 := by kernel_rfl
 match cs, hlen with
 | [c0, c1, c2], _ =>
  simp only [q3, q2, q9] at h0 h1 h2
  obtain ⟨k, e0, _, _⟩ := DataW.trod_int Tryz.underlying3 h0
  obtain ⟨n, e1, _, _⟩ := DataW.trod_int Tryz.underlying2 h1
  obtain ⟨s, e2, _, _⟩ := DataW.trod_string Tryz.underlying9 h2
  simp at e0 e1 e2
  subst e0 e1 e2
  exact ⟨(k, n, s), hcell 0 (by omega), hcell 1 (by omega), hcell 2 (by omega)⟩
set_option maxRecDepth 100000 in
theorem open_valsT {H : Type} {enc : TypeId × Value → H} {W : World} {hd : Bool} {fuel : Nat} {cs : List Value} {x : DataW H × List MemPlace}
  (hf : DataW.trod enc Tryz.prog W 0 (fun _ => true) hd fuel 51 cs = some x) : ∃ (a : Option Addr) (cap : Nat) (l : List Vl), cs = [.slice a l.length cap] ∧ SlAt W a l := by
 rcases Go.Deep.open_slice Tryz.underlying51 hf with ⟨hcs, _⟩ | ⟨a, len, cap, m, n, D, Pl, hcs, _, hl, hm, hmm, _, hx⟩
 ·exact ⟨none, 0, [], hcs, by simp, .inl rfl⟩
 ·have q : Tryz.prog.cellsOf 24 = 3 := by kernel_rfl
  rw [q] at hx
  simp only [if_true] at hmm
  obtain ⟨f, hf'⟩ := Go.Deep.choose_lt (α := Vl) (n := len) (p := fun i (v : Vl) => W.cell? ((a.add (i * 3)).add 0) = some (.int .i64 v.1) ∧ W.cell? ((a.add (i * 3)).add 1) = some (.int .i64 v.2.1) ∧ W.cell? ((a.add (i * 3)).add 2) = some (.string v.2.2)) (fun i hi => by
   obtain ⟨cs', h1, h2⟩ := hx i (by omega)
   exact open_row h1 h2)
  refine ⟨some a, cap, (List.range len).map f, by simpa using hcs, ?_, ?_⟩
  ·simp; omega
  by_cases h0 : len = 0
  ·left; simp [h0]
  ·right
   obtain ⟨b, off, spot⟩ := a
   have hc := (hf' 0 (by omega)).1
   have hspot : spot = none := by simpa [Addr.add] using World.cell?_spot hc
   subst hspot
   refine ⟨b, off, rfl, fun i hi => ?_, ?_⟩
   ·have hi' : i < len := by simpa using hi
    have := hf' i hi'
    simp only [addr_add] at this
    simp only [List.getElem_map, List.getElem_range]
    exact this
   ·exact World.block_lt_of_cell? W _ (by simpa [Addr.add] using hc)
set_option maxRecDepth 100000 in
theorem struct2 {P : Program} {H : Type} {enc : TypeId × Value → H} {w : World} {base : Nat} {spare : Nat → Bool} {held : Bool} {t : TypeId} {f0 f1 : Field} {fuel : Nat} {cs : List Value} {x : DataW H × List MemPlace} (ht : P.underlying t = some (.struct #[f0, f1])) (h : DataW.trod enc P w base spare held fuel t cs = some x) :
  ∃ y0 y1 n, DataW.trod enc P w base spare held n f0.type ((cs.drop f0.offset).take (P.cellsOf f0.type)) = some y0 ∧
   DataW.trod enc P w base spare held n f1.type ((cs.drop f1.offset).take (P.cellsOf f1.type)) = some y1 := by
 obtain ⟨xs, n, _, rfl, hl, hlen, hf⟩ := DataW.trod_struct ht h
 match xs, hlen with
 | [y0, y1], _ => exact ⟨y0, y1, n, by simpa using hf 0 f0 rfl, by simpa using hf 1 f1 rfl⟩
set_option maxRecDepth 100000 in
theorem open_zrow {H : Type} {enc : TypeId × Value → H} {W : World} {hd : Bool} {fuel : Nat} {cs : List Value} {x : DataW H × List MemPlace} {a : Addr}
  (hc : W.cells? 0 a 2 = some cs) (h : DataW.trod enc Tryz.prog W 0 (fun _ => true) hd fuel 53 cs = some x) :
  ∃ z : Zp, W.cell? (a.add 1) = some (.int .i64 z.2) ∧ ∃ ai cap, W.cell? (a.add 0) = some (.slice ai z.1.length cap) ∧ SlAt W ai z.1 := by
 obtain ⟨_, hlen, hcell⟩ := World.cells?_some hc
 obtain ⟨y0, y1, n, h0, h1⟩ := struct2 Tryz.underlying53 h
 have q23 : Tryz.prog.cellsOf 51 = 1 := by kernel_rfl
 have q2 : Tryz.prog.cellsOf 2 = 1 := by kernel_rfl
 match cs, hlen with
 | [c0, c1], _ =>
  simp only [q23, q2] at h0 h1
  obtain ⟨ai, cap, l, e0, hs⟩ := open_valsT h0
  obtain ⟨k, e1, _, _⟩ := DataW.trod_int Tryz.underlying2 h1
  simp at e0 e1
  subst e0 e1
  exact ⟨(l, k), hcell 1 (by omega), ai, cap, hcell 0 (by omega), hs⟩
set_option maxRecDepth 100000 in
theorem open_zrows {H : Type} {enc : TypeId × Value → H} {W : World} {r : Reach} {b0 : Nat} {v : Value} {d : DataW H} {p : List MemPlace}
  (hv : Value.okWide Tryz.prog W r b0 28 v) (h : DataW.Trod enc Tryz.prog W 0 (fun _ => true) true 28 v d p) : ∃ (a : Option Addr) (cap : Nat) (l : List Zp), v = .slice a l.length cap ∧ ZsAt W a l := by
 obtain ⟨a0, len, cap, rfl⟩ := okWide_slice Tryz.underlying28 hv
 obtain ⟨fuel, hf⟩ := h
 rcases Go.Deep.open_slice Tryz.underlying28 hf with ⟨hcs, _⟩ | ⟨a, len', cap', m, n, D, Pl, hcs, _, hl, hm, hmm, _, hx⟩
 ·simp [Value.cells] at hcs
  obtain ⟨rfl, rfl, rfl⟩ := hcs
  exact ⟨none, 0, [], rfl, by simp, .inl rfl⟩
 ·simp [Value.cells] at hcs
  obtain ⟨rfl, rfl, rfl⟩ := hcs
  have q : Tryz.prog.cellsOf 53 = 2 := by kernel_rfl
  rw [q] at hx
  simp only [if_true] at hmm
  obtain ⟨f, hf'⟩ := Go.Deep.choose_lt (α := Zp) (n := len) (p := fun i (z : Zp) => W.cell? ((a.add (i * 2)).add 1) = some (.int .i64 z.2) ∧ ∃ ai cap, W.cell? ((a.add (i * 2)).add 0) = some (.slice ai z.1.length cap) ∧ SlAt W ai z.1) (fun i hi => by
   obtain ⟨cs', h1, h2⟩ := hx i (by omega)
   exact open_zrow h1 h2)
  refine ⟨some a, cap, (List.range len).map f, by simp, ?_, ?_⟩
  ·simp; omega
  by_cases h0 : len = 0
  ·left; simp [h0]
  ·right
   obtain ⟨b, off, spot⟩ := a
   obtain ⟨_, _, hc, _⟩ := (hf' 0 (by omega)).2
   have hspot : spot = none := by simpa [Addr.add] using World.cell?_spot hc
   subst hspot
   refine ⟨b, off, rfl, ?_, fun i hi => ?_⟩
   ·exact World.block_lt_of_cell? W _ (by simpa [Addr.add] using hc)
   ·have hi' : i < len := by simpa using hi
    have := hf' i hi'
    simp only [addr_add] at this
    simp only [List.getElem_map, List.getElem_range]
    exact this
end Go.Proofs.YtfojonhblblbjaaGreat
/- Opening arguments: slices of rows with weights; a nil one has no room. -/
namespace Go.Proofs.YtfojonhblblbjaaGreat
open Go.ChangeShapes Go.WideShapes Go.ChangeAt Go.RowKit Go.Joins

set_option maxRecDepth 100000 in
theorem open_zrows2 {H : Type} {enc : TypeId × Value → H} {W : World} {r : Reach} {b0 : Nat} {v : Value} {d : DataW H} {p : List MemPlace}
  (hv : Value.okWide Tryz.prog W r b0 28 v) (h : DataW.Trod enc Tryz.prog W 0 (fun _ => true) true 28 v d p) : ∃ (a : Option Addr) (cap : Nat) (l : List Zp), v = .slice a l.length cap ∧ ZsAt W a l ∧ (a = none → cap = 0) := by
 obtain ⟨a, cap, l, rfl, hz⟩ := open_zrows hv h
 refine ⟨a, cap, l, rfl, hz, ?_⟩
 intro e
 subst e
 obtain ⟨fuel, hf⟩ := h
 rcases Go.Deep.open_slice Tryz.underlying28 hf with ⟨hcs, _⟩ | ⟨a, len', cap', m, n, D, Pl, hcs, _⟩
 ·simp [Value.cells] at hcs
  exact hcs.2
 ·simp [Value.cells] at hcs
end Go.Proofs.YtfojonhblblbjaaGreat
/- Opening lists of aggregates. -/
namespace Go.Proofs.YtfojonhblblbjaaGreat
open Go.ChangeShapes Go.WideShapes Go.ChangeAt Go.RowKit Go.Joins

theorem qAgg : Tryz.prog.cellsOf 96 = 7 := by kernel_rfl
set_option maxRecDepth 100000 in
theorem open_aggT {H : Type} {enc : TypeId × Value → H} {W : World} {hd : Bool} {fuel : Nat} {cs : List Value} {x : DataW H × List MemPlace}
  (h : DataW.trod enc Tryz.prog W 0 (fun _ => true) hd fuel 96 cs = some x) :
  ∃ (g : Ag) (a : Option Addr) (cap : Nat), cs = [.int .i64 g.1, .int .i64 g.2.k, .int .i64 g.2.v.1, .int .i64 g.2.v.2.1, .string g.2.v.2.2, .int .i64 g.2.c, .slice a g.2.ks.length cap] ∧ KsAt W.heap.size W a g.2.ks := by
 obtain ⟨xs, n, hn, _, hl, hlen, hf⟩ := DataW.trod_struct Tryz.underlying96 h
 rw [qAgg] at hl
 match xs, hlen with
 | [y0, y1], _ =>
  have h0 := hf 0 _ rfl
  have h1 := hf 1 _ rfl
  match cs, hl with
  | [c0, c1, c2, c3, c4, c5, c6], _ =>
   simp [q3, q27] at h0 h1
   obtain ⟨k, e0, _, _⟩ := DataW.trod_int Tryz.underlying3 h0
   obtain ⟨e, a, cap, e1, hk⟩ := open_exprT (fun m _ => kidsOpen enc W hd m) h1
   simp at e0 e1
   obtain ⟨r1, r2, r3, r4, r5, r6⟩ := e1
   subst e0 r1 r2 r3 r4 r5 r6
   exact ⟨(k, e), a, cap, rfl, hk⟩
instance : Inhabited Ag := ⟨(0, .mk 0 (0, 0, ⟨#[]⟩) 0 [])⟩
set_option maxRecDepth 100000 in
theorem open_aggs {H : Type} {enc : TypeId × Value → H} {W : World} {r : Reach} {b0 : Nat} {v : Value} {d : DataW H} {p : List MemPlace}
  (hv : Value.okWide Tryz.prog W r b0 40 v) (h : DataW.Trod enc Tryz.prog W 0 (fun _ => true) true 40 v d p) : ∃ (a : Option Addr) (cap : Nat) (l : List Ag), v = .slice a l.length cap ∧ AgAt W.heap.size W a l := by
 obtain ⟨a0, len0, cap0, rfl⟩ := okWide_slice Tryz.underlying40 hv
 obtain ⟨fuel, hf0⟩ := h
 rcases DataW.trod_slice Tryz.underlying40 hf0 with ⟨hcs, _⟩ | ⟨a, len, cap, elems, rest, n, hn, hcs, _, _, _, _, hlen, hel, _, _⟩
 ·refine ⟨none, 0, [], ?_, .inl rfl⟩
  simpa [Value.cells] using hcs
 ·rw [qAgg] at hel
  obtain ⟨f, hf⟩ := Go.Deep.choose_lt (α := Ag × Option Addr × Nat) (n := len) (p := fun i (y : Ag × Option Addr × Nat) =>
    (W.cell? ((a.add (i * 7)).add 0) = some (.int .i64 y.1.1) ∧ W.cell? ((a.add (i * 7)).add 1) = some (.int .i64 y.1.2.k) ∧ W.cell? ((a.add (i * 7)).add 2) = some (.int .i64 y.1.2.v.1) ∧ W.cell? ((a.add (i * 7)).add 3) = some (.int .i64 y.1.2.v.2.1) ∧ W.cell? ((a.add (i * 7)).add 4) = some (.string y.1.2.v.2.2) ∧
     W.cell? ((a.add (i * 7)).add 5) = some (.int .i64 y.1.2.c) ∧ W.cell? ((a.add (i * 7)).add 6) = some (.slice y.2.1 y.1.2.ks.length y.2.2)) ∧ KsAt W.heap.size W y.2.1 y.1.2.ks) (fun i hi => by
   have key := hel i hi
   rw [List.getElem?_eq_getElem (by omega)] at key
   obtain ⟨cs', h1, h2⟩ := Option.bind_eq_some_iff.1 key
   obtain ⟨_, hl6, hcell⟩ := World.cells?_some h1
   obtain ⟨e, ai, ci, rfl, hk⟩ := open_aggT h2
   exact ⟨(e, ai, ci), ⟨hcell 0 (by simp), hcell 1 (by simp), hcell 2 (by simp), hcell 3 (by simp), hcell 4 (by simp), hcell 5 (by simp), hcell 6 (by simp)⟩, hk⟩)
  refine ⟨some a, cap, (List.range len).map fun i => (f i).1, by simpa [Value.cells] using hcs, ?_⟩
  by_cases h0 : len = 0
  ·subst h0; exact .inl rfl
  ·obtain ⟨b, off, spot⟩ := a
   have hc := (hf 0 (by omega)).1.1
   have hspot : spot = none := by simpa [Addr.add] using World.cell?_spot hc
   subst hspot
   refine .inr ⟨b, off, fun i => (f i).2.1, fun i => (f i).2.2, rfl, World.block_lt_of_cell? W _ (by simpa [Addr.add] using hc), fun i hi => ?_⟩
   have hi' : i < len := by simpa using hi
   obtain ⟨⟨g0, g1, g2, g3, g4, g5, g6⟩, gk⟩ := hf i hi'
   simp only [addr_addX] at g0 g1 g2 g3 g4 g5 g6
   simp only [List.getElem_map, List.getElem_range]
   exact ⟨g0, ⟨g1, g2, g3, g4, g5, g6⟩, gk⟩
theorem bytes_agg : 8 ≤ Tryz.prog.bytesOf 96 := by decide +kernel
theorem aggs_sized {H : Type} {enc : TypeId × Value → H} {W : World} {a : Option Addr} {n cap : Nat} {d : DataW H} {p : List MemPlace} (h : DataW.Trod enc Tryz.prog W 0 (fun _ => true) true 40 (.slice a n cap) d p)
  {ts : List TypeId} {ds : List (DataW H)} (hs : (DataW.weightsEach Tryz.prog ts ds).all (· ≤ reachBytes) = true) {j : Nat} (ht : ts[j]? = some 40) (hd : ds[j]? = some d) : n ≤ 100000000000000 := by
 obtain ⟨fuel, hf⟩ := h
 rcases DataW.trod_slice Tryz.underlying40 hf with ⟨hcs, _⟩ | ⟨a', len, cap', elems, rest, m, hm, hcs, hx, _, _, _, hlen, _⟩
 ·simp [Value.cells] at hcs
  omega
 ·simp [Value.cells] at hcs
  obtain ⟨rfl, rfl, rfl⟩ := hcs
  simp only [Prod.mk.injEq] at hx
  have e := hx.1
  subst e
  have h1 := sized_slice hs ht hd Tryz.underlying40
  simp only [List.length_map] at h1
  have h2 := reachBytes_lt
  have h3 := bytes_agg
  have h4 : n * 8 ≤ (elems.length + rest.length) * Tryz.prog.bytesOf 96 := Nat.mul_le_mul (by omega) h3
  omega
end Go.Proofs.YtfojonhblblbjaaGreat
/- How long the lists of expressions may be that are read. -/
namespace Go.Proofs.YtfojonhblblbjaaGreat
open Go.ChangeShapes Go.WideShapes Go.ChangeAt Go.RowKit Go.Joins

theorem bytes_expr : 8 ≤ Tryz.prog.bytesOf 27 := by decide +kernel
theorem exprs_sized {H : Type} {enc : TypeId × Value → H} {W : World} {a : Option Addr} {n cap : Nat} {d : DataW H} {p : List MemPlace} (h : DataW.Trod enc Tryz.prog W 0 (fun _ => true) true 25 (.slice a n cap) d p)
  {ts : List TypeId} {ds : List (DataW H)} (hs : (DataW.weightsEach Tryz.prog ts ds).all (· ≤ reachBytes) = true) {j : Nat} (ht : ts[j]? = some 25) (hd : ds[j]? = some d) : n ≤ 100000000000000 := by
 obtain ⟨fuel, hf⟩ := h
 rcases DataW.trod_slice Tryz.underlying25 hf with ⟨hcs, _⟩ | ⟨a', len, cap', elems, rest, m, hm, hcs, hx, _, _, _, hlen, _⟩
 ·simp [Value.cells] at hcs
  omega
 ·simp [Value.cells] at hcs
  obtain ⟨rfl, rfl, rfl⟩ := hcs
  simp only [Prod.mk.injEq] at hx
  have e := hx.1
  subst e
  have h1 := sized_slice hs ht hd Tryz.underlying25
  simp only [List.length_map] at h1
  have h2 := reachBytes_lt
  have h3 := bytes_expr
  have h4 : n * 8 ≤ (elems.length + rest.length) * Tryz.prog.bytesOf 27 := Nat.mul_le_mul (by omega) h3
  omega
end Go.Proofs.YtfojonhblblbjaaGreat
