/- ScaleOf, by the reference. -/
import Derived.Test.YtbcajjpgpjadaaaSc8
import Derived.Test.YtbcajjpgpjadaaaVp
import Derived.RangeFuncBox
import Derived.Deep.RegionLaw
import Derived.Deep.AppendLies
namespace Go.Proofs.Ytbcajjpgpjadaaa
open Go.RowKit Go.Dues
theorem bel_dS2 {B : Nat} {a w : World} (h : Below B a w) (n k : Nat) : Below B a ((w.drewN n).drewN k) := ⟨h.os, h.tape, h.output, h.size, h.block⟩
theorem grown_set3 (W : World) (p : Addr) (v : Value) : W.grownBy (W.setCell p v) (some p.block) :=
  ⟨rfl, rfl, rfl, (KeepsWalks.setCell W _ v).size, fun k _ hk => Below.heap_setCell _ _ _ k (fun e => hk (by rw [e]))⟩
set_option maxRecDepth 100000 in
set_option maxHeartbeats 16000000 in
theorem specScaleOf_any (A : Option Addr) (n c : Nat) (x : Nat → Int) (B : Option Addr) (m d : Nat) (y : Nat → Int) (L : Int) (w : World) (hn : n ≤ maxLen) (hs : SL w A n (fun j => .int .i64 (x j))) (hm : m ≤ maxLen) (ht : SL w B m (fun j => .int .i64 (y j))) :
    Calls Try.prog 46 #[.slice A n c, .slice B m d, .int .i64 L] w fun e w' => GaveT w w' e (soP x n y m L) n n x (soR x y L n) := by
  obtain ⟨i0, hi, iz0, iz1, iz2⟩ := info_parts Try.info64
  obtain ⟨W, hW⟩ : ∃ u, u = w.alloc (.cells #[.slice none 0 0, .slice none 0 0] 30) := ⟨_, rfl⟩
  have HB : Hid (Below w.heap.size w W) := by rw [hW]; exact (Below.refl w.heap.size w).alloc (Nat.le_refl _) _
  have HR : Hid (W.heap[w.heap.size]? = some (.cells #[.slice none 0 0, .slice none 0 0] 30 (0, 0))) := by rw [hW]; exact blocks1 w _
  have hzW : w.heap.size + 1 ≤ W.heap.size := by rw [hW]; simp
  have HS := hide hs
  have HT := hide ht
  have HWW := hide hW
  have hn' := hn
  have hm' := hm
  unfold maxLen at hn' hm'
  have r0 := Joins.cell_of_block HR.out 0
  have r1 := Joins.cell_of_block HR.out 1
  have u0 := Joins.unfrozen_of_block HR.out 0
  have u1 := Joins.unfrozen_of_block HR.out 1
  simp at r0 r1 u0 u1
  clear hs ht hW
  by_cases h1 : n < 1
  · have t1 : decide ((n : Int) < 1) = true := decide_eq_true (by omega)
    have t1' : (n : Int) < 1 := by omega
    have HN := hide (show ¬ soP x n y m L from fun h => by have := (so_n h).1; omega)
    clear HB HR HWW hzW r0 r1 u0 u1
    go_enter Try.func46, Try.ntmps46
    go_wp2_with (first | (go_at_call 130; refine (specRate_any _ _ ).mono ?_; rintro e w' ⟨rfl, rfl⟩))
    refine bodyPost_ret (v := .tuple #[.agg #[.slice none 0 0, .slice none 0 0], .bool false]) (by simp [results, Try.results46, go_sem]) rfl (gavet_no HN.out ?_)
    repeat (first | exact Below.refl _ _ | refine Below.setCell ?_ (by simp) _ | refine Below.alloc ?_ (by simp) _)
  have t1 : decide ((n : Int) < 1) = false := decide_eq_false (by omega)
  by_cases h2 : 8 < n
  · have t2 : decide ((8 : Int) < (n : Int)) = true := decide_eq_true (by omega)
    have HN := hide (show ¬ soP x n y m L from fun h => by have := (so_n h).2.1; omega)
    clear HB HR HWW hzW r0 r1 u0 u1
    go_enter Try.func46, Try.ntmps46
    go_wp2_with (first | (go_at_call 130; refine (specRate_any _ _ ).mono ?_; rintro e w' ⟨rfl, rfl⟩))
    refine bodyPost_ret (v := .tuple #[.agg #[.slice none 0 0, .slice none 0 0], .bool false]) (by simp [results, Try.results46, go_sem]) rfl (gavet_no HN.out ?_)
    repeat (first | exact Below.refl _ _ | refine Below.setCell ?_ (by simp) _ | refine Below.alloc ?_ (by simp) _)
  have t2 : decide ((8 : Int) < (n : Int)) = false := decide_eq_false (by omega)
  by_cases h3 : m = n
  rotate_left
  · have t3 : ((m : Int) != (n : Int)) = true := by simp; omega
    have HN := hide (show ¬ soP x n y m L from fun h => h3 (so_n h).2.2.1)
    clear h3
    clear HB HR HWW hzW r0 r1 u0 u1
    go_enter Try.func46, Try.ntmps46
    go_wp2_with (first | (go_at_call 130; refine (specRate_any _ _ ).mono ?_; rintro e w' ⟨rfl, rfl⟩))
    refine bodyPost_ret (v := .tuple #[.agg #[.slice none 0 0, .slice none 0 0], .bool false]) (by simp [results, Try.results46, go_sem]) rfl (gavet_no HN.out ?_)
    repeat (first | exact Below.refl _ _ | refine Below.setCell ?_ (by simp) _ | refine Below.alloc ?_ (by simp) _)
  subst h3
  have t3 : ((m : Int) != (m : Int)) = false := by simp
  obtain ⟨bb, ob, hBe, hbb, hcb⟩ := HT.out.at_ (by omega)
  subst hBe
  have y0 := hcb 0 (by omega)
  rw [Nat.add_zero] at y0
  have n0 : (0 : Nat) < m := by omega
  have HCB := hide hcb
  clear hcb
  by_cases h4 : y 0 = 0
  rotate_left
  · have t4 : (y 0 != 0) = true := by simp [h4]
    have HN := hide (show ¬ soP x m y m L from fun h => h4 (so_n h).2.2.2.1)
    clear h4
    clear HB HR HWW hzW r0 r1 u0 u1
    go_enter Try.func46, Try.ntmps46
    go_wp2_with (first | (go_at_call 130; refine (specRate_any _ _ ).mono ?_; rintro e w' ⟨rfl, rfl⟩))
    refine bodyPost_ret (v := .tuple #[.agg #[.slice none 0 0, .slice none 0 0], .bool false]) (by simp [results, Try.results46, go_sem]) rfl (gavet_no HN.out ?_)
    repeat (first | exact Below.refl _ _ | refine Below.setCell ?_ (by simp) _ | refine Below.alloc ?_ (by simp) _)
  have t4 : (y 0 != 0) = false := by simp [h4]
  have H4 := hide h4
  clear h4
  cases t5 : ratB L
  · have HN := hide (show ¬ soP x m y m L from fun h => by rw [ratB_yes (so_n h).2.2.2.2] at t5; cases t5)
    clear HB HR HWW hzW r0 r1 u0 u1
    go_enter Try.func46, Try.ntmps46
    go_wp2_with (first | (go_at_call 130; refine (specRate_any _ _ ).mono ?_; rintro e w' ⟨rfl, rfl⟩))
    refine bodyPost_ret (v := .tuple #[.agg #[.slice none 0 0, .slice none 0 0], .bool false]) (by simp [results, Try.results46, go_sem]) rfl (gavet_no HN.out ?_)
    repeat (first | exact Below.refl _ _ | refine Below.setCell ?_ (by simp) _ | refine Below.alloc ?_ (by simp) _)
  have HSW := hide (HS.out.below HB.out)
  have HCB : Hid (∀ j, j < m → W.cell? ⟨bb, ob + j, none⟩ = some (.int .i64 (y j))) := fun j hj => (HB.out.cell (p := ⟨bb, ob + j, none⟩) hbb).trans (HCB.out j hj)
  have hbb2 : bb < W.heap.size := by omega
  obtain ⟨ba, oa, hAe, hba, hca⟩ := HSW.out.at_ (by omega)
  subst hAe
  have HCA := hide hca
  clear hca
  have HST := hide (show (W.alloc (.cells #[] 2)).ownsRow W.heap.size 2 1 (.slice (some ⟨W.heap.size, 0, none⟩) 0 0) 0 [] from
    ⟨by simp, .inr ⟨W.heap.size, 0, #[], rfl, Nat.le_refl _, blocks1 W _, Nat.le_refl 0, by unfold maxLen; omega, rfl, rfl⟩⟩)
  have n1 : 1 ≤ m := by omega
  have n8 : m ≤ 8 := by omega
  go_enter Try.func46, Try.ntmps46
  go_wp2_with (first | (go_at_call 130; rw [← HWW.out]; refine (specRate_any _ _ ).mono ?_; rintro e w' ⟨rfl, rfl⟩) | (at_builtin; refine wpList_append_own _ rfl _ _ 22 rfl W.heap.size 2 i0 (.int .i64 0) 1 8 Try.underlying22 hi iz0 iz1 iz2 rfl (by decide) _ _ _ rfl HST.out ⟨ba, oa, none⟩ m c ((List.range m).map fun j => .int .i64 (x j)) rfl (by simp) (src_cells ⟨hba, HCA.out⟩ ((Below.refl _ W).alloc (Nat.le_refl _) _)) (one_cells _ _) (by unfold maxLen; omega) (by omega) (by simp) ?_))
  intro v' w2 hown2 hgrow _
  obtain ⟨g, dg, rfl⟩ := Joins.ownsRow_form hown2 (by omega)
  clear y0
  have HOC := hide hown2
  have HB2 := hide (((Below.refl W.heap.size W).alloc (Nat.le_refl _) (.cells #[] 2)).grown hgrow (by simp) (fun j hj => by simp [Value.ownBlock] at hj; omega))
  have lg := hown2.lt g rfl
  have zW2 := HB2.out.size
  obtain ⟨w3, hw3⟩ : ∃ u, u = w2.alloc (.cells #[.slice (some ⟨g, 0, none⟩) m dg, .slice none 0 0] 30) := ⟨_, rfl⟩
  have HT3 : Hid (w3.heap[w2.heap.size]? = some (.cells #[.slice (some ⟨g, 0, none⟩) m dg, .slice none 0 0] 30 (0, 0))) := by rw [hw3]; exact blocks1 w2 _
  have HB3 : Hid (Below w2.heap.size w2 w3) := by rw [hw3]; exact (Below.refl _ w2).alloc (Nat.le_refl _) _
  have z23 : w2.heap.size + 1 ≤ w3.heap.size := by rw [hw3]; simp
  have HP3 := hide ((OW.of_owns (f := fun j => .int .i64 (x j)) HOC.out (row_at m x)).below HB3.out)
  have HBW3 := hide (HB2.out.trans (HB3.out.mono zW2))
  have HW3 := hide (HB.out.trans (HBW3.out.mono (by omega)))
  have HX3 := hide (show ∀ j, j < m → w3.cell? ⟨ba, oa + j, none⟩ = some (.int .i64 (x j)) from fun j hj => (HBW3.out.cell (p := ⟨ba, oa + j, none⟩) hba).trans (HCA.out j hj))
  have HY3 := hide (show ∀ j, j < m → w3.cell? ⟨bb, ob + j, none⟩ = some (.int .i64 (y j)) from fun j hj => (HBW3.out.cell (p := ⟨bb, ob + j, none⟩) hbb2).trans (HCB.out j hj))
  have HR3 := hide (HBW3.out.block w.heap.size (by omega) |>.trans HR.out)
  have h3 := hide hw3
  clear hown2 hgrow hw3 r0 r1 u0 u1
  go_wp2
  rw [← h3.out]
  go_loopw [7, 10] (fun _ i wr => ∃ k : Nat, k ≤ m ∧ i = .int .i64 k ∧ Hid (soK x y k) ∧ Hid (Below w3.heap.size w3 wr)) (fun _ i _ => m - (intOf i).toNat)
  case atStart => exact ⟨0, Nat.zero_le _, rfl, fun j hj => absurd hj (by omega), Below.refl _ _⟩
  case round =>
    obtain ⟨k, hk, rfl, hgood, hbel⟩ := hrel
    have zr := hbel.out.size
    have HR4 := hide (hbel.out.block w.heap.size (by omega) |>.trans HR3.out)
    have u0 := Joins.unfrozen_of_block HR4.out 0
    have u1 := Joins.unfrozen_of_block HR4.out 1
    have r0 := Joins.cell_of_block HR4.out 0
    have r1 := Joins.cell_of_block HR4.out 1
    simp at u0 u1 r0 r1
    by_cases hlt : k < m
    · have hki : (k : Int) < (m : Int) := by omega
      have x1 := (hbel.out.cell (p := ⟨ba, oa + k, none⟩) (by show ba < _; omega)).trans (HX3.out k hlt)
      have y1 := (hbel.out.cell (p := ⟨bb, ob + k, none⟩) (by show bb < _; omega)).trans (HY3.out k hlt)
      cases ga : amtB (x k)
      · have HN := hide (show ¬ soP x m y m L from fun h => by rw [amtB_yes (so_k h (Nat.le_refl _) k hlt).1] at ga; cases ga)
        go_wp2_with fail
        go_quiet ((go_at_call 131; exact Calls.quiet_of_same ((specCents_any _ _ ).mono fun _ _ ⟨h, h'⟩ => ⟨h, h'.symm⟩)))
        go_wp2
        refine bodyPost_ret (v := .tuple #[.agg #[.slice none 0 0, .slice none 0 0], .bool false]) (by simp [results, Try.results46, go_sem, r0, r1]) rfl (gavet_no HN.out ?_)
        exact ((bel_dS (HW3.out.trans (hbel.out.mono (by omega))) _).setCell (by simp) _).setCell (by simp) _
      cases gb : amtB (y k)
      · have HN := hide (show ¬ soP x m y m L from fun h => by rw [amtB_yes (so_k h (Nat.le_refl _) k hlt).2.1] at gb; cases gb)
        go_wp2_with fail
        go_quiet ((go_at_call 131; exact Calls.quiet_of_same ((specCents_any _ _ ).mono fun _ _ ⟨h, h'⟩ => ⟨h, h'.symm⟩)))
        go_wp2
        refine bodyPost_ret (v := .tuple #[.agg #[.slice none 0 0, .slice none 0 0], .bool false]) (by simp [results, Try.results46, go_sem, r0, r1]) rfl (gavet_no HN.out ?_)
        exact ((bel_dS (HW3.out.trans (hbel.out.mono (by omega))) _).setCell (by simp) _).setCell (by simp) _
      have HGA := hide (amtB_iff.1 ga)
      have HGB := hide (amtB_iff.1 gb)
      by_cases hk0 : k = 0
      · have z0 : decide ((0 : Int) < (k : Int)) = false := decide_eq_false (by omega)
        have z2 : decide (0 < k) = false := decide_eq_false (by omega)
        have HK0 := hide hk0
        clear hk0
        go_wp2_with fail
        go_quiet ((go_at_call 131; exact Calls.quiet_of_same ((specCents_any _ _ ).mono fun _ _ ⟨h, h'⟩ => ⟨h, h'.symm⟩)))
        go_wp2
        go_roundw
        case rel => exact ⟨k + 1, hlt, by go_num, soK_next hgood.out HGA.out HGB.out (fun h => absurd h (by have := HK0.out; omega)), bel_dS hbel.out _⟩
        case measure => simp [intOf]; omega
      · have z0 : decide ((0 : Int) < (k : Int)) = true := decide_eq_true (by omega)
        have z2 : decide (0 < k) = true := decide_eq_true (by omega)
        have z3 : 0 < k := by omega
        have z1 : (0 : Int) < (k : Int) := by omega
        have j0 : (0 : Int) ≤ (k : Int) - 1 := by omega
        have j1 : (k : Int) - 1 < (m : Int) := by omega
        have x2 := (hbel.out.cell (p := ⟨ba, oa + (k - 1), none⟩) (by show ba < _; omega)).trans (HX3.out (k - 1) (by omega))
        by_cases hlo : x k ≤ x (k - 1)
        · have HN := hide (show ¬ soP x m y m L from fun h => by have := (so_k h (Nat.le_refl _) k hlt).2.2 (by omega); omega)
          go_wp2_with fail
          go_quiet ((go_at_call 131; exact Calls.quiet_of_same ((specCents_any _ _ ).mono fun _ _ ⟨h, h'⟩ => ⟨h, h'.symm⟩)))
          go_wp2
          refine bodyPost_ret (v := .tuple #[.agg #[.slice none 0 0, .slice none 0 0], .bool false]) (by simp [results, Try.results46, go_sem, r0, r1]) rfl (gavet_no HN.out ?_)
          exact ((bel_dS (HW3.out.trans (hbel.out.mono (by omega))) _).setCell (by simp) _).setCell (by simp) _
        · have HUP := hide (show x (k - 1) < x k by omega)
          have hlo2 := HUP.out
          clear hlo
          go_wp2_with fail
          go_quiet ((go_at_call 131; exact Calls.quiet_of_same ((specCents_any _ _ ).mono fun _ _ ⟨h, h'⟩ => ⟨h, h'.symm⟩)))
          go_wp2
          go_roundw
          case rel => exact ⟨k + 1, hlt, by go_num, soK_next hgood.out HGA.out HGB.out (fun _ => HUP.out), bel_dS hbel.out _⟩
          case measure => simp [intOf]; omega
    · obtain rfl : m = k := by omega
      have HB5 := hbel
      have HK5 := hgood
      clear hgood r0 r1 u0 u1
      have HT5 := hide (hbel.out.block w2.heap.size (by omega) |>.trans HT3.out)
      go_wp2
      go_loopw [7, 11, 12] (fun _ i _ v => ∃ (q k : Nat) (xs : List Value) (G : Option Addr) (dG : Nat), Hid (q + 1 = k) ∧ k ≤ m ∧ i = .int .i64 k ∧ Hid (v.heap[w2.heap.size]? = some (.cells #[.slice (some ⟨g, 0, none⟩) m dg, .slice G q dG] 30 (0, 0))) ∧ v.ownsRow (w2.heap.size + 1) 2 1 (.slice G q dG) q xs ∧ Hid (∀ j, j < q → xs[j]? = some (.int .i64 (soQ x y (j + 1)))) ∧ Hid (∀ i, 1 ≤ i → i < k → soM x y i) ∧ Hid (Below w2.heap.size w3 v) ∧ w2.heap.size + 1 ≤ v.heap.size) (fun _ i _ _ => m - (intOf i).toNat)
      case atStart => exact ⟨0, 1, [], none, 0, rfl, n1, rfl, HT5.out, World.ownsRow_nil _ _ _ _, fun j hj => absurd hj (by omega), fun i h1 h2 => absurd h2 (by omega), HB5.out.mono (by omega), by omega⟩
      case round =>
        obtain ⟨q, k, xs, G, dG, hqk, hk, rfl, hT, hown, hxs, hgood, hbel2, hzv⟩ := hrel
        have hqe := hqk.out
        have HQK : Hid (q + 1 = k) := hqk
        have zr := hzv
        have HR4 := hide (hbel2.out.block w.heap.size (by omega) |>.trans HR3.out)
        have u0 := Joins.unfrozen_of_block HR4.out 0
        have u1 := Joins.unfrozen_of_block HR4.out 1
        have r0 := Joins.cell_of_block HR4.out 0
        have r1 := Joins.cell_of_block HR4.out 1
        simp at u0 u1 r0 r1
        have t0 := Joins.cell_of_block hT.out 0
        have t1 := Joins.cell_of_block hT.out 1
        simp at t0 t1
        by_cases hlt : k < m
        · have hki : (k : Int) < (m : Int) := by omega
          have x1 := (hbel2.out.cell (p := ⟨ba, oa + k, none⟩) (by show ba < _; omega)).trans (HX3.out k hlt)
          have x2 := (hbel2.out.cell (p := ⟨ba, oa + (k - 1), none⟩) (by show ba < _; omega)).trans (HX3.out (k - 1) (by omega))
          have y1 := (hbel2.out.cell (p := ⟨bb, ob + k, none⟩) (by show bb < _; omega)).trans (HY3.out k hlt)
          have y2 := (hbel2.out.cell (p := ⟨bb, ob + (k - 1), none⟩) (by show bb < _; omega)).trans (HY3.out (k - 1) (by omega))
          obtain ⟨bx, ba0, ba1, bq0, bq1⟩ := soK_bd HK5.out (i := k) (by omega) hlt
          obtain ⟨ax, ay, _⟩ := HK5.out k hlt
          obtain ⟨ax', ay', _⟩ := HK5.out (k - 1) (by omega)
          rename_i hju1 hju2
          clear hju1 hju2
          have EA := hide (show (y k - y (k - 1)) * 10000 = soA y k from rfl)
          have EX := hide (show x k - x (k - 1) = soX x k from rfl)
          have j0 : (0 : Int) ≤ (k : Int) - 1 := by omega
          have j1 : (k : Int) - 1 < (m : Int) := by omega
          by_cases hmo : soM x y k
          · have hy := so_yes (a := soA y k) (b := soX x k) hmo
            have HQ := hide (show (soA y k).tdiv (soX x k) = soQ x y k from hy.2)
            have HM0 := hide hy.1
            have HGS := hide (so_next hgood.out hmo)
            clear hmo hy
            have e1 : ((y k - y (k - 1)) * 10000).tmod (x k - x (k - 1)) = 0 := by rw [EA.out, EX.out]; exact HM0.out
            have e2 : ((y k - y (k - 1)) * 10000).tdiv (x k - x (k - 1)) = soQ x y k := by rw [EA.out, EX.out]; exact HQ.out
            have hzq : (x k - x (k - 1) == 0) = false := by rw [EX.out]; simp; omega
            generalize hQQ : soQ x y k = Q at *
            have HQQ := hide hQQ
            clear hQQ
            generalize x k = X1 at *
            generalize x (k - 1) = X2 at *
            generalize y k = Y1 at *
            generalize y (k - 1) = Y2 at *
            have hX : 0 < X1 - X2 := by rw [EX.out]; omega
            have HOW := hide hown
            clear bx ba0 ba1 hown
            have e1b : (((Y1 - Y2) * 10000).tmod (X1 - X2) != 0) = false := by rw [e1]; rfl
            have hq8 : q + 1 ≤ 8 := by omega
            clear hqe
            go_wp2
            go_quiet (fail)
            revert nq
            intro nqa
            go_wp2
            go_quiet (fail)
            go_wp2
            obtain ⟨wd, hwd⟩ : ∃ u : World, u = (wr.drewN nqa).drewN nq := ⟨_, rfl⟩
            rw [← hwd]
            have hT : Hid (wd.heap[w2.heap.size]? = some (.cells #[.slice (some ⟨g, 0, none⟩) m dg, .slice G q dG] 30 (0, 0))) := by rw [hwd]; exact hT.out
            have hown : wd.ownsRow (w2.heap.size + 1) 2 1 (.slice G q dG) q xs := by rw [hwd]; exact HOW.out
            have HBEL : Hid (Below w2.heap.size w3 wd) := by rw [hwd]; exact bel_dS2 hbel2.out _ _
            have hzd : w2.heap.size + 1 ≤ wd.heap.size := by rw [hwd]; exact hzv
            have x1 : wd.cell? ⟨ba, oa + k, none⟩ = some (.int .i64 X1) := by rw [hwd]; exact x1
            have x2 : wd.cell? ⟨ba, oa + (k - 1), none⟩ = some (.int .i64 X2) := by rw [hwd]; exact x2
            have t0 : wd.cell? ⟨w2.heap.size, 0, none⟩ = some (.slice (some ⟨g, 0, none⟩) m dg) := by rw [hwd]; exact t0
            have t1 : wd.cell? ⟨w2.heap.size, 1, none⟩ = some (.slice G q dG) := by rw [hwd]; exact t1
            clear hwd
            have ag : ∀ b, b < w2.heap.size + 1 → (Value.slice G q dG).ownBlock ≠ some b := fun b hb e => by have := (hown.lt b e).1; omega
            have a0 := ag ba (by omega)
            have a1 := ag w.heap.size (by omega)
            have a2 := ag w2.heap.size (by omega)
            have hl0 : ba < wd.heap.size := by omega
            have hl1 : w.heap.size < wd.heap.size := by omega
            have hl2 : w2.heap.size < wd.heap.size := by omega
            have hn63 : q + 1 ≤ maxLen := by unfold maxLen; omega
            have hby : (q + 1) * 8 ≤ 140737488355328 := by omega
            have fz := Joins.unfrozen_of_block hT.out 1
            have hfa : ∀ o, (wd.alloc o).drew.frozen? ⟨w2.heap.size, 1, none⟩ = false := fun o => Joins.unfrozen_of_block (w := (wd.alloc o).drew) ((Below.heap_alloc wd o w2.heap.size hl2).trans hT.out) 1
            have hk1i : (1 : Int) ≤ (k : Int) := by have := HQK.out; omega
            have hk1n : 1 ≤ k := by have := HQK.out; omega
            have hne : ¬ X1 - X2 = 0 := by omega
            have hwk : IntKind.i64.wrap ((k : Int) - 1) = (k : Int) - 1 := Go.IntWalk.i64_in _ (by omega)
            have hkk : ((k : Int) - 1).toNat = k - 1 := by omega
            have hwx : IntKind.i64.wrap (X1 - X2) = X1 - X2 := Go.IntWalk.i64_in _ (by omega)
            have hwq : IntKind.i64.wrap Q = Q := Go.IntWalk.i64_in _ (by omega)
            clear ag u0 u1 r0 r1 hqk
            go_region_law ((refine step_append_lies _ (by rfl) _ _ _ (by rfl) (w2.heap.size + 1) 2 i0 _ 1 8 Try.underlying22 hi iz0 iz1 iz2 rfl (by omega) (.slice G q dG) q xs (by rfl) ((hown.alloc _).drew) ⟨wd.heap.size, 0, none⟩ 1 1 [.int .i64 Q] (by rfl) (by rfl) (World.news_of_block (cs := #[.int .i64 Q]) (t := 2) (fr := (0, 0)) (heap_alloc_new wd _)) (by simp [Value.oneCell']) (by omega) hn63 hby (by simp; omega) (wd.heap.size + 1) (by simp) ?_; intro gg cap w5 hown1 hgrow hat hlt5; have ht5 := (hgrow.block w2.heap.size (by simp; omega) (Ne.symm a2)).trans ((Below.heap_alloc wd _ w2.heap.size hl2).trans hT.out); have c51 := Joins.cell_of_block ht5 1; have f51 := Joins.unfrozen_of_block ht5 1; simp at c51))
            all_goals (
              have hgT : ¬ gg = w2.heap.size := by have := (hown1.lt gg rfl).1; omega
              obtain ⟨W6, hW6⟩ : ∃ u : World, u = w5.setCell ⟨w2.heap.size, 1, none⟩ (.slice (some ⟨gg, 0, none⟩) (q + 1) cap) := ⟨_, rfl⟩
              have ht6 : W6.heap[w2.heap.size]? = some (.cells #[.slice (some ⟨g, 0, none⟩) m dg, .slice (some ⟨gg, 0, none⟩) (q + 1) cap] 30 (0, 0)) := by rw [hW6]; exact Joins.block_setCell (i := 1) ht5 _
              have hA6 : W6.ownsRow (w2.heap.size + 1) 2 1 (.slice (some ⟨gg, 0, none⟩) (q + 1) cap) (q + 1) (xs ++ [Value.int .i64 Q]) := by rw [hW6]; exact hown1.kept (grown_set3 _ _ _) (.inr (by simp [Value.ownBlock]; omega))
              have hb6 : Below w2.heap.size w3 W6 := by
                rw [hW6]
                have hd : Below w2.heap.size w3 ((wd.alloc (.cells #[.int .i64 Q] 2)).drew) := by
                  have h := HBEL.out.alloc (by omega) (.cells #[.int .i64 Q] 2)
                  exact ⟨h.os, h.tape, h.output, h.size, h.block⟩
                exact (hd.grown hgrow (by simp; omega) (fun j hj => by have := (hown.lt j hj).1; omega)).setCell (by exact Nat.le_refl _) _
              have hz6 : w2.heap.size + 1 ≤ W6.heap.size := by have := (hA6.lt gg rfl); omega
              rw [← hW6]
              have HT6 := hide ht6
              have HA6 := hide hA6
              have HBB6 := hide hb6
              have HLX := hide (show xs.length = q by have := hown.1; omega)
              clear hW6 ht6 hA6 hb6 hown1 hgrow hat hlt5 ht5 f51 c51 hgT hown
              go_wp2
              go_roundw
              case rel => exact ⟨q + 1, k + 1, xs ++ [.int .i64 Q], some ⟨gg, 0, none⟩, cap, by rw [HQK.out]; exact rfl, hlt, by go_num, HT6.out, HA6.out, own_step HLX.out hxs.out (by rw [HQK.out, HQQ.out]), HGS.out, HBB6.out, hz6⟩
              case measure => simp [intOf]; omega)
          · have HN := hide (show ¬ soP x m y m L from fun h => hmo (h.2.1 k (by omega) hlt))
            have HNM := hide (so_no (a := soA y k) (b := soX x k) hmo)
            clear hmo hown
            have e1 : ¬ ((y k - y (k - 1)) * 10000).tmod (x k - x (k - 1)) = 0 := by rw [EA.out, EX.out]; exact HNM.out
            have hzq : (x k - x (k - 1) == 0) = false := by rw [EX.out]; simp; omega
            generalize soQ x y k = Q at *
            generalize x k = X1 at *
            generalize x (k - 1) = X2 at *
            generalize y k = Y1 at *
            generalize y (k - 1) = Y2 at *
            have hX : 0 < X1 - X2 := by rw [EX.out]; omega
            clear bx ba0 ba1
            have e1b : (((Y1 - Y2) * 10000).tmod (X1 - X2) != 0) = true := by rw [bne_iff_ne]; exact e1
            go_wp2
            go_quiet (fail)
            go_wp2
            go_quiet (fail)
            go_wp2
            refine bodyPost_ret (v := .tuple #[.agg #[.slice none 0 0, .slice none 0 0], .bool false]) (by simp [results, Try.results46, go_sem, r0, r1]) rfl (gavet_no HN.out ?_)
            exact ((bel_dS (HW3.out.trans (hbel2.out.mono (by omega))) _).setCell (by simp) _).setCell (by simp) _
        · obtain rfl : m = k := by omega
          have HOW := hide hown
          have HLG := hide (show ∀ b, (Value.slice G q dG).ownBlock = some b → w2.heap.size + 1 ≤ b ∧ b < wr.heap.size from fun b hb => hown.lt b hb)
          have HLL := hide (show xs.length = q by have := hown.1; omega)
          have HP2 := hide (OW.of_owns (f := fun j => .int .i64 (x j)) HOC.out (row_at m x))
          have HB2r := hide (HB3.out.trans hbel2.out)
          clear hown u0 u1 r0 r1
          go_wp2_with (at_builtin; go_loud (refine wpList_append_own_at _ rfl _ _ 22 rfl (w2.heap.size + 1) 2 i0 (.int .i64 0) 1 8 Try.underlying22 hi iz0 iz1 iz2 rfl (by decide) _ _ _ rfl (by exact (HOW.out.alloc _)) ⟨_, 0, none⟩ 1 1 [.int .i64 L] rfl rfl (cell_one_new _ _ _) (by intro u hu; simp at hu; subst hu; rfl) (by unfold maxLen; omega) (by omega) (by simp; omega) ?_))
          intro v' w4 hown4 hgrow _ hat4
          obtain ⟨g4, d4, rfl⟩ := Joins.ownsRow_form hown4 (by omega)
          have lt4 := hown4.lt g4 rfl
          have ht4 := (hgrow.block w2.heap.size (by simp; omega) (fun e => by have := HLG.out _ e.symm; omega)).trans ((Below.heap_alloc wr _ w2.heap.size (by omega)).trans hT.out)
          have c40 := Joins.cell_of_block ht4 0
          have c41 := Joins.cell_of_block ht4 1
          have f41 := Joins.unfrozen_of_block ht4 1
          simp at c40 c41
          obtain ⟨W6, hW6⟩ : ∃ u : World, u = w4.setCell ⟨w2.heap.size, 1, none⟩ (.slice (some ⟨g4, 0, none⟩) m d4) := ⟨_, rfl⟩
          have hA6 : W6.ownsRow (w2.heap.size + 1) 2 1 (.slice (some ⟨g4, 0, none⟩) m d4) m (xs ++ [Value.int .i64 L]) := by rw [hW6]; exact hown4.kept (grown_set3 _ _ _) (.inr (by simp [Value.ownBlock]; omega))
          have HB6 : Hid (Below w2.heap.size w2 W6) := by rw [hW6]; exact ((HB2r.out.alloc (by omega) (.cells #[.int .i64 L] 2)).grown hgrow (by simp; omega) (fun j hj => by have := HLG.out j hj; omega)).setCell (by exact Nat.le_refl _) _
          have hz6 : w2.heap.size + 1 ≤ W6.heap.size := by have := (hA6.lt g4 rfl); omega
          have HPa := hide (HP2.out.below HB6.out)
          have HPb := hide (OW.of_owns (f := fun j => .int .i64 (soR x y L m j)) hA6 (fun j hj => own_step (F := fun j => .int .i64 (soR x y L m j)) HLL.out (fun j hj => by rw [hxs.out j hj, soR_in (by omega)]) (by rw [soR_last (by omega)]) j (by omega)))
          have HW6 := hide (HB.out.trans ((HB2.out.trans (HB6.out.mono zW2)).mono (by omega)))
          have HR6 := hide (HB6.out.block w.heap.size (by omega) |>.trans (HB2.out.block w.heap.size (by omega) |>.trans HR.out))
          have HEQ := hide hW6
          clear hown4 hgrow hat4 hA6 ht4 hW6
          by_cases hv : Val x (soR x y L m) m m
          · have HP := hide (so_back HK5.out H4.out hgood.out hv)
            have HV := hide hv
            clear hv
            go_wp2_with fail
            rw [← HEQ.out]
            refine (give_yes (some ⟨g, 0, none⟩) (some ⟨g4, 0, none⟩) m dg m d4 x (soR x y L m) _ hm hm HPa.out.sl HPb.out.sl HV.out).mono ?_
            rintro e w5 ⟨rfl, hb5⟩
            have hz5 := hb5.size
            have hR5 := blk_below hb5 (by omega) HR6.out
            have f0 := Joins.unfrozen_of_block hR5 0
            have f1 := Joins.unfrozen_of_block hR5 1
            have q0 := Joins.cell_of_block hR5 0
            have q1 := Joins.cell_of_block hR5 1
            simp at q0 q1
            have hE := Joins.block_setCell (i := 1) (Joins.block_setCell (i := 0) hR5 (.slice (some ⟨g, 0, none⟩) m dg)) (.slice (some ⟨g4, 0, none⟩) m d4)
            have z0 := Joins.cell_of_block hE 0
            have z1 := Joins.cell_of_block hE 1
            simp at z0 z1
            have Z0 := hide z0
            have Z1 := hide z1
            have HG := hide (gavet_yes (d := dg) (d' := d4) HP.out (⟨(((HPa.out.below hb5).setCell (p := ⟨w.heap.size, 0, none⟩) (v := .slice (some ⟨g, 0, none⟩) m dg) (.inl (by show w.heap.size < _; omega))).setCell (p := ⟨w.heap.size, 1, none⟩) (v := .slice (some ⟨g4, 0, none⟩) m d4) (.inl (by show w.heap.size < _; omega))).wide (by omega) (by simp; omega), (((HPb.out.below hb5).setCell (p := ⟨w.heap.size, 0, none⟩) (v := .slice (some ⟨g, 0, none⟩) m dg) (.inl (by show w.heap.size < _; omega))).setCell (p := ⟨w.heap.size, 1, none⟩) (v := .slice (some ⟨g4, 0, none⟩) m d4) (.inl (by show w.heap.size < _; omega))).wide (by omega) (by simp; omega), fun _ _ e => by injection e with e; injection e with e; omega⟩ : OW2 _ w.heap.size _ _ m x _ m (soR x y L m)) (((HW6.out.trans (hb5.mono (by omega))).setCell (p := ⟨w.heap.size, 0, none⟩) (by simp) (.slice (some ⟨g, 0, none⟩) m dg)).setCell (p := ⟨w.heap.size, 1, none⟩) (by simp) (.slice (some ⟨g4, 0, none⟩) m d4)))
            clear hb5 hR5 hE z0 z1
            go_wp2
            refine bodyPost_ret (v := .tuple #[.agg #[.slice (some ⟨g, 0, none⟩) m dg, .slice (some ⟨g4, 0, none⟩) m d4], .bool true]) ?_ rfl ?_
            · simp [results, Try.results46, go_sem, Z0.out, Z1.out]
            · exact HG.out
          · have HP := hide (show ¬ soP x m y m L from fun h => hv (so_val h))
            have HV := hide hv
            clear hv
            go_wp2_with fail
            rw [← HEQ.out]
            refine (give_no (some ⟨g, 0, none⟩) (some ⟨g4, 0, none⟩) m dg m d4 x (soR x y L m) _ hm hm HPa.out.sl HPb.out.sl HV.out).mono ?_
            rintro e w5 ⟨rfl, hb5⟩
            have hz5 := hb5.size
            have hR5 := blk_below hb5 (by omega) HR6.out
            have f0 := Joins.unfrozen_of_block hR5 0
            have f1 := Joins.unfrozen_of_block hR5 1
            have q0 := Joins.cell_of_block hR5 0
            have q1 := Joins.cell_of_block hR5 1
            simp at q0 q1
            have HB5' := hide (HW6.out.trans (hb5.mono (by omega)))
            clear hb5 hR5
            go_wp2
            refine bodyPost_ret (v := .tuple #[.agg #[.slice none 0 0, .slice none 0 0], .bool false]) (by simp [results, Try.results46, go_sem, q0, q1]) rfl (gavet_no HP.out ?_)
            exact (HB5'.out.setCell (by simp) _).setCell (by simp) _
end Go.Proofs.Ytbcajjpgpjadaaa
