/- ScaleOf, by the program. -/
import Derived.Test.YtbcajjpgpjadaaaPs8
import Derived.Test.YtbcajjpgpjadaaaCo8
import Derived.Test.YtbcajjpgpjadaaaGv
import Derived.Test.YtbcajjpgpjadaaaGt
import Derived.Test.YtbcajjpgpjadaaaVi
import Derived.Test.YtbcajjpgpjadaaaAm
import Derived.Test.YtbcajjpgpjadaaaTwo
import Derived.Maps.AppendAt
namespace Go.Proofs.Ytbcajjpgpjadaaa
open Go.RowKit Go.Dues
theorem bel_dS {B : Nat} {a w : World} (h : Below B a w) (n : Nat) : Below B a (w.drewN n) := ⟨h.os, h.tape, h.output, h.size, h.block⟩
set_option maxRecDepth 100000 in
set_option maxHeartbeats 8000000 in
theorem implScaleOf_any (A : Option Addr) (n c : Nat) (x : Nat → Int) (B : Option Addr) (m d : Nat) (y : Nat → Int) (L : Int) (w : World) (hn : n ≤ maxLen) (hs : SL w A n (fun j => .int .i64 (x j))) (hm : m ≤ maxLen) (ht : SL w B m (fun j => .int .i64 (y j))) :
    Calls Try.prog 48 #[.slice A n c, .slice B m d, .int .i64 L] w fun e w' => GaveT w w' e (soP x n y m L) n n x (soR x y L n) := by
  obtain ⟨i0, hi, iz0, iz1, iz2⟩ := info_parts Try.info64
  obtain ⟨W, hW⟩ : ∃ u, u = w.alloc (.cells #[.slice none 0 0, .slice none 0 0] 30) := ⟨_, rfl⟩
  have HB : Hid (Below w.heap.size w W) := by rw [hW]; exact (Below.refl w.heap.size w).alloc (Nat.le_refl _) _
  have HR : Hid (W.heap[w.heap.size]? = some (.cells #[.slice none 0 0, .slice none 0 0] 30 (0, 0))) := by rw [hW]; exact blocks1 w _
  have hzW : w.heap.size + 1 ≤ W.heap.size := by rw [hW]; simp
  have HU := hide (implBreaks_any A n c x W hn (hs.below HB.out))
  have HA := hide (implAmounts_any B m d y W hm (ht.below HB.out))
  have HS := hide (hs.below HB.out)
  have HT := hide (ht.below HB.out)
  have HWW := hide hW
  have hn' := hn
  have hm' := hm
  unfold maxLen at hn' hm'
  have r0 := Joins.cell_of_block HR.out 0
  have r1 := Joins.cell_of_block HR.out 1
  have u0 := Joins.unfrozen_of_block HR.out 0
  have u1 := Joins.unfrozen_of_block HR.out 1
  simp at r0 r1 u0 u1
  clear hs ht hW
  by_cases h1 : Ups x n
  rotate_left
  · have G1 := hide (tru_no h1)
    have HN := hide (show ¬ soP x n y m L from fun h => h1 h.1.1)
    clear h1
    go_enter Try.func48, Try.ntmps48
    go_wp2_with fail
    rw [← HWW.out]
    refine HU.out.mono ?_
    rw [G1.out]
    rintro e w' ⟨rfl, rfl⟩
    go_wp2
    refine bodyPost_ret (v := .tuple #[.agg #[.slice none 0 0, .slice none 0 0], .bool false]) (by simp [results, Try.results48, go_sem, r0, r1]) rfl (gavet_no HN.out ?_)
    exact (HB.out.setCell (by simp) _).setCell (by simp) _
  have G1 := hide (tru_yes h1)
  have n1 := h1.1
  have n8 := h1.2.1
  by_cases h2 : m = n
  rotate_left
  · have t2 : ((m : Int) != (n : Int)) = true := by simp; omega
    have HN := hide (show ¬ soP x n y m L from fun h => h2 h.1.2.1)
    clear h2 h1
    go_enter Try.func48, Try.ntmps48
    go_wp2_with fail
    rw [← HWW.out]
    refine HU.out.mono ?_
    rw [G1.out]
    rintro e w' ⟨rfl, rfl⟩
    go_wp2
    refine bodyPost_ret (v := .tuple #[.agg #[.slice none 0 0, .slice none 0 0], .bool false]) (by simp [results, Try.results48, go_sem, r0, r1]) rfl (gavet_no HN.out ?_)
    exact (HB.out.setCell (by simp) _).setCell (by simp) _
  subst h2
  have t2 : ((m : Int) != (m : Int)) = false := by simp
  by_cases h3 : ∀ j, j < m → 0 ≤ y j ∧ y j ≤ 1000000000000
  rotate_left
  · have G3 := hide (tru_no h3)
    have HN := hide (show ¬ soP x m y m L from fun h => h3 h.1.2.2.1)
    clear h3 h1
    go_enter Try.func48, Try.ntmps48
    go_wp2_with fail
    rw [← HWW.out]
    refine HU.out.mono ?_
    rw [G1.out]
    rintro e w' ⟨rfl, rfl⟩
    go_wp2_with fail
    refine HA.out.mono ?_
    rw [G3.out]
    rintro e w' ⟨rfl, rfl⟩
    go_wp2
    refine bodyPost_ret (v := .tuple #[.agg #[.slice none 0 0, .slice none 0 0], .bool false]) (by simp [results, Try.results48, go_sem, r0, r1]) rfl (gavet_no HN.out ?_)
    exact (HB.out.setCell (by simp) _).setCell (by simp) _
  have G3 := hide (tru_yes h3)
  obtain ⟨bb, ob, hBe, hbb, hcb⟩ := HT.out.at_ (by omega)
  subst hBe
  have y0 := hcb 0 (by omega)
  rw [Nat.add_zero] at y0
  have n0 : (0 : Nat) < m := by omega
  have HCB := hide hcb
  clear hcb
  by_cases h4 : y 0 = 0
  rotate_left
  · have t4 : (y 0 != 0) = true := by simp [h4]
    have HN := hide (show ¬ soP x m y m L from fun h => h4 h.1.2.2.2)
    clear h4 h3 h1
    go_enter Try.func48, Try.ntmps48
    go_wp2_with fail
    rw [← HWW.out]
    refine HU.out.mono ?_
    rw [G1.out]
    rintro e w' ⟨rfl, rfl⟩
    go_wp2_with fail
    refine HA.out.mono ?_
    rw [G3.out]
    rintro e w' ⟨rfl, rfl⟩
    go_wp2
    refine bodyPost_ret (v := .tuple #[.agg #[.slice none 0 0, .slice none 0 0], .bool false]) (by simp [results, Try.results48, go_sem, r0, r1]) rfl (gavet_no HN.out ?_)
    exact (HB.out.setCell (by simp) _).setCell (by simp) _
  have t4 : (y 0 != 0) = false := by simp [h4]
  have HSB := hide (show soB x m y m from ⟨h1, rfl, h3, h4⟩)
  clear h4 h3 h1
  obtain ⟨ba, oa, hAe, hba, hca⟩ := HS.out.at_ (by omega)
  subst hAe
  have HCA := hide hca
  clear hca
  go_enter Try.func48, Try.ntmps48
  go_wp2_with fail
  rw [← HWW.out]
  refine HU.out.mono ?_
  rw [G1.out]
  rintro e w' ⟨rfl, rfl⟩
  go_wp2_with fail
  refine HA.out.mono ?_
  rw [G3.out]
  rintro e w' ⟨rfl, rfl⟩
  go_wp2
  clear HU HA HWW t2 t4 y0 r0 r1 u0 u1
  go_loopw [7, 8, 9, 10, 11] (fun _ v i _ _ wr => ∃ (q k : Nat) (xs : List Value), Hid (q + 1 = k) ∧ k ≤ m ∧ i = .int .i64 k ∧ (∃ G d, v = .slice G q d) ∧ wr.ownsRow W.heap.size 2 1 v q xs ∧ Hid (∀ j, j < q → xs[j]? = some (.int .i64 (soQ x y (j + 1)))) ∧ Hid (∀ i, 1 ≤ i → i < k → soM x y i) ∧ Hid (Below W.heap.size W wr)) (fun _ _ i _ _ _ => m - (intOf i).toNat)
  case atStart => exact ⟨0, 1, [], rfl, n1, rfl, ⟨_, _, rfl⟩, World.ownsRow_nil _ _ _ _, fun j hj => absurd hj (by omega), fun i h1 h2 => absurd h2 (by omega), Below.refl _ _⟩
  case round =>
    obtain ⟨q, k, xs, hqk, hk, rfl, ⟨G, dG, rfl⟩, hown, hxs, hgood, hbel⟩ := hrel
    have hqe := hqk.out
    have hsz := hbel.out.size
    have HR2 := hide (hbel.out.block w.heap.size (by omega) |>.trans HR.out)
    have u0 := Joins.unfrozen_of_block HR2.out 0
    have u1 := Joins.unfrozen_of_block HR2.out 1
    have r0 := Joins.cell_of_block HR2.out 0
    have r1 := Joins.cell_of_block HR2.out 1
    simp at u0 u1 r0 r1
    by_cases hlt : k < m
    · have hki : (k : Int) < (m : Int) := by omega
      have x1 := (hbel.out.cell (p := ⟨ba, oa + k, none⟩) hba).trans (HCA.out k hlt)
      have x2 := (hbel.out.cell (p := ⟨ba, oa + (k - 1), none⟩) hba).trans (HCA.out (k - 1) (by omega))
      have y1 := (hbel.out.cell (p := ⟨bb, ob + k, none⟩) hbb).trans (HCB.out k hlt)
      have y2 := (hbel.out.cell (p := ⟨bb, ob + (k - 1), none⟩) hbb).trans (HCB.out (k - 1) (by omega))
      have bx := soX_bd HSB.out.1 (i := k) (by omega) hlt
      have by' := soA_bd HSB.out.2.2.1 (i := k) hlt
      have ax := HSB.out.1.2.2.2.1 k hlt
      have ax' := HSB.out.1.2.2.2.1 (k - 1) (by omega)
      have ay := HSB.out.2.2.1 k hlt
      have ay' := HSB.out.2.2.1 (k - 1) (by omega)
      have EA := hide (show (y k - y (k - 1)) * 10000 = soA y k from rfl)
      have EX := hide (show x k - x (k - 1) = soX x k from rfl)
      have j0 : (0 : Int) ≤ (k : Int) - 1 := by omega
      have j1 : (k : Int) - 1 < (m : Int) := by omega
      by_cases hmo : soM x y k
      · have hy := so_yes (a := soA y k) (b := soX x k) hmo
        have HQ := hide (show (soA y k).tdiv (soX x k) = soQ x y k from hy.2)
        have HM0 := hide hy.1
        have HMO := hide hmo
        clear hmo hy
        have e1 : ((y k - y (k - 1)) * 10000).tmod (x k - x (k - 1)) = 0 := by rw [EA.out, EX.out]; exact HM0.out
        have e2 : ((y k - y (k - 1)) * 10000).tdiv (x k - x (k - 1)) = soQ x y k := by rw [EA.out, EX.out]; exact HQ.out
        have hzq : (x k - x (k - 1) == 0) = false := by rw [EX.out]; simp; omega
        have bq := soQ_bd HSB.out.1 HSB.out.2.2.1 (i := k) (by omega) hlt
        obtain ⟨bq0, bq1⟩ := bq
        generalize hQQ : soQ x y k = Q at *
        have HQQ := hide hQQ
        clear hQQ
        generalize x k = X1 at *
        generalize x (k - 1) = X2 at *
        generalize y k = Y1 at *
        generalize y (k - 1) = Y2 at *
        have hX : 0 < X1 - X2 := by rw [EX.out]; omega
        have HOW := hide hown
        clear bx by'
        have e1b : (((Y1 - Y2) * 10000).tmod (X1 - X2) != 0) = false := by rw [e1]; rfl
        go_wp2
        go_quiet (fail)
        go_wp2_with (at_builtin; go_loud (refine wpList_append_own_at _ rfl _ _ 22 rfl W.heap.size 2 i0 (.int .i64 0) 1 8 Try.underlying22 hi iz0 iz1 iz2 rfl (by decide) _ _ _ rfl (by exact (World.ownsRow.alloc (w := wr.drewN _) HOW.out _)) ⟨_, 0, none⟩ 1 1 [.int .i64 Q] rfl rfl (cell_one_new _ _ _) (by intro u hu; simp at hu; subst hu; rfl) (by unfold maxLen; omega) (by omega) (by simp; omega) ?_))
        intro v' w2 hown2 hgrow _ hat2
        obtain ⟨g2, d2, rfl⟩ := Joins.ownsRow_form hown2 (by omega)
        have HB2 := hide (((bel_dS hbel.out _).alloc hbel.out.size (.cells #[.int .i64 Q] 2)).grown hgrow (by simp; have := hbel.out.size; omega) (fun j hj => by have := (HOW.out.lt j hj).1; omega))
        have HO2 := hide hown2
        have HLL := hide (show xs.length = q by have := HOW.out.1; omega)
        have HGS := hide (so_next hgood.out HMO.out)
        clear hown2 hgrow hown hat2
        go_wp2
        go_roundw
        case rel => exact ⟨q + 1, k + 1, xs ++ [.int .i64 Q], by rw [hqe]; exact rfl, hlt, by go_num, ⟨some ⟨g2, 0, none⟩, d2, by rw [hqe]⟩, by rw [hqe]; exact HO2.out, own_step HLL.out hxs.out (by rw [hqe, HQQ.out]), HGS.out, HB2.out⟩
        case measure => simp [intOf]; omega
      · have HN := hide (show ¬ soP x m y m L from fun h => hmo (h.2.1 k (by omega) hlt))
        have HNM := hide (so_no (a := soA y k) (b := soX x k) hmo)
        clear hmo
        have e1 : ¬ ((y k - y (k - 1)) * 10000).tmod (x k - x (k - 1)) = 0 := by rw [EA.out, EX.out]; exact HNM.out
        have hzq : (x k - x (k - 1) == 0) = false := by rw [EX.out]; simp; omega
        generalize x k = X1 at *
        generalize x (k - 1) = X2 at *
        generalize y k = Y1 at *
        generalize y (k - 1) = Y2 at *
        have hX : 0 < X1 - X2 := by rw [EX.out]; omega
        clear bx by' hown
        have e1b : (((Y1 - Y2) * 10000).tmod (X1 - X2) != 0) = true := by rw [bne_iff_ne]; exact e1
        go_wp2
        go_quiet (fail)
        go_wp2
        refine bodyPost_ret (v := .tuple #[.agg #[.slice none 0 0, .slice none 0 0], .bool false]) (by simp [results, Try.results48, go_sem, r0, r1]) rfl (gavet_no HN.out ?_)
        exact ((bel_dS (HB.out.trans (hbel.out.mono (by omega))) _).setCell (by simp) _).setCell (by simp) _
    · obtain rfl : m = k := by omega
      have HS3 := hide (HS.out.below hbel.out)
      have HOW := hide hown
      have hlG : ∀ g, (Value.slice G q dG).ownBlock = some g → W.heap.size ≤ g ∧ g < wr.heap.size := fun g hg => hown.lt g hg
      have HLG := hide hlG
      have HLL := hide (show xs.length = q by have := hown.1; omega)
      have HW1 := hide (HB.out.trans (hbel.out.mono (by omega)))
      clear hown hlG
      go_wp2_with fail
      refine (cloneOwn_any (some ⟨ba, oa, none⟩) m c x _ n1 (by omega) HS3.out).mono ?_
      rintro e w3 ⟨g3, d3, xs3, rfl, hown3, hx3, hb3⟩
      have hz3 := hb3.size
      have HB3 := hide hb3
      have HO3 := hide (own_stays HOW.out hb3)
      have HC3 := hide hown3
      have HX3 := hide hx3
      have HW3 := hide (HW1.out.trans (hb3.mono (by omega)))
      have HR3 := hide (hb3.block w.heap.size (by omega) |>.trans HR2.out)
      clear hown3 hx3 hb3 r0 r1 u0 u1
      go_wp2_with (at_builtin; go_loud (refine wpList_append_own_at _ rfl _ _ 22 rfl W.heap.size 2 i0 (.int .i64 0) 1 8 Try.underlying22 hi iz0 iz1 iz2 rfl (by decide) _ _ _ rfl (by exact (HO3.out.alloc _)) ⟨_, 0, none⟩ 1 1 [.int .i64 L] rfl rfl (cell_one_new _ _ _) (by intro u hu; simp at hu; subst hu; rfl) (by unfold maxLen; omega) (by omega) (by simp; omega) ?_))
      intro v' w4 hown4 hgrow _ hat4
      obtain ⟨g4, d4, rfl⟩ := Joins.ownsRow_form hown4 (by omega)
      have lt3 := HC3.out.lt g3 rfl
      have HNE := hide (show g3 ≠ g4 from by
        intro e
        rcases hat4 with h | h
        · have := HLG.out g4 h.symm; omega
        · simp [Value.ownBlock] at h; omega)
      have hC4 := World.ownsRow.kept (w := w3.alloc (.cells #[.int .i64 L] 2)) (HC3.out.alloc _) hgrow (.inr (fun e => by have := HLG.out g3 e.symm; omega))
      have HPa := hide (OW.of_owns (f := fun j => .int .i64 (x j)) hC4 HX3.out)
      have HPb := hide (OW.of_owns (f := fun j => .int .i64 (soR x y L m j)) hown4 (fun j hj => own_step (F := fun j => .int .i64 (soR x y L m j)) HLL.out (fun j hj => by rw [hxs.out j hj, soR_in (by omega)]) (by rw [soR_last (by omega)]) j (by omega)))
      have HW4 := hide ((HW3.out.alloc HW3.out.size (.cells #[.int .i64 L] 2)).grown hgrow (by simp; omega) (fun j hj => by have := HLG.out j hj; omega))
      have HR4 := hide ((hgrow.block w.heap.size (by simp; omega) (fun e => by have := HLG.out _ e.symm; omega)).trans ((Below.heap_alloc w3 _ w.heap.size (by omega)).trans HR3.out))
      have hz4 : wr.heap.size ≤ w4.heap.size := by have := hgrow.size; simp at this; omega
      clear hown4 hgrow hat4 hC4
      by_cases hv : Val x (soR x y L m) m m
      · have HP := hide (so_of HSB.out hgood.out hv)
        have HV := hide hv
        clear hv
        go_wp2_with fail
        refine (made_yes (some ⟨g3, 0, none⟩) (some ⟨g4, 0, none⟩) m d3 m d4 x (soR x y L m) _ hm hm HPa.out.sl HPb.out.sl HV.out).mono ?_
        rintro e w5 ⟨rfl, hb5⟩
        have hz5 := hb5.size
        have hR5 := blk_below hb5 (by omega) HR4.out
        have f0 := Joins.unfrozen_of_block hR5 0
        have f1 := Joins.unfrozen_of_block hR5 1
        have q0 := Joins.cell_of_block hR5 0
        have q1 := Joins.cell_of_block hR5 1
        simp at q0 q1
        have hE := Joins.block_setCell (i := 1) (Joins.block_setCell (i := 0) hR5 (.slice (some ⟨g3, 0, none⟩) m d3)) (.slice (some ⟨g4, 0, none⟩) m d4)
        have z0 := Joins.cell_of_block hE 0
        have z1 := Joins.cell_of_block hE 1
        simp at z0 z1
        have Z0 := hide z0
        have Z1 := hide z1
        have HG := hide (gavet_yes (d := d3) (d' := d4) HP.out (⟨(((HPa.out.below hb5).setCell (p := ⟨w.heap.size, 0, none⟩) (v := .slice (some ⟨g3, 0, none⟩) m d3) (.inl (by show w.heap.size < _; omega))).setCell (p := ⟨w.heap.size, 1, none⟩) (v := .slice (some ⟨g4, 0, none⟩) m d4) (.inl (by show w.heap.size < _; omega))).wide (by omega) (by simp; omega), (((HPb.out.below hb5).setCell (p := ⟨w.heap.size, 0, none⟩) (v := .slice (some ⟨g3, 0, none⟩) m d3) (.inl (by show w.heap.size < _; omega))).setCell (p := ⟨w.heap.size, 1, none⟩) (v := .slice (some ⟨g4, 0, none⟩) m d4) (.inl (by show w.heap.size < _; omega))).wide (by omega) (by simp; omega), fun _ _ e => HNE.out (by injection e with e; injection e)⟩ : OW2 _ w.heap.size _ _ m x _ m (soR x y L m)) (((HW4.out.trans (hb5.mono (by omega))).setCell (p := ⟨w.heap.size, 0, none⟩) (by simp) (.slice (some ⟨g3, 0, none⟩) m d3)).setCell (p := ⟨w.heap.size, 1, none⟩) (by simp) (.slice (some ⟨g4, 0, none⟩) m d4)))
        clear hb5 hR5 hE z0 z1
        go_wp2
        refine bodyPost_ret (v := .tuple #[.agg #[.slice (some ⟨g3, 0, none⟩) m d3, .slice (some ⟨g4, 0, none⟩) m d4], .bool true]) ?_ rfl ?_
        · simp [results, Try.results48, go_sem, Z0.out, Z1.out]
        · exact HG.out
      · have HP := hide (show ¬ soP x m y m L from fun h => hv (so_val h))
        have HV := hide hv
        clear hv
        go_wp2_with fail
        refine (made_no (some ⟨g3, 0, none⟩) (some ⟨g4, 0, none⟩) m d3 m d4 x (soR x y L m) _ hm hm HPa.out.sl HPb.out.sl HV.out).mono ?_
        rintro e w5 ⟨rfl, hb5⟩
        have hz5 := hb5.size
        have hR5 := blk_below hb5 (by omega) HR4.out
        have f0 := Joins.unfrozen_of_block hR5 0
        have f1 := Joins.unfrozen_of_block hR5 1
        have q0 := Joins.cell_of_block hR5 0
        have q1 := Joins.cell_of_block hR5 1
        simp at f0 f1 q0 q1
        have HB5 := hide (HW4.out.trans (hb5.mono (by omega)))
        clear hb5 hR5
        go_wp2
        refine bodyPost_ret (v := .tuple #[.agg #[.slice none 0 0, .slice none 0 0], .bool false]) (by simp [results, Try.results48, go_sem, q0, q1]) rfl (gavet_no HP.out ?_)
        exact (HB5.out.setCell (by simp) _).setCell (by simp) _
end Go.Proofs.Ytbcajjpgpjadaaa
