/- FundRate, by the reference. -/
import Derived.Test.YtjebkagbknmdoaaFo8
namespace Go.Proofs.Ytjebkagbknmdoaa
open Go.RowKit Go.Dues
theorem mid_word {v : Nat} {x y z : Nat → Nat} {n k a b : Nat} (ha : FR .f32 a (fop .add .f32 (stF v x y z n k).1 (stF v x y z n k).2)) (hb : FR .f32 b (fop .mul .f32 1056964608 a)) : b = miF v x y z n k := by
  obtain ⟨h1, h2⟩ := st_le v x y z n k
  obtain ⟨h3, h4⟩ := half_le h1 h2
  have e1 := FS.eq ha.same (ffin_nan (ffin_low h3))
  subst e1
  exact FS.eq hb.same (ffin_nan (ffin_low (by show midF (stF v x y z n k).1 (stF v x y z n k).2 < 2139095040; omega)))
set_option maxRecDepth 100000 in
set_option maxHeartbeats 8000000 in
theorem specFundRate_any (v : Nat) (A : Option Addr) (n c : Nat) (x : Nat → Nat) (B : Option Addr) (m d : Nat) (y : Nat → Nat) (C : Option Addr) (l f : Nat) (z : Nat → Nat) (r : Int) (w : World) (hn : n ≤ 1048576) (hs : SL w A n (fun j => .float .f32 (x j))) (hx : ∀ j, j < n → (Lit.float .f32 (x j)).wf = true) (hm : m ≤ 1048576) (hs' : SL w B m (fun j => .float .f32 (y j))) (_hy : ∀ j, j < m → (Lit.float .f32 (y j)).wf = true) (hl : l ≤ 1048576) (hs'' : SL w C l (fun j => .float .f32 (z j))) (_hz : ∀ j, j < l → (Lit.float .f32 (z j)).wf = true) :
    Calls Try.prog 43 #[.float .f32 v, .slice A n c, .slice B m d, .slice C l f, .int .i64 r] w fun e w' => GaveV w w' e (frP v x n y m z l r) (frV v x y z n r) := by
  have hn : n ≤ maxLen := by unfold maxLen; omega
  have hm : m ≤ maxLen := by unfold maxLen; omega
  have hl : l ≤ maxLen := by unfold maxLen; omega
  have HV := hide (specFund7_any v A n c x B m d y C l f z w hn hs hm hs' hl hs'')
  have HS := hide hs
  have HS' := hide hs'
  have HS'' := hide hs''
  unfold maxLen at hn hm hl
  clear hs hs' hs'' hx
  by_cases hp : fdP v x n y m z l
  rotate_left
  · have HT := hide (tru_no hp)
    have HH := hide (show ¬ frP v x n y m z l r from fun h => hp h.1)
    clear hp
    go_enter Try.func43, Try.ntmps43
    go_wp2_with fail
    refine HV.out.mono ?_
    rw [HT.out]
    rintro e w1 ⟨rfl, q1, rfl⟩
    go_wp2_with (go_at_call 92; refine (specIn_any _ _ _ _).mono ?_; rintro e w' ⟨rfl, rfl⟩)
    go_ret2
    exact gavev_no HH.out (bel_q (Below.refl _ _) _)
  have HT := hide (tru_yes hp)
  have HPP := hide hp
  have n64 := hp.2.1.2
  have n1 := hp.2.1.1
  obtain rfl : m = n := hp.2.2.1
  obtain rfl : l = m := hp.2.2.2.1
  clear hp
  cases g : inB r 1 40
  · have HH := hide (show ¬ frP v x l y l z l r from fun h => by rw [inB_yes h.2.1] at g; cases g)
    go_enter Try.func43, Try.ntmps43
    go_wp2_with fail
    refine HV.out.mono ?_
    rw [HT.out]
    rintro e w1 ⟨rfl, q1, rfl⟩
    go_wp2_with (go_at_call 92; refine (specIn_any _ _ _ _).mono ?_; rintro e w' ⟨rfl, rfl⟩)
    go_ret2
    exact gavev_no HH.out (bel_q (Below.refl _ _) _)
  have HR := hide (inB_iff.1 g)
  obtain ⟨r0, r1⟩ := inB_iff.1 g
  go_enter Try.func43, Try.ntmps43
  go_wp2_with fail
  refine HV.out.mono ?_
  rw [HT.out]
  rintro e W ⟨rfl, q1, hq⟩
  have HBW : Hid (Below w.heap.size w W) := by rw [hq]; exact bel_q (Below.refl _ _) _
  have HSa : Hid (SL W A l (fun j => .float .f32 (x j))) := by rw [hq]; exact HS.out
  have HSb : Hid (SL W B l (fun j => .float .f32 (y j))) := by rw [hq]; exact HS'.out
  have HSc : Hid (SL W C l (fun j => .float .f32 (z j))) := by rw [hq]; exact HS''.out
  clear hq HV
  go_wp2_with (go_at_call 92; refine (specIn_any _ _ _ _).mono ?_; rintro e w' ⟨rfl, rfl⟩)
  have HRU := fun (b : Nat) (wr : World) (h : Below W.heap.size W wr) => hide (specRun7_any v A l c x B l d y C l f z b wr n64 rfl rfl (HSa.out.below h) (HSb.out.below h) (HSc.out.below h))
  have i1 : (l : Int) - 1 < (l : Int) := by omega
  have i2 : ((l : Int) - 1).toNat = l - 1 := by omega
  have i3 : 0 ≤ (l : Int) - 1 := by omega
  clear g
  go_loopw [10, 11, 12, 13, 14, 15, 16] (fun r10 r11 lo hi i _ _ wr => ∃ (k : Nat) (L H : Nat), (k : Int) ≤ r + 1 ∧ r10 = .float .f32 0 ∧ r11 = .bool false ∧ i = .int .i64 k ∧ lo = .float .f32 L ∧ hi = .float .f32 H ∧ Hid (L = (stF v x y z l (k - 1)).1 ∧ H = (stF v x y z l (k - 1)).2) ∧ Hid (1 ≤ k → rowOK v x y z l 1098907648 ∧ lastGe v x y z l 1098907648 = true ∧ ∀ j, j + 1 < k → rowOK v x y z l (miF v x y z l j)) ∧ Below W.heap.size W wr) (fun _ _ _ _ i _ _ _ => (r + 1 - intOf i).toNat)
  case atStart => exact ⟨0, 0, 1098907648, by omega, rfl, rfl, rfl, rfl, rfl, ⟨rfl, rfl⟩, fun h => absurd h (by omega), Below.refl _ _⟩
  case round =>
    obtain ⟨k, L, H, hk, rfl, rfl, rfl, rfl, rfl, hst, hcond, hbel⟩ := hrel
    have HBEL := hide hbel
    clear hbel
    by_cases hlt : (k : Int) ≤ r
    rotate_left
    · have HK := hide (show k - 1 = r.toNat by omega)
      have HH := hide (show frP v x l y l z l r from by
        obtain ⟨c1, c2, c3⟩ := hcond.out (by omega)
        exact ⟨HPP.out, HR.out, c1, c2, fun j hj => c3 j (by omega)⟩)
      have HVV := hide (show H = frV v x y z l r by rw [hst.out.2, HK.out]; rfl)
      clear hcond
      go_wp2
      go_ret2
      exact gavev_yes HH.out (.inl HVV.out) (HBW.out.trans (HBEL.out.mono HBW.out.size))
    have hlt' : ¬ r < (k : Int) := by omega
    rcases k with _ | k
    · have HH0 := hide (show H = 1098907648 from hst.out.2)
      have HL0 := hide (show L = 0 from hst.out.1)
      clear hst hcond
      have hk0 : ((0 : Nat) : Int) = 0 := rfl
      rw [hk0] at hlt hlt' ⊢
      go_wp2_with (refine wpList_far _ rfl _ _ _ _ _ rfl (by decide) _ _ _ rfl rfl ?_; intro _ _ _)
      refine (HRU H _ (bel_q HBEL.out _)).out.mono ?_
      rintro e w3 ⟨G, d3, u, rfl, ho, hu, hb⟩
      have HB3 := hide (HBEL.out.trans ((show Below wr.heap.size wr w3 from ⟨hb.os, hb.tape, hb.output, hb.size, hb.block⟩).mono HBEL.out.size))
      have HU := hide (show ∀ j, j < l → FS .f32 (u j) (rnV v (tmX x H) y z j) from hu)
      have HFN := hide (specFinL_any G l d3 u w3 (by unfold maxLen; omega) ho.sl)
      obtain ⟨bb, oo, hGe, hbb, hcc⟩ := ho.sl.at_ (by omega)
      subst hGe
      have hcl := hcc (l - 1) (by omega)
      clear hb ho hu hcc HBEL
      by_cases hrow : rowOK v x y z l H
      rotate_left
      · have HH := hide (show ¬ frP v x l y l z l r from fun h => hrow (by rw [HH0.out]; exact h.2.2.1))
        have HTF := hide (tru_no (show ¬ ∀ j, j < l → ffin .f32 (u j) = true from fun h => hrow (fun j hj => by rw [← ffin_same (HU.out j hj)]; exact h j hj)))
        go_wp2_with fail
        refine HFN.out.mono ?_
        rw [HTF.out]
        rintro e w' ⟨rfl, q, rfl⟩
        go_wp2
        go_ret2
        exact gavev_no HH.out (bel_q (HBW.out.trans (HB3.out.mono HBW.out.size)) _)
      have HTF := hide (tru_yes (show ∀ j, j < l → ffin .f32 (u j) = true from fun j hj => by rw [ffin_same (HU.out j hj)]; exact hrow j hj))
      have HROW := hide hrow
      have HGE := hide (show geB (u (l - 1)) 0 = lastGe v x y z l H by
        unfold lastGe lastV geB
        rw [od_same (HU.out (l - 1) (by omega))])
      clear hrow
      cases hg : lastGe v x y z l H
      · have hg2 : (FloatKind.f32.format.order (u (l - 1)) 0 == some .gt || FloatKind.f32.format.order (u (l - 1)) 0 == some .eq) = false := HGE.out.trans hg
        have HH := hide (show ¬ frP v x l y l z l r from fun h => by have h2 := h.2.2.2.1; rw [← HH0.out, hg] at h2; cases h2)
        clear hg
        go_wp2_with fail
        refine HFN.out.mono ?_
        rw [HTF.out]
        rintro e w' ⟨rfl, q, rfl⟩
        go_wp2
        go_ret2
        exact gavev_no HH.out (bel_q (HBW.out.trans (HB3.out.mono HBW.out.size)) _)
      · have hg2 : (FloatKind.f32.format.order (u (l - 1)) 0 == some .gt || FloatKind.f32.format.order (u (l - 1)) 0 == some .eq) = true := HGE.out.trans hg
        have HLG := hide hg
        clear hg
        go_wp2_with fail
        refine HFN.out.mono ?_
        rw [HTF.out]
        rintro e w' ⟨rfl, q, rfl⟩
        go_wp2
        go_roundw
        case rel => exact ⟨1, L, H, by omega, rfl, rfl, by go_num, rfl, rfl, ⟨HL0.out, HH0.out⟩, fun _ => ⟨by rw [← HH0.out]; exact HROW.out, by rw [← HH0.out]; exact HLG.out, fun j hj => absurd hj (by omega)⟩, bel_q HB3.out _⟩
        case measure => simp [intOf]; omega
    · have hk1 : (((k + 1 : Nat) : Int) == 0) = false := by simp; omega
      obtain ⟨M, hM⟩ : ∃ M, miF v x y z l k = M := ⟨_, rfl⟩
      have HM := hide hM
      clear hM
      have HF1 := hide (show ∀ a b, FR .f32 a (fop .add .f32 L H) → FR .f32 b (fop .mul .f32 1056964608 a) → b = M from fun a b ha hb => by
        obtain ⟨e1, e2⟩ := hst.out
        rw [e1, e2] at ha
        rw [← HM.out]
        exact mid_word ha hb)
      go_wp2_with (refine wpList_far _ rfl _ _ _ _ _ rfl (by decide) _ _ _ rfl rfl ?_; intro _ _ _)
      have f1 := ‹FR .f32 _ (fop .add .f32 L H)›
      have f2 := ‹FR .f32 _ (fop .mul .f32 1056964608 _)›
      have e1 := (HF1.out _ _ f1 f2).symm
      clear f1 f2 HF1
      subst e1
      refine (HRU M _ (bel_q HBEL.out _)).out.mono ?_
      rintro e w3 ⟨G, d3, u, rfl, ho, hu, hb⟩
      have HB3 := hide (HBEL.out.trans ((show Below wr.heap.size wr w3 from ⟨hb.os, hb.tape, hb.output, hb.size, hb.block⟩).mono HBEL.out.size))
      have HU := hide (show ∀ j, j < l → FS .f32 (u j) (rnV v (tmX x M) y z j) from hu)
      have HFN := hide (specFinL_any G l d3 u w3 (by unfold maxLen; omega) ho.sl)
      obtain ⟨bb, oo, hGe, hbb, hcc⟩ := ho.sl.at_ (by omega)
      subst hGe
      have hcl := hcc (l - 1) (by omega)
      clear hb ho hu hcc HBEL
      by_cases hrow : rowOK v x y z l M
      rotate_left
      · have HH := hide (show ¬ frP v x l y l z l r from fun h => hrow (by rw [← HM.out]; exact h.2.2.2.2 k (by omega)))
        have HTF := hide (tru_no (show ¬ ∀ j, j < l → ffin .f32 (u j) = true from fun h => hrow (fun j hj => by rw [← ffin_same (HU.out j hj)]; exact h j hj)))
        go_wp2_with fail
        refine HFN.out.mono ?_
        rw [HTF.out]
        rintro e w' ⟨rfl, q, rfl⟩
        go_wp2
        go_ret2
        exact gavev_no HH.out (bel_q (HBW.out.trans (HB3.out.mono HBW.out.size)) _)
      have HTF := hide (tru_yes (show ∀ j, j < l → ffin .f32 (u j) = true from fun j hj => by rw [ffin_same (HU.out j hj)]; exact hrow j hj))
      have HROW := hide hrow
      have HGE := hide (show geB (u (l - 1)) 0 = lastGe v x y z l M by
        unfold lastGe lastV geB
        rw [od_same (HU.out (l - 1) (by omega))])
      clear hrow
      cases hg : lastGe v x y z l M
      · have hg2 : (FloatKind.f32.format.order (u (l - 1)) 0 == some .gt || FloatKind.f32.format.order (u (l - 1)) 0 == some .eq) = false := HGE.out.trans hg
        have HLG := hide hg
        clear hg
        go_wp2_with fail
        refine HFN.out.mono ?_
        rw [HTF.out]
        rintro e w' ⟨rfl, q, rfl⟩
        go_wp2
        go_roundw
        case rel =>
          obtain ⟨c1, c2, c3⟩ := hcond.out (by omega)
          refine ⟨k + 1 + 1, M, H, by omega, rfl, rfl, by go_num, rfl, rfl, ?_, fun _ => ⟨c1, c2, ?_⟩, bel_q HB3.out _⟩
          · obtain ⟨e1, e2⟩ := hst.out
            rw [show k + 1 - 1 = k by omega] at e1 e2
            show M = (stF v x y z l (k + 1)).1 ∧ H = (stF v x y z l (k + 1)).2
            unfold stF
            have hm : midF (stF v x y z l k).1 (stF v x y z l k).2 = M := HM.out
            rw [hm, if_neg (by rw [HLG.out]; decide)]
            exact ⟨rfl, e2⟩
          · intro j hj
            by_cases hjk : j = k
            · subst hjk; rw [HM.out]; exact HROW.out
            · exact c3 j (by omega)
        case measure => simp [intOf]; omega
      · have hg2 : (FloatKind.f32.format.order (u (l - 1)) 0 == some .gt || FloatKind.f32.format.order (u (l - 1)) 0 == some .eq) = true := HGE.out.trans hg
        have HLG := hide hg
        clear hg
        go_wp2_with fail
        refine HFN.out.mono ?_
        rw [HTF.out]
        rintro e w' ⟨rfl, q, rfl⟩
        go_wp2
        go_roundw
        case rel =>
          obtain ⟨c1, c2, c3⟩ := hcond.out (by omega)
          refine ⟨k + 1 + 1, L, M, by omega, rfl, rfl, by go_num, rfl, rfl, ?_, fun _ => ⟨c1, c2, ?_⟩, bel_q HB3.out _⟩
          · obtain ⟨e1, e2⟩ := hst.out
            rw [show k + 1 - 1 = k by omega] at e1 e2
            show L = (stF v x y z l (k + 1)).1 ∧ M = (stF v x y z l (k + 1)).2
            unfold stF
            have hm : midF (stF v x y z l k).1 (stF v x y z l k).2 = M := HM.out
            rw [hm, if_pos HLG.out]
            exact ⟨e1, rfl⟩
          · intro j hj
            by_cases hjk : j = k
            · subst hjk; rw [HM.out]; exact HROW.out
            · exact c3 j (by omega)
        case measure => simp [intOf]; omega
end Go.Proofs.Ytjebkagbknmdoaa
