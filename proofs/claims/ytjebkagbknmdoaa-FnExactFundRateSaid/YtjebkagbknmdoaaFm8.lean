/- FundRate, by the program. -/
import Derived.Test.YtjebkagbknmdoaaFi8
import Derived.Test.YtjebkagbknmdoaaFs8
namespace Go.Proofs.Ytjebkagbknmdoaa
open Go.RowKit Go.Dues
theorem mid_half {v : Nat} {x y z : Nat → Nat} {n k a b : Nat} (ha : FR .f32 a (fop .add .f32 (stF v x y z n k).1 (stF v x y z n k).2)) (hb : FR .f32 b (fop .quo .f32 a 1073741824)) : b = miF v x y z n k := by
  obtain ⟨h1, h2⟩ := st_le v x y z n k
  obtain ⟨h3, h4⟩ := half_le h1 h2
  have e1 := FS.eq ha.same (ffin_nan (ffin_low h3))
  subst e1
  rw [half32 h3] at hb
  exact FS.eq hb.same (ffin_nan (ffin_low (by show midF (stF v x y z n k).1 (stF v x y z n k).2 < 2139095040; omega)))
theorem lt_geB {x : Nat} (h : ffin .f32 x = true) : (FloatKind.f32.format.order x 0 == some .lt) = !geB x 0 := by
  obtain ⟨s, m, e, hr⟩ := ffin_number h
  have h0 : FloatKind.f32.format.read 0 = .number false 0 (-149) := by decide +kernel
  have h1 : ∃ c, od x 0 = some c := by
    unfold od Ieee.Format.order
    rw [hr, h0]
    exact ⟨_, rfl⟩
  obtain ⟨c, hc⟩ := h1
  have hc2 : FloatKind.f32.format.order x 0 = some c := hc
  unfold geB
  rw [hc, hc2]
  cases c <;> rfl
set_option maxRecDepth 100000 in
set_option maxHeartbeats 8000000 in
theorem implFundRate_any (v : Nat) (A : Option Addr) (n c : Nat) (x : Nat → Nat) (B : Option Addr) (m d : Nat) (y : Nat → Nat) (C : Option Addr) (l f : Nat) (z : Nat → Nat) (r : Int) (w : World) (hn : n ≤ 1048576) (hs : SL w A n (fun j => .float .f32 (x j))) (hx : ∀ j, j < n → (Lit.float .f32 (x j)).wf = true) (hm : m ≤ 1048576) (hs' : SL w B m (fun j => .float .f32 (y j))) (_hy : ∀ j, j < m → (Lit.float .f32 (y j)).wf = true) (hl : l ≤ 1048576) (hs'' : SL w C l (fun j => .float .f32 (z j))) (_hz : ∀ j, j < l → (Lit.float .f32 (z j)).wf = true) :
    Calls Try.prog 45 #[.float .f32 v, .slice A n c, .slice B m d, .slice C l f, .int .i64 r] w fun e w' => GaveV w w' e (frP v x n y m z l r) (frV v x y z n r) := by
  have hn' : n ≤ maxLen := by unfold maxLen; omega
  have hm' : m ≤ maxLen := by unfold maxLen; omega
  have hl' : l ≤ maxLen := by unfold maxLen; omega
  obtain ⟨W1, hW1⟩ : ∃ u, u = w.alloc (.cells #[.float .f32 v] 62) := ⟨_, rfl⟩
  obtain ⟨W2, hW2⟩ : ∃ u, u = W1.alloc (.cells #[.slice A n c] 45) := ⟨_, rfl⟩
  obtain ⟨W3, hW3⟩ : ∃ u, u = W2.alloc (.cells #[.slice B m d] 45) := ⟨_, rfl⟩
  obtain ⟨W, hW⟩ : ∃ u, u = W3.alloc (.cells #[.slice C l f] 45) := ⟨_, rfl⟩
  have z1 : W1.heap.size = w.heap.size + 1 := by rw [hW1]; simp
  have z2 : W2.heap.size = w.heap.size + 2 := by rw [hW2]; simp; omega
  have z3 : W3.heap.size = w.heap.size + 3 := by rw [hW3]; simp; omega
  have z4 : W.heap.size = w.heap.size + 4 := by rw [hW]; simp; omega
  have hB1 : Below w.heap.size w W1 := by rw [hW1]; exact (Below.refl _ _).alloc (Nat.le_refl _) _
  have hB2 : Below W1.heap.size W1 W2 := by rw [hW2]; exact (Below.refl _ _).alloc (Nat.le_refl _) _
  have hB3 : Below W2.heap.size W2 W3 := by rw [hW3]; exact (Below.refl _ _).alloc (Nat.le_refl _) _
  have hB4 : Below W3.heap.size W3 W := by rw [hW]; exact (Below.refl _ _).alloc (Nat.le_refl _) _
  have h5 : W.heap[w.heap.size]? = some (.cells #[.float .f32 v] 62) := by
    refine blk_below hB4 (by omega) (blk_below hB3 (by omega) (blk_below hB2 (by omega) ?_))
    rw [hW1]; exact blocks1 w _
  have h6 : W.heap[w.heap.size + 1]? = some (.cells #[.slice A n c] 45) := by
    refine blk_below hB4 (by omega) (blk_below hB3 (by omega) ?_)
    rw [← z1, hW2]; exact blocks1 W1 _
  have h7 : W.heap[w.heap.size + 2]? = some (.cells #[.slice B m d] 45) := by
    refine blk_below hB4 (by omega) ?_
    rw [← z2, hW3]; exact blocks1 W2 _
  have h8 : W.heap[w.heap.size + 3]? = some (.cells #[.slice C l f] 45) := by
    rw [← z3, hW]; exact blocks1 W3 _
  have HBW : Hid (Below w.heap.size w W) := ((hB1.trans (hB2.mono (by omega))).trans (hB3.mono (by omega))).trans (hB4.mono (by omega))
  have HS := hide (hs.below HBW.out)
  have HS' := hide (hs'.below HBW.out)
  have HS'' := hide (hs''.below HBW.out)
  have HEW := fun (b : Nat) (wr : World) (h : Below W.heap.size W wr) => hide (endWith_any b w.heap.size (w.heap.size + 1) (w.heap.size + 2) (w.heap.size + 3) v A n c x B m d y C l f z wr (blk_below h (by omega) h5) (blk_below h (by omega) h6) (blk_below h (by omega) h7) (blk_below h (by omega) h8) hn hn' (HS.out.below h) hx hm' (HS'.out.below h) _hy hl' (HS''.out.below h) _hz)
  have HW1 := hide hW1
  have HW2 := hide hW2
  have HW3 := hide hW3
  have HWW := hide hW
  have HZ4 := hide (show w.heap.size ≤ W.heap.size by omega)
  clear hs hs' hs'' hW1 hW2 hW3 hW z1 z2 z3 z4 hB1 hB2 hB3 hB4 h5 h6 h7 h8
  cases g : inB r 1 40
  · have HH := hide (show ¬ frP v x n y m z l r from fun h => by rw [inB_yes h.2.1] at g; cases g)
    go_enter Try.func45, Try.ntmps45
    go_wp2_with (go_at_call 71; refine (implWithin_any _ _ _ _).mono ?_; rintro e w' ⟨rfl, rfl⟩)
    rw [← HW1.out, ← HW2.out, ← HW3.out, ← HWW.out]
    go_ret2
    exact gavev_no HH.out HBW.out
  have HR := hide (inB_iff.1 g)
  obtain ⟨r0, r1⟩ := inB_iff.1 g
  go_enter Try.func45, Try.ntmps45
  go_wp2_with (go_at_call 71; refine (implWithin_any _ _ _ _).mono ?_; rintro e w' ⟨rfl, rfl⟩)
  rw [← HW1.out, ← HW2.out, ← HW3.out, ← HWW.out]
  clear HW1 HW2 HW3 HWW g
  refine (HEW 1098907648 W (Below.refl _ _)).out.mono ?_
  rintro e w1 ⟨q, rfl, hq, hb⟩
  by_cases hp : rfP v (tmX x 1098907648) n y m z l
  rotate_left
  · have HH := hide (show ¬ frP v x n y m z l r from fun h => hp (rf_iff.2 ⟨h.1, h.2.2.1⟩))
    rw [tru_no hp]
    have HB := hide (HBW.out.trans (hb.mono HBW.out.size))
    clear hp hq hb
    go_wp2
    go_ret2
    exact gavev_no HH.out HB.out
  obtain ⟨hfd, hro⟩ := rf_iff.1 hp
  rw [tru_yes hp]
  rw [ifF_yes hp] at hq
  have n1 := hfd.2.1.1
  have hfq : ffin .f32 q = true := by rw [ffin_same hq]; exact hro (n - 1) (by omega)
  have hge : geB q 0 = lastGe v x y z n 1098907648 := by
    unfold lastGe lastV geB
    rw [od_same hq]
  have hlt := lt_geB hfq
  rw [hge] at hlt
  have HFD := hide hfd
  have HRO := hide hro
  have HB1 := hide hb
  clear hp hq hb hfd hro hfq hge
  cases hg : lastGe v x y z n 1098907648
  · rw [hg] at hlt
    have hlt2 : (FloatKind.f32.format.order q 0 == some .lt) = true := hlt
    have HH := hide (show ¬ frP v x n y m z l r from fun h => by have h2 := h.2.2.2.1; rw [hg] at h2; cases h2)
    clear hlt hg
    go_wp2
    go_ret2
    exact gavev_no HH.out (HBW.out.trans (HB1.out.mono HBW.out.size))
  rw [hg] at hlt
  have hlt2 : (FloatKind.f32.format.order q 0 == some .lt) = false := hlt
  have HGE := hide hg
  clear hlt hg
  go_wp2
  go_loopw [10, 11, 13, 14, 17, 18, 19, 37] (fun r10 r11 lo hi _ _ _ i wr => ∃ (k : Nat) (L H : Nat), (k : Int) ≤ r ∧ r10 = .float .f32 0 ∧ r11 = .bool false ∧ i = .int .i64 k ∧ lo = .float .f32 L ∧ hi = .float .f32 H ∧ Hid (L = (stF v x y z n k).1 ∧ H = (stF v x y z n k).2) ∧ Hid (∀ j, j < k → rowOK v x y z n (miF v x y z n j)) ∧ Below W.heap.size W wr) (fun _ _ _ _ _ _ _ i _ => (r - intOf i).toNat)
  case atStart => exact ⟨0, 0, 1098907648, by omega, rfl, rfl, rfl, rfl, rfl, ⟨rfl, rfl⟩, fun j hj => absurd hj (by omega), HB1.out⟩
  case round =>
    clear HB1
    obtain ⟨k, L, H, hk, rfl, rfl, rfl, rfl, rfl, hst, hcond, hbel⟩ := hrel
    have HBEL := hide hbel
    clear hbel
    by_cases hlt : (k : Int) < r
    rotate_left
    · have HK := hide (show k = r.toNat by omega)
      have HH := hide (show frP v x n y m z l r from ⟨HFD.out, HR.out, HRO.out, HGE.out, fun j hj => hcond.out j (by omega)⟩)
      have HVV := hide (show H = frV v x y z n r by rw [hst.out.2, HK.out]; rfl)
      clear hcond
      go_wp2
      go_ret2
      exact gavev_yes HH.out (.inl HVV.out) (HBW.out.trans (HBEL.out.mono HBW.out.size))
    obtain ⟨M, hM⟩ : ∃ M, miF v x y z n k = M := ⟨_, rfl⟩
    have HM := hide hM
    clear hM
    have HF1 := hide (show ∀ a b, FR .f32 a (fop .add .f32 L H) → FR .f32 b (fop .quo .f32 a 1073741824) → b = M from fun a b ha hb => by
      obtain ⟨e1, e2⟩ := hst.out
      rw [e1, e2] at ha
      rw [← HM.out]
      exact mid_half ha hb)
    go_wp2_with (refine wpList_far _ rfl _ _ _ _ _ rfl (by decide) _ _ _ rfl rfl ?_; intro _ _ _)
    have f1 := ‹FR .f32 _ (fop .add .f32 L H)›
    have f2 := ‹FR .f32 _ (fop .quo .f32 _ 1073741824)›
    have e1 := (HF1.out _ _ f1 f2).symm
    clear f1 f2 HF1
    subst e1
    refine (HEW M _ (bel_q HBEL.out _)).out.mono ?_
    rintro e w3 ⟨q, rfl, hq, hb⟩
    have HB3 := hide (HBEL.out.trans ((show Below wr.heap.size wr w3 from ⟨hb.os, hb.tape, hb.output, hb.size, hb.block⟩).mono HBEL.out.size))
    clear hb HBEL
    by_cases hp : rfP v (tmX x M) n y m z l
    rotate_left
    · have HH := hide (show ¬ frP v x n y m z l r from fun h => hp (rf_iff.2 ⟨h.1, by rw [← HM.out]; exact h.2.2.2.2 k hlt⟩))
      rw [tru_no hp]
      clear hp hq
      go_wp2
      go_ret2
      exact gavev_no HH.out (HBW.out.trans (HB3.out.mono HBW.out.size))
    have hro := (rf_iff.1 hp).2
    rw [tru_yes hp]
    rw [ifF_yes hp] at hq
    have hge : geB q 0 = lastGe v x y z n M := by
      unfold lastGe lastV geB
      rw [od_same hq]
    have HROM := hide hro
    clear hp hq hro
    cases hg : lastGe v x y z n M
    · rw [hg] at hge
      have hg2 : (FloatKind.f32.format.order q 0 == some .gt || FloatKind.f32.format.order q 0 == some .eq) = false := hge
      have HLG := hide hg
      clear hge hg
      go_wp2
      go_roundw
      case rel =>
        refine ⟨k + 1, M, H, by omega, rfl, rfl, by go_num, rfl, rfl, ?_, ?_, HB3.out⟩
        · obtain ⟨e1, e2⟩ := hst.out
          show M = (stF v x y z n (k + 1)).1 ∧ H = (stF v x y z n (k + 1)).2
          unfold stF
          have hm : midF (stF v x y z n k).1 (stF v x y z n k).2 = M := HM.out
          rw [hm, if_neg (by rw [HLG.out]; decide)]
          exact ⟨rfl, e2⟩
        · intro j hj
          by_cases hjk : j = k
          · subst hjk; rw [HM.out]; exact HROM.out
          · exact hcond.out j (by omega)
      case measure => simp [intOf]; omega
    · rw [hg] at hge
      have hg2 : (FloatKind.f32.format.order q 0 == some .gt || FloatKind.f32.format.order q 0 == some .eq) = true := hge
      have HLG := hide hg
      clear hge hg
      go_wp2
      go_roundw
      case rel =>
        refine ⟨k + 1, L, M, by omega, rfl, rfl, by go_num, rfl, rfl, ?_, ?_, HB3.out⟩
        · obtain ⟨e1, e2⟩ := hst.out
          show L = (stF v x y z n (k + 1)).1 ∧ M = (stF v x y z n (k + 1)).2
          unfold stF
          have hm : midF (stF v x y z n k).1 (stF v x y z n k).2 = M := HM.out
          rw [hm, if_pos HLG.out]
          exact ⟨e1, rfl⟩
        · intro j hj
          by_cases hjk : j = k
          · subst hjk; rw [HM.out]; exact HROM.out
          · exact hcond.out j (by omega)
      case measure => simp [intOf]; omega
end Go.Proofs.Ytjebkagbknmdoaa
