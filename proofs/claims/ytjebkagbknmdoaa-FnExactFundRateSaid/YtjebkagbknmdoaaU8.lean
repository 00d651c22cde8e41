/- RunFund, by both. -/
import Derived.Test.YtjebkagbknmdoaaU7
namespace Go.Proofs.Ytjebkagbknmdoaa
open Go.RowKit Go.Dues
theorem allFin_yes (A : Option Addr) (n c : Nat) (x : Nat → Nat) (w : World) (hn : n ≤ maxLen) (hs : SL w A n (fun j => .float .f32 (x j))) (h : ∀ j, j < n → ffin .f32 (x j) = true) :
    Calls Try.prog 189 #[.slice A n c] w fun e w' => e = .returned (.tuple #[.slice A n c, .bool true]) ∧ Below w.heap.size w w' := by
  have HA := hide (areReals_Fin A n c x 0 n w hn hs)
  rw [tru_yes (show allB (ffin .f32) x n 0 n from ⟨by omega, h⟩)] at HA
  unfold maxLen at hn
  clear hs h
  go_enter Try.func189, Try.ntmps189
  go_wp2_with fail
  refine HA.out.mono ?_
  rintro e w1 ⟨rfl, hb⟩
  have HB := hide hb
  clear hb
  go_wp2
  go_ret2
  exact ⟨rfl, HB.out⟩
theorem allFin_no (A : Option Addr) (n c : Nat) (x : Nat → Nat) (w : World) (hn : n ≤ maxLen) (hs : SL w A n (fun j => .float .f32 (x j))) (h : ¬ ∀ j, j < n → ffin .f32 (x j) = true) :
    Calls Try.prog 189 #[.slice A n c] w fun e w' => e = .returned (.tuple #[.slice none 0 0, .bool false]) ∧ Below w.heap.size w w' := by
  have HA := hide (areReals_Fin A n c x 0 n w hn hs)
  rw [tru_no (show ¬ allB (ffin .f32) x n 0 n from fun q => h q.2)] at HA
  unfold maxLen at hn
  clear hs h
  go_enter Try.func189, Try.ntmps189
  go_wp2_with fail
  refine HA.out.mono ?_
  rintro e w1 ⟨rfl, hb⟩
  have HB := hide hb
  clear hb
  go_wp2
  go_ret2
  exact ⟨rfl, HB.out⟩
set_option maxRecDepth 100000 in
set_option maxHeartbeats 8000000 in
theorem implRunF_any (v : Nat) (A : Option Addr) (n c : Nat) (x : Nat → Nat) (B : Option Addr) (m d : Nat) (y : Nat → Nat) (C : Option Addr) (l f : Nat) (z : Nat → Nat) (w : World) (hn : n ≤ maxLen) (hs : SL w A n (fun j => .float .f32 (x j))) (hx : ∀ j, j < n → (Lit.float .f32 (x j)).wf = true) (hm : m ≤ maxLen) (hs' : SL w B m (fun j => .float .f32 (y j))) (_hy : ∀ j, j < m → (Lit.float .f32 (y j)).wf = true) (hl : l ≤ maxLen) (hs'' : SL w C l (fun j => .float .f32 (z j))) (_hz : ∀ j, j < l → (Lit.float .f32 (z j)).wf = true) :
    Calls Try.prog 162 #[.float .f32 v, .slice A n c, .slice B m d, .slice C l f] w fun e w' => GaveF w w' e (rfP v x n y m z l) n (rnV v x y z) := by
  obtain ⟨i0, hi, hz0, hz1, hz2⟩ := info_parts Try.infoF
  have HA1 := fun w hs => hide (implAreRet_any C l f z w hl hs)
  have HA2 := fun w hs => hide (implFlows_any C l f hl A n c x w hn hs)
  have HA3 := fun w hs => hide (implFlows_any C l f hl B m d y w hm hs)
  have HS := hide hs
  have HS' := hide hs'
  have HS'' := hide hs''
  unfold maxLen at hn hm hl
  clear hs hs' hs'' hx
  cases g0 : ffin .f32 v
  · have HH := hide (show ¬ rfP v x n y m z l from fun h => by rw [h.1.1] at g0; cases g0)
    go_enter Try.func162, Try.ntmps162
    go_wp2_with fail
    refine (implIsFinite_any _ _).mono ?_
    rw [g0]
    rintro e w1 ⟨rfl, q1, hq⟩
    have HB1 : Hid (Below w.heap.size w w1) := by rw [hq]; exact bel_q (Below.refl _ _) _
    have HSa : Hid (SL w1 A n (fun j => .float .f32 (x j))) := by rw [hq]; exact HS.out
    have HSb : Hid (SL w1 B m (fun j => .float .f32 (y j))) := by rw [hq]; exact HS'.out
    have HSc : Hid (SL w1 C l (fun j => .float .f32 (z j))) := by rw [hq]; exact HS''.out
    clear hq
    go_wp2
    go_ret2
    exact gavef_no HH.out HB1.out
  by_cases g1 : allB rtB z l 1 64
  rotate_left
  · have HH := hide (show ¬ rfP v x n y m z l from fun h => g1 ⟨by have := h.1.2.1; have := h.1.2.2.2.1; omega, fun j hj => h.1.2.2.2.2.2.2 j (by have := h.1.2.2.2.1; omega)⟩)
    rw [tru_no g1] at HA1
    clear g1
    go_enter Try.func162, Try.ntmps162
    go_wp2_with fail
    refine (implIsFinite_any _ _).mono ?_
    rw [g0]
    rintro e w1 ⟨rfl, q1, hq⟩
    have HB1 : Hid (Below w.heap.size w w1) := by rw [hq]; exact bel_q (Below.refl _ _) _
    have HSa : Hid (SL w1 A n (fun j => .float .f32 (x j))) := by rw [hq]; exact HS.out
    have HSb : Hid (SL w1 B m (fun j => .float .f32 (y j))) := by rw [hq]; exact HS'.out
    have HSc : Hid (SL w1 C l (fun j => .float .f32 (z j))) := by rw [hq]; exact HS''.out
    clear hq
    go_wp2_with fail
    refine (HA1 _ HSc.out).out.mono ?_
    rintro e w2 ⟨rfl, hb⟩
    have HB2 := hide (HB1.out.trans (hb.mono HB1.out.size))
    have HSa2 := hide (HSa.out.below hb)
    have HSb2 := hide (HSb.out.below hb)
    have HSc2 := hide (HSc.out.below hb)
    clear hb
    go_wp2
    go_ret2
    exact gavef_no HH.out HB2.out
  rw [tru_yes g1] at HA1
  by_cases g2 : allB (ffin .f32) x n l l
  rotate_left
  · have HH := hide (show ¬ rfP v x n y m z l from fun h => g2 ⟨by have := h.1.2.2.2.1; omega, h.1.2.2.2.2.1⟩)
    rw [tru_no g2] at HA2
    clear g1 g2
    go_enter Try.func162, Try.ntmps162
    go_wp2_with fail
    refine (implIsFinite_any _ _).mono ?_
    rw [g0]
    rintro e w1 ⟨rfl, q1, hq⟩
    have HB1 : Hid (Below w.heap.size w w1) := by rw [hq]; exact bel_q (Below.refl _ _) _
    have HSa : Hid (SL w1 A n (fun j => .float .f32 (x j))) := by rw [hq]; exact HS.out
    have HSb : Hid (SL w1 B m (fun j => .float .f32 (y j))) := by rw [hq]; exact HS'.out
    have HSc : Hid (SL w1 C l (fun j => .float .f32 (z j))) := by rw [hq]; exact HS''.out
    clear hq
    go_wp2_with fail
    refine (HA1 _ HSc.out).out.mono ?_
    rintro e w2 ⟨rfl, hb⟩
    have HB2 := hide (HB1.out.trans (hb.mono HB1.out.size))
    have HSa2 := hide (HSa.out.below hb)
    have HSb2 := hide (HSb.out.below hb)
    have HSc2 := hide (HSc.out.below hb)
    clear hb
    go_wp2_with fail
    refine (HA2 _ HSa2.out).out.mono ?_
    rintro e w3 ⟨rfl, hb⟩
    have HB3 := hide (HB2.out.trans (hb.mono HB2.out.size))
    have HSa3 := hide (HSa2.out.below hb)
    have HSb3 := hide (HSb2.out.below hb)
    have HSc3 := hide (HSc2.out.below hb)
    clear hb
    go_wp2
    go_ret2
    exact gavef_no HH.out HB3.out
  rw [tru_yes g2] at HA2
  by_cases g3 : allB (ffin .f32) y m l l
  rotate_left
  · have HH := hide (show ¬ rfP v x n y m z l from fun h => g3 ⟨by have := h.1.2.2.1; have := h.1.2.2.2.1; omega, fun j hj => h.1.2.2.2.2.2.1 j (by have := h.1.2.2.1; omega)⟩)
    rw [tru_no g3] at HA3
    clear g1 g2 g3
    go_enter Try.func162, Try.ntmps162
    go_wp2_with fail
    refine (implIsFinite_any _ _).mono ?_
    rw [g0]
    rintro e w1 ⟨rfl, q1, hq⟩
    have HB1 : Hid (Below w.heap.size w w1) := by rw [hq]; exact bel_q (Below.refl _ _) _
    have HSa : Hid (SL w1 A n (fun j => .float .f32 (x j))) := by rw [hq]; exact HS.out
    have HSb : Hid (SL w1 B m (fun j => .float .f32 (y j))) := by rw [hq]; exact HS'.out
    have HSc : Hid (SL w1 C l (fun j => .float .f32 (z j))) := by rw [hq]; exact HS''.out
    clear hq
    go_wp2_with fail
    refine (HA1 _ HSc.out).out.mono ?_
    rintro e w2 ⟨rfl, hb⟩
    have HB2 := hide (HB1.out.trans (hb.mono HB1.out.size))
    have HSa2 := hide (HSa.out.below hb)
    have HSb2 := hide (HSb.out.below hb)
    have HSc2 := hide (HSc.out.below hb)
    clear hb
    go_wp2_with fail
    refine (HA2 _ HSa2.out).out.mono ?_
    rintro e w3 ⟨rfl, hb⟩
    have HB3 := hide (HB2.out.trans (hb.mono HB2.out.size))
    have HSa3 := hide (HSa2.out.below hb)
    have HSb3 := hide (HSb2.out.below hb)
    have HSc3 := hide (HSc2.out.below hb)
    clear hb
    go_wp2_with fail
    refine (HA3 _ HSb3.out).out.mono ?_
    rintro e w4 ⟨rfl, hb⟩
    have HB4 := hide (HB3.out.trans (hb.mono HB3.out.size))
    have HSa4 := hide (HSa3.out.below hb)
    have HSb4 := hide (HSb3.out.below hb)
    have HSc4 := hide (HSc3.out.below hb)
    clear hb
    go_wp2
    go_ret2
    exact gavef_no HH.out HB4.out
  rw [tru_yes g3] at HA3
  obtain rfl : n = l := by have := g2.1; omega
  obtain rfl : n = m := by have := g3.1; omega
  have n64 : n ≤ 64 := by have := g1.1; omega
  have HPP := hide (show fdP v x n y n z n from ⟨g0, by have := g1.1; omega, rfl, rfl, g2.2, g3.2, g1.2⟩)
  clear g1 g2 g3
  go_enter Try.func162, Try.ntmps162
  go_wp2_with fail
  refine (implIsFinite_any _ _).mono ?_
  rw [g0]
  rintro e w1 ⟨rfl, q1, hq⟩
  have HB1 : Hid (Below w.heap.size w w1) := by rw [hq]; exact bel_q (Below.refl _ _) _
  have HSa : Hid (SL w1 A n (fun j => .float .f32 (x j))) := by rw [hq]; exact HS.out
  have HSb : Hid (SL w1 B n (fun j => .float .f32 (y j))) := by rw [hq]; exact HS'.out
  have HSc : Hid (SL w1 C n (fun j => .float .f32 (z j))) := by rw [hq]; exact HS''.out
  clear hq
  go_wp2_with fail
  refine (HA1 _ HSc.out).out.mono ?_
  rintro e w2 ⟨rfl, hb⟩
  have HB2 := hide (HB1.out.trans (hb.mono HB1.out.size))
  have HSa2 := hide (HSa.out.below hb)
  have HSb2 := hide (HSb.out.below hb)
  have HSc2 := hide (HSc.out.below hb)
  clear hb
  go_wp2_with fail
  refine (HA2 _ HSa2.out).out.mono ?_
  rintro e w3 ⟨rfl, hb⟩
  have HB3 := hide (HB2.out.trans (hb.mono HB2.out.size))
  have HSa3 := hide (HSa2.out.below hb)
  have HSb3 := hide (HSb2.out.below hb)
  have HSc3 := hide (HSc2.out.below hb)
  clear hb
  go_wp2_with fail
  refine (HA3 _ HSb3.out).out.mono ?_
  rintro e w4 ⟨rfl, hb⟩
  have HB4 := hide (HB3.out.trans (hb.mono HB3.out.size))
  have HSa4 := hide (HSa3.out.below hb)
  have HSb4 := hide (HSb3.out.below hb)
  have HSc4 := hide (HSc3.out.below hb)
  clear hb
  clear g0
  go_wp2_with (at_make; refine wpList_make_own _ rfl _ _ 45 rfl w4.heap.size 62 i0 (.float .f32 0) 1 Try.underlying45 hi hz0 hz1 _ _ _ n rfl rfl rfl (by rw [hz2]; omega) (by unfold maxLen; omega) (Nat.le_refl _) ?_; intro w2 hown0 hgrow0)
  have HBS := hide ((Below.refl w4.heap.size w4).grown hgrow0 (Nat.le_refl _) (fun k h => by cases h))
  have HO0 := hide hown0
  clear hown0 hgrow0
  have HC := cells_f HSa4.out
  have HC' := cells_f HSb4.out
  have HC'' := cells_f HSc4.out
  have hmul := fun (w : World) (t : TypeId) (x y : Nat) => run_far_eq (P := Try.prog) .mul (by decide) w t .f32 x y
  have hadd := fun (w : World) (t : TypeId) (x y : Nat) => run_far_eq (P := Try.prog) .add (by decide) w t .f32 x y
  have hsub := fun (w : World) (t : TypeId) (x y : Nat) => run_far_eq (P := Try.prog) .sub (by decide) w t .f32 x y
  go_loopw [10, 11, 12, 13, 40] (fun v0 sv _ _ i wr => ∃ (k : Nat) (xs : List Value) (s : Nat), k ≤ n ∧ i = .int .i64 k ∧ sv = .float .f32 s ∧ Hid (FS .f32 s (rnS v x y z k)) ∧ wr.ownsRow w4.heap.size 62 1 v0 k xs ∧ Hid (FRow xs k (rnV v x y z)) ∧ Below w4.heap.size w4 wr) (fun _ _ _ _ i _ => n - (intOf i).toNat)
  case atStart => exact ⟨0, [], v, Nat.zero_le _, rfl, rfl, .inl rfl, HO0.out, fun j hj => absurd hj (by omega), HBS.out⟩
  case round =>
    clear HO0 HBS
    obtain ⟨k, xs, s, hk, rfl, rfl, hs, hown, hxs, hbel⟩ := hrel
    by_cases hlt : k < n
    · obtain ⟨b1, o1, rfl, hb1, hc1⟩ := HC.out k hlt
      obtain ⟨b2, o2, rfl, hb2, hc2⟩ := HC'.out k hlt
      obtain ⟨b3, o3, rfl, hb3, hc3⟩ := HC''.out k hlt
      have hd1 := (hbel.cell (p := ⟨b1, o1 + k, none⟩) hb1).trans hc1
      have hd2 := (hbel.cell (p := ⟨b2, o2 + k, none⟩) hb2).trans hc2
      have hd3 := (hbel.cell (p := ⟨b3, o3 + k, none⟩) hb3).trans hc3
      have hki : (k : Int) < (n : Int) := by omega
      have hsz := hbel.size
      have HLL := hide (show xs.length = k by have := hown.1; omega)
      have HOW := hide hown
      have HBE := hide hbel
      clear hc1 hc2 hc3 hown hbel
      go_wp2
      go_region
      all_goals
        go_wp2_with (at_builtin; refine wpList_append_own _ rfl _ _ 45 rfl (w4.heap.size) 62 i0 (.float .f32 0) 1 4 Try.underlying45 hi hz0 hz1 hz2 rfl (by decide) _ _ _ rfl (by exact (HOW.out.alloc _)) ⟨_, 0, none⟩ 1 1 [.float .f32 _] rfl rfl (cell_one_new _ _ _) (by intro u hu; simp at hu; subst hu; rfl) (by unfold maxLen; omega) (by omega) (by simp; omega) ?_)
        intro v' w5 hown' hgrow _
        have HB1 := hide (Below.grown (Below.alloc (bel_q HBE.out _) (by first | omega | (simp; omega)) _) hgrow (by simp; omega) (fun j hj => (HOW.out.lt j hj).1))
        have HON := hide hown'
        clear hgrow hown'
        go_wp2
        go_roundw
        case rel => exact ⟨k + 1, _, _, by omega, by go_num, rfl, rn_step hs.out (FS.refl _ _) (fv_same _ _ _ _ _) (fv_same _ _ _ _ _) (fv_same _ _ _ _ _) (fv_same _ _ _ _ _), HON.out, frow_step HLL.out hxs.out (rn_step hs.out (FS.refl _ _) (fv_same _ _ _ _ _) (fv_same _ _ _ _ _) (fv_same _ _ _ _ _) (fv_same _ _ _ _ _)), HB1.out⟩
        case measure => simp [intOf]; omega
    · obtain rfl : k = n := by omega
      obtain ⟨Gx, dx, rfl⟩ := own_shape hown
      obtain ⟨u, hz1, hz2⟩ := frow_fun hxs.out
      have HO := hide (OW.of_owns hown hz1)
      have HU := hide hz2
      have HBEL := hide (HB4.out.trans (hbel.mono HB4.out.size))
      have hz4 := HB4.out.size
      clear hown hbel hz1 hz2
      by_cases hf : ∀ j, j < k → ffin .f32 (u j) = true
      rotate_left
      · have HH := hide (show ¬ rfP v x k y k z k from fun h => hf ((fin_all HU.out).2 h.2))
        go_wp2_with fail
        refine (allFin_no Gx k dx u _ (by unfold maxLen; omega) HO.out.sl hf).mono ?_
        rintro e w5 ⟨rfl, hb⟩
        have HBF := hide (HBEL.out.trans (hb.mono HBEL.out.size))
        clear hb hf
        go_wp2
        go_ret2
        exact gavef_no HH.out HBF.out
      have HH := hide (show rfP v x k y k z k from ⟨HPP.out, (fin_all HU.out).1 hf⟩)
      go_wp2_with fail
      refine (allFin_yes Gx k dx u _ (by unfold maxLen; omega) HO.out.sl hf).mono ?_
      rintro e w5 ⟨rfl, hb⟩
      have HBF := hide (HBEL.out.trans (hb.mono HBEL.out.size))
      have HOF := hide ((HO.out.below hb).wide (lo' := w.heap.size) (hi' := w5.heap.size) hz4 hb.size)
      clear hb hf
      go_wp2
      go_ret2
      exact gavef_yes HH.out HOF.out HU.out HBF.out
end Go.Proofs.Ytjebkagbknmdoaa
