/- The law FnParts, walked. -/
import Derived.Test.YtjndhcdanpnniaaPg9
import Derived.Test.YtjndhcdanpnniaaOs
import Derived.Test.YtjndhcdanpnniaaBb
namespace Go.Proofs.Ytjndhcdanpnniaa
open Go.RowKit Go.Dues
set_option maxRecDepth 100000 in
set_option maxHeartbeats 32000000 in
theorem lawFnParts_any (A : Option Addr) (n c : Nat) (x : Nat → Int) (B : Option Addr) (m d : Nat) (y : Nat → Int) (w : World) (hn : n ≤ maxLen) (hs : SL w A n (fun j => .int .u8 (x j))) (hx : ∀ j, j < n → 0 ≤ x j ∧ x j ≤ 255) (hm : m ≤ maxLen) (ht : SL w B m (fun j => .int .u8 (y j))) (hy : ∀ j, j < m → 0 ≤ y j ∧ y j ≤ 255) :
    Calls Try.prog 3 #[.slice A n c, .slice B m d] w fun e w' => e = .returned (.bool true) ∧ Below w.heap.size w w' := by
  by_cases hbig : 1048576 < n ∨ 1048576 < m
  · go_enter Try.func3, Try.ntmps3
    go_wp2_with (go_at_call 15; refine (b10Long_yes A n c B m d w hbig hn hm).mono ?_; rintro e w' ⟨rfl, rfl⟩)
    go_ret
    exact ⟨rfl, Below.refl _ _⟩
  have hn' : n ≤ 1048576 := by omega
  have hm' : m ≤ 1048576 := by omega
  clear hbig hn hm
  have HT := hide ht
  have HY := hide hy
  clear ht hy
  have HS := hide hs
  have HX := hide hx
  clear hs hx
  obtain ⟨v0, hv0⟩ : ∃ q, b10V y m 0 7 = q := ⟨_, rfl⟩
  have v00 : 0 ≤ v0 := by rw [← hv0]; exact (b10V_bd (by omega)).1
  have v01 : v0 < 7 := by rw [← hv0]; exact (b10V_bd (by omega)).2
  have Hv0 : Hid (∀ w1, Below w.heap.size w w1 → Calls Try.prog 16 #[.slice B m d, .int .i64 0, .int .i64 7] w1 fun e w2 => e = .returned (.int .i64 v0) ∧ Below w1.heap.size w1 w2) := fun w1 hb => by rw [← hv0]; exact b10At_any B m d y 0 7 w1 hm' (HT.out.below hb) HY.out (by omega) (by omega) (by omega)
  clear hv0
  obtain ⟨v1, hv1⟩ : ∃ q, b10V y m 1 256 = q := ⟨_, rfl⟩
  have v10 : 0 ≤ v1 := by rw [← hv1]; exact (b10V_bd (by omega)).1
  have v11 : v1 < 256 := by rw [← hv1]; exact (b10V_bd (by omega)).2
  have Hv1 : Hid (∀ w1, Below w.heap.size w w1 → Calls Try.prog 16 #[.slice B m d, .int .i64 1, .int .i64 256] w1 fun e w2 => e = .returned (.int .i64 v1) ∧ Below w1.heap.size w1 w2) := fun w1 hb => by rw [← hv1]; exact b10At_any B m d y 1 256 w1 hm' (HT.out.below hb) HY.out (by omega) (by omega) (by omega)
  clear hv1
  obtain ⟨v2, hv2⟩ : ∃ q, b10V y m 2 256 = q := ⟨_, rfl⟩
  have v20 : 0 ≤ v2 := by rw [← hv2]; exact (b10V_bd (by omega)).1
  have v21 : v2 < 256 := by rw [← hv2]; exact (b10V_bd (by omega)).2
  have Hv2 : Hid (∀ w1, Below w.heap.size w w1 → Calls Try.prog 16 #[.slice B m d, .int .i64 2, .int .i64 256] w1 fun e w2 => e = .returned (.int .i64 v2) ∧ Below w1.heap.size w1 w2) := fun w1 hb => by rw [← hv2]; exact b10At_any B m d y 2 256 w1 hm' (HT.out.below hb) HY.out (by omega) (by omega) (by omega)
  clear hv2
  obtain ⟨v3, hv3⟩ : ∃ q, b10V y m 3 20 = q := ⟨_, rfl⟩
  have v30 : 0 ≤ v3 := by rw [← hv3]; exact (b10V_bd (by omega)).1
  have v31 : v3 < 20 := by rw [← hv3]; exact (b10V_bd (by omega)).2
  have Hv3 : Hid (∀ w1, Below w.heap.size w w1 → Calls Try.prog 16 #[.slice B m d, .int .i64 3, .int .i64 20] w1 fun e w2 => e = .returned (.int .i64 v3) ∧ Below w1.heap.size w1 w2) := fun w1 hb => by rw [← hv3]; exact b10At_any B m d y 3 20 w1 hm' (HT.out.below hb) HY.out (by omega) (by omega) (by omega)
  clear hv3
  obtain ⟨v4, hv4⟩ : ∃ q, b10V y m 4 256 = q := ⟨_, rfl⟩
  have v40 : 0 ≤ v4 := by rw [← hv4]; exact (b10V_bd (by omega)).1
  have v41 : v4 < 256 := by rw [← hv4]; exact (b10V_bd (by omega)).2
  have Hv4 : Hid (∀ w1, Below w.heap.size w w1 → Calls Try.prog 16 #[.slice B m d, .int .i64 4, .int .i64 256] w1 fun e w2 => e = .returned (.int .i64 v4) ∧ Below w1.heap.size w1 w2) := fun w1 hb => by rw [← hv4]; exact b10At_any B m d y 4 256 w1 hm' (HT.out.below hb) HY.out (by omega) (by omega) (by omega)
  clear hv4
  obtain ⟨v5, hv5⟩ : ∃ q, b10V y m 5 20 = q := ⟨_, rfl⟩
  have v50 : 0 ≤ v5 := by rw [← hv5]; exact (b10V_bd (by omega)).1
  have v51 : v5 < 20 := by rw [← hv5]; exact (b10V_bd (by omega)).2
  have Hv5 : Hid (∀ w1, Below w.heap.size w w1 → Calls Try.prog 16 #[.slice B m d, .int .i64 5, .int .i64 20] w1 fun e w2 => e = .returned (.int .i64 v5) ∧ Below w1.heap.size w1 w2) := fun w1 hb => by rw [← hv5]; exact b10At_any B m d y 5 20 w1 hm' (HT.out.below hb) HY.out (by omega) (by omega) (by omega)
  clear hv5
  obtain ⟨v6, hv6⟩ : ∃ q, b10V y m 6 12 = q := ⟨_, rfl⟩
  have v60 : 0 ≤ v6 := by rw [← hv6]; exact (b10V_bd (by omega)).1
  have v61 : v6 < 12 := by rw [← hv6]; exact (b10V_bd (by omega)).2
  have Hv6 : Hid (∀ w1, Below w.heap.size w w1 → Calls Try.prog 16 #[.slice B m d, .int .i64 6, .int .i64 12] w1 fun e w2 => e = .returned (.int .i64 v6) ∧ Below w1.heap.size w1 w2) := fun w1 hb => by rw [← hv6]; exact b10At_any B m d y 6 12 w1 hm' (HT.out.below hb) HY.out (by omega) (by omega) (by omega)
  clear hv6
  obtain ⟨K, hK⟩ : ∃ q : Nat, 1 + v0 = (q : Int) := ⟨(1 + v0).toNat, by omega⟩
  have bK : 1 ≤ K ∧ K ≤ 7 := by omega
  have HK := hide hK
  clear hK
  obtain ⟨i0, hi, iz0, iz1, iz2⟩ := info_parts Try.infoI64
  have HST := hide (show (w.alloc (.cells #[] 2)).ownsRow w.heap.size 2 1 (.slice (some ⟨w.heap.size, 0, none⟩) 0 0) 0 [] from
    ⟨by simp, .inr ⟨w.heap.size, 0, #[], rfl, Nat.le_refl _, blocks1 w _, Nat.le_refl 0, by unfold maxLen; omega, rfl, rfl⟩⟩)
  have HBA := hide ((Below.refl w.heap.size w).alloc (Nat.le_refl _) (.cells #[] 2))
  have HB0 := hide (Below.refl w.heap.size w)
  go_enter Try.func3, Try.ntmps3
  go_wp2_with fail
  refine (b10Long_no A n c B m d w hn' hm').mono ?_
  rintro e w0 ⟨rfl, rfl⟩
  go_wp2
  go_loopw [5, 6, 7, 8] (fun vv aa ii _ wr => ∃ (i : Nat) (S : Int) (xs : List Value) (G : Option Addr) (dG : Nat), i ≤ K ∧ ii = .int .i64 i ∧ aa = .int .i64 S ∧ vv = .slice G i dG ∧ Hid (S = psum (pwT x n) i) ∧ 0 ≤ S ∧ S ≤ 40 * (i : Int) ∧ wr.ownsRow w.heap.size 2 1 (.slice G i dG) i xs ∧ Hid (∀ j, j < i → xs[j]? = some (.int .i64 (pwT x n j))) ∧ Hid (Below w.heap.size w wr)) (fun _ _ ii _ _ => K - (intOf ii).toNat)
  case atStart => exact ⟨0, 0, [], _, _, Nat.zero_le _, rfl, rfl, rfl, rfl, by omega, by omega, HST.out, fun j hj => absurd hj (by omega), HBA.out⟩
  case round =>
    obtain ⟨i, S, xs, G, dG, hi5, rfl, rfl, rfl, hS, S0, S1, hown, hxs, hbel⟩ := hrel
    have zr := hbel.out.size
    have HOW := hide hown
    have HLX := hide (show xs.length = i by have := hown.1; omega)
    clear hown
    go_wp2_with fail
    refine (Hv0.out _ hbel.out).mono ?_
    rintro e w1 ⟨rfl, hb1⟩
    have z1 := hb1.size
    have HO1 := hide (own_stays HOW.out hb1)
    have HB1 := hide (hbel.out.trans (hb1.mono (by omega)))
    clear hb1
    by_cases hlt : i < K
    · have hii : (i : Int) < 1 + v0 := by have := HK.out; omega
      have hi6 : (i : Int) ≤ 7 := by omega
      go_wp2_with fail
      refine (b10At_any A n c x (i : Int) 40 _ hn' (HS.out.below HB1.out) HX.out (by omega) (by omega) (by omega)).mono ?_
      rintro e w2 ⟨rfl, hb⟩
      have z2 := hb.size
      have HO2 := hide (own_stays HO1.out hb)
      have HB2 := hide (HB1.out.trans (hb.mono (by omega)))
      have a0 := b10V_bd (x := x) (n := n) (i := (i : Int)) (N := 40) (by omega)
      clear hb
      by_cases hz : i = 0
      · subst hz
        have HV := hide (pw_0 x n)
        generalize b10V x n ((0 : Nat) : Int) 40 = a at *
        go_wp2_with (at_builtin; refine wpList_append_own_at _ rfl _ _ 24 rfl w.heap.size 2 i0 (.int .i64 0) 1 8 Try.underlying24 hi iz0 iz1 iz2 rfl (by decide) _ _ _ rfl (by exact (HO2.out.alloc _)) ⟨_, 0, none⟩ 1 1 [.int .i64 (a + 1)] rfl rfl (cell_one_new _ _ _) (by intro u hu; simp at hu; subst hu; rfl) (by unfold maxLen; omega) (by omega) (by simp; omega) ?_)
        intro v' w5 hown5 hgrow _ hat
        obtain ⟨g5, d5, rfl⟩ := Joins.ownsRow_form hown5 (by omega)
        have HO5 := hide hown5
        have HB5 := hide ((HB2.out.alloc HB2.out.size (.cells #[.int .i64 (a + 1)] 2)).grown hgrow (by simp; omega) (fun j hj => by have := (HO2.out.lt j hj).1; omega))
        clear hown5 hgrow hat
        go_wp2
        go_roundw
        case rel => exact ⟨0 + 1, S + (a + 1), xs ++ [.int .i64 (a + 1)], some ⟨g5, 0, none⟩, d5, hlt, by go_num, rfl, rfl, (by have h1 := hS.out; have h2 := HV.out; show S + (a + 1) = psum (pwT x n) (0 + 1); rw [psum_succ, ← h2, ← h1]), by omega, by push_cast; omega, HO5.out, own_step HLX.out hxs.out (by rw [HV.out]), HB5.out⟩
        case measure => simp [intOf]; omega
      · have HV := hide (pw_s x n i hz)
        have hzi : ((i : Int) == 0) = false := by rw [beq_eq_false_iff_ne]; omega
        have hz' : ¬ (i : Int) = 0 := by omega
        clear hz
        generalize b10V x n (i : Int) 40 = a at *
        go_wp2_with (at_builtin; refine wpList_append_own_at _ rfl _ _ 24 rfl w.heap.size 2 i0 (.int .i64 0) 1 8 Try.underlying24 hi iz0 iz1 iz2 rfl (by decide) _ _ _ rfl (by exact (HO2.out.alloc _)) ⟨_, 0, none⟩ 1 1 [.int .i64 (a)] rfl rfl (cell_one_new _ _ _) (by intro u hu; simp at hu; subst hu; rfl) (by unfold maxLen; omega) (by omega) (by simp; omega) ?_)
        intro v' w5 hown5 hgrow _ hat
        obtain ⟨g5, d5, rfl⟩ := Joins.ownsRow_form hown5 (by omega)
        have HO5 := hide hown5
        have HB5 := hide ((HB2.out.alloc HB2.out.size (.cells #[.int .i64 (a)] 2)).grown hgrow (by simp; omega) (fun j hj => by have := (HO2.out.lt j hj).1; omega))
        clear hown5 hgrow hat
        go_wp2
        go_roundw
        case rel => exact ⟨i + 1, S + (a), xs ++ [.int .i64 (a)], some ⟨g5, 0, none⟩, d5, hlt, by go_num, rfl, rfl, (by have h1 := hS.out; have h2 := HV.out; show S + (a) = psum (pwT x n) (i + 1); rw [psum_succ, ← h2, ← h1]), by omega, by push_cast; omega, HO5.out, own_step HLX.out hxs.out (by rw [HV.out]), HB5.out⟩
        case measure => simp [intOf]; omega
    · obtain rfl : i = K := by omega
      have hii : ¬ (i : Int) < 1 + v0 := by have := HK.out; omega
      have HG := hide (OW.of_owns (f := fun j => .int .i64 (pwT x n j)) HO1.out hxs.out).sl
      have hw := pw_we x n i (by omega) (by omega)
      have HSP := hide (pw_pos x n i (by omega))
      have HSS := hide (show psum (pwT x n) i = S from hS.out.symm)
      have S2 : 1 ≤ S := by rw [← HSS.out]; exact HSP.out
      clear hS HO1 HOW HLX hxs HST HBA HSP iz0 iz1 iz2 hi zr hbel
      obtain ⟨c', hc'⟩ : ∃ q : Int, 1000 * v1 + v2 = q := ⟨_, rfl⟩
      have c0 : 0 ≤ c' := by omega
      have c1 : c' ≤ 255255 := by omega
      have HC := hide hc'
      clear hc'
      have HW := hide hw
      have LR := hide (lr_ok hw c0)
      have LL := hide (fun j (hj : j < i) => lr_le hw c0 (by omega) hj)
      have SB := hide (st_bd hw c0 i (Nat.le_refl _)).2
      have SS := hide (st_sum (c := c') hw)
      have HP : Hid (scP c' (pwT x n) i) := ⟨⟨c0, by omega⟩, hw⟩
      have HP2 : Hid (stP c' (pwT x n) i) := ⟨⟨c0, by omega⟩, hw⟩
      have hi24 : i ≤ 1048576 := by omega
      clear hw
      have HOG := HG
      clear HG
      go_wp2_with fail
      refine (Hv1.out _ HB1.out).mono ?_
      rintro e w2 ⟨rfl, hb⟩
      replace hb : Below w1.heap.size w1 w2 := ⟨hb.os, hb.tape, hb.output, hb.size, hb.block⟩
      have HB2 := hide (HB1.out.trans (hb.mono HB1.out.size))
      have HOG := hide (HOG.out.below hb)
      clear hb
      go_wp2_with fail
      refine (Hv2.out _ HB2.out).mono ?_
      rintro e w3 ⟨rfl, hb⟩
      replace hb : Below w2.heap.size w2 w3 := ⟨hb.os, hb.tape, hb.output, hb.size, hb.block⟩
      have HB3 := hide (HB2.out.trans (hb.mono HB2.out.size))
      have HOG := hide (HOG.out.below hb)
      clear hb
      go_wp2_with fail
      rw [HC.out]
      refine (implSplitCents_any c' G i dG (pwT x n) _ hi24 HOG.out).mono ?_
      rintro e w4 hg
      obtain ⟨Gp, dGp, rfl, ho, hb⟩ := gave1_out hg HP.out
      have HOGp := hide ho.sl
      clear hg ho
      replace hb : Below w3.heap.size w3 w4 := ⟨hb.os, hb.tape, hb.output, hb.size, hb.block⟩
      have HB4 := hide (HB3.out.trans (hb.mono HB3.out.size))
      have HOG := hide (HOG.out.below hb)
      clear hb
      go_wp2_with fail
      refine (implTurn_any c' G i dG (pwT x n) _ hi24 HOG.out).mono ?_
      rintro e w5 hg
      obtain ⟨Gt, dGt, rfl, ho, hb⟩ := gave1_out hg HP2.out
      have HOGt := hide ho.sl
      clear hg ho
      replace hb : Below w4.heap.size w4 w5 := ⟨hb.os, hb.tape, hb.output, hb.size, hb.block⟩
      have HB5 := hide (HB4.out.trans (hb.mono HB4.out.size))
      have HOG := hide (HOG.out.below hb)
      have HOGp := hide (HOGp.out.below hb)
      clear hb
      go_wp2_with fail
      refine (specTurn_any c' G i dG (pwT x n) _ hi24 HOG.out).mono ?_
      rintro e w6 hg
      obtain ⟨Gu, dGu, rfl, ho, hb⟩ := gave1_out hg HP2.out
      have HOGu := hide ho.sl
      clear hg ho
      replace hb : Below w5.heap.size w5 w6 := ⟨hb.os, hb.tape, hb.output, hb.size, hb.block⟩
      have HB6 := hide (HB5.out.trans (hb.mono HB5.out.size))
      have HOG := hide (HOG.out.below hb)
      have HOGp := hide (HOGp.out.below hb)
      have HOGt := hide (HOGt.out.below hb)
      clear hb
      go_wp2_with fail
      refine (b10Ints_yes Gt Gu i dGt dGu _ _ _ (by unfold maxLen; omega) (fun _ _ => rfl) HOGt.out HOGu.out).mono ?_
      rintro e w7 ⟨rfl, hq⟩
      have hb : Below w6.heap.size w6 w7 := by obtain ⟨u, rfl⟩ := hq; exact bel_drewN (Below.refl _ _) u
      clear hq
      replace hb : Below w6.heap.size w6 w7 := ⟨hb.os, hb.tape, hb.output, hb.size, hb.block⟩
      have HB7 := hide (HB6.out.trans (hb.mono HB6.out.size))
      have HOG := hide (HOG.out.below hb)
      have HOGp := hide (HOGp.out.below hb)
      have HOGt := hide (HOGt.out.below hb)
      have HOGu := hide (HOGu.out.below hb)
      clear hb
      have gs1 : (c' != c') = false := by simp
      go_wp2_with fail
      refine (b10Sum_any Gp i dGp _ _ (by omega) (fun j hj => ⟨(LR.out.2 j hj).1, LL.out j hj⟩) HOGp.out).mono ?_
      rintro e w8 ⟨rfl, hq⟩
      have hb : Below w7.heap.size w7 w8 := by obtain ⟨u, rfl⟩ := hq; exact bel_drewN (Below.refl _ _) u
      clear hq
      replace hb : Below w7.heap.size w7 w8 := ⟨hb.os, hb.tape, hb.output, hb.size, hb.block⟩
      have HB8 := hide (HB7.out.trans (hb.mono HB7.out.size))
      have HOG := hide (HOG.out.below hb)
      have HOGp := hide (HOGp.out.below hb)
      have HOGt := hide (HOGt.out.below hb)
      have HOGu := hide (HOGu.out.below hb)
      clear hb
      rw [LR.out.1]
      go_wp2_with fail
      refine (b10Sum_any Gt i dGt _ _ (by omega) (fun j hj => ⟨(SB.out j hj).1, by have := (SB.out j hj).2; omega⟩) HOGt.out).mono ?_
      rintro e w9 ⟨rfl, hq⟩
      have hb : Below w8.heap.size w8 w9 := by obtain ⟨u, rfl⟩ := hq; exact bel_drewN (Below.refl _ _) u
      clear hq
      replace hb : Below w8.heap.size w8 w9 := ⟨hb.os, hb.tape, hb.output, hb.size, hb.block⟩
      have HB9 := hide (HB8.out.trans (hb.mono HB8.out.size))
      have HOG := hide (HOG.out.below hb)
      have HOGp := hide (HOGp.out.below hb)
      have HOGt := hide (HOGt.out.below hb)
      have HOGu := hide (HOGu.out.below hb)
      clear hb
      rw [SS.out]
      have gs2 : ((i : Int) != (i : Int)) = false := by simp
      have HCP := cells_one HOGp.out
      have HCG := cells_one HOG.out
      go_wp2
      clear Hv0 Hv1 Hv2
      go_loopw [16, 17, 118] (fun _ _ ii wr => ∃ j : Nat, j ≤ i ∧ ii = .int .i64 j ∧ w9 = wr) (fun _ _ ii _ => i - (intOf ii).toNat)
      case atStart => exact ⟨0, Nat.zero_le _, rfl, rfl⟩
      case round =>
        obtain ⟨j, hj, rfl, rfl⟩ := hrel
        by_cases hlt : j < i
        · have hji : (j : Int) < (i : Int) := by omega
          obtain ⟨b1, o1, rfl, hb1, cp⟩ := HCP.out j hlt
          obtain ⟨b2, o2, rfl, hb2, cg⟩ := HCG.out j hlt
          have hlr := (LR.out.2 j hlt).2
          have hpw := pw_bd x n j
          rw [HSS.out] at hlr
          have hcv0 : 0 ≤ c' * pwT x n j := Int.mul_nonneg c0 hpw.1
          have hcv1 : c' * pwT x n j ≤ c' * 40 := Int.mul_le_mul_of_nonneg_left hpw.2 c0
          have HL0 := hide (show lrV (pwT x n) i c' (psum (pwT x n) i) j = lrV (pwT x n) i c' S j by rw [HSS.out])
          rw [HL0.out] at cp
          generalize lrV (pwT x n) i c' S j = p at *
          generalize pwT x n j = v at *
          have t1 : (c' * v).tdiv S = c' * v / S := Int.tdiv_eq_ediv_of_nonneg hcv0
          have t2 : (c' * v).tmod S = c' * v % S := Int.tmod_eq_emod_of_nonneg hcv0
          have hq0 : 0 ≤ c' * v / S := Int.ediv_nonneg hcv0 (by omega)
          have hq1 : c' * v / S ≤ c' * v := Int.ediv_le_self _ hcv0
          have hSz : (S == 0) = false := by rw [beq_eq_false_iff_ne]; omega
          obtain ⟨X, hX⟩ : ∃ q, c' * v = q := ⟨_, rfl⟩
          rw [hX] at t1 t2 hq0 hq1 hcv0 hcv1 hlr
          have hX0 : 0 ≤ c' * v := by omega
          have hX1 : c' * v ≤ 20000000 := by omega
          generalize X / S = q at *
          generalize X % S = r at *
          have HXX := hide hX
          clear hX HL0
          have t1' : (c' * v).tdiv S = q := by rw [HXX.out]; exact t1
          have t2' : (c' * v).tmod S = r := by rw [HXX.out]; exact t2
          clear t1 t2
          have d1 : decide (p < q) = false := decide_eq_false (by omega)
          have d2 : decide (q + 1 < p) = false := decide_eq_false (by omega)
          have q2 : q ≤ 20000000 := by omega
          rcases hlr with hp | ⟨hp, hr⟩
          · have d3 : decide (q < p) = false := decide_eq_false (by omega)
            clear hp
            go_wp2
            go_roundw
            case rel => exact ⟨j + 1, by omega, by go_num, trivial⟩
            case measure => simp [intOf]; omega
          · have d3 : decide (q < p) = true := decide_eq_true (by omega)
            have d4 : (r == 0) = false := by rw [beq_eq_false_iff_ne]; omega
            clear hp
            go_wp2
            go_roundw
            case rel => exact ⟨j + 1, by omega, by go_num, trivial⟩
            case measure => simp [intOf]; omega
        · obtain rfl : j = i := by omega
          have hji : ¬ (j : Int) < (j : Int) := by omega
          clear HCP HCG LR LL SB SS HP HP2 HW HSS S0 S1 S2 hlt
          obtain ⟨m', hm'⟩ : ∃ q : Int, 1 + v3 = q := ⟨_, rfl⟩
          have m0 : 1 ≤ m' := by omega
          have m1 : m' ≤ 20 := by omega
          have HM := hide hm'
          clear hm'
          have HE : Hid (evP c' m') := ⟨⟨c0, by omega⟩, m0, by omega⟩
          have HMN := hide (show ((m'.toNat : Nat) : Int) = m' by omega)
          clear HOG HOGp HOGt HOGu
          go_wp2_with fail
          refine (Hv3.out _ HB9.out).mono ?_
          rintro e w10 ⟨rfl, hb⟩
          replace hb : Below w9.heap.size w9 w10 := ⟨hb.os, hb.tape, hb.output, hb.size, hb.block⟩
          have HB10 := hide (HB9.out.trans (hb.mono HB9.out.size))
          clear hb
          go_wp2_with fail
          rw [HM.out]
          refine (implEven_any c' m' _).mono ?_
          rintro e w11 hg
          obtain ⟨Ge, dGe, rfl, ho, hb⟩ := gave1_out hg HE.out
          have HOGe := hide ho.sl
          clear hg ho
          replace hb : Below w10.heap.size w10 w11 := ⟨hb.os, hb.tape, hb.output, hb.size, hb.block⟩
          have HB11 := hide (HB10.out.trans (hb.mono HB10.out.size))
          clear hb
          obtain ⟨M, hM⟩ : ∃ q : Nat, m'.toNat = q := ⟨_, rfl⟩
          have hMm : ((M : Nat) : Int) = m' := by omega
          rw [hM] at HOGe
          have HEW := hide (show psum (evV c' m') M = c' by rw [← hM]; exact even_whole m0)
          rw [hM]
          have hM20 : M ≤ 20 := by omega
          have gm : ((M : Int) != m') = false := by rw [hMm]; simp
          have HMM := hide hMm
          clear hM hMm HMN
          go_wp2_with fail
          refine (b10Sum_any Ge M dGe _ _ (by omega) (fun j _ => ev_bd c0 (by omega) m0 j) HOGe.out).mono ?_
          rintro e w12 ⟨rfl, hq⟩
          have hb : Below w11.heap.size w11 w12 := by obtain ⟨u, rfl⟩ := hq; exact bel_drewN (Below.refl _ _) u
          clear hq
          replace hb : Below w11.heap.size w11 w12 := ⟨hb.os, hb.tape, hb.output, hb.size, hb.block⟩
          have HB12 := hide (HB11.out.trans (hb.mono HB11.out.size))
          have HOGe := hide (HOGe.out.below hb)
          clear hb
          rw [HEW.out]
          have HCE := cells_one HOGe.out
          go_wp2
          go_loopw [21, 189] (fun _ ii wr => ∃ (j u : Nat), j ≤ M ∧ ii = .int .i64 j ∧ Hid (wr = w12.drewN u)) (fun _ ii _ => M - (intOf ii).toNat)
          case atStart => exact ⟨0, 0, Nat.zero_le _, rfl, rfl⟩
          case round =>
            obtain ⟨p, u, hp, rfl, hwr⟩ := hrel
            by_cases hlp : p < M
            · have hpi : (p : Int) < (M : Int) := by omega
              obtain ⟨b3, o3, rfl, hb3, ce⟩ := HCE.out p hlp
              obtain ⟨b4, o4, hA4, hb4, ce0⟩ := HCE.out 0 (by omega)
              injection hA4 with hA4
              injection hA4 with hA4 hA5
              subst hA4 hA5
              have ef := (ev_fall (c := c') (m := m') p).2
              have eb := ev_bd c0 (by omega) m0 p
              have eb0 := ev_bd c0 (by omega) m0 0
              have k1 : wr.cell? ⟨b3, o3 + p, none⟩ = some (.int .i64 (evV c' m' p)) := by rw [hwr.out]; exact ce
              have k2 : wr.cell? ⟨b3, o3, none⟩ = some (.int .i64 (evV c' m' 0)) := by rw [hwr.out]; exact ce0
              have dd : decide (1 < evV c' m' 0 - evV c' m' p) = false := decide_eq_false (by omega)
              have hM0 : (0 : Int) < (M : Int) := by omega
              clear ce ce0
              by_cases hp0 : p = 0
              · subst hp0
                generalize evV c' m' 0 = e0 at *
                go_wp2
                go_quiet (fail)
                go_wp2
                go_roundw
                case rel => exact ⟨0 + 1, _, by omega, by go_num, hide (by rw [hwr.out, World.drewN_drewN])⟩
                case measure => simp [intOf]; omega
              · obtain ⟨r, hr⟩ : ∃ r, p = r + 1 := ⟨p - 1, by omega⟩
                obtain ⟨b5, o5, hA6, hb5, ce1⟩ := HCE.out r (by omega)
                injection hA6 with hA6
                injection hA6 with hA6 hA7
                subst hA6 hA7
                have ef1 := (ev_fall (c := c') (m := m') r).1
                rw [← hr] at ef1
                have eb1 := ev_bd c0 (by omega) m0 r
                have k3 : wr.cell? ⟨b3, o3 + (p - 1), none⟩ = some (.int .i64 (evV c' m' r)) := by rw [hwr.out, show p - 1 = r by omega]; exact ce1
                have dd1 : decide (evV c' m' r < evV c' m' p) = false := decide_eq_false (by omega)
                have hp1 : decide ((0 : Int) < (p : Int)) = true := decide_eq_true (by omega)
                have hp2 : decide (0 < p) = true := decide_eq_true (by omega)
                have hp3 : 0 < p := by omega
                have hp4 : ((p : Int) - 1).toNat = p - 1 := by omega
                have hp5 : 0 ≤ (p : Int) - 1 := by omega
                have hp6 : (p : Int) - 1 < (M : Int) := by omega
                have hp7 : 1 ≤ p := by omega
                have hM2 : M ≤ 20 := hM20
                have hp9 : wrap64 ((p : Int) - 1) = (p : Int) - 1 := by unfold wrap64; omega
                have hp8 : (1 : Int) ≤ (p : Int) := by omega
                have HR := hide hr
                clear ce1 hr
                generalize evV c' m' 0 = e0 at *
                generalize evV c' m' p = ep at *
                generalize evV c' m' r = er at *
                go_wp2
                go_quiet (fail)
                go_wp2
                go_roundw
                case rel => exact ⟨p + 1, _, by omega, by go_num, hide (by rw [hwr.out, World.drewN_drewN])⟩
                case measure => simp [intOf]; omega
            · obtain rfl : p = M := by omega
              have hpi : ¬ (p : Int) < (p : Int) := by omega
              have HBW := hide (show Below w.heap.size w wr by rw [hwr.out]; exact bel_drewN HB12.out u)
              clear HCE HEW HMM HOGe hlp hwr
              obtain ⟨sm, hsm⟩ : ∃ q : Int, v4 - 128 = q := ⟨_, rfl⟩
              obtain ⟨o, ho⟩ : ∃ q : Int, 1 + v6 = q := ⟨_, rfl⟩
              have s0 : -128 ≤ sm := by omega
              have s1 : sm ≤ 127 := by omega
              have o1 : 1 ≤ o := by omega
              have o2 : o ≤ 12 := by omega
              have HSM := hide hsm
              have HOO := hide ho
              clear hsm ho
              obtain ⟨X, hX⟩ : ∃ q : Int, sm * v5 = q := ⟨_, rfl⟩
              have X1 : X ≤ 3000 := by rw [← hX]; have := Int.mul_le_mul_of_nonneg_right s1 v50; omega
              have X0 : -3000 ≤ X := by rw [← hX]; have := Int.mul_le_mul_of_nonneg_right s0 v50; omega
              have lim := rp_lim (s := sm) v50 o1 (by omega) (by omega)
              obtain ⟨⟨f1, f2⟩, ⟨f3, f4⟩, ⟨f5, f6⟩, f7⟩ := round3 (s := sm) v50 o1
              rw [hX] at f1 f2 f3 f4 f5 f6 f7
              have R0 : rpP sm v5 o 0 := ⟨⟨by omega, by omega⟩, ⟨by omega, by omega⟩, ⟨by omega, by omega⟩, by omega, by omega⟩
              have R1 : rpP sm v5 o 1 := ⟨⟨by omega, by omega⟩, ⟨by omega, by omega⟩, ⟨by omega, by omega⟩, by omega, by omega⟩
              have R2 : rpP sm v5 o 2 := ⟨⟨by omega, by omega⟩, ⟨by omega, by omega⟩, ⟨by omega, by omega⟩, by omega, by omega⟩
              have J0 := fun w => implRoundPart_any sm v5 o 0 w
              have J1 := fun w => implRoundPart_any sm v5 o 1 w
              have J2 := fun w => implRoundPart_any sm v5 o 2 w
              rw [ifV_yes R0, tru_yes R0] at J0
              rw [ifV_yes R1, tru_yes R1] at J1
              rw [ifV_yes R2, tru_yes R2] at J2
              generalize rpV sm v5 o 0 = D at *
              generalize rpV sm v5 o 1 = N at *
              generalize rpV sm v5 o 2 = E at *
              clear R0 R1 R2
              have HJ0 := hide J0
              have HJ1 := hide J1
              have HJ2 := hide J2
              clear J0 J1 J2
              have e1 : (D + 1) * o = D * o + o := by rw [Int.add_mul, Int.one_mul]
              rw [e1] at f2
              obtain ⟨DO, hDO⟩ : ∃ q : Int, D * o = q := ⟨_, rfl⟩
              obtain ⟨NO, hNO⟩ : ∃ q : Int, N * o = q := ⟨_, rfl⟩
              obtain ⟨EO, hEO⟩ : ∃ q : Int, E * o = q := ⟨_, rfl⟩
              rw [hDO] at f1 f2 f7 e1
              rw [hNO] at f3 f4
              rw [hEO] at f5 f6
              have HX := hide hX
              have HDO := hide hDO
              have HNO := hide hNO
              have HEO := hide hEO
              have HE1 := hide e1
              clear hX hDO hNO hEO e1
              have HBE := HBW
              go_wp2_with fail
              refine (Hv4.out _ HBW.out).mono ?_
              rintro e x1 ⟨rfl, hb⟩
              have HB1 := hide (HBW.out.trans (hb.mono HBW.out.size))
              clear hb
              go_wp2_with fail
              rw [HSM.out]
              refine (Hv5.out _ HB1.out).mono ?_
              rintro e x2 ⟨rfl, hb⟩
              have HB2 := hide (HB1.out.trans (hb.mono HB1.out.size))
              clear hb
              go_wp2_with fail
              refine (Hv6.out _ HB2.out).mono ?_
              rintro e x3 ⟨rfl, hb⟩
              have HB3 := hide (HB2.out.trans (hb.mono HB2.out.size))
              clear hb
              go_wp2_with fail
              rw [HOO.out]
              refine (HJ0.out _).mono ?_
              rintro e x4 ⟨rfl, hb⟩
              have HB4 := hide (HB3.out.trans (hb.mono HB3.out.size))
              clear hb
              go_wp2_with fail
              refine (HJ1.out _).mono ?_
              rintro e x5 ⟨rfl, hb⟩
              have HB5 := hide (HB4.out.trans (hb.mono HB4.out.size))
              clear hb
              go_wp2_with fail
              refine (HJ2.out _).mono ?_
              rintro e x6 ⟨rfl, hb⟩
              have HB6 := hide (HB5.out.trans (hb.mono HB5.out.size))
              clear hb HJ0 HJ1 HJ2
              have hX : sm * v5 = X := HX.out
              have hDO : D * o = DO := HDO.out
              have hNO : N * o = NO := HNO.out
              have hEO : E * o = EO := HEO.out
              have hE1 : (D + 1) * o = DO + o := HE1.out
              have g1 : decide (X < DO) = false := decide_eq_false (by omega)
              have g2 : decide (DO + o ≤ X) = false := decide_eq_false (by omega)
              have g3 : decide (o < 2 * (NO - X)) = false := decide_eq_false (by omega)
              have g4 : decide (o < 2 * (X - NO)) = false := decide_eq_false (by omega)
              have g5 : decide (o < 2 * (EO - X)) = false := decide_eq_false (by omega)
              have g6 : decide (o < 2 * (X - EO)) = false := decide_eq_false (by omega)
              by_cases hh : 2 * (X - DO) = o
              · have g7 : (2 * (X - DO) != o) = false := by rw [hh]; simp
                obtain ⟨p1, p2⟩ := f7 hh
                have p3 : (E.tmod 2 == 0) = true := by rw [beq_iff_eq]; exact Int.tmod_eq_zero_of_dvd (Int.dvd_of_emod_eq_zero p1)
                clear hh f7
                by_cases hx : 0 < X
                · have q1 : decide (0 < X) = true := decide_eq_true hx
                  have q2 : decide (D < N) = true := decide_eq_true (p2.1 hx)
                  clear p2 hx
                  go_wp2
                  go_ret
                  exact ⟨rfl, HB6.out⟩
                · have q1 : decide (0 < X) = false := decide_eq_false hx
                  have q2 : decide (D < N) = false := decide_eq_false (fun h => hx (p2.2 h))
                  clear p2 hx
                  go_wp2
                  go_ret
                  exact ⟨rfl, HB6.out⟩
              · have g7 : (2 * (X - DO) != o) = true := by rw [bne_iff_ne]; exact hh
                clear hh f7
                go_wp2
                go_ret
                exact ⟨rfl, HB6.out⟩
end Go.Proofs.Ytjndhcdanpnniaa
