/- IndexPays, by the program. -/
import Derived.Test.YtjefpcmegkeceaaIx
namespace Go.Proofs.Ytjefpcmegkeceaa
open Go.RowKit Go.Dues
set_option maxHeartbeats 1000000 in
theorem implPays_any (A : Option Addr) (n c : Nat) (x : Nat → Int) (w : World) (hn : n ≤ maxLen) (hs : SL w A n (fun j => .int .i64 (x j))) :
    Calls Try.prog 61 #[.slice A n c] w fun e w' => e = .returned (.bool (tru (allP x n 1 60 0 1000000000000))) ∧ Below w.heap.size w w' := by
  have HA := hide (areAll_isAmount A n c x 1 60 w hn hs)
  clear hs
  go_enter Try.func61, Try.ntmps61
  go_wp2_with fail
  refine HA.out.mono ?_
  rintro e w' ⟨rfl, hb⟩
  go_wp2
  go_ret
  exact ⟨rfl, hb⟩
theorem ix_l {x : Nat → Int} {n : Nat} {g : Nat → Int} {m : Nat} (h : ixP x n g m) : allP g m ((n : Int) - 1) ((n : Int) - 1) 0 10000 := ⟨⟨by have := h.2.1; omega, by have := h.2.1; omega⟩, h.2.2.1⟩
set_option maxRecDepth 100000 in
set_option maxHeartbeats 8000000 in
theorem implIndexPays_any (A : Option Addr) (n c : Nat) (x : Nat → Int) (A' : Option Addr) (m c' : Nat) (g : Nat → Int) (w : World) (hn_n : n ≤ maxLen) (hs_n : SL w A n (fun j => .int .i64 (x j))) (hn_m : m ≤ maxLen) (hs_m : SL w A' m (fun j => .int .i64 (g j))) :
    Calls Try.prog 38 #[.slice A n c, .slice A' m c'] w fun e w' => Gave1 w w' e (ixP x n g m) (n) (ixV x g n) := by
  obtain ⟨i0, hi, hz0, hz1, hz2⟩ := info_parts Try.info64
  unfold maxLen at hn_n
  unfold maxLen at hn_m
  have HB0 := hide (Below.refl w.heap.size w)
  have HS0_0 := hide hs_n
  have HS1_0 := hide hs_m
  clear hs_n hs_m
  by_cases hall0 : allP x n 1 60 0 1000000000000
  rotate_left
  · have HAT0 := hide (tru_no hall0)
    have HH := hide (show ¬ ixP x n g m from fun h => hall0 (h.1))
    clear hall0
    go_enter Try.func38, Try.ntmps38
    go_wp2_with (first | (go_at_call 69; refine (implAmount_any _ _ ).mono ?_; rintro e w' ⟨rfl, rfl⟩) | (go_at_call 53; refine (implRate_any _ _ ).mono ?_; rintro e w' ⟨rfl, rfl⟩) | (go_at_call 49; refine (implWithin_any _ _ _ _ ).mono ?_; rintro e w' ⟨rfl, rfl⟩))
    refine (implPays_any A n c x _ (by unfold maxLen; omega) HS0_0.out).mono ?_
    rw [HAT0.out]
    rintro e W1 ⟨rfl, hb⟩
    have HB1 := hide (HB0.out.trans (hb.mono HB0.out.size))
    have HS0_1 := hide (HS0_0.out.below hb)
    have HS1_1 := hide (HS1_0.out.below hb)
    clear hb
    go_wp2_with (first | (go_at_call 69; refine (implAmount_any _ _ ).mono ?_; rintro e w' ⟨rfl, rfl⟩) | (go_at_call 53; refine (implRate_any _ _ ).mono ?_; rintro e w' ⟨rfl, rfl⟩) | (go_at_call 49; refine (implWithin_any _ _ _ _ ).mono ?_; rintro e w' ⟨rfl, rfl⟩))
    go_ret2
    exact gave1_no HH.out HB1.out
  have HAT0 := hide (tru_yes hall0)
  have HAL0 := hide hall0
  clear hall0
  by_cases hall1 : allP g m ((n : Int) - 1) ((n : Int) - 1) 0 10000
  rotate_left
  · have HAT1 := hide (tru_no hall1)
    have HH := hide (show ¬ ixP x n g m from fun h => hall1 (ix_l h))
    clear hall1
    go_enter Try.func38, Try.ntmps38
    go_wp2_with (first | (go_at_call 69; refine (implAmount_any _ _ ).mono ?_; rintro e w' ⟨rfl, rfl⟩) | (go_at_call 53; refine (implRate_any _ _ ).mono ?_; rintro e w' ⟨rfl, rfl⟩) | (go_at_call 49; refine (implWithin_any _ _ _ _ ).mono ?_; rintro e w' ⟨rfl, rfl⟩))
    refine (implPays_any A n c x _ (by unfold maxLen; omega) HS0_0.out).mono ?_
    rw [HAT0.out]
    rintro e W1 ⟨rfl, hb⟩
    have HB1 := hide (HB0.out.trans (hb.mono HB0.out.size))
    have HS0_1 := hide (HS0_0.out.below hb)
    have HS1_1 := hide (HS1_0.out.below hb)
    clear hb
    go_wp2_with (first | (go_at_call 69; refine (implAmount_any _ _ ).mono ?_; rintro e w' ⟨rfl, rfl⟩) | (go_at_call 53; refine (implRate_any _ _ ).mono ?_; rintro e w' ⟨rfl, rfl⟩) | (go_at_call 49; refine (implWithin_any _ _ _ _ ).mono ?_; rintro e w' ⟨rfl, rfl⟩))
    refine (areAll_isRate A' m c' g ((n : Int) - 1) ((n : Int) - 1) _ (by unfold maxLen; omega) HS1_1.out).mono ?_
    rw [HAT1.out]
    rintro e W2 ⟨rfl, hb⟩
    have HB2 := hide (HB1.out.trans (hb.mono HB1.out.size))
    have HS0_2 := hide (HS0_1.out.below hb)
    have HS1_2 := hide (HS1_1.out.below hb)
    clear hb
    go_wp2_with (first | (go_at_call 69; refine (implAmount_any _ _ ).mono ?_; rintro e w' ⟨rfl, rfl⟩) | (go_at_call 53; refine (implRate_any _ _ ).mono ?_; rintro e w' ⟨rfl, rfl⟩) | (go_at_call 49; refine (implWithin_any _ _ _ _ ).mono ?_; rintro e w' ⟨rfl, rfl⟩))
    go_ret2
    exact gave1_no HH.out HB2.out
  have HAT1 := hide (tru_yes hall1)
  have HAL1 := hide hall1
  clear hall1
  have n60 := HAL0.out.1.2
  have n1 : 1 ≤ n := by have := HAL0.out.1.1; omega
  have hmn : m + 1 = n := by have := HAL1.out.1; omega
  have hg := hide HAL1.out.2
  have HNN := hide (fun i t (hit : i + t < n) => ipV_nn (x := x) (g := g) HAL0.out.2 (fun j hj => hg.out j (by omega)) t (i := i) hit)
  go_enter Try.func38, Try.ntmps38
  go_wp2_with (first | (go_at_call 69; refine (implAmount_any _ _ ).mono ?_; rintro e w' ⟨rfl, rfl⟩) | (go_at_call 53; refine (implRate_any _ _ ).mono ?_; rintro e w' ⟨rfl, rfl⟩) | (go_at_call 49; refine (implWithin_any _ _ _ _ ).mono ?_; rintro e w' ⟨rfl, rfl⟩))
  refine (implPays_any A n c x _ (by unfold maxLen; omega) HS0_0.out).mono ?_
  rw [HAT0.out]
  rintro e W1 ⟨rfl, hb⟩
  have HB1 := hide (HB0.out.trans (hb.mono HB0.out.size))
  have HS0_1 := hide (HS0_0.out.below hb)
  have HS1_1 := hide (HS1_0.out.below hb)
  clear hb
  go_wp2_with (first | (go_at_call 69; refine (implAmount_any _ _ ).mono ?_; rintro e w' ⟨rfl, rfl⟩) | (go_at_call 53; refine (implRate_any _ _ ).mono ?_; rintro e w' ⟨rfl, rfl⟩) | (go_at_call 49; refine (implWithin_any _ _ _ _ ).mono ?_; rintro e w' ⟨rfl, rfl⟩))
  refine (areAll_isRate A' m c' g ((n : Int) - 1) ((n : Int) - 1) _ (by unfold maxLen; omega) HS1_1.out).mono ?_
  rw [HAT1.out]
  rintro e W2 ⟨rfl, hb⟩
  have HB2 := hide (HB1.out.trans (hb.mono HB1.out.size))
  have HS0_2 := hide (HS0_1.out.below hb)
  have HS1_2 := hide (HS1_1.out.below hb)
  clear hb
  go_wp2_with (first | (go_at_call 66; fail) | (go_at_call 69; refine (implAmount_any _ _ ).mono ?_; rintro e w' ⟨rfl, rfl⟩) | (go_at_call 53; refine (implRate_any _ _ ).mono ?_; rintro e w' ⟨rfl, rfl⟩) | (go_at_call 49; refine (implWithin_any _ _ _ _ ).mono ?_; rintro e w' ⟨rfl, rfl⟩))
  refine (clone7_any A n c x _ n1 (by omega) HS0_2.out).mono ?_
  rintro e w1 ⟨G, cp, xs, rfl, hown, hxs, hb⟩
  have HBC := hide (HB2.out.trans (hb.mono HB2.out.size))
  have HS1C := hide (HS1_2.out.below hb)
  have hz := HB2.out.size
  have HP0 := hide (own_lower7 (B' := w.heap.size) hown (by omega))
  have HGB := hide (show w.heap.size ≤ G by have := (hown.lt G rfl).1; omega)
  have HX := hide hxs
  have HC' := cells_a HS1C.out
  have HGF := hide (show ∀ b, b < W2.heap.size → ¬ G = b by intro b h2 e; have := (hown.lt G rfl).1; omega)
  have HLT := hide (show ∀ q, q < m → ∃ b off, A' = some ⟨b, off, none⟩ ∧ b < W2.heap.size from fun q hq => by obtain ⟨b, off, h1, h2, _⟩ := HS1_2.out.at_ (by omega); exact ⟨b, off, h1, h2⟩)
  clear hown hxs hb hz
  have HWB := hide (show Below w.heap.size w w1 from HBC.out)
  go_wp2
  go_loopw [7, 8, 9, 28] (fun _ _ _ i wr => ∃ (y : Nat) (xs : List Value), y ≤ m ∧ i = .int .i64 y ∧ wr.ownsRow w.heap.size 2 1 (.slice (some ⟨G, 0, none⟩) n cp) n xs ∧ Hid (∀ j, j < n → xs[j]? = some (.int .i64 (ipS x g y 0 j))) ∧ Hid (∀ j t, j + t ≤ y → ipV x g j t ≤ 1000000000000) ∧ Hid (SL wr A' m (fun j => .int .i64 (g j))) ∧ Below w.heap.size w wr) (fun _ _ _ i _ => m - (intOf i).toNat)
  case atStart => exact ⟨0, xs, Nat.zero_le _, rfl, HP0.out, (fun j hj => by rw [ipS_start]; exact HX.out j hj), (fun j t hjt => by
    have e0 : j = 0 := (by omega)
    have e1 : t = 0 := (by omega)
    subst e0 e1
    exact (HAL0.out.2 0 (by omega)).2), HS1C.out, HWB.out⟩
  case round =>
    clear HP0 HX HC' HS1C
    obtain ⟨y, xs, hy, rfl, hown, hxs, hok, hsl, hbel⟩ := hrel
    by_cases hly : y < m
    · obtain ⟨b1, off1, rfl, hb1, hgy⟩ := (cells_a hsl.out).out y hly
      obtain ⟨g0, g1⟩ := hg.out y hly
      have HGY := hide hgy
      obtain ⟨ry, hry⟩ : ∃ ry, g y = ry := ⟨_, rfl⟩
      rw [hry] at hgy g0 g1
      have HRY := hide hry
      have HP1 := hide hown
      have HBEL1 := hide hbel
      have HOK1 := hide (show ∀ j, j < 0 → ipV x g j (y + 1 - j) ≤ 1000000000000 from fun j hj => absurd hj (by omega))
      have HBN := hide (show ¬ G = b1 from by
        obtain ⟨b, off, h1, h2⟩ := HLT.out y hly
        injection h1 with h1
        injection h1 with h1
        subst h1
        exact HGF.out _ h2)
      clear hown hbel hry
      go_wp2
      go_loopw [9, 35] (fun _ i wr => ∃ (t : Nat) (xs : List Value), t ≤ y + 1 ∧ i = .int .i64 t ∧ wr.ownsRow w.heap.size 2 1 (.slice (some ⟨G, 0, none⟩) n cp) n xs ∧ Hid (∀ j, j < n → xs[j]? = some (.int .i64 (ipS x g y t j))) ∧ Hid (∀ j, j < t → ipV x g j (y + 1 - j) ≤ 1000000000000) ∧ Hid (SL wr (some ⟨b1, off1, none⟩) m (fun j => .int .i64 (g j))) ∧ Below w.heap.size w wr) (fun _ i _ => y + 1 - (intOf i).toNat)
      case atStart => exact ⟨0, xs, Nat.zero_le _, rfl, HP1.out, hxs.out, HOK1.out, hsl.out, HBEL1.out⟩
      case round =>
        clear HP1 hxs HOK1 hsl HBEL1 hgy
        obtain ⟨t, xs, ht, rfl, hown, hxs, hok2, hsl, hbel⟩ := hrel
        by_cases hlt : t < y + 1
        · have htn : t < n := by omega
          have htni : (t : Int) < (n : Int) := by omega
          have hlti : (t : Int) < (y : Int) + 1 := by omega
          have hxt := hxs.out t htn
          rw [ipS_at] at hxt
          have hc0 := HNN.out t (y - t) (by omega)
          have hc1 := hok.out t (y - t) (by omega)
          have HVE := hide (show grV (ipV x g t (y - t)) ry 1 = ipV x g t (y + 1 - t) by
            rw [show y + 1 - t = (y - t) + 1 by omega, ipV_succ, show t + (y - t) = y by omega, HRY.out])
          obtain ⟨C, hC⟩ : ∃ C, ipV x g t (y - t) = C := ⟨_, rfl⟩
          rw [hC] at hxt hc0 hc1 HVE
          have gold : wr.cell? ⟨G, t, none⟩ = some (.int .i64 C) := (hown.cellAt t (by omega)).trans hxt
          have gfr := hown.frozenAt t
          have hm := gr_mul (c := C) (r := ry) (M := 1000000000000) hc0 hc1 (by omega) g1
          have hz := gr_bd (c := C) (r := ry) (d := 1) (M := 1000000000000) hc0 hc1 (by omega) g1
          have HGR := fun w => hide (implGrown_any C ry 1 w hm.1 (by omega) hc0 (by omega) (by omega) g1 (by omega))
          obtain ⟨z0, z1⟩ := hz
          obtain ⟨V, hV⟩ : ∃ V, grV C ry 1 = V := ⟨_, rfl⟩
          rw [hV] at HGR HVE z0 z1
          have HSG := fun q => hide (World.ownsRow.stored (w := wr.drewN q) hown t (.int .i64 V))
          have HLX := hide (show xs.length = n by have := hown.1; omega)
          have HXN := hide (fun j (_ : j < n) => show ipS x g y (t + 1) j = if j = t then V else ipS x g y t j by rw [ipS_step, HVE.out])
          have HBEL := hide hbel
          have HSLN := fun q => hide (show SL ((wr.drewN q).setCell ⟨G, t, none⟩ (.int .i64 V)) (some ⟨b1, off1, none⟩) m (fun j => .int .i64 (g j)) from (hsl.out.drewN q).set (fun b off h1 _ => by
            injection h1 with h1
            injection h1 with h1
            intro e
            exact HBN.out (by have : (⟨G, t, none⟩ : Addr).block = G := rfl; omega)))
          clear hC hV hxt hown hbel hm
          go_wp2_with fail
          refine (HGR _).out.mono ?_
          rintro e w' ⟨rfl, q, rfl⟩
          have glen : t < xs.length := by have := HLX.out; omega
          have gnew : ((wr.drewN q).setCell ⟨G, t, none⟩ (.int .i64 V)).cell? ⟨G, t, none⟩ = some (.int .i64 V) := ((HSG q).out.1.cellAt t (by omega)).trans (by rw [List.getElem?_set_self glen])
          cases gv : amtB V
          · have HH := hide (show ¬ ixP x n g m from fun h => by rw [amtB_yes ⟨z0, by have := h.2.2.2 t (y + 1 - t) (by omega); rw [← HVE.out] at this; exact this⟩] at gv; cases gv)
            go_wp2_with (first | (go_at_call 69; refine (implAmount_any _ _ ).mono ?_; rintro e w' ⟨rfl, rfl⟩) | (go_at_call 53; refine (implRate_any _ _ ).mono ?_; rintro e w' ⟨rfl, rfl⟩) | (go_at_call 49; refine (implWithin_any _ _ _ _ ).mono ?_; rintro e w' ⟨rfl, rfl⟩))
            go_ret2
            exact gave1_no HH.out ((bel_q HBEL.out _).setCell (by exact HGB.out) _)
          · have HOK2 := hide (show ∀ j, j < t + 1 → ipV x g j (y + 1 - j) ≤ 1000000000000 from fun j hj => by
              by_cases hjt : j = t
              · subst hjt; rw [← HVE.out]; exact (amtB_iff.1 gv).2
              · exact hok2.out j (by omega))
            go_wp2_with (first | (go_at_call 69; refine (implAmount_any _ _ ).mono ?_; rintro e w' ⟨rfl, rfl⟩) | (go_at_call 53; refine (implRate_any _ _ ).mono ?_; rintro e w' ⟨rfl, rfl⟩) | (go_at_call 49; refine (implWithin_any _ _ _ _ ).mono ?_; rintro e w' ⟨rfl, rfl⟩))
            clear gv gnew
            go_roundw
            case rel => exact ⟨t + 1, xs.set t (.int .i64 V), by omega, by go_num, (HSG q).out.1, set_row HLX.out hxs.out HXN.out, HOK2.out, (HSLN q).out, (bel_q HBEL.out _).setCell (by exact HGB.out) _⟩
            case measure => simp [intOf]; omega
        · obtain rfl : t = y + 1 := by omega
          have hlti : ¬ ((y + 1 : Nat) : Int) < (y : Int) + 1 := by omega
          have HO1 := hide hown
          have HBEL := hide hbel
          have HXN := hide (show ∀ j, j < n → xs[j]? = some (.int .i64 (ipS x g (y + 1) 0 j)) from fun j hj => by rw [← ipS_next]; exact hxs.out j hj)
          have HOK := hide (show ∀ j t, j + t ≤ y + 1 → ipV x g j t ≤ 1000000000000 from fun j t hjt => by
            by_cases he : j + t = y + 1
            · by_cases hj0 : j < y + 1
              · have := hok2.out j hj0
                rwa [show y + 1 - j = t by omega] at this
              · have e1 : j = y + 1 := (by omega)
                have e2 : t = 0 := (by omega)
                subst e1 e2
                exact (HAL0.out.2 _ (by omega)).2
            · exact hok.out j t (by omega))
          clear hown hbel
          go_wp2
          go_roundw
          case rel => exact ⟨y + 1, xs, by omega, by go_num, HO1.out, HXN.out, HOK.out, hsl.out, HBEL.out⟩
          case measure => simp [intOf]; omega
    · obtain rfl : y = m := by omega
      have HH := hide (show ixP x n g y from ⟨HAL0.out, by omega, hg.out, fun i t hit => hok.out i t (by omega)⟩)
      have HO1 := hide (OW.of_owns (f := fun j => .int .i64 (ixV x g n j)) hown (fun j hj => by rw [hxs.out j hj]; unfold ixV ipS; rw [if_neg (by omega : ¬ j < 0), show n - 1 - j = y - j by omega]))
      have HBEL := hide hbel
      clear hown hbel
      go_wp2
      go_ret2
      exact gave1_yes HH.out rfl HO1.out HBEL.out
end Go.Proofs.Ytjefpcmegkeceaa
