/- IndexPays, by the reference. -/
import Derived.Test.YtjefpcmegkeceaaFu
namespace Go.Proofs.Ytjefpcmegkeceaa
open Go.RowKit Go.Dues
def ixP (x : Nat → Int) (n : Nat) (g : Nat → Int) (m : Nat) : Prop := allP x n 1 60 0 1000000000000 ∧ (m : Int) = (n : Int) - 1 ∧ (∀ j, j < m → 0 ≤ g j ∧ g j ≤ 10000) ∧ ipOk x g n
def ixV (x g : Nat → Int) (n k : Nat) : Int := ipV x g k (n - 1 - k)
theorem ip_step {x g : Nat → Int} {i t : Nat} {c : Int} (hc : c = ipV x g i t) : grV c (g (i + t)) 1 = ipV x g i (t + 1) := by rw [ipV_succ, ← hc]
set_option maxHeartbeats 1000000 in
theorem specPays_any (A : Option Addr) (n c : Nat) (x : Nat → Int) (w : World) (hn : n ≤ maxLen) (hs : SL w A n (fun j => .int .i64 (x j))) :
    Calls Try.prog 58 #[.slice A n c] w fun e w' => e = .returned (.bool (tru (allP x n 1 60 0 1000000000000))) ∧ w = w' := by
  have HA := hide (specAmts_any A n c x 60 w hn hs)
  clear hs
  go_enter Try.func58, Try.ntmps58
  go_wp2_with fail
  refine HA.out.mono ?_
  rintro e w' ⟨rfl, rfl⟩
  go_wp2
  go_ret
  exact ⟨rfl, rfl⟩
set_option maxRecDepth 100000 in
set_option maxHeartbeats 8000000 in
theorem specIndexPays_any (A : Option Addr) (n c : Nat) (x : Nat → Int) (A' : Option Addr) (m c' : Nat) (g : Nat → Int) (w : World) (hn_n : n ≤ maxLen) (hs_n : SL w A n (fun j => .int .i64 (x j))) (hn_m : m ≤ maxLen) (hs_m : SL w A' m (fun j => .int .i64 (g j))) :
    Calls Try.prog 37 #[.slice A n c, .slice A' m c'] w fun e w' => Gave1 w w' e (ixP x n g m) (n) (ixV x g n) := by
  obtain ⟨i0, hi, hz0, hz1, hz2⟩ := info_parts Try.info64
  unfold maxLen at hn_n
  unfold maxLen at hn_m
  have HB0 := hide (Below.refl w.heap.size w)
  have HS0_0 := hide hs_n
  have HS1_0 := hide hs_m
  clear hs_n hs_m
  by_cases hall0 : allP x n 1 60 0 1000000000000
  rotate_left
  · have HAT0 := hide (tru_no hall0)
    have HH := hide (show ¬ ixP x n g m from fun h => hall0 (h.1))
    clear hall0
    go_enter Try.func37, Try.ntmps37
    go_wp2_with (first | (go_at_call 54; refine (specCents_any _ _ ).mono ?_; rintro e w' ⟨rfl, rfl⟩) | (go_at_call 55; refine (specRate_any _ _ ).mono ?_; rintro e w' ⟨rfl, rfl⟩) | (go_at_call 46; refine (specIn_any _ _ _ _ ).mono ?_; rintro e w' ⟨rfl, rfl⟩))
    refine (specPays_any A n c x _ (by unfold maxLen; omega) HS0_0.out).mono ?_
    rw [HAT0.out]
    rintro e W1 ⟨rfl, hbe⟩
    have HB1 : Hid (Below w.heap.size w W1) := by rw [← hbe]; exact HB0.out
    have HS0_1 : Hid (SL W1 A n (fun j => .int .i64 (x j))) := by rw [← hbe]; exact HS0_0.out
    have HS1_1 : Hid (SL W1 A' m (fun j => .int .i64 (g j))) := by rw [← hbe]; exact HS1_0.out
    clear hbe
    go_wp2_with (first | (go_at_call 54; refine (specCents_any _ _ ).mono ?_; rintro e w' ⟨rfl, rfl⟩) | (go_at_call 55; refine (specRate_any _ _ ).mono ?_; rintro e w' ⟨rfl, rfl⟩) | (go_at_call 46; refine (specIn_any _ _ _ _ ).mono ?_; rintro e w' ⟨rfl, rfl⟩))
    go_ret2
    exact gave1_no HH.out HB1.out
  have HAT0 := hide (tru_yes hall0)
  have HAL0 := hide hall0
  clear hall0
  by_cases heq1 : (m : Int) = (n : Int) - 1
  rotate_left
  · have HH := hide (show ¬ ixP x n g m from fun h => heq1 (h.2.1))
    have hne : ¬ (m : Int) = (n : Int) - 1 := heq1
    go_enter Try.func37, Try.ntmps37
    go_wp2_with (first | (go_at_call 54; refine (specCents_any _ _ ).mono ?_; rintro e w' ⟨rfl, rfl⟩) | (go_at_call 55; refine (specRate_any _ _ ).mono ?_; rintro e w' ⟨rfl, rfl⟩) | (go_at_call 46; refine (specIn_any _ _ _ _ ).mono ?_; rintro e w' ⟨rfl, rfl⟩))
    refine (specPays_any A n c x _ (by unfold maxLen; omega) HS0_0.out).mono ?_
    rw [HAT0.out]
    rintro e W1 ⟨rfl, hbe⟩
    have HB1 : Hid (Below w.heap.size w W1) := by rw [← hbe]; exact HB0.out
    have HS0_1 : Hid (SL W1 A n (fun j => .int .i64 (x j))) := by rw [← hbe]; exact HS0_0.out
    have HS1_1 : Hid (SL W1 A' m (fun j => .int .i64 (g j))) := by rw [← hbe]; exact HS1_0.out
    clear hbe
    go_wp2_with (first | (go_at_call 54; refine (specCents_any _ _ ).mono ?_; rintro e w' ⟨rfl, rfl⟩) | (go_at_call 55; refine (specRate_any _ _ ).mono ?_; rintro e w' ⟨rfl, rfl⟩) | (go_at_call 46; refine (specIn_any _ _ _ _ ).mono ?_; rintro e w' ⟨rfl, rfl⟩))
    go_ret2
    exact gave1_no HH.out HB1.out
  have n60 := HAL0.out.1.2
  have n1 : 1 ≤ n := by have := HAL0.out.1.1; omega
  have hmn : m + 1 = n := by omega
  go_enter Try.func37, Try.ntmps37
  go_wp2_with (first | (go_at_call 54; refine (specCents_any _ _ ).mono ?_; rintro e w' ⟨rfl, rfl⟩) | (go_at_call 55; refine (specRate_any _ _ ).mono ?_; rintro e w' ⟨rfl, rfl⟩) | (go_at_call 46; refine (specIn_any _ _ _ _ ).mono ?_; rintro e w' ⟨rfl, rfl⟩))
  refine (specPays_any A n c x _ (by unfold maxLen; omega) HS0_0.out).mono ?_
  rw [HAT0.out]
  rintro e W1 ⟨rfl, hbe⟩
  have HB1 : Hid (Below w.heap.size w W1) := by rw [← hbe]; exact HB0.out
  have HS0_1 : Hid (SL W1 A n (fun j => .int .i64 (x j))) := by rw [← hbe]; exact HS0_0.out
  have HS1_1 : Hid (SL W1 A' m (fun j => .int .i64 (g j))) := by rw [← hbe]; exact HS1_0.out
  clear hbe
  go_wp2_with (first | (go_at_call 54; refine (specCents_any _ _ ).mono ?_; rintro e w' ⟨rfl, rfl⟩) | (go_at_call 55; refine (specRate_any _ _ ).mono ?_; rintro e w' ⟨rfl, rfl⟩) | (go_at_call 46; refine (specIn_any _ _ _ _ ).mono ?_; rintro e w' ⟨rfl, rfl⟩))
  have HC := cells_a HS0_1.out
  have HC' := cells_a HS1_1.out
  go_loop [6] (fun i => ∃ k : Nat, k ≤ m ∧ i = .int .i64 k ∧ Hid (∀ j, j < k → 0 ≤ g j ∧ g j ≤ 10000)) (fun i => m - (intOf i).toNat)
  case atStart => exact ⟨0, Nat.zero_le _, rfl, fun j hj => absurd hj (by omega)⟩
  case round =>
    obtain ⟨k, hk, rfl, hg⟩ := hrel
    by_cases hlt : k < m
    · obtain ⟨b1, off, rfl, hb1, hxk⟩ := HC'.out k hlt
      cases hp : ratB (g k)
      · have HH := hide (show ¬ ixP x n g m from fun h => by rw [ratB_yes (h.2.2.1 k hlt)] at hp; cases hp)
        go_wp2_with (first | (go_at_call 54; refine (specCents_any _ _ ).mono ?_; rintro e w' ⟨rfl, rfl⟩) | (go_at_call 55; refine (specRate_any _ _ ).mono ?_; rintro e w' ⟨rfl, rfl⟩) | (go_at_call 46; refine (specIn_any _ _ _ _ ).mono ?_; rintro e w' ⟨rfl, rfl⟩))
        go_ret2
        exact gave1_no HH.out HB1.out
      · have HE := hide (ratB_iff.1 hp)
        go_wp2_with (first | (go_at_call 54; refine (specCents_any _ _ ).mono ?_; rintro e w' ⟨rfl, rfl⟩) | (go_at_call 55; refine (specRate_any _ _ ).mono ?_; rintro e w' ⟨rfl, rfl⟩) | (go_at_call 46; refine (specIn_any _ _ _ _ ).mono ?_; rintro e w' ⟨rfl, rfl⟩))
        clear hp
        go_round
        case rel => exact ⟨k + 1, by omega, by go_num, by
          intro j hj
          by_cases hjk : j = k
          · subst hjk; exact HE.out
          · exact hg.out j (by omega)⟩
        case measure => simp [intOf]; omega
    · obtain rfl : k = m := by omega
      have HNN := hide (fun i t (hit : i + t < n) => ipV_nn (x := x) (g := g) HAL0.out.2 (fun j hj => hg.out j (by omega)) t (i := i) hit)
      go_wp2
      have hst : (W1.alloc (.cells #[] 2)).ownsRow W1.heap.size 2 1 (.slice (some ⟨W1.heap.size, 0, none⟩) 0 0) 0 [] :=
        ⟨by simp, .inr ⟨W1.heap.size, 0, #[], rfl, Nat.le_refl _, new_at W1 _, Nat.le_refl 0, by unfold maxLen; omega, rfl, rfl⟩⟩
      have HBS := hide ((Below.refl W1.heap.size W1).alloc (Nat.le_refl _) (.cells #[] 2))
      have HO0 := hide hst
      clear hst
      go_loopw [7, 8, 9, 10] (fun v i _ _ wr => ∃ (p : Nat) (xs : List Value), p ≤ n ∧ i = .int .i64 p ∧ wr.ownsRow W1.heap.size 2 1 v p xs ∧ Hid (∀ j, j < p → xs[j]? = some (.int .i64 (ixV x g n j))) ∧ Hid (∀ j t, j < p → j + t < n → ipV x g j t ≤ 1000000000000) ∧ Below W1.heap.size W1 wr) (fun _ i _ _ _ => n - (intOf i).toNat)
      case atStart => exact ⟨0, [], Nat.zero_le _, rfl, HO0.out, fun j hj => absurd hj (by omega), fun j t hj => absurd hj (by omega), HBS.out⟩
      case round =>
        obtain ⟨p, xs, hp, rfl, hown, hxs, hok, hbel⟩ := hrel
        by_cases hlp : p < n
        · obtain ⟨b, off, rfl, hb, hc⟩ := HC.out p hlp
          have hc2 := (hbel.cell (p := ⟨b, off + p, none⟩) hb).trans hc
          have HX0 := HAL0.out.2 p hlp
          have HOWN := hide hown
          have HBEL := hide hbel
          obtain ⟨wq, hwq⟩ : ∃ u, u = wr := ⟨_, rfl⟩
          clear hown hbel hc
          go_wp2
          clear hc2
          go_loop [9, 10] (fun y z => ∃ (t q : Nat) (T : Int), Hid (q = p + t) ∧ q ≤ k ∧ z = .int .i64 q ∧ y = .int .i64 T ∧ 0 ≤ T ∧ T ≤ 1000000000000 ∧ Hid (T = ipV x g p t) ∧ Hid (∀ u, u ≤ t → ipV x g p u ≤ 1000000000000)) (fun _ z => n - (intOf z).toNat)
          case atStart => exact ⟨0, p, x p, rfl, by omega, rfl, rfl, HX0.1, HX0.2, rfl, (fun u hu => by
            have e0 : u = 0 := (by omega)
            subst e0
            exact HX0.2)⟩
          case round =>
            obtain ⟨t, q, T, hq, hqk, rfl, rfl, T0, T1, hT, hot⟩ := hrel
            by_cases hlq : q < k
            · obtain ⟨b1, off1, rfl, hb1, hgk⟩ := HC'.out q hlq
              have hgk2 := (HBEL.out.cell (p := ⟨b1, off1 + q, none⟩) hb1).trans hgk
              obtain ⟨g0, g1⟩ := hg.out q hlq
              have hm := gr_mul (c := T) (r := g q) (M := 1000000000000) T0 T1 (by omega) g1
              have hz := gr_bd (c := T) (r := g q) (d := 1) (M := 1000000000000) T0 T1 (by omega) g1
              obtain ⟨p0, p1⟩ := hm
              obtain ⟨z0, z1⟩ := hz
              have HR := fun w => hide (specRound_any (T * (10000 + g q)) 10000 1 w p0 (by omega) (by omega) (by omega) (by omega))
              have e1 : rnd (T * (10000 + g q)) 10000 1 = grV T (g q) 1 := rfl
              rw [e1] at HR
              have HVN := hide (show grV T (g q) 1 = ipV x g p (t + 1) by rw [hq.out]; exact ip_step hT.out)
              obtain ⟨V, hV⟩ : ∃ V, grV T (g q) 1 = V := ⟨_, rfl⟩
              rw [hV] at HR HVN z0 z1
              have hqt : p + (t + 1) < n := by have := hq.out; omega
              clear hV hgk e1
              cases gv : amtB V
              · have HH := hide (show ¬ ixP x n g k from fun h => by rw [amtB_yes ⟨z0, by have := h.2.2.2 p (t + 1) hqt; rw [← HVN.out] at this; exact this⟩] at gv; cases gv)
                have HBF := hide (HB1.out.trans (HBEL.out.mono HB1.out.size))
                go_wp2_with (first | (go_at_call 60; refine (HR _).out.mono ?_; rintro e w' ⟨rfl, rfl⟩) | (go_at_call 54; refine (specCents_any _ _ ).mono ?_; rintro e w' ⟨rfl, rfl⟩) | (go_at_call 55; refine (specRate_any _ _ ).mono ?_; rintro e w' ⟨rfl, rfl⟩) | (go_at_call 46; refine (specIn_any _ _ _ _ ).mono ?_; rintro e w' ⟨rfl, rfl⟩))
                go_ret2
                exact gave1_no HH.out HBF.out
              · have HOK := hide (show ∀ u, u ≤ t + 1 → ipV x g p u ≤ 1000000000000 from fun u hu => by
                  by_cases hut : u = t + 1
                  · subst hut; rw [← HVN.out]; exact (amtB_iff.1 gv).2
                  · exact hot.out u (by omega))
                have v1 := (amtB_iff.1 gv).2
                go_wp2_with (first | (go_at_call 60; refine (HR _).out.mono ?_; rintro e w' ⟨rfl, rfl⟩) | (go_at_call 54; refine (specCents_any _ _ ).mono ?_; rintro e w' ⟨rfl, rfl⟩) | (go_at_call 55; refine (specRate_any _ _ ).mono ?_; rintro e w' ⟨rfl, rfl⟩) | (go_at_call 46; refine (specIn_any _ _ _ _ ).mono ?_; rintro e w' ⟨rfl, rfl⟩))
                clear gv
                go_round
                case rel => exact ⟨t + 1, q + 1, V, by have := hq.out; show q + 1 = p + (t + 1); omega, by omega, by go_num, rfl, z0, v1, HVN.out, HOK.out⟩
                case measure => simp [intOf]; omega
            · obtain rfl : q = k := by omega
              have HT := hide (show T = ixV x g n p by unfold ixV; rw [hT.out]; congr 1; have := hq.out; omega)
              have HOK := hide (show ∀ j t, j < p + 1 → j + t < n → ipV x g j t ≤ 1000000000000 from fun j u hj hju => by
                by_cases hjp : j = p
                · subst hjp; exact hot.out u (by have := hq.out; omega)
                · exact hok.out j u (by omega) hju)
              have hown := HOWN.out
              have hbel := HBEL.out
              have hsz := hbel.size
              have HLL := hide (show xs.length = p by have := hown.1; omega)
              go_wp2_with (at_builtin; refine wpList_append_own _ rfl _ _ 22 rfl (W1.heap.size) 2 i0 (.int .i64 0) 1 8 Try.underlying22 hi hz0 hz1 hz2 rfl (by decide) _ _ _ rfl (by exact (hown.alloc _)) ⟨_, 0, none⟩ 1 1 [.int .i64 (T)] rfl rfl (cell_one_new _ _ _) (by intro u hu; simp at hu; subst hu; rfl) (by unfold maxLen; omega) (by omega) (by simp; omega) ?_)
              intro v' w5 hown' hgrow _
              have hb1 := (hbel.alloc (by omega) (.cells #[.int .i64 T] 2)).grown hgrow (by simp; omega) (fun j hj => (hown.lt j hj).1)
              have HB1 := hide hb1
              have HON := hide hown'
              clear hgrow hown' hown hbel hb1
              go_wp2
              go_roundw
              case rel => exact ⟨p + 1, _, by omega, by go_num, HON.out, own_step HLL.out hxs.out (congrArg (Value.int .i64) HT.out), HOK.out, HB1.out⟩
              case measure => simp [intOf]; omega
        · obtain rfl : p = n := by omega
          have HH := hide (show ixP x p g k from ⟨HAL0.out, heq1, hg.out, fun i t hit => hok.out i t (by omega) hit⟩)
          obtain ⟨Gx, dx, rfl⟩ := own_shape hown
          have HO := hide hown
          have HBEL := hide hbel
          clear hown hbel
          go_wp2
          go_ret2
          exact gave1_yes HH.out rfl ((OW.of_owns HO.out hxs.out).wide HB1.out.size (Nat.le_refl _)) (HB1.out.trans (HBEL.out.mono HB1.out.size))
end Go.Proofs.Ytjefpcmegkeceaa
