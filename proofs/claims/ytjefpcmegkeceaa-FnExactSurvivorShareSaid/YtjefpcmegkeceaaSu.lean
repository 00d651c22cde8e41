/- SurvivorShare, by both. -/
import Derived.Test.YtjefpcmegkeceaaGp
import Derived.Test.YtjefpcmegkeceaaLi
import Derived.Test.YtjefpcmegkeceaaAm
namespace Go.Proofs.Ytjefpcmegkeceaa
open Go.RowKit Go.Dues
def suP (p r o f t : Int) : Prop := (0 ≤ p ∧ p ≤ 1000000000000) ∧ (0 ≤ r ∧ r ≤ 10000) ∧ (0 ≤ o ∧ o ≤ 1000000000000) ∧ (0 ≤ f ∧ f ≤ 1000000000000) ∧ (0 ≤ t ∧ t ≤ 10000)
def suL (o f t : Int) : Int := max 0 (o - f) * t / 10000
def suV (p r o f t : Int) : Int := max 0 (p * r / 10000 - suL o f t)
theorem su_bd {p r o f t : Int} (h : suP p r o f t) : (0 ≤ p * r ∧ p * r ≤ 10000000000000000) ∧ (0 ≤ max 0 (o - f) * t ∧ max 0 (o - f) * t ≤ 10000000000000000) := by
  obtain ⟨⟨p0, p1⟩, ⟨r0, r1⟩, ⟨o0, o1⟩, ⟨f0, f1⟩, t0, t1⟩ := h
  have a := mul_bd p0 p1 r0 r1
  have b := mul_bd (a := max 0 (o - f)) (M := 1000000000000) (by omega) (by omega) t0 t1
  exact ⟨⟨a.1, by omega⟩, b.1, by omega⟩
set_option maxRecDepth 100000 in
set_option maxHeartbeats 8000000 in
theorem specSurvivor_any (p r o f t : Int) (w : World)  :
    Calls Try.prog 21 #[.int .i64 p, .int .i64 r, .int .i64 o, .int .i64 f, .int .i64 t] w fun e w' => e = .returned (.tuple #[.int .i64 (ifV (suP p r o f t) (suV p r o f t)), .bool (tru (suP p r o f t))]) ∧ Below w.heap.size w w' := by
  have HB0 := hide (Below.refl w.heap.size w)
  cases gg0 : amtB p
  · have HH := hide (show ¬ suP p r o f t from fun h => by rw [amtB_yes (h.1)] at gg0; cases gg0)
    go_enter Try.func21, Try.ntmps21
    go_wp2_with (first | (go_at_call 54; refine (specCents_any _ _ ).mono ?_; rintro e w' ⟨rfl, rfl⟩) | (go_at_call 55; refine (specRate_any _ _ ).mono ?_; rintro e w' ⟨rfl, rfl⟩) | (go_at_call 46; refine (specIn_any _ _ _ _ ).mono ?_; rintro e w' ⟨rfl, rfl⟩))
    go_ret2
    exact ⟨ret_no HH.out, HB0.out⟩
  have HG0 := hide (amtB_iff.1 gg0)
  cases gg1 : ratB r
  · have HH := hide (show ¬ suP p r o f t from fun h => by rw [ratB_yes (h.2.1)] at gg1; cases gg1)
    go_enter Try.func21, Try.ntmps21
    go_wp2_with (first | (go_at_call 54; refine (specCents_any _ _ ).mono ?_; rintro e w' ⟨rfl, rfl⟩) | (go_at_call 55; refine (specRate_any _ _ ).mono ?_; rintro e w' ⟨rfl, rfl⟩) | (go_at_call 46; refine (specIn_any _ _ _ _ ).mono ?_; rintro e w' ⟨rfl, rfl⟩))
    go_ret2
    exact ⟨ret_no HH.out, HB0.out⟩
  have HG1 := hide (ratB_iff.1 gg1)
  cases gg2 : amtB o
  · have HH := hide (show ¬ suP p r o f t from fun h => by rw [amtB_yes (h.2.2.1)] at gg2; cases gg2)
    go_enter Try.func21, Try.ntmps21
    go_wp2_with (first | (go_at_call 54; refine (specCents_any _ _ ).mono ?_; rintro e w' ⟨rfl, rfl⟩) | (go_at_call 55; refine (specRate_any _ _ ).mono ?_; rintro e w' ⟨rfl, rfl⟩) | (go_at_call 46; refine (specIn_any _ _ _ _ ).mono ?_; rintro e w' ⟨rfl, rfl⟩))
    go_ret2
    exact ⟨ret_no HH.out, HB0.out⟩
  have HG2 := hide (amtB_iff.1 gg2)
  cases gg3 : amtB f
  · have HH := hide (show ¬ suP p r o f t from fun h => by rw [amtB_yes (h.2.2.2.1)] at gg3; cases gg3)
    go_enter Try.func21, Try.ntmps21
    go_wp2_with (first | (go_at_call 54; refine (specCents_any _ _ ).mono ?_; rintro e w' ⟨rfl, rfl⟩) | (go_at_call 55; refine (specRate_any _ _ ).mono ?_; rintro e w' ⟨rfl, rfl⟩) | (go_at_call 46; refine (specIn_any _ _ _ _ ).mono ?_; rintro e w' ⟨rfl, rfl⟩))
    go_ret2
    exact ⟨ret_no HH.out, HB0.out⟩
  have HG3 := hide (amtB_iff.1 gg3)
  cases gg4 : ratB t
  · have HH := hide (show ¬ suP p r o f t from fun h => by rw [ratB_yes (h.2.2.2.2)] at gg4; cases gg4)
    go_enter Try.func21, Try.ntmps21
    go_wp2_with (first | (go_at_call 54; refine (specCents_any _ _ ).mono ?_; rintro e w' ⟨rfl, rfl⟩) | (go_at_call 55; refine (specRate_any _ _ ).mono ?_; rintro e w' ⟨rfl, rfl⟩) | (go_at_call 46; refine (specIn_any _ _ _ _ ).mono ?_; rintro e w' ⟨rfl, rfl⟩))
    go_ret2
    exact ⟨ret_no HH.out, HB0.out⟩
  have HG4 := hide (ratB_iff.1 gg4)
  have HH := hide (show suP p r o f t from ⟨HG0.out, HG1.out, HG2.out, HG3.out, HG4.out⟩)
  obtain ⟨⟨x0, x1⟩, y0, y1⟩ := su_bd HH.out
  obtain ⟨p0, p1⟩ := HG0.out
  obtain ⟨r0, r1⟩ := HG1.out
  obtain ⟨o0, o1⟩ := HG2.out
  obtain ⟨f0, f1⟩ := HG3.out
  obtain ⟨t0, t1⟩ := HG4.out
  by_cases hof : f < o
  · have hmx : max 0 (o - f) = o - f := by omega
    rw [hmx] at y0 y1
    have HV := hide (show max 0 (p * r / 10000 - (o - f) * t / 10000) = suV p r o f t by unfold suV suL; rw [hmx])
    clear hmx
    go_enter Try.func21, Try.ntmps21
    go_wp2_with (first | (go_at_call 52; refine (specMx_any _ _ _ ).mono ?_; rintro e w' ⟨rfl, rfl⟩) | (go_at_call 54; refine (specCents_any _ _ ).mono ?_; rintro e w' ⟨rfl, rfl⟩) | (go_at_call 55; refine (specRate_any _ _ ).mono ?_; rintro e w' ⟨rfl, rfl⟩) | (go_at_call 46; refine (specIn_any _ _ _ _ ).mono ?_; rintro e w' ⟨rfl, rfl⟩))
    go_ret2
    exact ⟨ret_val HH.out HV.out, Below.refl _ _⟩
  · have hmx : max 0 (o - f) = 0 := by omega
    have HV := hide (show max 0 (p * r / 10000) = suV p r o f t by unfold suV suL; rw [hmx]; simp)
    clear hmx y0 y1
    go_enter Try.func21, Try.ntmps21
    go_wp2_with (first | (go_at_call 52; refine (specMx_any _ _ _ ).mono ?_; rintro e w' ⟨rfl, rfl⟩) | (go_at_call 54; refine (specCents_any _ _ ).mono ?_; rintro e w' ⟨rfl, rfl⟩) | (go_at_call 55; refine (specRate_any _ _ ).mono ?_; rintro e w' ⟨rfl, rfl⟩) | (go_at_call 46; refine (specIn_any _ _ _ _ ).mono ?_; rintro e w' ⟨rfl, rfl⟩))
    go_ret2
    exact ⟨ret_val HH.out HV.out, Below.refl _ _⟩
set_option maxRecDepth 100000 in
set_option maxHeartbeats 8000000 in
theorem implSurvivor_any (p r o f t : Int) (w : World)  :
    Calls Try.prog 22 #[.int .i64 p, .int .i64 r, .int .i64 o, .int .i64 f, .int .i64 t] w fun e w' => e = .returned (.tuple #[.int .i64 (ifV (suP p r o f t) (suV p r o f t)), .bool (tru (suP p r o f t))]) ∧ Below w.heap.size w w' := by
  have HB0 := hide (Below.refl w.heap.size w)
  have HP := hide (blocks1 w (.cells #[.int .i64 p, .int .i64 o, .int .i64 f] 2))
  have HBW := hide ((Below.refl w.heap.size w).alloc (Nat.le_refl _) (.cells #[.int .i64 p, .int .i64 o, .int .i64 f] 2))
  cases gg0 : amtB p
  · have HH := hide (show ¬ suP p r o f t from fun h => by rw [amtB_yes (h.1)] at gg0; cases gg0)
    go_enter Try.func22, Try.ntmps22
    go_wp2_with fail
    refine (implAmounts3_any w.heap.size p o f _ HP.out).mono ?_
    rintro e w' ⟨rfl, rfl⟩
    go_wp2_with (first | (go_at_call 69; refine (implAmount_any _ _ ).mono ?_; rintro e w' ⟨rfl, rfl⟩) | (go_at_call 53; refine (implRate_any _ _ ).mono ?_; rintro e w' ⟨rfl, rfl⟩) | (go_at_call 49; refine (implWithin_any _ _ _ _ ).mono ?_; rintro e w' ⟨rfl, rfl⟩))
    go_ret2
    exact ⟨ret_no HH.out, HBW.out⟩
  have HG0 := hide (amtB_iff.1 gg0)
  cases gg1 : amtB o
  · have HH := hide (show ¬ suP p r o f t from fun h => by rw [amtB_yes (h.2.2.1)] at gg1; cases gg1)
    go_enter Try.func22, Try.ntmps22
    go_wp2_with fail
    refine (implAmounts3_any w.heap.size p o f _ HP.out).mono ?_
    rintro e w' ⟨rfl, rfl⟩
    go_wp2_with (first | (go_at_call 69; refine (implAmount_any _ _ ).mono ?_; rintro e w' ⟨rfl, rfl⟩) | (go_at_call 53; refine (implRate_any _ _ ).mono ?_; rintro e w' ⟨rfl, rfl⟩) | (go_at_call 49; refine (implWithin_any _ _ _ _ ).mono ?_; rintro e w' ⟨rfl, rfl⟩))
    go_ret2
    exact ⟨ret_no HH.out, HBW.out⟩
  have HG1 := hide (amtB_iff.1 gg1)
  cases gg2 : amtB f
  · have HH := hide (show ¬ suP p r o f t from fun h => by rw [amtB_yes (h.2.2.2.1)] at gg2; cases gg2)
    go_enter Try.func22, Try.ntmps22
    go_wp2_with fail
    refine (implAmounts3_any w.heap.size p o f _ HP.out).mono ?_
    rintro e w' ⟨rfl, rfl⟩
    go_wp2_with (first | (go_at_call 69; refine (implAmount_any _ _ ).mono ?_; rintro e w' ⟨rfl, rfl⟩) | (go_at_call 53; refine (implRate_any _ _ ).mono ?_; rintro e w' ⟨rfl, rfl⟩) | (go_at_call 49; refine (implWithin_any _ _ _ _ ).mono ?_; rintro e w' ⟨rfl, rfl⟩))
    go_ret2
    exact ⟨ret_no HH.out, HBW.out⟩
  have HG2 := hide (amtB_iff.1 gg2)
  cases gg3 : ratB r
  · have HH := hide (show ¬ suP p r o f t from fun h => by rw [ratB_yes (h.2.1)] at gg3; cases gg3)
    go_enter Try.func22, Try.ntmps22
    go_wp2_with fail
    refine (implAmounts3_any w.heap.size p o f _ HP.out).mono ?_
    rintro e w' ⟨rfl, rfl⟩
    go_wp2_with (first | (go_at_call 69; refine (implAmount_any _ _ ).mono ?_; rintro e w' ⟨rfl, rfl⟩) | (go_at_call 53; refine (implRate_any _ _ ).mono ?_; rintro e w' ⟨rfl, rfl⟩) | (go_at_call 49; refine (implWithin_any _ _ _ _ ).mono ?_; rintro e w' ⟨rfl, rfl⟩))
    go_ret2
    exact ⟨ret_no HH.out, HBW.out⟩
  have HG3 := hide (ratB_iff.1 gg3)
  cases gg4 : ratB t
  · have HH := hide (show ¬ suP p r o f t from fun h => by rw [ratB_yes (h.2.2.2.2)] at gg4; cases gg4)
    go_enter Try.func22, Try.ntmps22
    go_wp2_with fail
    refine (implAmounts3_any w.heap.size p o f _ HP.out).mono ?_
    rintro e w' ⟨rfl, rfl⟩
    go_wp2_with (first | (go_at_call 69; refine (implAmount_any _ _ ).mono ?_; rintro e w' ⟨rfl, rfl⟩) | (go_at_call 53; refine (implRate_any _ _ ).mono ?_; rintro e w' ⟨rfl, rfl⟩) | (go_at_call 49; refine (implWithin_any _ _ _ _ ).mono ?_; rintro e w' ⟨rfl, rfl⟩))
    go_ret2
    exact ⟨ret_no HH.out, HBW.out⟩
  have HG4 := hide (ratB_iff.1 gg4)
  have HH := hide (show suP p r o f t from ⟨HG0.out, HG3.out, HG1.out, HG2.out, HG4.out⟩)
  obtain ⟨⟨x0, x1⟩, y0, y1⟩ := su_bd HH.out
  obtain ⟨p0, p1⟩ := HG0.out
  obtain ⟨r0, r1⟩ := HG3.out
  obtain ⟨o0, o1⟩ := HG1.out
  obtain ⟨f0, f1⟩ := HG2.out
  obtain ⟨t0, t1⟩ := HG4.out
  have HPR := fun w => hide (implDue4_any p r 0 w p0 (by omega) ⟨r0, r1⟩ ⟨by omega, by omega⟩)
  have e1 : duV p r 0 = p * r / 10000 := rnd_0 _ _
  rw [e1] at HPR
  clear e1
  by_cases hof : f < o
  · have hmx : max 0 (o - f) = (o - f) := by omega
    have hof2 : (0 : Int) < o - f := by omega
    rw [hmx] at y0 y1
    have D0 : 0 ≤ (o - f) := by omega
    have D1 : (o - f) ≤ 1000000000000 := by omega
    have HL : Hid ((o - f) * t / 10000 = suL o f t) := by unfold suL; exact (show (o - f) * t / 10000 = max 0 (o - f) * t / 10000 by rw [hmx])
    have HDT := fun w => hide (implDue4_any (o - f) t 0 w D0 (by omega) ⟨t0, t1⟩ ⟨by omega, by omega⟩)
    have e2 : duV (o - f) t 0 = (o - f) * t / 10000 := rnd_0 _ _
    rw [e2] at HDT
    clear e2 hmx D0 D1
    go_enter Try.func22, Try.ntmps22
    go_wp2_with fail
    refine (implAmounts3_any w.heap.size p o f _ HP.out).mono ?_
    rintro e w' ⟨rfl, rfl⟩
    go_wp2_with (first | (go_at_call 69; refine (implAmount_any _ _ ).mono ?_; rintro e w' ⟨rfl, rfl⟩) | (go_at_call 53; refine (implRate_any _ _ ).mono ?_; rintro e w' ⟨rfl, rfl⟩) | (go_at_call 49; refine (implWithin_any _ _ _ _ ).mono ?_; rintro e w' ⟨rfl, rfl⟩))
    refine (HDT _).out.mono ?_
    rintro e w' ⟨rfl, q1, rfl⟩
    go_wp2_with fail
    refine (HPR _).out.mono ?_
    rintro e w' ⟨rfl, q2, rfl⟩
    obtain ⟨a, ha⟩ : ∃ a, p * r / 10000 = a := ⟨_, rfl⟩
    have a0 : 0 ≤ a ∧ a ≤ 1000000000000 := by omega
    obtain ⟨b, hb⟩ : ∃ b, (o - f) * t / 10000 = b := ⟨_, rfl⟩
    have b0 : 0 ≤ b ∧ b ≤ 1000000000000 := by omega
    have HV : Hid (max 0 (a - b) = suV p r o f t) := by unfold suV; rw [← HL.out, ha, hb]; exact rfl
    rw [ha, hb]
    clear ha hb HL
    obtain ⟨b0, b1⟩ := b0
    obtain ⟨a0, a1⟩ := a0
    by_cases hab : b < a
    · have hR : max 0 (a - b) = a - b := by omega
      have hab2 : (0 : Int) < a - b := by omega
      rw [hR] at HV
      clear hR
      go_wp2
      go_ret2
      exact ⟨ret_val HH.out HV.out, bel_dN HBW.out _⟩
    · have hR : max 0 (a - b) = 0 := by omega
      have hab2 : ¬ (0 : Int) < a - b := by omega
      rw [hR] at HV
      clear hR
      go_wp2
      go_ret2
      exact ⟨ret_val HH.out HV.out, bel_dN HBW.out _⟩
  · have hmx : max 0 (o - f) = (0 : Int) := by omega
    have hof2 : ¬ (0 : Int) < o - f := by omega
    rw [hmx] at y0 y1
    have D0 : 0 ≤ (0 : Int) := by omega
    have D1 : (0 : Int) ≤ 1000000000000 := by omega
    have HL : Hid ((0 : Int) = suL o f t) := by unfold suL; exact (show (0 : Int) = max 0 (o - f) * t / 10000 by rw [hmx]; simp)
    have HDT := fun w => hide (implDue4_any (0 : Int) t 0 w D0 (by omega) ⟨t0, t1⟩ ⟨by omega, by omega⟩)
    have e2 : duV (0 : Int) t 0 = 0 := by unfold duV; rw [rnd_0]; simp
    rw [e2] at HDT
    clear e2 hmx D0 D1
    go_enter Try.func22, Try.ntmps22
    go_wp2_with fail
    refine (implAmounts3_any w.heap.size p o f _ HP.out).mono ?_
    rintro e w' ⟨rfl, rfl⟩
    go_wp2_with (first | (go_at_call 69; refine (implAmount_any _ _ ).mono ?_; rintro e w' ⟨rfl, rfl⟩) | (go_at_call 53; refine (implRate_any _ _ ).mono ?_; rintro e w' ⟨rfl, rfl⟩) | (go_at_call 49; refine (implWithin_any _ _ _ _ ).mono ?_; rintro e w' ⟨rfl, rfl⟩))
    refine (HDT _).out.mono ?_
    rintro e w' ⟨rfl, q1, rfl⟩
    go_wp2_with fail
    refine (HPR _).out.mono ?_
    rintro e w' ⟨rfl, q2, rfl⟩
    obtain ⟨a, ha⟩ : ∃ a, p * r / 10000 = a := ⟨_, rfl⟩
    have a0 : 0 ≤ a ∧ a ≤ 1000000000000 := by omega
    have HV := hide (show max 0 a = suV p r o f t by unfold suV; rw [← HL.out, ha, Int.sub_zero])
    rw [ha]
    clear ha HL
    obtain ⟨a0, a1⟩ := a0
    by_cases hab : 0 < a
    · have hR : max 0 (a) = a := by omega
      have hab2 : (0 : Int) < a := by omega
      rw [hR] at HV
      clear hR
      go_wp2
      go_ret2
      exact ⟨ret_val HH.out HV.out, bel_dN HBW.out _⟩
    · have hR : max 0 (a) = 0 := by omega
      have hab2 : ¬ (0 : Int) < a := by omega
      rw [hR] at HV
      clear hR
      go_wp2
      go_ret2
      exact ⟨ret_val HH.out (by have := HV.out; omega), bel_dN HBW.out _⟩
end Go.Proofs.Ytjefpcmegkeceaa
