/- PointPension, by both. -/
import Derived.Test.YtjefpcmegkeceaaGp
import Derived.Test.YtjefpcmegkeceaaLi
namespace Go.Proofs.Ytjefpcmegkeceaa
open Go.RowKit Go.Dues
def ppP (x : Nat → Int) (n : Nat) (v f : Int) : Prop := allP x n 1 60 0 1000000 ∧ (0 ≤ v ∧ v ≤ 100000) ∧ (0 ≤ f ∧ f ≤ 30000)
def ppV (x : Nat → Int) (n : Nat) (v f : Int) : Int := psum x n * v / 10000 * f / 10000
theorem psum_cap {x : Nat → Int} {n : Nat} {M : Int} (h : ∀ j, j < n → 0 ≤ x j ∧ x j ≤ M) : 0 ≤ psum x n ∧ psum x n ≤ M * n := by
  constructor
  · exact (psum_bd (fun j hj => (h j hj).1) (Nat.le_refl n)).1
  · have h1 : ∀ k, k ≤ n → psum x k ≤ M * k := by
      intro k
      induction k with
      | zero => intro _; simp [psum]
      | succ k ih =>
        intro hk
        have := ih (by omega)
        have := (h k (by omega)).2
        rw [psum_succ]; push_cast; rw [Int.mul_add]; omega
    exact h1 n (Nat.le_refl _)
theorem pp_bd {x : Nat → Int} {n : Nat} {v f : Int} (h : allP x n 1 60 0 1000000) (hv : 0 ≤ v ∧ v ≤ 100000) (hf : 0 ≤ f ∧ f ≤ 30000) :
    (0 ≤ psum x n ∧ psum x n ≤ 60000000) ∧ (0 ≤ psum x n * v ∧ psum x n * v ≤ 6000000000000) ∧ (0 ≤ psum x n * v / 10000 ∧ psum x n * v / 10000 ≤ 600000000) ∧ (0 ≤ psum x n * v / 10000 * f ∧ psum x n * v / 10000 * f ≤ 18000000000000) ∧ (0 ≤ ppV x n v f ∧ ppV x n v f ≤ 1800000000) := by
  have h1 := psum_cap h.2
  have h2 := h.1.2
  have a : 0 ≤ psum x n ∧ psum x n ≤ 60000000 := ⟨h1.1, by omega⟩
  have b := mul_bd (M := 60000000) (N := 100000) a.1 a.2 hv.1 hv.2
  have c : 0 ≤ psum x n * v / 10000 ∧ psum x n * v / 10000 ≤ 600000000 := by omega
  have d := mul_bd (M := 600000000) (N := 30000) c.1 c.2 hf.1 hf.2
  refine ⟨a, ⟨b.1, by omega⟩, c, ⟨d.1, by omega⟩, ?_⟩
  unfold ppV
  omega
set_option maxRecDepth 100000 in
set_option maxHeartbeats 8000000 in
theorem specPension_any (A : Option Addr) (n c : Nat) (x : Nat → Int) (v f : Int) (w : World) (hn_n : n ≤ maxLen) (hs_n : SL w A n (fun j => .int .i64 (x j))) :
    Calls Try.prog 15 #[.slice A n c, .int .i64 v, .int .i64 f] w fun e w' => e = .returned (.tuple #[.int .i64 (ifV (ppP x n v f) (ppV x n v f)), .bool (tru (ppP x n v f))]) ∧ Below w.heap.size w w' := by
  unfold maxLen at hn_n
  have HB0 := hide (Below.refl w.heap.size w)
  have HS0_0 := hide hs_n
  clear hs_n
  by_cases hall0 : allP x n 1 60 0 1000000
  rotate_left
  · have HAT0 := hide (tru_no hall0)
    have HH := hide (show ¬ ppP x n v f from fun h => hall0 (h.1))
    clear hall0
    go_enter Try.func15, Try.ntmps15
    go_wp2_with (first | (go_at_call 54; refine (specCents_any _ _ ).mono ?_; rintro e w' ⟨rfl, rfl⟩) | (go_at_call 55; refine (specRate_any _ _ ).mono ?_; rintro e w' ⟨rfl, rfl⟩) | (go_at_call 46; refine (specIn_any _ _ _ _ ).mono ?_; rintro e w' ⟨rfl, rfl⟩))
    refine (specPoints_any A n c x _ (by unfold maxLen; omega) HS0_0.out).mono ?_
    rw [HAT0.out]
    rintro e W1 ⟨rfl, hbe⟩
    have HB1 : Hid (Below w.heap.size w W1) := by rw [← hbe]; exact HB0.out
    have HS0_1 : Hid (SL W1 A n (fun j => .int .i64 (x j))) := by rw [← hbe]; exact HS0_0.out
    clear hbe
    go_wp2_with (first | (go_at_call 54; refine (specCents_any _ _ ).mono ?_; rintro e w' ⟨rfl, rfl⟩) | (go_at_call 55; refine (specRate_any _ _ ).mono ?_; rintro e w' ⟨rfl, rfl⟩) | (go_at_call 46; refine (specIn_any _ _ _ _ ).mono ?_; rintro e w' ⟨rfl, rfl⟩))
    go_ret2
    exact ⟨ret_no HH.out, HB1.out⟩
  have HAT0 := hide (tru_yes hall0)
  have HAL0 := hide hall0
  clear hall0
  cases gg1 : inB v (0) (100000)
  · have HH := hide (show ¬ ppP x n v f from fun h => by rw [inB_yes (h.2.1)] at gg1; cases gg1)
    go_enter Try.func15, Try.ntmps15
    go_wp2_with (first | (go_at_call 54; refine (specCents_any _ _ ).mono ?_; rintro e w' ⟨rfl, rfl⟩) | (go_at_call 55; refine (specRate_any _ _ ).mono ?_; rintro e w' ⟨rfl, rfl⟩) | (go_at_call 46; refine (specIn_any _ _ _ _ ).mono ?_; rintro e w' ⟨rfl, rfl⟩))
    refine (specPoints_any A n c x _ (by unfold maxLen; omega) HS0_0.out).mono ?_
    rw [HAT0.out]
    rintro e W1 ⟨rfl, hbe⟩
    have HB1 : Hid (Below w.heap.size w W1) := by rw [← hbe]; exact HB0.out
    have HS0_1 : Hid (SL W1 A n (fun j => .int .i64 (x j))) := by rw [← hbe]; exact HS0_0.out
    clear hbe
    go_wp2_with (first | (go_at_call 54; refine (specCents_any _ _ ).mono ?_; rintro e w' ⟨rfl, rfl⟩) | (go_at_call 55; refine (specRate_any _ _ ).mono ?_; rintro e w' ⟨rfl, rfl⟩) | (go_at_call 46; refine (specIn_any _ _ _ _ ).mono ?_; rintro e w' ⟨rfl, rfl⟩))
    go_ret2
    exact ⟨ret_no HH.out, HB1.out⟩
  have HG1 := hide (inB_iff.1 gg1)
  cases gg2 : inB f (0) (30000)
  · have HH := hide (show ¬ ppP x n v f from fun h => by rw [inB_yes (h.2.2)] at gg2; cases gg2)
    go_enter Try.func15, Try.ntmps15
    go_wp2_with (first | (go_at_call 54; refine (specCents_any _ _ ).mono ?_; rintro e w' ⟨rfl, rfl⟩) | (go_at_call 55; refine (specRate_any _ _ ).mono ?_; rintro e w' ⟨rfl, rfl⟩) | (go_at_call 46; refine (specIn_any _ _ _ _ ).mono ?_; rintro e w' ⟨rfl, rfl⟩))
    refine (specPoints_any A n c x _ (by unfold maxLen; omega) HS0_0.out).mono ?_
    rw [HAT0.out]
    rintro e W1 ⟨rfl, hbe⟩
    have HB1 : Hid (Below w.heap.size w W1) := by rw [← hbe]; exact HB0.out
    have HS0_1 : Hid (SL W1 A n (fun j => .int .i64 (x j))) := by rw [← hbe]; exact HS0_0.out
    clear hbe
    go_wp2_with (first | (go_at_call 54; refine (specCents_any _ _ ).mono ?_; rintro e w' ⟨rfl, rfl⟩) | (go_at_call 55; refine (specRate_any _ _ ).mono ?_; rintro e w' ⟨rfl, rfl⟩) | (go_at_call 46; refine (specIn_any _ _ _ _ ).mono ?_; rintro e w' ⟨rfl, rfl⟩))
    go_ret2
    exact ⟨ret_no HH.out, HB1.out⟩
  have HG2 := hide (inB_iff.1 gg2)
  obtain ⟨⟨s0, s1⟩, ⟨a0, a1⟩, ⟨b0, b1⟩, ⟨c0, c1⟩, d0, d1⟩ := pp_bd HAL0.out HG1.out HG2.out
  have HH := hide (show ppP x n v f from ⟨HAL0.out, HG1.out, HG2.out⟩)
  have n60 := HAL0.out.1.2
  go_enter Try.func15, Try.ntmps15
  go_wp2_with (first | (go_at_call 54; refine (specCents_any _ _ ).mono ?_; rintro e w' ⟨rfl, rfl⟩) | (go_at_call 55; refine (specRate_any _ _ ).mono ?_; rintro e w' ⟨rfl, rfl⟩) | (go_at_call 46; refine (specIn_any _ _ _ _ ).mono ?_; rintro e w' ⟨rfl, rfl⟩))
  refine (specPoints_any A n c x _ (by unfold maxLen; omega) HS0_0.out).mono ?_
  rw [HAT0.out]
  rintro e W1 ⟨rfl, hbe⟩
  have HB1 : Hid (Below w.heap.size w W1) := by rw [← hbe]; exact HB0.out
  have HS0_1 : Hid (SL W1 A n (fun j => .int .i64 (x j))) := by rw [← hbe]; exact HS0_0.out
  clear hbe
  go_wp2_with (first | (go_at_call 54; refine (specCents_any _ _ ).mono ?_; rintro e w' ⟨rfl, rfl⟩) | (go_at_call 55; refine (specRate_any _ _ ).mono ?_; rintro e w' ⟨rfl, rfl⟩) | (go_at_call 46; refine (specIn_any _ _ _ _ ).mono ?_; rintro e w' ⟨rfl, rfl⟩))
  clear gg1 gg2
  refine (specSum6_any A n c x _ (by omega) (fun j hj => by have := HAL0.out.2 j hj; omega) HS0_1.out).mono ?_
  rintro e w' ⟨rfl, rfl⟩
  go_wp2
  go_ret2
  exact ⟨ret_yes HH.out, HB1.out⟩
set_option maxRecDepth 100000 in
set_option maxHeartbeats 8000000 in
theorem implPension_any (A : Option Addr) (n c : Nat) (x : Nat → Int) (v f : Int) (w : World) (hn_n : n ≤ maxLen) (hs_n : SL w A n (fun j => .int .i64 (x j))) :
    Calls Try.prog 17 #[.slice A n c, .int .i64 v, .int .i64 f] w fun e w' => e = .returned (.tuple #[.int .i64 (ifV (ppP x n v f) (ppV x n v f)), .bool (tru (ppP x n v f))]) ∧ Below w.heap.size w w' := by
  unfold maxLen at hn_n
  have HB0 := hide (Below.refl w.heap.size w)
  have HS0_0 := hide hs_n
  clear hs_n
  by_cases hall0 : allP x n 1 60 0 1000000
  rotate_left
  · have HAT0 := hide (tru_no hall0)
    have HH := hide (show ¬ ppP x n v f from fun h => hall0 (h.1))
    clear hall0
    go_enter Try.func17, Try.ntmps17
    go_wp2_with (first | (go_at_call 69; refine (implAmount_any _ _ ).mono ?_; rintro e w' ⟨rfl, rfl⟩) | (go_at_call 53; refine (implRate_any _ _ ).mono ?_; rintro e w' ⟨rfl, rfl⟩) | (go_at_call 49; refine (implWithin_any _ _ _ _ ).mono ?_; rintro e w' ⟨rfl, rfl⟩) | (go_at_call 48; go_in))
    refine (areAll_isPoints A n c x 1 60 _ (by unfold maxLen; omega) HS0_0.out).mono ?_
    rw [HAT0.out]
    rintro e W1 ⟨rfl, hb⟩
    have HB1 := hide (HB0.out.trans (hb.mono HB0.out.size))
    have HS0_1 := hide (HS0_0.out.below hb)
    clear hb
    go_wp2_with (first | (go_at_call 69; refine (implAmount_any _ _ ).mono ?_; rintro e w' ⟨rfl, rfl⟩) | (go_at_call 53; refine (implRate_any _ _ ).mono ?_; rintro e w' ⟨rfl, rfl⟩) | (go_at_call 49; refine (implWithin_any _ _ _ _ ).mono ?_; rintro e w' ⟨rfl, rfl⟩) | (go_at_call 48; go_in))
    go_ret2
    exact ⟨ret_no HH.out, HB1.out⟩
  have HAT0 := hide (tru_yes hall0)
  have HAL0 := hide hall0
  clear hall0
  cases gg1 : inB v (0) (100000)
  · have HH := hide (show ¬ ppP x n v f from fun h => by rw [inB_yes (h.2.1)] at gg1; cases gg1)
    go_enter Try.func17, Try.ntmps17
    go_wp2_with (first | (go_at_call 69; refine (implAmount_any _ _ ).mono ?_; rintro e w' ⟨rfl, rfl⟩) | (go_at_call 53; refine (implRate_any _ _ ).mono ?_; rintro e w' ⟨rfl, rfl⟩) | (go_at_call 49; refine (implWithin_any _ _ _ _ ).mono ?_; rintro e w' ⟨rfl, rfl⟩) | (go_at_call 48; go_in))
    refine (areAll_isPoints A n c x 1 60 _ (by unfold maxLen; omega) HS0_0.out).mono ?_
    rw [HAT0.out]
    rintro e W1 ⟨rfl, hb⟩
    have HB1 := hide (HB0.out.trans (hb.mono HB0.out.size))
    have HS0_1 := hide (HS0_0.out.below hb)
    clear hb
    go_wp2_with (first | (go_at_call 69; refine (implAmount_any _ _ ).mono ?_; rintro e w' ⟨rfl, rfl⟩) | (go_at_call 53; refine (implRate_any _ _ ).mono ?_; rintro e w' ⟨rfl, rfl⟩) | (go_at_call 49; refine (implWithin_any _ _ _ _ ).mono ?_; rintro e w' ⟨rfl, rfl⟩) | (go_at_call 48; go_in))
    go_ret2
    exact ⟨ret_no HH.out, HB1.out⟩
  have HG1 := hide (inB_iff.1 gg1)
  cases gg2 : inB f (0) (30000)
  · have HH := hide (show ¬ ppP x n v f from fun h => by rw [inB_yes (h.2.2)] at gg2; cases gg2)
    go_enter Try.func17, Try.ntmps17
    go_wp2_with (first | (go_at_call 69; refine (implAmount_any _ _ ).mono ?_; rintro e w' ⟨rfl, rfl⟩) | (go_at_call 53; refine (implRate_any _ _ ).mono ?_; rintro e w' ⟨rfl, rfl⟩) | (go_at_call 49; refine (implWithin_any _ _ _ _ ).mono ?_; rintro e w' ⟨rfl, rfl⟩) | (go_at_call 48; go_in))
    refine (areAll_isPoints A n c x 1 60 _ (by unfold maxLen; omega) HS0_0.out).mono ?_
    rw [HAT0.out]
    rintro e W1 ⟨rfl, hb⟩
    have HB1 := hide (HB0.out.trans (hb.mono HB0.out.size))
    have HS0_1 := hide (HS0_0.out.below hb)
    clear hb
    go_wp2_with (first | (go_at_call 69; refine (implAmount_any _ _ ).mono ?_; rintro e w' ⟨rfl, rfl⟩) | (go_at_call 53; refine (implRate_any _ _ ).mono ?_; rintro e w' ⟨rfl, rfl⟩) | (go_at_call 49; refine (implWithin_any _ _ _ _ ).mono ?_; rintro e w' ⟨rfl, rfl⟩) | (go_at_call 48; go_in))
    go_ret2
    exact ⟨ret_no HH.out, HB1.out⟩
  have HG2 := hide (inB_iff.1 gg2)
  obtain ⟨⟨s0, s1⟩, ⟨a0, a1⟩, ⟨b0, b1⟩, ⟨c0, c1⟩, d0, d1⟩ := pp_bd HAL0.out HG1.out HG2.out
  have HH := hide (show ppP x n v f from ⟨HAL0.out, HG1.out, HG2.out⟩)
  have n60 := HAL0.out.1.2
  go_enter Try.func17, Try.ntmps17
  go_wp2_with (first | (go_at_call 69; refine (implAmount_any _ _ ).mono ?_; rintro e w' ⟨rfl, rfl⟩) | (go_at_call 53; refine (implRate_any _ _ ).mono ?_; rintro e w' ⟨rfl, rfl⟩) | (go_at_call 49; refine (implWithin_any _ _ _ _ ).mono ?_; rintro e w' ⟨rfl, rfl⟩) | (go_at_call 48; go_in))
  refine (areAll_isPoints A n c x 1 60 _ (by unfold maxLen; omega) HS0_0.out).mono ?_
  rw [HAT0.out]
  rintro e W1 ⟨rfl, hb⟩
  have HB1 := hide (HB0.out.trans (hb.mono HB0.out.size))
  have HS0_1 := hide (HS0_0.out.below hb)
  clear hb
  go_wp2_with (first | (go_at_call 69; refine (implAmount_any _ _ ).mono ?_; rintro e w' ⟨rfl, rfl⟩) | (go_at_call 53; refine (implRate_any _ _ ).mono ?_; rintro e w' ⟨rfl, rfl⟩) | (go_at_call 49; refine (implWithin_any _ _ _ _ ).mono ?_; rintro e w' ⟨rfl, rfl⟩) | (go_at_call 48; go_in))
  clear gg1 gg2
  refine (sumBy_itself A n c x _ (by omega) (fun j hj => by have := HAL0.out.2 j hj; omega) HS0_1.out).mono ?_
  rintro e w' ⟨rfl, rfl⟩
  go_wp2
  go_ret2
  exact ⟨ret_yes HH.out, HB1.out⟩
def agP (m a l t : Int) : Prop := (-600 ≤ m ∧ m ≤ 600) ∧ (0 ≤ a ∧ a ≤ 200) ∧ (0 ≤ l ∧ l ≤ 200) ∧ (0 ≤ t ∧ t ≤ 10000)
def agV (m a l t : Int) : Int := if m < 0 then max t (10000 + m * a) else 10000 + m * l
theorem ag_mul {m a : Int} (hm : -600 ≤ m ∧ m ≤ 600) (ha : 0 ≤ a ∧ a ≤ 200) : -120000 ≤ m * a ∧ m * a ≤ 120000 := by
  have h1 := mul_bd (a := m + 600) (b := a) (M := 1200) (N := 200) (by omega) (by omega) ha.1 ha.2
  rw [Int.add_mul] at h1
  by_cases h : 0 ≤ m
  · have := mul_bd (M := 600) (N := 200) h hm.2 ha.1 ha.2; omega
  · have := mul_bd (a := -m) (b := a) (M := 600) (N := 200) (by omega) (by omega) ha.1 ha.2
    rw [Int.neg_mul] at this; omega
set_option maxRecDepth 100000 in
set_option maxHeartbeats 8000000 in
theorem specAge_any (m a l t : Int) (w : World)  :
    Calls Try.prog 19 #[.int .i64 m, .int .i64 a, .int .i64 l, .int .i64 t] w fun e w' => e = .returned (.tuple #[.int .i64 (ifV (agP m a l t) (agV m a l t)), .bool (tru (agP m a l t))]) ∧ Below w.heap.size w w' := by
  have HB0 := hide (Below.refl w.heap.size w)
  cases gg0 : inB m (-600) (600)
  · have HH := hide (show ¬ agP m a l t from fun h => by rw [inB_yes (h.1)] at gg0; cases gg0)
    go_enter Try.func19, Try.ntmps19
    go_wp2_with (first | (go_at_call 54; refine (specCents_any _ _ ).mono ?_; rintro e w' ⟨rfl, rfl⟩) | (go_at_call 55; refine (specRate_any _ _ ).mono ?_; rintro e w' ⟨rfl, rfl⟩) | (go_at_call 46; refine (specIn_any _ _ _ _ ).mono ?_; rintro e w' ⟨rfl, rfl⟩))
    go_ret2
    exact ⟨ret_no HH.out, HB0.out⟩
  have HG0 := hide (inB_iff.1 gg0)
  cases gg1 : inB a (0) (200)
  · have HH := hide (show ¬ agP m a l t from fun h => by rw [inB_yes (h.2.1)] at gg1; cases gg1)
    go_enter Try.func19, Try.ntmps19
    go_wp2_with (first | (go_at_call 54; refine (specCents_any _ _ ).mono ?_; rintro e w' ⟨rfl, rfl⟩) | (go_at_call 55; refine (specRate_any _ _ ).mono ?_; rintro e w' ⟨rfl, rfl⟩) | (go_at_call 46; refine (specIn_any _ _ _ _ ).mono ?_; rintro e w' ⟨rfl, rfl⟩))
    go_ret2
    exact ⟨ret_no HH.out, HB0.out⟩
  have HG1 := hide (inB_iff.1 gg1)
  cases gg2 : inB l (0) (200)
  · have HH := hide (show ¬ agP m a l t from fun h => by rw [inB_yes (h.2.2.1)] at gg2; cases gg2)
    go_enter Try.func19, Try.ntmps19
    go_wp2_with (first | (go_at_call 54; refine (specCents_any _ _ ).mono ?_; rintro e w' ⟨rfl, rfl⟩) | (go_at_call 55; refine (specRate_any _ _ ).mono ?_; rintro e w' ⟨rfl, rfl⟩) | (go_at_call 46; refine (specIn_any _ _ _ _ ).mono ?_; rintro e w' ⟨rfl, rfl⟩))
    go_ret2
    exact ⟨ret_no HH.out, HB0.out⟩
  have HG2 := hide (inB_iff.1 gg2)
  cases gg3 : inB t (0) (10000)
  · have HH := hide (show ¬ agP m a l t from fun h => by rw [inB_yes (h.2.2.2)] at gg3; cases gg3)
    go_enter Try.func19, Try.ntmps19
    go_wp2_with (first | (go_at_call 54; refine (specCents_any _ _ ).mono ?_; rintro e w' ⟨rfl, rfl⟩) | (go_at_call 55; refine (specRate_any _ _ ).mono ?_; rintro e w' ⟨rfl, rfl⟩) | (go_at_call 46; refine (specIn_any _ _ _ _ ).mono ?_; rintro e w' ⟨rfl, rfl⟩))
    go_ret2
    exact ⟨ret_no HH.out, HB0.out⟩
  have HG3 := hide (inB_iff.1 gg3)
  have HH := hide (show agP m a l t from ⟨HG0.out, HG1.out, HG2.out, HG3.out⟩)
  obtain ⟨x0, x1⟩ := ag_mul HG0.out HG1.out
  obtain ⟨y0, y1⟩ := ag_mul HG0.out HG2.out
  obtain ⟨t0, t1⟩ := HG3.out
  by_cases hm : m < 0
  · have HV := hide (show max t (10000 + m * a) = agV m a l t by unfold agV; rw [if_pos hm])
    obtain ⟨M, hM⟩ : ∃ M, max t (10000 + m * a) = M := ⟨_, rfl⟩
    have hM2 : (if t < 10000 + m * a then 10000 + m * a else t) = M := by split <;> omega
    have hM3 : (if 10000 + m * a < t then t else 10000 + m * a) = M := by split <;> omega
    have HM := hide hM
    go_enter Try.func19, Try.ntmps19
    go_wp2_with (first | (go_at_call 52; refine (specMx_any _ _ _ ).mono ?_; rintro e w' ⟨rfl, rfl⟩) | (go_at_call 54; refine (specCents_any _ _ ).mono ?_; rintro e w' ⟨rfl, rfl⟩) | (go_at_call 55; refine (specRate_any _ _ ).mono ?_; rintro e w' ⟨rfl, rfl⟩) | (go_at_call 46; refine (specIn_any _ _ _ _ ).mono ?_; rintro e w' ⟨rfl, rfl⟩))
    all_goals
      go_ret2
      exact ⟨ret_val HH.out (by have := HV.out; omega), Below.refl _ _⟩
  · have HV := hide (show 10000 + m * l = agV m a l t by unfold agV; rw [if_neg hm])
    go_enter Try.func19, Try.ntmps19
    go_wp2_with (first | (go_at_call 54; refine (specCents_any _ _ ).mono ?_; rintro e w' ⟨rfl, rfl⟩) | (go_at_call 55; refine (specRate_any _ _ ).mono ?_; rintro e w' ⟨rfl, rfl⟩) | (go_at_call 46; refine (specIn_any _ _ _ _ ).mono ?_; rintro e w' ⟨rfl, rfl⟩))
    go_ret2
    exact ⟨ret_val HH.out HV.out, Below.refl _ _⟩
set_option maxRecDepth 100000 in
set_option maxHeartbeats 8000000 in
theorem implAge_any (m a l t : Int) (w : World)  :
    Calls Try.prog 20 #[.int .i64 m, .int .i64 a, .int .i64 l, .int .i64 t] w fun e w' => e = .returned (.tuple #[.int .i64 (ifV (agP m a l t) (agV m a l t)), .bool (tru (agP m a l t))]) ∧ Below w.heap.size w w' := by
  have HB0 := hide (Below.refl w.heap.size w)
  cases gg0 : inB m (-600) (600)
  · have HH := hide (show ¬ agP m a l t from fun h => by rw [inB_yes (h.1)] at gg0; cases gg0)
    go_enter Try.func20, Try.ntmps20
    go_wp2_with (first | (go_at_call 69; refine (implAmount_any _ _ ).mono ?_; rintro e w' ⟨rfl, rfl⟩) | (go_at_call 53; refine (implRate_any _ _ ).mono ?_; rintro e w' ⟨rfl, rfl⟩) | (go_at_call 49; refine (implWithin_any _ _ _ _ ).mono ?_; rintro e w' ⟨rfl, rfl⟩))
    go_ret2
    exact ⟨ret_no HH.out, HB0.out⟩
  have HG0 := hide (inB_iff.1 gg0)
  cases gg1 : inB a (0) (200)
  · have HH := hide (show ¬ agP m a l t from fun h => by rw [inB_yes (h.2.1)] at gg1; cases gg1)
    go_enter Try.func20, Try.ntmps20
    go_wp2_with (first | (go_at_call 69; refine (implAmount_any _ _ ).mono ?_; rintro e w' ⟨rfl, rfl⟩) | (go_at_call 53; refine (implRate_any _ _ ).mono ?_; rintro e w' ⟨rfl, rfl⟩) | (go_at_call 49; refine (implWithin_any _ _ _ _ ).mono ?_; rintro e w' ⟨rfl, rfl⟩))
    go_ret2
    exact ⟨ret_no HH.out, HB0.out⟩
  have HG1 := hide (inB_iff.1 gg1)
  cases gg2 : inB l (0) (200)
  · have HH := hide (show ¬ agP m a l t from fun h => by rw [inB_yes (h.2.2.1)] at gg2; cases gg2)
    go_enter Try.func20, Try.ntmps20
    go_wp2_with (first | (go_at_call 69; refine (implAmount_any _ _ ).mono ?_; rintro e w' ⟨rfl, rfl⟩) | (go_at_call 53; refine (implRate_any _ _ ).mono ?_; rintro e w' ⟨rfl, rfl⟩) | (go_at_call 49; refine (implWithin_any _ _ _ _ ).mono ?_; rintro e w' ⟨rfl, rfl⟩))
    go_ret2
    exact ⟨ret_no HH.out, HB0.out⟩
  have HG2 := hide (inB_iff.1 gg2)
  cases gg3 : ratB t
  · have HH := hide (show ¬ agP m a l t from fun h => by rw [ratB_yes (h.2.2.2)] at gg3; cases gg3)
    go_enter Try.func20, Try.ntmps20
    go_wp2_with (first | (go_at_call 69; refine (implAmount_any _ _ ).mono ?_; rintro e w' ⟨rfl, rfl⟩) | (go_at_call 53; refine (implRate_any _ _ ).mono ?_; rintro e w' ⟨rfl, rfl⟩) | (go_at_call 49; refine (implWithin_any _ _ _ _ ).mono ?_; rintro e w' ⟨rfl, rfl⟩))
    go_ret2
    exact ⟨ret_no HH.out, HB0.out⟩
  have HG3 := hide (ratB_iff.1 gg3)
  have HH := hide (show agP m a l t from ⟨HG0.out, HG1.out, HG2.out, HG3.out⟩)
  obtain ⟨x0, x1⟩ := ag_mul HG0.out HG1.out
  obtain ⟨y0, y1⟩ := ag_mul HG0.out HG2.out
  obtain ⟨t0, t1⟩ := HG3.out
  by_cases hm : m < 0
  · have HV := hide (show max t (10000 + m * a) = agV m a l t by unfold agV; rw [if_pos hm])
    obtain ⟨M, hM⟩ : ∃ M, max t (10000 + m * a) = M := ⟨_, rfl⟩
    have hM2 : (if t < 10000 + m * a then 10000 + m * a else t) = M := by split <;> omega
    have hM3 : (if 10000 + m * a < t then t else 10000 + m * a) = M := by split <;> omega
    have HM := hide hM
    go_enter Try.func20, Try.ntmps20
    go_wp2_with (first | fail | (go_at_call 69; refine (implAmount_any _ _ ).mono ?_; rintro e w' ⟨rfl, rfl⟩) | (go_at_call 53; refine (implRate_any _ _ ).mono ?_; rintro e w' ⟨rfl, rfl⟩) | (go_at_call 49; refine (implWithin_any _ _ _ _ ).mono ?_; rintro e w' ⟨rfl, rfl⟩))
    all_goals
      go_ret2
      exact ⟨ret_val HH.out (by have := HV.out; omega), Below.refl _ _⟩
  · have HV := hide (show 10000 + m * l = agV m a l t by unfold agV; rw [if_neg hm])
    go_enter Try.func20, Try.ntmps20
    go_wp2_with (first | (go_at_call 69; refine (implAmount_any _ _ ).mono ?_; rintro e w' ⟨rfl, rfl⟩) | (go_at_call 53; refine (implRate_any _ _ ).mono ?_; rintro e w' ⟨rfl, rfl⟩) | (go_at_call 49; refine (implWithin_any _ _ _ _ ).mono ?_; rintro e w' ⟨rfl, rfl⟩))
    go_ret2
    exact ⟨ret_val HH.out HV.out, Below.refl _ _⟩
end Go.Proofs.Ytjefpcmegkeceaa
