/- Tariffs, by both. -/
import Derived.Test.YtjebkagbknmdoaaC4
namespace Go.Proofs.Ytjebkagbknmdoaa
open Go.RowKit Go.Dues
def tarB (a b c : Int) : Bool := ratB a && (inB b 0 1000000 && inB c 0 1000000)
def tarP (a b c : Int) : Prop := (0 ≤ a ∧ a ≤ 10000) ∧ (0 ≤ b ∧ b ≤ 1000000) ∧ (0 ≤ c ∧ c ≤ 1000000)
theorem tarB_iff {a b c : Int} : tarB a b c = true ↔ tarP a b c := by
  unfold tarB tarP
  rw [Bool.and_eq_true, Bool.and_eq_true, ratB_iff, inB_iff, inB_iff]
theorem tarB_tru (a b c : Int) : tarB a b c = tru (tarP a b c) := by
  cases h : tarB a b c
  · exact (tru_no (fun hh => by rw [tarB_iff.2 hh] at h; cases h)).symm
  · exact (tru_yes (tarB_iff.1 h)).symm
set_option maxHeartbeats 2000000 in
theorem implValidTariff_any (a b c : Int) (w : World) : Calls Try.prog 20 #[.agg #[.int .i64 a, .int .i64 b, .int .i64 c]] w fun e w' => e = .returned (.bool (tarB a b c)) ∧ Below w.heap.size w w' := by
  cases g0 : ratB a
  · have HB := hide (show tarB a b c = false by unfold tarB; rw [g0]; rfl)
    go_enter Try.func20, Try.ntmps20
    go_wp2_with (first | (go_at_call 75; refine (implRate_any _ _ ).mono ?_; rintro e w' ⟨rfl, rfl⟩) | (go_at_call 71; refine (implWithin_any _ _ _ _ ).mono ?_; rintro e w' ⟨rfl, rfl⟩) | go_in)
    go_ret
    exact ⟨retb HB.out.symm, (Below.refl w.heap.size w).alloc (Nat.le_refl _) _⟩
  cases g1 : inB b 0 1000000
  · have HB := hide (show tarB a b c = false by unfold tarB; rw [g0, g1]; rfl)
    go_enter Try.func20, Try.ntmps20
    go_wp2_with (first | (go_at_call 75; refine (implRate_any _ _ ).mono ?_; rintro e w' ⟨rfl, rfl⟩) | (go_at_call 71; refine (implWithin_any _ _ _ _ ).mono ?_; rintro e w' ⟨rfl, rfl⟩) | go_in)
    go_ret
    exact ⟨retb HB.out.symm, (Below.refl w.heap.size w).alloc (Nat.le_refl _) _⟩
  have HB := hide (show tarB a b c = inB c 0 1000000 by unfold tarB; rw [g0, g1]; rfl)
  go_enter Try.func20, Try.ntmps20
  go_wp2_with (first | (go_at_call 75; refine (implRate_any _ _ ).mono ?_; rintro e w' ⟨rfl, rfl⟩) | (go_at_call 71; refine (implWithin_any _ _ _ _ ).mono ?_; rintro e w' ⟨rfl, rfl⟩) | go_in)
  go_ret
  exact ⟨retb HB.out.symm, (Below.refl w.heap.size w).alloc (Nat.le_refl _) _⟩
def cuV (a b c v p r : Int) : Int := if v = 0 ∧ p = 0 then 0 else max c (duV v a r + p * b)
def cuP (a b c v p r : Int) : Prop := tarP a b c ∧ (0 ≤ v ∧ v ≤ 1000000000000) ∧ (0 ≤ p ∧ p ≤ 100000) ∧ (0 ≤ r ∧ r ≤ 3) ∧ cuV a b c v p r ≤ 1000000000000
theorem cu_bd {a b c v p r : Int} (h : tarP a b c) (hv : 0 ≤ v ∧ v ≤ 1000000000000) (hp : 0 ≤ p ∧ p ≤ 100000) :
    (0 ≤ duV v a r ∧ duV v a r ≤ 1000000000000) ∧ (0 ≤ p * b ∧ p * b ≤ 100000000000) ∧ 0 ≤ cuV a b c v p r := by
  have h1 := duV_bd (r := r) hv.1 h.1.1 h.1.2
  have h2 := mul_bd hp.1 hp.2 h.2.1.1 h.2.1.2
  have h3 := h.2.2
  refine ⟨by omega, by omega, ?_⟩
  unfold cuV
  split <;> omega
set_option maxHeartbeats 8000000 in
theorem implCustomsDue_any (a b c v p r : Int) (w : World) :
    Calls Try.prog 18 #[.agg #[.int .i64 a, .int .i64 b, .int .i64 c], .int .i64 v, .int .i64 p, .int .i64 r] w fun e w' => e = .returned (.tuple #[.int .i64 (ifV (cuP a b c v p r) (cuV a b c v p r)), .bool (tru (cuP a b c v p r))]) ∧ Below w.heap.size w w' := by
  obtain ⟨W, hW⟩ : ∃ u, u = w.alloc (.cells #[.int .i64 a, .int .i64 b, .int .i64 c] 27) := ⟨_, rfl⟩
  have HBW : Hid (Below w.heap.size w W) := by rw [hW]; exact (Below.refl w.heap.size w).alloc (Nat.le_refl _) _
  have HX : Hid (W.heap[w.heap.size]? = some (.cells #[.int .i64 a, .int .i64 b, .int .i64 c] 27)) := by rw [hW]; exact blocks1 w _
  have HZ : Hid (w.heap.size < W.heap.size) := by rw [hW]; simp [hide]
  have HV := hide (implValidTariff_any a b c W)
  have HWW := hide hW
  clear hW
  cases g0 : tarB a b c
  · have HH := hide (show ¬ cuP a b c v p r from fun h => by rw [tarB_iff.2 h.1] at g0; cases g0)
    go_enter Try.func18, Try.ntmps18
    go_wp2_with fail
    rw [← HWW.out]
    clear HWW
    refine HV.out.mono ?_
    rintro e w1 ⟨rfl, hb⟩
    have HB1 := hide (HBW.out.trans (hb.mono HBW.out.size))
    have HX1 := hide (blk_below hb HZ.out HX.out)
    clear hb
    have k0 := Joins.cell_of_block HX1.out 0
    have k1 := Joins.cell_of_block HX1.out 1
    have k2 := Joins.cell_of_block HX1.out 2
    simp at k0 k1 k2
    go_wp2_with (first | (go_at_call 70; refine (implAmount_any _ _ ).mono ?_; rintro e w' ⟨rfl, rfl⟩) | (go_at_call 75; refine (implRate_any _ _ ).mono ?_; rintro e w' ⟨rfl, rfl⟩) | (go_at_call 72; refine (implRound_any _ _ ).mono ?_; rintro e w' ⟨rfl, rfl⟩) | (go_at_call 71; refine (implWithin_any _ _ _ _ ).mono ?_; rintro e w' ⟨rfl, rfl⟩) | go_in)
    all_goals
      go_ret2
      exact ⟨ret_no HH.out, HB1.out⟩
  cases g1 : amtB v
  · have HH := hide (show ¬ cuP a b c v p r from fun h => by rw [amtB_yes h.2.1] at g1; cases g1)
    go_enter Try.func18, Try.ntmps18
    go_wp2_with fail
    rw [← HWW.out]
    clear HWW
    refine HV.out.mono ?_
    rintro e w1 ⟨rfl, hb⟩
    have HB1 := hide (HBW.out.trans (hb.mono HBW.out.size))
    have HX1 := hide (blk_below hb HZ.out HX.out)
    clear hb
    have k0 := Joins.cell_of_block HX1.out 0
    have k1 := Joins.cell_of_block HX1.out 1
    have k2 := Joins.cell_of_block HX1.out 2
    simp at k0 k1 k2
    go_wp2_with (first | (go_at_call 70; refine (implAmount_any _ _ ).mono ?_; rintro e w' ⟨rfl, rfl⟩) | (go_at_call 75; refine (implRate_any _ _ ).mono ?_; rintro e w' ⟨rfl, rfl⟩) | (go_at_call 72; refine (implRound_any _ _ ).mono ?_; rintro e w' ⟨rfl, rfl⟩) | (go_at_call 71; refine (implWithin_any _ _ _ _ ).mono ?_; rintro e w' ⟨rfl, rfl⟩) | go_in)
    all_goals
      go_ret2
      exact ⟨ret_no HH.out, HB1.out⟩
  cases g2 : inB p 0 100000
  · have HH := hide (show ¬ cuP a b c v p r from fun h => by rw [inB_yes h.2.2.1] at g2; cases g2)
    go_enter Try.func18, Try.ntmps18
    go_wp2_with fail
    rw [← HWW.out]
    clear HWW
    refine HV.out.mono ?_
    rintro e w1 ⟨rfl, hb⟩
    have HB1 := hide (HBW.out.trans (hb.mono HBW.out.size))
    have HX1 := hide (blk_below hb HZ.out HX.out)
    clear hb
    have k0 := Joins.cell_of_block HX1.out 0
    have k1 := Joins.cell_of_block HX1.out 1
    have k2 := Joins.cell_of_block HX1.out 2
    simp at k0 k1 k2
    go_wp2_with (first | (go_at_call 70; refine (implAmount_any _ _ ).mono ?_; rintro e w' ⟨rfl, rfl⟩) | (go_at_call 75; refine (implRate_any _ _ ).mono ?_; rintro e w' ⟨rfl, rfl⟩) | (go_at_call 72; refine (implRound_any _ _ ).mono ?_; rintro e w' ⟨rfl, rfl⟩) | (go_at_call 71; refine (implWithin_any _ _ _ _ ).mono ?_; rintro e w' ⟨rfl, rfl⟩) | go_in)
    all_goals
      go_ret2
      exact ⟨ret_no HH.out, HB1.out⟩
  cases g3 : wayB r
  · have HH := hide (show ¬ cuP a b c v p r from fun h => by rw [wayB_yes h.2.2.2.1] at g3; cases g3)
    go_enter Try.func18, Try.ntmps18
    go_wp2_with fail
    rw [← HWW.out]
    clear HWW
    refine HV.out.mono ?_
    rintro e w1 ⟨rfl, hb⟩
    have HB1 := hide (HBW.out.trans (hb.mono HBW.out.size))
    have HX1 := hide (blk_below hb HZ.out HX.out)
    clear hb
    have k0 := Joins.cell_of_block HX1.out 0
    have k1 := Joins.cell_of_block HX1.out 1
    have k2 := Joins.cell_of_block HX1.out 2
    simp at k0 k1 k2
    go_wp2_with (first | (go_at_call 70; refine (implAmount_any _ _ ).mono ?_; rintro e w' ⟨rfl, rfl⟩) | (go_at_call 75; refine (implRate_any _ _ ).mono ?_; rintro e w' ⟨rfl, rfl⟩) | (go_at_call 72; refine (implRound_any _ _ ).mono ?_; rintro e w' ⟨rfl, rfl⟩) | (go_at_call 71; refine (implWithin_any _ _ _ _ ).mono ?_; rintro e w' ⟨rfl, rfl⟩) | go_in)
    all_goals
      go_ret2
      exact ⟨ret_no HH.out, HB1.out⟩
  have HT := hide (tarB_iff.1 g0)
  have HR := hide (wayB_iff.1 g3)
  obtain ⟨v0, v1⟩ := amtB_iff.1 g1
  obtain ⟨p0, p1⟩ := inB_iff.1 g2
  have HC := hide (show cuP a b c v p r ↔ cuV a b c v p r ≤ 1000000000000 from ⟨fun h => h.2.2.2.2, fun h => ⟨HT.out, ⟨v0, v1⟩, ⟨p0, p1⟩, HR.out, h⟩⟩)
  by_cases hz : v = 0 ∧ p = 0
  · obtain ⟨rfl, rfl⟩ := hz
    have HE := hide (show (0 : Int) = cuV a b c 0 0 r by unfold cuV; rw [if_pos ⟨rfl, rfl⟩])
    have HH := hide (show cuP a b c 0 0 r from HC.out.2 (by rw [← HE.out]; omega))
    go_enter Try.func18, Try.ntmps18
    go_wp2_with fail
    rw [← HWW.out]
    clear HWW
    refine HV.out.mono ?_
    rintro e w1 ⟨rfl, hb⟩
    have HB1 := hide (HBW.out.trans (hb.mono HBW.out.size))
    have HX1 := hide (blk_below hb HZ.out HX.out)
    clear hb
    have k0 := Joins.cell_of_block HX1.out 0
    have k1 := Joins.cell_of_block HX1.out 1
    have k2 := Joins.cell_of_block HX1.out 2
    simp at k0 k1 k2
    go_wp2_with (first | (go_at_call 70; refine (implAmount_any _ _ ).mono ?_; rintro e w' ⟨rfl, rfl⟩) | (go_at_call 75; refine (implRate_any _ _ ).mono ?_; rintro e w' ⟨rfl, rfl⟩) | (go_at_call 72; refine (implRound_any _ _ ).mono ?_; rintro e w' ⟨rfl, rfl⟩) | (go_at_call 71; refine (implWithin_any _ _ _ _ ).mono ?_; rintro e w' ⟨rfl, rfl⟩) | go_in)
    all_goals
      go_ret2
      exact ⟨ret_val HH.out HE.out, HB1.out⟩
  have HE := hide (show max c (duV v a r + p * b) = cuV a b c v p r by unfold cuV; rw [if_neg hz])
  obtain ⟨⟨d0, d1⟩, ⟨m0, m1⟩, u0⟩ := cu_bd (r := r) HT.out ⟨v0, v1⟩ ⟨p0, p1⟩
  obtain ⟨t0, t1⟩ := HT.out.2.2
  have HZZ := hide hz
  clear hz
  obtain ⟨V, hV⟩ : ∃ V : Int, V = cuV a b c v p r := ⟨_, rfl⟩
  rw [← hV] at HE u0 HC
  have HVV := hide hV
  clear hV
  cases ga : amtB V
  · have HH := hide (show ¬ cuP a b c v p r from fun h => by rw [amtB_yes ⟨u0, HC.out.1 h⟩] at ga; cases ga)
    by_cases hv : v = 0
    · have hp : ¬ p = 0 := fun h => HZZ.out ⟨hv, h⟩
      have hvb : (v == 0) = true := by rw [beq_iff_eq]; exact hv
      have hpb : (p == 0) = false := by rw [beq_eq_false_iff_ne]; exact hp
      clear hv hp
      go_enter Try.func18, Try.ntmps18
      go_wp2_with fail
      rw [← HWW.out]
      clear HWW
      refine HV.out.mono ?_
      rintro e w1 ⟨rfl, hb⟩
      have HB1 := hide (HBW.out.trans (hb.mono HBW.out.size))
      have HX1 := hide (blk_below hb HZ.out HX.out)
      clear hb
      have k0 := Joins.cell_of_block HX1.out 0
      have k1 := Joins.cell_of_block HX1.out 1
      have k2 := Joins.cell_of_block HX1.out 2
      simp at k0 k1 k2
      go_wp2_with (first | (go_at_call 70; refine (implAmount_any _ _ ).mono ?_; rintro e w' ⟨rfl, rfl⟩) | (go_at_call 75; refine (implRate_any _ _ ).mono ?_; rintro e w' ⟨rfl, rfl⟩) | (go_at_call 72; refine (implRound_any _ _ ).mono ?_; rintro e w' ⟨rfl, rfl⟩) | (go_at_call 71; refine (implWithin_any _ _ _ _ ).mono ?_; rintro e w' ⟨rfl, rfl⟩))
      have he : (if c < duV v a r + p * b then duV v a r + p * b else c) = V := by rw [← HE.out]; split <;> omega
      go_quiet ((go_at_call 73; exact quiet_draws (implDue4_any v a r _ v0 (by omega) HT.out.1 HR.out)))
      go_wp2_with (first | (go_at_call 70; refine (implAmount_any _ _ ).mono ?_; rintro e w' ⟨rfl, rfl⟩) | (go_at_call 75; refine (implRate_any _ _ ).mono ?_; rintro e w' ⟨rfl, rfl⟩) | (go_at_call 72; refine (implRound_any _ _ ).mono ?_; rintro e w' ⟨rfl, rfl⟩) | (go_at_call 71; refine (implWithin_any _ _ _ _ ).mono ?_; rintro e w' ⟨rfl, rfl⟩))
      go_ret2
      exact ⟨ret_no HH.out, bel_dN HB1.out _⟩
    · have hvb : (v == 0) = false := by rw [beq_eq_false_iff_ne]; exact hv
      clear hv
      go_enter Try.func18, Try.ntmps18
      go_wp2_with fail
      rw [← HWW.out]
      clear HWW
      refine HV.out.mono ?_
      rintro e w1 ⟨rfl, hb⟩
      have HB1 := hide (HBW.out.trans (hb.mono HBW.out.size))
      have HX1 := hide (blk_below hb HZ.out HX.out)
      clear hb
      have k0 := Joins.cell_of_block HX1.out 0
      have k1 := Joins.cell_of_block HX1.out 1
      have k2 := Joins.cell_of_block HX1.out 2
      simp at k0 k1 k2
      go_wp2_with (first | (go_at_call 70; refine (implAmount_any _ _ ).mono ?_; rintro e w' ⟨rfl, rfl⟩) | (go_at_call 75; refine (implRate_any _ _ ).mono ?_; rintro e w' ⟨rfl, rfl⟩) | (go_at_call 72; refine (implRound_any _ _ ).mono ?_; rintro e w' ⟨rfl, rfl⟩) | (go_at_call 71; refine (implWithin_any _ _ _ _ ).mono ?_; rintro e w' ⟨rfl, rfl⟩))
      have he : (if c < duV v a r + p * b then duV v a r + p * b else c) = V := by rw [← HE.out]; split <;> omega
      go_quiet ((go_at_call 73; exact quiet_draws (implDue4_any v a r _ v0 (by omega) HT.out.1 HR.out)))
      go_wp2_with (first | (go_at_call 70; refine (implAmount_any _ _ ).mono ?_; rintro e w' ⟨rfl, rfl⟩) | (go_at_call 75; refine (implRate_any _ _ ).mono ?_; rintro e w' ⟨rfl, rfl⟩) | (go_at_call 72; refine (implRound_any _ _ ).mono ?_; rintro e w' ⟨rfl, rfl⟩) | (go_at_call 71; refine (implWithin_any _ _ _ _ ).mono ?_; rintro e w' ⟨rfl, rfl⟩))
      go_ret2
      exact ⟨ret_no HH.out, bel_dN HB1.out _⟩
  · have HH := hide (show cuP a b c v p r from HC.out.2 (amtB_iff.1 ga).2)
    by_cases hv : v = 0
    · have hp : ¬ p = 0 := fun h => HZZ.out ⟨hv, h⟩
      have hvb : (v == 0) = true := by rw [beq_iff_eq]; exact hv
      have hpb : (p == 0) = false := by rw [beq_eq_false_iff_ne]; exact hp
      clear hv hp
      go_enter Try.func18, Try.ntmps18
      go_wp2_with fail
      rw [← HWW.out]
      clear HWW
      refine HV.out.mono ?_
      rintro e w1 ⟨rfl, hb⟩
      have HB1 := hide (HBW.out.trans (hb.mono HBW.out.size))
      have HX1 := hide (blk_below hb HZ.out HX.out)
      clear hb
      have k0 := Joins.cell_of_block HX1.out 0
      have k1 := Joins.cell_of_block HX1.out 1
      have k2 := Joins.cell_of_block HX1.out 2
      simp at k0 k1 k2
      go_wp2_with (first | (go_at_call 70; refine (implAmount_any _ _ ).mono ?_; rintro e w' ⟨rfl, rfl⟩) | (go_at_call 75; refine (implRate_any _ _ ).mono ?_; rintro e w' ⟨rfl, rfl⟩) | (go_at_call 72; refine (implRound_any _ _ ).mono ?_; rintro e w' ⟨rfl, rfl⟩) | (go_at_call 71; refine (implWithin_any _ _ _ _ ).mono ?_; rintro e w' ⟨rfl, rfl⟩))
      have he : (if c < duV v a r + p * b then duV v a r + p * b else c) = V := by rw [← HE.out]; split <;> omega
      go_quiet ((go_at_call 73; exact quiet_draws (implDue4_any v a r _ v0 (by omega) HT.out.1 HR.out)))
      go_wp2_with (first | (go_at_call 70; refine (implAmount_any _ _ ).mono ?_; rintro e w' ⟨rfl, rfl⟩) | (go_at_call 75; refine (implRate_any _ _ ).mono ?_; rintro e w' ⟨rfl, rfl⟩) | (go_at_call 72; refine (implRound_any _ _ ).mono ?_; rintro e w' ⟨rfl, rfl⟩) | (go_at_call 71; refine (implWithin_any _ _ _ _ ).mono ?_; rintro e w' ⟨rfl, rfl⟩))
      go_ret2
      exact ⟨ret_val HH.out HVV.out, bel_dN HB1.out _⟩
    · have hvb : (v == 0) = false := by rw [beq_eq_false_iff_ne]; exact hv
      clear hv
      go_enter Try.func18, Try.ntmps18
      go_wp2_with fail
      rw [← HWW.out]
      clear HWW
      refine HV.out.mono ?_
      rintro e w1 ⟨rfl, hb⟩
      have HB1 := hide (HBW.out.trans (hb.mono HBW.out.size))
      have HX1 := hide (blk_below hb HZ.out HX.out)
      clear hb
      have k0 := Joins.cell_of_block HX1.out 0
      have k1 := Joins.cell_of_block HX1.out 1
      have k2 := Joins.cell_of_block HX1.out 2
      simp at k0 k1 k2
      go_wp2_with (first | (go_at_call 70; refine (implAmount_any _ _ ).mono ?_; rintro e w' ⟨rfl, rfl⟩) | (go_at_call 75; refine (implRate_any _ _ ).mono ?_; rintro e w' ⟨rfl, rfl⟩) | (go_at_call 72; refine (implRound_any _ _ ).mono ?_; rintro e w' ⟨rfl, rfl⟩) | (go_at_call 71; refine (implWithin_any _ _ _ _ ).mono ?_; rintro e w' ⟨rfl, rfl⟩))
      have he : (if c < duV v a r + p * b then duV v a r + p * b else c) = V := by rw [← HE.out]; split <;> omega
      go_quiet ((go_at_call 73; exact quiet_draws (implDue4_any v a r _ v0 (by omega) HT.out.1 HR.out)))
      go_wp2_with (first | (go_at_call 70; refine (implAmount_any _ _ ).mono ?_; rintro e w' ⟨rfl, rfl⟩) | (go_at_call 75; refine (implRate_any _ _ ).mono ?_; rintro e w' ⟨rfl, rfl⟩) | (go_at_call 72; refine (implRound_any _ _ ).mono ?_; rintro e w' ⟨rfl, rfl⟩) | (go_at_call 71; refine (implWithin_any _ _ _ _ ).mono ?_; rintro e w' ⟨rfl, rfl⟩))
      go_ret2
      exact ⟨ret_val HH.out HVV.out, bel_dN HB1.out _⟩
end Go.Proofs.Ytjebkagbknmdoaa
