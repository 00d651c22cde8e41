/- ExemptDue, by both. -/
import Derived.Test.YtjebkagbknmdoaaC4
import Derived.Test.YtjebkagbknmdoaaDi
import Derived.Test.YtjebkagbknmdoaaDs
namespace Go.Proofs.Ytjebkagbknmdoaa
open Go.RowKit Go.Dues
def edP (x y : Nat → Int) (n m : Nat) (h a r : Int) : Prop := Val x y n m ∧ (0 ≤ r ∧ r ≤ 3) ∧ (0 ≤ h ∧ h ≤ 100000) ∧ (0 ≤ a ∧ a ≤ 100000 - h)
def edV (x y : Nat → Int) (n : Nat) (h a r : Int) : Int := if h + a = 0 then 0 else rnd (xdue x y n (h + a) * h) (10000 * (h + a)) r
theorem ed_bd {x y : Nat → Int} {n m : Nat} {h a r : Int} (p : edP x y n m h a r) : (0 ≤ xdue x y n (h + a) ∧ xdue x y n (h + a) ≤ 1000000000) ∧ 0 ≤ xdue x y n (h + a) * h ∧ xdue x y n (h + a) * h ≤ 100000000000000 := by
  have h0 := p.2.2.1
  have a0 := p.2.2.2
  have d := xdue_bd p.1 (show 0 ≤ h + a by omega)
  have d2 : xdue x y n (h + a) ≤ 1000000000 := by omega
  have m0 := mul_bd d.1 d2 h0.1 h0.2
  exact ⟨⟨d.1, d2⟩, m0.1, by omega⟩
set_option maxHeartbeats 4000000 in
theorem implExempt_any (A A' : Option Addr) (n c n' c' : Nat) (x y : Nat → Int) (h a r : Int) (w : World) (hn : n ≤ maxLen) (hn' : n' ≤ maxLen)
    (hs : SL w A n (fun j => .int .i64 (x j))) (hs' : SL w A' n' (fun j => .int .i64 (y j))) :
    Calls Try.prog 24 #[.agg #[.slice A n c, .slice A' n' c'], .int .i64 h, .int .i64 a, .int .i64 r] w fun e w' => e = .returned (.tuple #[.int .i64 (ifV (edP x y n n' h a r) (edV x y n h a r)), .bool (tru (edP x y n n' h a r))]) ∧ Below w.heap.size w w' := by
  obtain ⟨W, hW⟩ : ∃ u, u = w.alloc (.cells #[.slice A n c, .slice A' n' c'] 39) := ⟨_, rfl⟩
  have HBW : Hid (Below w.heap.size w W) := by rw [hW]; exact (Below.refl w.heap.size w).alloc (Nat.le_refl _) _
  have HX : Hid (W.heap[w.heap.size]? = some (.cells #[.slice A n c, .slice A' n' c'] 39)) := by rw [hW]; exact blocks1 w _
  have HZB : Hid (w.heap.size < W.heap.size) := by rw [hW]; exact (by simp : w.heap.size < (w.alloc (.cells #[.slice A n c, .slice A' n' c'] 39)).heap.size)
  have HS := hide (hs.below HBW.out)
  have HS' := hide (hs'.below HBW.out)
  have HC0 := hide ((Joins.cell_of_block HX.out 0).trans (by simp : _ = some (.slice A n c)))
  have HC1 := hide ((Joins.cell_of_block HX.out 1).trans (by simp : _ = some (.slice A' n' c')))
  have HWW := hide hW
  clear hs hs' hW
  have HVV := hide (implValid_any A A' n c n' c' x y W hn hn' HS.out HS'.out)
  have k0 := HC0.out
  have k1 := HC1.out
  rw [HWW.out] at k0 k1
  by_cases hv : Val x y n n'
  · have hvt := tru_yes hv
    have HVAL := hide hv
    clear hv
    cases gh : amtB h
    · have HH := hide (show ¬ edP x y n n' h a r from fun hh => by rw [amtB_yes ⟨hh.2.2.1.1, by have := hh.2.2.1.2; omega⟩] at gh; cases gh)
      go_enter Try.func24, Try.ntmps24
      go_wp2_with fail
      rw [← HWW.out]
      clear HWW k0 k1
      refine HVV.out.mono ?_
      rw [hvt]
      rintro e w1 ⟨rfl, hb⟩
      have HB1 := hide (HBW.out.trans (hb.mono HBW.out.size))
      have HX1 := hide (blk_below hb HZB.out HX.out)
      have HS1 := hide (HS.out.below hb)
      have HS1' := hide (HS'.out.below hb)
      have HZ1 := hide (Nat.lt_of_lt_of_le HZB.out hb.size)
      clear hb
      obtain ⟨W2, hW2⟩ : ∃ u, u = w1.alloc (.cells #[.int .i64 h, .int .i64 a] 2) := ⟨_, rfl⟩
      have HB2 : Hid (Below w.heap.size w W2) := by rw [hW2]; exact HB1.out.alloc HB1.out.size _
      have HP2 : Hid (W2.heap[w1.heap.size]? = some (.cells #[.int .i64 h, .int .i64 a] 2)) := by rw [hW2]; exact blocks1 w1 _
      have HX2 : Hid (W2.heap[w.heap.size]? = some (.cells #[.slice A n c, .slice A' n' c'] 39)) := by rw [hW2]; exact new_keep w1 _ HZ1.out HX1.out
      have HS2 : Hid (SL W2 A n (fun j => .int .i64 (x j))) := by rw [hW2]; exact HS1.out.below ((Below.refl _ _).alloc (Nat.le_refl _) _)
      have HS2' : Hid (SL W2 A' n' (fun j => .int .i64 (y j))) := by rw [hW2]; exact HS1'.out.below ((Below.refl _ _).alloc (Nat.le_refl _) _)
      have HW2 := hide hW2
      clear hW2
      go_wp2_with fail
      rw [← HW2.out]
      clear HW2
      refine (implAmounts2_any w1.heap.size h a W2 HP2.out).mono ?_
      rintro e w' ⟨rfl, rfl⟩
      go_wp2_with (first | (go_at_call 72; refine (implRound_any _ _ ).mono ?_; rintro e w' ⟨rfl, rfl⟩))
      all_goals
        go_ret2
        exact ⟨ret_no HH.out, HB2.out⟩
    cases ga : amtB a
    · have HH := hide (show ¬ edP x y n n' h a r from fun hh => by rw [amtB_yes ⟨hh.2.2.2.1, by have := hh.2.2.2.2; have := hh.2.2.1.1; omega⟩] at ga; cases ga)
      go_enter Try.func24, Try.ntmps24
      go_wp2_with fail
      rw [← HWW.out]
      clear HWW k0 k1
      refine HVV.out.mono ?_
      rw [hvt]
      rintro e w1 ⟨rfl, hb⟩
      have HB1 := hide (HBW.out.trans (hb.mono HBW.out.size))
      have HX1 := hide (blk_below hb HZB.out HX.out)
      have HS1 := hide (HS.out.below hb)
      have HS1' := hide (HS'.out.below hb)
      have HZ1 := hide (Nat.lt_of_lt_of_le HZB.out hb.size)
      clear hb
      obtain ⟨W2, hW2⟩ : ∃ u, u = w1.alloc (.cells #[.int .i64 h, .int .i64 a] 2) := ⟨_, rfl⟩
      have HB2 : Hid (Below w.heap.size w W2) := by rw [hW2]; exact HB1.out.alloc HB1.out.size _
      have HP2 : Hid (W2.heap[w1.heap.size]? = some (.cells #[.int .i64 h, .int .i64 a] 2)) := by rw [hW2]; exact blocks1 w1 _
      have HX2 : Hid (W2.heap[w.heap.size]? = some (.cells #[.slice A n c, .slice A' n' c'] 39)) := by rw [hW2]; exact new_keep w1 _ HZ1.out HX1.out
      have HS2 : Hid (SL W2 A n (fun j => .int .i64 (x j))) := by rw [hW2]; exact HS1.out.below ((Below.refl _ _).alloc (Nat.le_refl _) _)
      have HS2' : Hid (SL W2 A' n' (fun j => .int .i64 (y j))) := by rw [hW2]; exact HS1'.out.below ((Below.refl _ _).alloc (Nat.le_refl _) _)
      have HW2 := hide hW2
      clear hW2
      go_wp2_with fail
      rw [← HW2.out]
      clear HW2
      refine (implAmounts2_any w1.heap.size h a W2 HP2.out).mono ?_
      rintro e w' ⟨rfl, rfl⟩
      go_wp2_with (first | (go_at_call 72; refine (implRound_any _ _ ).mono ?_; rintro e w' ⟨rfl, rfl⟩))
      all_goals
        go_ret2
        exact ⟨ret_no HH.out, HB2.out⟩
    obtain ⟨h0, h1⟩ := amtB_iff.1 gh
    obtain ⟨a0, a1⟩ := amtB_iff.1 ga
    by_cases hm : 100000 < h + a
    · have HH := hide (show ¬ edP x y n n' h a r from fun hh => by have := hh.2.2; omega)
      go_enter Try.func24, Try.ntmps24
      go_wp2_with fail
      rw [← HWW.out]
      clear HWW k0 k1
      refine HVV.out.mono ?_
      rw [hvt]
      rintro e w1 ⟨rfl, hb⟩
      have HB1 := hide (HBW.out.trans (hb.mono HBW.out.size))
      have HX1 := hide (blk_below hb HZB.out HX.out)
      have HS1 := hide (HS.out.below hb)
      have HS1' := hide (HS'.out.below hb)
      have HZ1 := hide (Nat.lt_of_lt_of_le HZB.out hb.size)
      clear hb
      obtain ⟨W2, hW2⟩ : ∃ u, u = w1.alloc (.cells #[.int .i64 h, .int .i64 a] 2) := ⟨_, rfl⟩
      have HB2 : Hid (Below w.heap.size w W2) := by rw [hW2]; exact HB1.out.alloc HB1.out.size _
      have HP2 : Hid (W2.heap[w1.heap.size]? = some (.cells #[.int .i64 h, .int .i64 a] 2)) := by rw [hW2]; exact blocks1 w1 _
      have HX2 : Hid (W2.heap[w.heap.size]? = some (.cells #[.slice A n c, .slice A' n' c'] 39)) := by rw [hW2]; exact new_keep w1 _ HZ1.out HX1.out
      have HS2 : Hid (SL W2 A n (fun j => .int .i64 (x j))) := by rw [hW2]; exact HS1.out.below ((Below.refl _ _).alloc (Nat.le_refl _) _)
      have HS2' : Hid (SL W2 A' n' (fun j => .int .i64 (y j))) := by rw [hW2]; exact HS1'.out.below ((Below.refl _ _).alloc (Nat.le_refl _) _)
      have HW2 := hide hW2
      clear hW2
      go_wp2_with fail
      rw [← HW2.out]
      clear HW2
      refine (implAmounts2_any w1.heap.size h a W2 HP2.out).mono ?_
      rintro e w' ⟨rfl, rfl⟩
      go_wp2_with (first | (go_at_call 72; refine (implRound_any _ _ ).mono ?_; rintro e w' ⟨rfl, rfl⟩))
      all_goals
        go_ret2
        exact ⟨ret_no HH.out, HB2.out⟩
    cases gr : wayB r
    · have HH := hide (show ¬ edP x y n n' h a r from fun hh => by rw [wayB_yes hh.2.1] at gr; cases gr)
      go_enter Try.func24, Try.ntmps24
      go_wp2_with fail
      rw [← HWW.out]
      clear HWW k0 k1
      refine HVV.out.mono ?_
      rw [hvt]
      rintro e w1 ⟨rfl, hb⟩
      have HB1 := hide (HBW.out.trans (hb.mono HBW.out.size))
      have HX1 := hide (blk_below hb HZB.out HX.out)
      have HS1 := hide (HS.out.below hb)
      have HS1' := hide (HS'.out.below hb)
      have HZ1 := hide (Nat.lt_of_lt_of_le HZB.out hb.size)
      clear hb
      obtain ⟨W2, hW2⟩ : ∃ u, u = w1.alloc (.cells #[.int .i64 h, .int .i64 a] 2) := ⟨_, rfl⟩
      have HB2 : Hid (Below w.heap.size w W2) := by rw [hW2]; exact HB1.out.alloc HB1.out.size _
      have HP2 : Hid (W2.heap[w1.heap.size]? = some (.cells #[.int .i64 h, .int .i64 a] 2)) := by rw [hW2]; exact blocks1 w1 _
      have HX2 : Hid (W2.heap[w.heap.size]? = some (.cells #[.slice A n c, .slice A' n' c'] 39)) := by rw [hW2]; exact new_keep w1 _ HZ1.out HX1.out
      have HS2 : Hid (SL W2 A n (fun j => .int .i64 (x j))) := by rw [hW2]; exact HS1.out.below ((Below.refl _ _).alloc (Nat.le_refl _) _)
      have HS2' : Hid (SL W2 A' n' (fun j => .int .i64 (y j))) := by rw [hW2]; exact HS1'.out.below ((Below.refl _ _).alloc (Nat.le_refl _) _)
      have HW2 := hide hW2
      clear hW2
      go_wp2_with fail
      rw [← HW2.out]
      clear HW2
      refine (implAmounts2_any w1.heap.size h a W2 HP2.out).mono ?_
      rintro e w' ⟨rfl, rfl⟩
      go_wp2_with (first | (go_at_call 72; refine (implRound_any _ _ ).mono ?_; rintro e w' ⟨rfl, rfl⟩))
      all_goals
        go_ret2
        exact ⟨ret_no HH.out, HB2.out⟩
    have HH := hide (show edP x y n n' h a r from ⟨HVAL.out, wayB_iff.1 gr, by omega, by omega⟩)
    obtain ⟨⟨d0, d1⟩, m0, m1⟩ := ed_bd HH.out
    have HRW := hide (wayB_iff.1 gr)
    by_cases hz : h + a = 0
    · have HV := hide (show 0 = edV x y n h a r by unfold edV; rw [if_pos hz])
      have hzb : (h + a == 0) = true := by rw [beq_iff_eq]; exact hz
      clear hz
      go_enter Try.func24, Try.ntmps24
      go_wp2_with fail
      rw [← HWW.out]
      clear HWW k0 k1
      refine HVV.out.mono ?_
      rw [hvt]
      rintro e w1 ⟨rfl, hb⟩
      have HB1 := hide (HBW.out.trans (hb.mono HBW.out.size))
      have HX1 := hide (blk_below hb HZB.out HX.out)
      have HS1 := hide (HS.out.below hb)
      have HS1' := hide (HS'.out.below hb)
      have HZ1 := hide (Nat.lt_of_lt_of_le HZB.out hb.size)
      clear hb
      obtain ⟨W2, hW2⟩ : ∃ u, u = w1.alloc (.cells #[.int .i64 h, .int .i64 a] 2) := ⟨_, rfl⟩
      have HB2 : Hid (Below w.heap.size w W2) := by rw [hW2]; exact HB1.out.alloc HB1.out.size _
      have HP2 : Hid (W2.heap[w1.heap.size]? = some (.cells #[.int .i64 h, .int .i64 a] 2)) := by rw [hW2]; exact blocks1 w1 _
      have HX2 : Hid (W2.heap[w.heap.size]? = some (.cells #[.slice A n c, .slice A' n' c'] 39)) := by rw [hW2]; exact new_keep w1 _ HZ1.out HX1.out
      have HS2 : Hid (SL W2 A n (fun j => .int .i64 (x j))) := by rw [hW2]; exact HS1.out.below ((Below.refl _ _).alloc (Nat.le_refl _) _)
      have HS2' : Hid (SL W2 A' n' (fun j => .int .i64 (y j))) := by rw [hW2]; exact HS1'.out.below ((Below.refl _ _).alloc (Nat.le_refl _) _)
      have HW2 := hide hW2
      clear hW2
      go_wp2_with fail
      rw [← HW2.out]
      clear HW2
      refine (implAmounts2_any w1.heap.size h a W2 HP2.out).mono ?_
      rintro e w' ⟨rfl, rfl⟩
      go_wp2_with (first | (go_at_call 72; refine (implRound_any _ _ ).mono ?_; rintro e w' ⟨rfl, rfl⟩))
      go_ret2
      exact ⟨ret_val HH.out HV.out, HB2.out⟩
    · have HV := hide (show rnd (xdue x y n (h + a) * h) (10000 * (h + a)) r = edV x y n h a r by unfold edV; rw [if_neg hz])
      have hzb : (h + a == 0) = false := by rw [beq_eq_false_iff_ne]; exact hz
      have HXX := fun w hs hs' => hide (implExact_any A A' n c n' c' x y (h + a) w hs hs' HVAL.out (by omega) (by omega))
      have HQQ := fun w => hide (implRounded_any (xdue x y n (h + a) * h) (10000 * (h + a)) r w m0 (by omega) (by omega) (by omega) HRW.out)
      clear hz
      go_enter Try.func24, Try.ntmps24
      go_wp2_with fail
      rw [← HWW.out]
      clear HWW k0 k1
      refine HVV.out.mono ?_
      rw [hvt]
      rintro e w1 ⟨rfl, hb⟩
      have HB1 := hide (HBW.out.trans (hb.mono HBW.out.size))
      have HX1 := hide (blk_below hb HZB.out HX.out)
      have HS1 := hide (HS.out.below hb)
      have HS1' := hide (HS'.out.below hb)
      have HZ1 := hide (Nat.lt_of_lt_of_le HZB.out hb.size)
      clear hb
      obtain ⟨W2, hW2⟩ : ∃ u, u = w1.alloc (.cells #[.int .i64 h, .int .i64 a] 2) := ⟨_, rfl⟩
      have HB2 : Hid (Below w.heap.size w W2) := by rw [hW2]; exact HB1.out.alloc HB1.out.size _
      have HP2 : Hid (W2.heap[w1.heap.size]? = some (.cells #[.int .i64 h, .int .i64 a] 2)) := by rw [hW2]; exact blocks1 w1 _
      have HX2 : Hid (W2.heap[w.heap.size]? = some (.cells #[.slice A n c, .slice A' n' c'] 39)) := by rw [hW2]; exact new_keep w1 _ HZ1.out HX1.out
      have HS2 : Hid (SL W2 A n (fun j => .int .i64 (x j))) := by rw [hW2]; exact HS1.out.below ((Below.refl _ _).alloc (Nat.le_refl _) _)
      have HS2' : Hid (SL W2 A' n' (fun j => .int .i64 (y j))) := by rw [hW2]; exact HS1'.out.below ((Below.refl _ _).alloc (Nat.le_refl _) _)
      have HW2 := hide hW2
      clear hW2
      go_wp2_with fail
      rw [← HW2.out]
      clear HW2
      refine (implAmounts2_any w1.heap.size h a W2 HP2.out).mono ?_
      rintro e w' ⟨rfl, rfl⟩
      have k0 := Joins.cell_of_block HX2.out 0
      have k1 := Joins.cell_of_block HX2.out 1
      simp at k0 k1
      go_wp2_with (first | (go_at_call 72; refine (implRound_any _ _ ).mono ?_; rintro e w' ⟨rfl, rfl⟩))
      refine (HXX _ HS2.out HS2'.out).out.mono ?_
      rintro e w3 ⟨rfl, hb⟩
      have HB3 := hide (HB2.out.trans (hb.mono HB2.out.size))
      clear hb k0 k1
      go_wp2_with fail
      refine (HQQ _).out.mono ?_
      rintro e w' ⟨rfl, q, rfl⟩
      go_wp2
      go_ret2
      exact ⟨ret_val HH.out HV.out, bel_dN HB3.out _⟩
  · have hvt := tru_no hv
    have HH := hide (show ¬ edP x y n n' h a r from fun hh => hv hh.1)
    clear hv
    go_enter Try.func24, Try.ntmps24
    go_wp2_with fail
    rw [← HWW.out]
    clear HWW k0 k1
    refine HVV.out.mono ?_
    rw [hvt]
    rintro e w1 ⟨rfl, hb⟩
    have HB1 := hide (HBW.out.trans (hb.mono HBW.out.size))
    have HX1 := hide (blk_below hb HZB.out HX.out)
    have HS1 := hide (HS.out.below hb)
    have HS1' := hide (HS'.out.below hb)
    have HZ1 := hide (Nat.lt_of_lt_of_le HZB.out hb.size)
    clear hb
    go_wp2_with (first | (go_at_call 72; refine (implRound_any _ _ ).mono ?_; rintro e w' ⟨rfl, rfl⟩))
    go_ret2
    exact ⟨ret_no HH.out, HB1.out⟩
end Go.Proofs.Ytjebkagbknmdoaa
