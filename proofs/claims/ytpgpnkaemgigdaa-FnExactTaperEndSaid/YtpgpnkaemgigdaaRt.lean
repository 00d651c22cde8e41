/- Rates at amounts, and mean rates, by both. -/
import Derived.Test.YtpgpnkaemgigdaaDi
namespace Go.Proofs.Ytpgpnkaemgigdaa
open Go.RowKit Go.Dues
def rateP (x y : Nat → Int) (n m : Nat) (v : Int) : Prop := Val x y n m ∧ (0 ≤ v ∧ v ≤ 1000000000000)

set_option maxHeartbeats 1000000 in
theorem specAt_any (b : Nat) (A A' : Option Addr) (n c n' c' : Nat) (x y : Nat → Int) (v : Int) (w : World) (hc0 : w.cell? ⟨b, 0, none⟩ = some (.slice A n c)) (hc1 : w.cell? ⟨b, 1, none⟩ = some (.slice A' n' c'))
    (hs : SL w A n (fun j => .int .i64 (x j))) (hs' : SL w A' n' (fun j => .int .i64 (y j))) (hv : Val x y n n') (h0 : 0 ≤ v) :
    Calls Try.prog 63 #[.pointer (some ⟨b, 0, none⟩), .int .i64 v] w fun e w' => e = .returned (.int .i64 (rateK x y v n)) ∧ w = w' := by
  obtain rfl : n' = n := hv.1
  have hn8 := hv.n8
  have hn1 := hv.n1
  have HC := cells_two hs hs'
  have HV := hide hv
  obtain ⟨b1, off, b2, off2, hA1, hA2, hx0, hy0⟩ := HC.out 0 (by omega)
  subst hA1 hA2
  simp only [Nat.add_zero] at hx0 hy0
  have H1 := hide (show y 0 = rateK x y v 1 from (rateK_yes (by rw [hv.x0]; exact h0)).symm)
  clear hs hs' hv hx0
  go_enter Try.func63, Try.ntmps63
  go_wp2
  go_loop [5, 6] (fun t i => ∃ (k : Nat) (s : Int), 1 ≤ k ∧ k ≤ n' ∧ i = .int .i64 k ∧ t = .int .i64 s ∧ Hid (s = rateK x y v k)) (fun _ i => n' - (intOf i).toNat)
  case atStart => exact ⟨1, _, Nat.le_refl _, hn1, rfl, rfl, H1⟩
  case round =>
    obtain ⟨k, s, hk1, hk, rfl, rfl, ht⟩ := hrel
    by_cases hlt : k < n'
    · obtain ⟨b3, off3, b4, off4, hA1, hA2, hxk, hyk⟩ := HC.out k hlt
      injection hA1 with hA1
      injection hA1 with hA1 hA3
      subst hA1 hA3
      injection hA2 with hA2
      injection hA2 with hA2 hA4
      subst hA2 hA4
      by_cases hx : x k ≤ v
      · go_wp2
        go_round
        case rel => exact ⟨k + 1, _, by omega, by omega, by go_num, rfl, (rateK_yes hx).symm⟩
        case measure => simp [intOf]; omega
      · have HF := hide (rateK_end (y := y) HV.out hlt hx)
        go_wp2
        go_ret
        exact ⟨reti (by rw [ht.out]; exact HF.out.symm), rfl⟩
    · go_wp2
      go_ret
      obtain rfl : k = n' := by omega
      exact ⟨reti ht.out, rfl⟩

set_option maxHeartbeats 1000000 in
theorem implAt_any (A A' : Option Addr) (n c n' c' : Nat) (x y : Nat → Int) (v : Int) (w : World)
    (hs : SL w A n (fun j => .int .i64 (x j))) (hs' : SL w A' n' (fun j => .int .i64 (y j))) (hv : Val x y n n') :
    Calls Try.prog 65 #[.agg #[.slice A n c, .slice A' n' c'], .int .i64 v] w fun e w' => e = .returned (.int .i64 (rateK x y v n)) ∧ Below w.heap.size w w' := by
  obtain rfl : n' = n := hv.1
  have hn8 := hv.n8
  have HB := hide ((Below.refl w.heap.size w).alloc (Nat.le_refl _) (.cells #[.slice A n' c, .slice A' n' c'] 27))
  have HC := cells_two (hs.below HB.out) (hs'.below HB.out)
  have HV := hide hv
  clear hs hs' hv
  go_enter Try.func65, Try.ntmps65
  go_wp2
  go_loop [5, 6, 7, 11] (fun t _ _ i => ∃ (k : Nat) (s : Int), k ≤ n' ∧ i = .int .i64 k ∧ t = .int .i64 s ∧ Hid (s = rateK x y v k)) (fun _ _ _ i => n' - (intOf i).toNat)
  case atStart => exact ⟨0, 0, Nat.zero_le _, rfl, rfl, rfl⟩
  case round =>
    obtain ⟨k, s, hk, rfl, rfl, ht⟩ := hrel
    by_cases hlt : k < n'
    · obtain ⟨b3, off3, b4, off4, rfl, rfl, hxk, hyk⟩ := HC.out k hlt
      by_cases hx : x k ≤ v
      · go_wp2
        go_round
        case rel => exact ⟨k + 1, _, by omega, by go_num, rfl, (rateK_yes hx).symm⟩
        case measure => simp [intOf]; omega
      · have HF := hide (rateK_no (y := y) hx)
        go_wp2
        go_round
        case rel => exact ⟨k + 1, _, by omega, by go_num, rfl, by rw [HF.out]; exact ht.out⟩
        case measure => simp [intOf]; omega
    · go_wp2
      go_ret
      obtain rfl : k = n' := by omega
      exact ⟨reti ht.out, HB.out⟩

set_option maxHeartbeats 1000000 in
theorem specRateAt_any (A A' : Option Addr) (n c n' c' : Nat) (x y : Nat → Int) (v : Int) (w : World) (hn : n ≤ maxLen) (hn' : n' ≤ maxLen)
    (hs : SL w A n (fun j => .int .i64 (x j))) (hs' : SL w A' n' (fun j => .int .i64 (y j))) :
    Calls Try.prog 28 #[.agg #[.slice A n c, .slice A' n' c'], .int .i64 v] w fun e w' => e = .returned (.tuple #[.int .i64 (ifV (rateP x y n n' v) (rateK x y v n)), .bool (tru (rateP x y n n' v))]) ∧ Below w.heap.size w w' := by
  have HB := hide ((Below.refl w.heap.size w).alloc (Nat.le_refl _) (.cells #[.slice A n c, .slice A' n' c'] 27))
  have HS := hide (hs.below HB.out)
  have HS' := hide (hs'.below HB.out)
  have HI := hide (specIs_any w.heap.size A A' n c n' c' x y (w.alloc (.cells #[.slice A n c, .slice A' n' c'] 27)) hn hn' (by simp) (by simp) HS.out HS'.out)
  clear hs hs'
  by_cases hv : Val x y n n'
  · have hvt := tru_yes hv
    cases ha : amtB v
    · have HH := hide (show ¬ rateP x y n n' v from fun h => by rw [amtB_yes h.2] at ha; cases ha)
      clear hv
      go_enter Try.func28, Try.ntmps28
      go_wp2_with fail
      refine HI.out.mono ?_
      rintro e w' ⟨rfl, q, rfl⟩
      go_wp2_with (go_at_call 62; refine (specCents_any _ _).mono ?_; rintro e w' ⟨rfl, rfl⟩)
      go_ret2
      exact ⟨ret_no HH.out, bel_drewN HB.out _⟩
    · have HH := hide (show rateP x y n n' v from ⟨hv, amtB_iff.1 ha⟩)
      clear hv
      go_enter Try.func28, Try.ntmps28
      go_wp2_with fail
      refine HI.out.mono ?_
      rintro e w' ⟨rfl, q, rfl⟩
      go_wp2_with fail
      refine (specCents_any _ _).mono ?_
      rintro e w' ⟨rfl, rfl⟩
      go_wp2_with fail
      refine (specAt_any w.heap.size A A' n c n' c' x y v _ (by simp) (by simp) (HS.out.drewN q) (HS'.out.drewN q) HH.out.1 HH.out.2.1).mono ?_
      rintro e w' ⟨rfl, rfl⟩
      go_wp2_with fail
      go_ret2
      exact ⟨ret_yes HH.out, bel_drewN HB.out _⟩
  · have hvt := tru_no hv
    have HH := hide (show ¬ rateP x y n n' v from fun h => hv h.1)
    clear hv
    go_enter Try.func28, Try.ntmps28
    go_wp2_with fail
    refine HI.out.mono ?_
    rintro e w' ⟨rfl, q, rfl⟩
    go_wp2
    go_ret2
    exact ⟨ret_no HH.out, bel_drewN HB.out _⟩

set_option maxHeartbeats 1000000 in
theorem implRateAt_any (A A' : Option Addr) (n c n' c' : Nat) (x y : Nat → Int) (v : Int) (w : World) (hn : n ≤ maxLen) (hn' : n' ≤ maxLen)
    (hs : SL w A n (fun j => .int .i64 (x j))) (hs' : SL w A' n' (fun j => .int .i64 (y j))) :
    Calls Try.prog 29 #[.agg #[.slice A n c, .slice A' n' c'], .int .i64 v] w fun e w' => e = .returned (.tuple #[.int .i64 (ifV (rateP x y n n' v) (rateK x y v n)), .bool (tru (rateP x y n n' v))]) ∧ Below w.heap.size w w' := by
  have HB := hide ((Below.refl w.heap.size w).alloc (Nat.le_refl _) (.cells #[.slice A n c, .slice A' n' c'] 27))
  have HS := hide (hs.below HB.out)
  have HS' := hide (hs'.below HB.out)
  have HP := hide (blocks1 w (.cells #[.slice A n c, .slice A' n' c'] 27))
  have HI := hide (implValid_any A A' n c n' c' x y _ hn hn' HS.out HS'.out)
  clear hs hs'
  by_cases hv : Val x y n n'
  · have hvt := tru_yes hv
    cases ha : amtB v
    · have HH := hide (show ¬ rateP x y n n' v from fun h => by rw [amtB_yes h.2] at ha; cases ha)
      clear hv
      go_enter Try.func29, Try.ntmps29
      go_wp2_with fail
      refine HI.out.mono ?_
      rintro e w1 ⟨rfl, hb⟩
      have HB1 := hide (below_left HB.out hb (by simp))
      have HP1 := hide (blk_below hb (by simp) HP.out)
      have HS1 := hide (HS.out.below hb)
      have HS1' := hide (HS'.out.below hb)
      have k0 := Joins.cell_of_block HP1.out 0
      have k1 := Joins.cell_of_block HP1.out 1
      simp at k0 k1
      clear hb
      go_wp2_with (go_at_call 64; refine (implAmount_any _ _).mono ?_; rintro e w' ⟨rfl, rfl⟩)
      go_ret2
      exact ⟨ret_no HH.out, HB1.out⟩
    · have HH := hide (show rateP x y n n' v from ⟨hv, amtB_iff.1 ha⟩)
      clear hv
      go_enter Try.func29, Try.ntmps29
      go_wp2_with fail
      refine HI.out.mono ?_
      rintro e w1 ⟨rfl, hb⟩
      have HB1 := hide (below_left HB.out hb (by simp))
      have HP1 := hide (blk_below hb (by simp) HP.out)
      have HS1 := hide (HS.out.below hb)
      have HS1' := hide (HS'.out.below hb)
      have k0 := Joins.cell_of_block HP1.out 0
      have k1 := Joins.cell_of_block HP1.out 1
      simp at k0 k1
      clear hb
      go_wp2_with fail
      refine (implAmount_any _ _).mono ?_
      rintro e w' ⟨rfl, rfl⟩
      go_wp2_with fail
      refine (implAt_any A A' n c n' c' x y v _ HS1.out HS1'.out HH.out.1).mono ?_
      rintro e w2 ⟨rfl, hb⟩
      have HB2 := hide (below_left HB1.out hb HB1.out.size)
      clear hb
      go_wp2_with fail
      go_ret2
      exact ⟨ret_yes HH.out, HB2.out⟩
  · have hvt := tru_no hv
    have HH := hide (show ¬ rateP x y n n' v from fun h => hv h.1)
    clear hv
    go_enter Try.func29, Try.ntmps29
    go_wp2_with fail
    refine HI.out.mono ?_
    rintro e w1 ⟨rfl, hb⟩
    have HB1 := hide (below_left HB.out hb (by simp))
    have HP1 := hide (blk_below hb (by simp) HP.out)
    have HS1 := hide (HS.out.below hb)
    have HS1' := hide (HS'.out.below hb)
    have k0 := Joins.cell_of_block HP1.out 0
    have k1 := Joins.cell_of_block HP1.out 1
    simp at k0 k1
    clear hb
    go_wp2
    go_ret2
    exact ⟨ret_no HH.out, HB1.out⟩
end Go.Proofs.Ytpgpnkaemgigdaa
