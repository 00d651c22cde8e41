/- What a valid scale is, by the program. -/
import Derived.Test.YtjndhcdanpnniaaVs
namespace Go.Proofs.Ytjndhcdanpnniaa
open Go.RowKit Go.Dues

theorem implBreaks_any (A : Option Addr) (n c : Nat) (x : Nat → Int) (w : World) (hn : n ≤ maxLen) (hs : SL w A n (fun j => .int .i64 (x j))) :
    Calls Try.prog 136 #[.slice A n c] w fun e w' => e = .returned (.bool (tru (Ups x n))) ∧ w = w' := by
  unfold maxLen at hn
  have HC := cells_one hs
  clear hs
  by_cases h1 : n < 1
  · have HF := hide (tru_no (p := Ups x n) (fun h => by have := h.1; omega))
    go_enter Try.func136, Try.ntmps136
    go_wp2
    go_ret
    exact ⟨retb HF.out.symm, rfl⟩
  by_cases h8 : 8 < n
  · have HF := hide (tru_no (p := Ups x n) (fun h => by have := h.2.1; omega))
    go_enter Try.func136, Try.ntmps136
    go_wp2
    go_ret
    exact ⟨retb HF.out.symm, rfl⟩
  obtain ⟨b1, off, hA, hb1, hx0⟩ := HC.out 0 (by omega)
  subst hA
  simp only [Nat.add_zero] at hx0
  by_cases h0 : x 0 = 0
  · have hx : (x 0 != 0) = false := by simp [h0]
    have H0 := hide h0
    clear h0
    go_enter Try.func136, Try.ntmps136
    go_wp2
    go_loop [3, 4, 21] (fun _ _ i => ∃ k : Nat, k ≤ n ∧ i = .int .i64 k ∧ Hid ((∀ j, j < k → 0 ≤ x j ∧ x j ≤ 1000000000000) ∧ (∀ j, j + 1 < k → x j < x (j + 1)))) (fun _ _ i => n - (intOf i).toNat)
    case atStart => exact ⟨0, Nat.zero_le _, rfl, fun j hj => absurd hj (by omega), fun j hj => absurd hj (by omega)⟩
    case round =>
      obtain ⟨k, hk, rfl, hg⟩ := hrel
      by_cases hlt : k < n
      · obtain ⟨b2, off2, hA2, hb2, hxk⟩ := HC.out k hlt
        injection hA2 with hA2
        injection hA2 with hA2 hA3
        subst hA2 hA3
        by_cases ha : 0 ≤ x k ∧ x k ≤ 1000000000000
        · have hab := amtB_yes ha
          have HA := hide ha
          clear ha
          by_cases hk0 : k = 0
          · have hgt : ¬ (0 : Int) < (k : Int) := by omega
            have HK := hide hk0
            clear hk0
            go_wp2_with (go_at_call 133; refine (implAmount_any _ _).mono ?_; rintro e w' ⟨rfl, rfl⟩)
            go_round
            case rel => exact ⟨k + 1, by omega, by go_num, by have hk0 := HK.out; intro j hj; obtain rfl : j = k := (by omega); exact HA.out, by have hk0 := HK.out; intro j hj; omega⟩
            case measure => simp [intOf]; omega
          · obtain ⟨p, hp⟩ : ∃ p, k = p + 1 := ⟨k - 1, by omega⟩
            obtain ⟨b4, off4, hA4, hb4, hxp⟩ := HC.out p (by omega)
            injection hA4 with hA4
            injection hA4 with hA4 hA5
            subst hA4 hA5
            have hgt : (0 : Int) < (k : Int) := by omega
            have hpn : (p : Int) < n := by omega
            have hw : IntKind.i64.wrap ((k : Int) - 1) = p := by rw [IntWalk.i64_in _ (by omega)]; omega
            have hw2 : (k : Int) - 1 = p := by omega
            have HP := hide hp
            clear hp hk0
            by_cases hu : x p < x k
            · have HU := hide hu
              go_wp2_with (go_at_call 133; refine (implAmount_any _ _).mono ?_; rintro e w' ⟨rfl, rfl⟩)
              clear hw hw2
              go_round
              case rel => exact ⟨k + 1, by omega, by go_num, by
                intro j hj
                by_cases hjk : j = k
                · subst hjk; exact HA.out
                · exact hg.out.1 j (by omega), by
                intro j hj
                by_cases hjk : j = p
                · subst hjk; rw [← HP.out]; exact HU.out
                · have := HP.out; exact hg.out.2 j (by omega)⟩
              case measure => simp [intOf]; omega
            · have HF := hide (tru_no (p := Ups x n) (fun h => hu (by have h1 := HP.out; have h2 := h.2.2.2.2 p (by omega); rw [h1]; exact h2)))
              go_wp2_with (go_at_call 133; refine (implAmount_any _ _).mono ?_; rintro e w' ⟨rfl, rfl⟩)
              go_ret
              exact ⟨retb HF.out.symm, rfl⟩
        · have hab := amtB_no ha
          have HF := hide (tru_no (p := Ups x n) (fun h => ha (h.2.2.2.1 k hlt)))
          clear ha
          go_wp2_with (go_at_call 133; refine (implAmount_any _ _).mono ?_; rintro e w' ⟨rfl, rfl⟩)
          go_ret
          exact ⟨retb HF.out.symm, rfl⟩
      · go_wp2
        go_ret
        obtain rfl : k = n := by omega
        exact ⟨retb (tru_yes ⟨by omega, by omega, H0.out, hg.out.1, hg.out.2⟩).symm, rfl⟩
  · have hx : (x 0 != 0) = true := by simp [h0]
    have HF := hide (tru_no (p := Ups x n) (fun h => h0 h.2.2.1))
    clear h0
    go_enter Try.func136, Try.ntmps136
    go_wp2
    go_ret
    exact ⟨retb HF.out.symm, rfl⟩

theorem implBadRate_any (n : Int) (w : World) : Calls Try.prog 138 #[.int .i64 n] w fun e w' => e = .returned (.bool (!ratB n)) ∧ w = w' := by
  go_enter Try.func138, Try.ntmps138
  go_wp2_with (go_at_call 139; refine (implRate_any _ _).mono ?_; rintro e w' ⟨rfl, rfl⟩)
  go_ret
  exact ⟨rfl, rfl⟩

theorem index_badRate (A : Option Addr) (n c : Nat) (x : Nat → Int) (w : World) (hn : n ≤ maxLen) (hs : SL w A n (fun j => .int .i64 (x j))) :
    Calls Try.prog 190 #[.slice A n c, .func (Fn.func 138) #[] #[]] w fun e w' => ∃ r : Int, e = .returned (.int .i64 r) ∧ ((0 ≤ r ∧ ∃ j, j < n ∧ ratB (x j) = false) ∨ (r = -1 ∧ ∀ j, j < n → ratB (x j) = true)) ∧ w = w' := by
  unfold maxLen at hn
  have HC := cells_one hs
  clear hs
  go_enter Try.func190, Try.ntmps190
  go_wp2
  go_loop [5, 8] (fun _ i => ∃ k : Nat, k ≤ n ∧ i = .int .i64 k ∧ Hid (∀ j, j < k → ratB (x j) = true)) (fun _ i => n - (intOf i).toNat)
  case atStart => exact ⟨0, Nat.zero_le _, rfl, fun j hj => absurd hj (by omega)⟩
  case round =>
    obtain ⟨k, hk, rfl, hg⟩ := hrel
    by_cases hlt : k < n
    · obtain ⟨b1, off, rfl, hb1, hxk⟩ := HC.out k hlt
      cases hp : ratB (x k)
      · have HP := hide hp
        go_wp2_with (go_at_call 138; refine (implBadRate_any _ _).mono ?_; rintro e w' ⟨rfl, rfl⟩)
        go_ret
        exact ⟨_, rfl, .inl ⟨by omega, k, hlt, HP.out⟩, rfl⟩
      · have HP := hide hp
        go_wp2_with (go_at_call 138; refine (implBadRate_any _ _).mono ?_; rintro e w' ⟨rfl, rfl⟩)
        clear hp
        go_round
        case rel => exact ⟨k + 1, by omega, by go_num, by
          intro j hj
          by_cases hjk : j = k
          · subst hjk; exact HP.out
          · exact hg.out j (by omega)⟩
        case measure => simp [intOf]; omega
    · go_wp2
      go_ret
      obtain rfl : k = n := by omega
      exact ⟨_, rfl, .inr ⟨rfl, hg.out⟩, rfl⟩
theorem contains_badRate (A : Option Addr) (n c : Nat) (x : Nat → Int) (w : World) (hn : n ≤ maxLen) (hs : SL w A n (fun j => .int .i64 (x j))) :
    Calls Try.prog 137 #[.slice A n c, .func (Fn.func 138) #[] #[]] w fun e w' => e = .returned (.bool (tru (∃ j, j < n ∧ ratB (x j) = false))) ∧ w = w' := by
  have HI := hide (index_badRate A n c x w hn hs)
  clear hs
  go_enter Try.func137, Try.ntmps137
  go_wp2_with fail
  refine HI.out.mono ?_
  rintro e w' ⟨r, rfl, hr, rfl⟩
  rcases hr with ⟨h0, h⟩ | ⟨rfl, h⟩
  · have HF := hide (tru_yes h)
    clear h
    go_wp2
    go_ret
    exact ⟨retb HF.out.symm, rfl⟩
  · have HF := hide (tru_no (p := ∃ j, j < n ∧ ratB (x j) = false) (fun ⟨j, hj, hh⟩ => by rw [h j hj] at hh; cases hh))
    clear h
    go_wp2
    go_ret
    exact ⟨retb HF.out.symm, rfl⟩

theorem implValid_any (A A' : Option Addr) (n c n' c' : Nat) (x y : Nat → Int) (w : World) (hn : n ≤ maxLen) (hn' : n' ≤ maxLen) (hs : SL w A n (fun j => .int .i64 (x j))) (hs' : SL w A' n' (fun j => .int .i64 (y j))) :
    Calls Try.prog 63 #[.agg #[.slice A n c, .slice A' n' c']] w fun e w' => e = .returned (.bool (tru (Val x y n n'))) ∧ Below w.heap.size w w' := by
  have HB := hide ((Below.refl w.heap.size w).alloc (Nat.le_refl _) (.cells #[.slice A n c, .slice A' n' c'] 77))
  by_cases hm : n' = n
  · subst hm
    have hne : ((n' : Int) != (n' : Int)) = false := by simp
    have H1 := hide (implBreaks_any A n' c x _ hn (hs.below HB.out))
    have H2 := hide (contains_badRate A' n' c' y _ hn' (hs'.below HB.out))
    clear hs hs'
    by_cases hu : Ups x n'
    · have hut := tru_yes hu
      by_cases hr : ∃ j, j < n' ∧ ratB (y j) = false
      · have hrt := tru_yes hr
        have HF := hide (tru_no (p := Val x y n' n') (fun h => by
          obtain ⟨j, hj, hjr⟩ := hr
          rw [ratB_yes (h.rate j hj)] at hjr
          cases hjr))
        clear hu hr
        go_enter Try.func63, Try.ntmps63
        go_wp2_with fail
        refine H1.out.mono ?_
        rintro e w' ⟨rfl, rfl⟩
        go_wp2_with fail
        refine H2.out.mono ?_
        rintro e w' ⟨rfl, rfl⟩
        go_wp2_with fail
        go_ret
        exact ⟨retb HF.out.symm, HB.out⟩
      · have hrt := tru_no hr
        have HF := hide (tru_yes (p := Val x y n' n') ⟨rfl, hu, fun j hj => by
          cases hh : ratB (y j)
          · exact absurd ⟨j, hj, hh⟩ hr
          · exact ratB_iff.1 hh⟩)
        clear hu hr
        go_enter Try.func63, Try.ntmps63
        go_wp2_with fail
        refine H1.out.mono ?_
        rintro e w' ⟨rfl, rfl⟩
        go_wp2_with fail
        refine H2.out.mono ?_
        rintro e w' ⟨rfl, rfl⟩
        go_wp2_with fail
        go_ret
        exact ⟨retb HF.out.symm, HB.out⟩
    · have hut := tru_no hu
      have HF := hide (tru_no (p := Val x y n' n') (fun h => hu h.2.1))
      clear hu
      go_enter Try.func63, Try.ntmps63
      go_wp2_with fail
      refine H1.out.mono ?_
      rintro e w' ⟨rfl, rfl⟩
      go_wp2_with fail
      go_ret
      exact ⟨retb HF.out.symm, HB.out⟩
  · have hne : ((n' : Int) != (n : Int)) = true := by simp; omega
    have HF := hide (tru_no (p := Val x y n n') (fun h => hm h.1))
    clear hs hs'
    go_enter Try.func63, Try.ntmps63
    go_wp2_with fail
    go_ret
    exact ⟨retb HF.out.symm, HB.out⟩
end Go.Proofs.Ytjndhcdanpnniaa
