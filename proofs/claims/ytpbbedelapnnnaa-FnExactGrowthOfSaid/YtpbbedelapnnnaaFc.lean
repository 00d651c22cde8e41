/- Life tables, by both: the whole. -/
import Derived.Test.YtpbbedelapnnnaaFb
namespace Go.Proofs.Ytpbbedelapnnnaa
open Go.RowKit Go.Dues
theorem notShare_any (x : Nat) (w : World) : Calls Try.prog 262 #[.float .f32 x] w fun e w' => e = .returned (.bool (!shB x)) ∧ w = w' := by
  go_enter Try.func262, Try.ntmps262
  go_wp2_with (go_at_call 97; refine (implShare_any _ _ ).mono ?_; rintro e w' ⟨rfl, rfl⟩)
  go_ret
  exact ⟨rfl, rfl⟩
set_option maxHeartbeats 4000000 in
theorem index_notShare (A : Option Addr) (n c : Nat) (x : Nat → Nat) (w : World) (hn : n ≤ maxLen) (hs : SL w A n (fun j => .float .f32 (x j))) :
    Calls Try.prog 250 #[.slice A n c, .func (Fn.func 262) #[] #[]] w fun e w' => ∃ r : Int, e = .returned (.int .i64 r) ∧ ((0 ≤ r ∧ ∃ j, j < n ∧ ¬ shB (x j) = true) ∨ (r = -1 ∧ ∀ j, j < n → shB (x j) = true)) ∧ w = w' := by
  unfold maxLen at hn
  have HC := cells_f hs
  clear hs
  go_enter Try.func250, Try.ntmps250
  go_wp2
  go_loop [5, 8] (fun _ i => ∃ k : Nat, k ≤ n ∧ i = .int .i64 k ∧ Hid (∀ j, j < k → shB (x j) = true)) (fun _ i => n - (intOf i).toNat)
  case atStart => exact ⟨0, Nat.zero_le _, rfl, fun j hj => absurd hj (by omega)⟩
  case round =>
    obtain ⟨k, hk, rfl, hg⟩ := hrel
    by_cases hlt : k < n
    · obtain ⟨b1, off, rfl, hb1, hxk⟩ := HC.out k hlt
      cases hp : shB (x k)
      · have HE := hide (show ¬ shB (x k) = true by rw [hp]; decide)
        go_wp2_with fail
        refine (notShare_any _ _).mono ?_
        rw [hp]
        rintro e w' ⟨rfl, rfl⟩
        go_wp2
        go_ret
        exact ⟨_, rfl, .inl ⟨by omega, k, hlt, HE.out⟩, rfl⟩
      · have HE := hide hp
        go_wp2_with fail
        refine (notShare_any _ _).mono ?_
        rw [hp]
        rintro e w' ⟨rfl, rfl⟩
        clear hp
        go_wp2
        go_round
        case rel => exact ⟨k + 1, by omega, by go_num, by
          intro j hj
          by_cases hjk : j = k
          · subst hjk; exact HE.out
          · exact hg.out j (by omega)⟩
        case measure => simp [intOf]; omega
    · go_wp2
      go_ret
      obtain rfl : k = n := by omega
      exact ⟨_, rfl, .inr ⟨rfl, hg.out⟩, rfl⟩
set_option maxRecDepth 100000 in
set_option maxHeartbeats 4000000 in
theorem implLife_any (A : Option Addr) (n c : Nat) (x : Nat → Nat) (w : World) (hn : n ≤ maxLen) (hs : SL w A n (fun j => .float .f32 (x j))) :
    Calls Try.prog 230 #[.slice A n c] w fun e w' => e = .returned (.bool (tru (ltP x n))) ∧ w = w' := by
  have HI := hide (index_notShare A n c x w hn hs)
  unfold maxLen at hn
  have HC := cells_f hs
  clear hs
  by_cases h1 : (n : Int) < 1
  · have HT := hide (tru_no (show ¬ ltP x n from fun h => by have := h.1.1; omega))
    go_enter Try.func230, Try.ntmps230
    go_wp2
    go_ret
    exact ⟨retBa HT.out.symm, rfl⟩
  have h1d : decide ((n : Int) < 1) = false := decide_eq_false h1
  by_cases h2 : (120 : Int) < (n : Int)
  · have HT := hide (tru_no (show ¬ ltP x n from fun h => by have := h.1.2; omega))
    go_enter Try.func230, Try.ntmps230
    go_wp2
    go_ret
    exact ⟨retBa HT.out.symm, rfl⟩
  have h2d : decide ((120 : Int) < (n : Int)) = false := decide_eq_false h2
  obtain ⟨m, rfl⟩ : ∃ m : Nat, n = m + 1 := ⟨n - 1, by omega⟩
  obtain ⟨b, off, rfl, hb, hc⟩ := HC.out m (by omega)
  have hm1 : ((m + 1 : Nat) : Int) - 1 = (m : Int) := by omega
  cases h3 : eqB (x m) 1065353216
  · have HT := hide (tru_no (show ¬ ltP x (m + 1) from fun h => by have := h.2.2; rw [show m + 1 - 1 = m by omega, h3] at this; cases this))
    have h3' : (FloatKind.f32.format.order (x m) 1065353216 == some .eq) = false := h3
    have h3'' : (FloatKind.f32.format.order (x m) 1065353216 != some .eq) = true := by rw [bne, h3']; rfl
    clear h3
    go_enter Try.func230, Try.ntmps230
    go_wp2
    go_ret
    exact ⟨retBa HT.out.symm, rfl⟩
  have HEQ := hide (show eqB (x (m + 1 - 1)) 1065353216 = true by rw [show m + 1 - 1 = m by omega]; exact h3)
  have h3' : (FloatKind.f32.format.order (x m) 1065353216 == some .eq) = true := h3
  have h3'' : (FloatKind.f32.format.order (x m) 1065353216 != some .eq) = false := by rw [bne, h3']; rfl
  have HL := hide (show 1 ≤ m + 1 ∧ m + 1 ≤ 120 by omega)
  clear h3
  go_enter Try.func230, Try.ntmps230
  go_wp2_with (first | (go_at_call 250; fail) | (go_at_call 204; go_in))
  refine HI.out.mono ?_
  rintro e w1 ⟨r, rfl, hr, rfl⟩
  rcases hr with ⟨h0, j, hj, hbad⟩ | ⟨rfl, hall⟩
  · have HT := hide (tru_no (show ¬ ltP x (m + 1) from fun h => hbad (h.2.1 j hj)))
    clear hbad
    go_wp2
    go_ret
    exact ⟨retBa HT.out.symm, rfl⟩
  · have HT := hide (tru_yes (show ltP x (m + 1) from ⟨HL.out, hall, HEQ.out⟩))
    clear hall
    go_wp2
    go_ret
    exact ⟨retBa HT.out.symm, rfl⟩
set_option maxRecDepth 100000 in
set_option maxHeartbeats 4000000 in
theorem specTable_any (A : Option Addr) (n c : Nat) (x : Nat → Nat) (w : World) (hn : n ≤ maxLen) (hs : SL w A n (fun j => .float .f32 (x j))) :
    Calls Try.prog 92 #[.slice A n c] w fun e w' => e = .returned (.bool (tru (ltP x n))) ∧ w = w' := by
  unfold maxLen at hn
  have HC := cells_f hs
  clear hs
  go_enter Try.func92, Try.ntmps92
  go_wp2
  go_loop [4] (fun i => ∃ k : Nat, k ≤ n ∧ i = .int .i64 k ∧ Hid (∀ j, j < k → shB (x j) = true)) (fun i => n - (intOf i).toNat)
  case atStart => exact ⟨0, Nat.zero_le _, rfl, fun j hj => absurd hj (by omega)⟩
  case round =>
    obtain ⟨k, hk, rfl, hg⟩ := hrel
    by_cases hlt : k < n
    · obtain ⟨b1, off, rfl, hb1, hxk⟩ := HC.out k hlt
      cases hp : shB (x k)
      · have HT := hide (tru_no (show ¬ ltP x n from fun h => by rw [h.2.1 k hlt] at hp; cases hp))
        go_wp2_with (go_at_call 93; refine (specShare_any _ _ ).mono ?_; rintro e w' ⟨rfl, rfl⟩)
        go_ret
        exact ⟨retBa HT.out.symm, rfl⟩
      · have HE := hide hp
        go_wp2_with (go_at_call 93; refine (specShare_any _ _ ).mono ?_; rintro e w' ⟨rfl, rfl⟩)
        clear hp
        go_round
        case rel => exact ⟨k + 1, by omega, by go_num, by
          intro j hj
          by_cases hjk : j = k
          · subst hjk; exact HE.out
          · exact hg.out j (by omega)⟩
        case measure => simp [intOf]; omega
    · obtain rfl : k = n := by omega
      by_cases h1 : (1 : Int) ≤ (k : Int)
      · have h1d : decide ((1 : Int) ≤ (k : Int)) = true := decide_eq_true h1
        by_cases h2 : (k : Int) ≤ 120
        · have h2d : decide ((k : Int) ≤ 120) = true := decide_eq_true h2
          obtain ⟨m, rfl⟩ : ∃ m : Nat, k = m + 1 := ⟨k - 1, by omega⟩
          obtain ⟨b, off, rfl, hb, hc⟩ := HC.out m (by omega)
          have hm1 : ((m + 1 : Nat) : Int) - 1 = (m : Int) := by omega
          have HT := hide (show eqB (x m) 1065353216 = tru (ltP x (m + 1)) from by
            cases h3 : eqB (x m) 1065353216
            · exact (tru_no (fun h => by have := h.2.2; rw [show m + 1 - 1 = m by omega, h3] at this; cases this)).symm
            · exact (tru_yes ⟨⟨by omega, by omega⟩, hg.out, by rw [show m + 1 - 1 = m by omega]; exact h3⟩).symm)
          go_wp2
          go_ret
          exact ⟨retBa HT.out, rfl⟩
        · have h2d : decide ((k : Int) ≤ 120) = false := decide_eq_false h2
          have HT := hide (tru_no (show ¬ ltP x k from fun h => by have := h.1.2; omega))
          go_wp2
          go_ret
          exact ⟨retBa HT.out.symm, rfl⟩
      · have h1d : decide ((1 : Int) ≤ (k : Int)) = false := decide_eq_false h1
        have HT := hide (tru_no (show ¬ ltP x k from fun h => by have := h.1.1; omega))
        go_wp2
        go_ret
        exact ⟨retBa HT.out.symm, rfl⟩
end Go.Proofs.Ytpbbedelapnnnaa
