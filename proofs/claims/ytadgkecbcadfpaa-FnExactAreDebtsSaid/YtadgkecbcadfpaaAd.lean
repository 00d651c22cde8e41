/- What debts are, by both. -/
import Derived.Test.YtadgkecbcadfpaaDb
namespace Go.Proofs.Ytadgkecbcadfpaa
open Go.RowKit Go.Dues
theorem retBd {a b : Bool} (h : a = b) : Ending.returned (.bool a) = .returned (.bool b) := by rw [h]
def debB (a0 a1 a2 : Int) : Bool := inB a0 0 36524 && (inB a1 0 9 && inB a2 0 1000000000)
def debP (x : Nat → Int) (k : Nat) : Prop := (0 ≤ x (k * 3) ∧ x (k * 3) ≤ 36524) ∧ (0 ≤ x (k * 3 + 1) ∧ x (k * 3 + 1) ≤ 9) ∧ (0 ≤ x (k * 3 + 2) ∧ x (k * 3 + 2) ≤ 1000000000)
def debsP (x : Nat → Int) (n : Nat) : Prop := (1 ≤ n ∧ n ≤ 24) ∧ ∀ j, j < n → debP x j
theorem debB_iff {x : Nat → Int} {k : Nat} : debB (x (k * 3)) (x (k * 3 + 1)) (x (k * 3 + 2)) = true ↔ debP x k := by
  unfold debB debP
  rw [Bool.and_eq_true, Bool.and_eq_true, inB_iff, inB_iff, inB_iff]
set_option maxRecDepth 100000 in
set_option maxHeartbeats 4000000 in
theorem specDebts_any (A : Option Addr) (n c : Nat) (x : Nat → Int) (w : World) (hn : n ≤ maxLen) (hs : SL w A (n * 3) (fun j => .int .i64 (x j))) :
    Calls Try.prog 52 #[.slice A n c] w fun e w' => e = .returned (.bool (tru (debsP x n))) ∧ w = w' := by
  unfold maxLen at hn
  have HC := cells3_debt hs
  clear hs
  go_enter Try.func52, Try.ntmps52
  go_wp2
  go_loop [3, 6] (fun _ i => ∃ k : Nat, k ≤ n ∧ i = .int .i64 k ∧ Hid (∀ j, j < k → debP x j)) (fun _ i => n - (intOf i).toNat)
  case atStart => exact ⟨0, Nat.zero_le _, rfl, fun j hj => absurd hj (by omega)⟩
  case round =>
    obtain ⟨k, hk, rfl, hgood⟩ := hrel
    by_cases hlt : k < n
    · obtain ⟨b, off, rfl, hb, d0, d1, d2⟩ := HC.out k hlt
      cases g0 : inB (x (k * 3)) 0 36524
      · skip
        have HT := hide (tru_no (show ¬ debsP x n from fun h => by rw [inB_yes (h.2 k hlt).1] at g0; cases g0))
        go_wp2_with (first | (go_at_call 58; refine (specIn_any _ _ _ _).mono ?_; rintro e w' ⟨rfl, rfl⟩) | go_in)
        go_ret
        exact ⟨retBd HT.out.symm, rfl⟩
      cases g1 : inB (x (k * 3 + 1)) 0 9
      · skip
        have HT := hide (tru_no (show ¬ debsP x n from fun h => by rw [inB_yes (h.2 k hlt).2.1] at g1; cases g1))
        go_wp2_with (first | (go_at_call 58; refine (specIn_any _ _ _ _).mono ?_; rintro e w' ⟨rfl, rfl⟩) | go_in)
        go_ret
        exact ⟨retBd HT.out.symm, rfl⟩
      cases g2 : inB (x (k * 3 + 2)) 0 1000000000
      · skip
        have HT := hide (tru_no (show ¬ debsP x n from fun h => by rw [inB_yes (h.2 k hlt).2.2] at g2; cases g2))
        go_wp2_with (first | (go_at_call 58; refine (specIn_any _ _ _ _).mono ?_; rintro e w' ⟨rfl, rfl⟩) | go_in)
        go_ret
        exact ⟨retBd HT.out.symm, rfl⟩
      have HE := hide (show debP x k from ⟨inB_iff.1 g0, inB_iff.1 g1, inB_iff.1 g2⟩)
      go_wp2_with (first | (go_at_call 58; refine (specIn_any _ _ _ _).mono ?_; rintro e w' ⟨rfl, rfl⟩) | go_in)
      clear g0 g1 g2 d0 d1 d2
      go_round
      case rel => exact ⟨k + 1, by omega, by go_num, fun j hj => by
        by_cases hjk : j = k
        · subst hjk; exact HE.out
        · exact hgood.out j (by omega)⟩
      case measure => simp [intOf]; omega
    · obtain rfl : k = n := by omega
      by_cases h1 : (1 : Int) ≤ (k : Int)
      · by_cases h2 : (k : Int) ≤ 24
        · have HT := hide (tru_yes (show debsP x k from ⟨⟨by omega, by omega⟩, hgood.out⟩))
          have h1d : decide ((1 : Int) ≤ (k : Int)) = true := decide_eq_true h1
          have h2d : decide ((k : Int) ≤ 24) = true := decide_eq_true h2
          go_wp2
          go_ret
          exact ⟨retBd HT.out.symm, rfl⟩
        · have HT := hide (tru_no (show ¬ debsP x k from fun h => h2 (by have := h.1.2; omega)))
          have h1d : decide ((1 : Int) ≤ (k : Int)) = true := decide_eq_true h1
          have h2d : decide ((k : Int) ≤ 24) = false := decide_eq_false h2
          go_wp2
          go_ret
          exact ⟨retBd HT.out.symm, rfl⟩
      · have HT := hide (tru_no (show ¬ debsP x k from fun h => h1 (by have := h.1.1; omega)))
        have h1d : decide ((1 : Int) ≤ (k : Int)) = false := decide_eq_false h1
        go_wp2
        go_ret
        exact ⟨retBd HT.out.symm, rfl⟩
theorem specAreDebts_any (A : Option Addr) (n c : Nat) (x : Nat → Int) (w : World) (hn : n ≤ maxLen) (hs : SL w A (n * 3) (fun j => .int .i64 (x j))) :
    Calls Try.prog 25 #[.slice A n c] w fun e w' => e = .returned (.bool (tru (debsP x n))) ∧ Below w.heap.size w w' := by
  have HS := hide (specDebts_any A n c x w hn hs)
  clear hs
  go_enter Try.func25, Try.ntmps25
  go_wp2_with fail
  refine HS.out.mono ?_
  rintro e w1 ⟨rfl, rfl⟩
  go_wp2
  go_ret
  exact ⟨rfl, Below.refl _ _⟩
set_option maxHeartbeats 2000000 in
theorem implIsDebt_any (a0 a1 a2 : Int) (w : World) : Calls Try.prog 56 #[.agg #[.int .i64 a0, .int .i64 a1, .int .i64 a2]] w fun e w' => e = .returned (.bool (debB a0 a1 a2)) ∧ Below w.heap.size w w' := by
  cases g0 : inB a0 0 36524
  · have HB := hide (show debB a0 a1 a2 = false by unfold debB; rw [g0]; rfl)
    go_enter Try.func56, Try.ntmps56
    go_wp2_with (first | (go_at_call 60; refine (implWithin_any _ _ _ _).mono ?_; rintro e w' ⟨rfl, rfl⟩) | go_in)
    go_ret
    exact ⟨retBd HB.out.symm, (Below.refl w.heap.size w).alloc (Nat.le_refl _) _⟩
  cases g1 : inB a1 0 9
  · have HB := hide (show debB a0 a1 a2 = false by unfold debB; rw [g0, g1]; rfl)
    go_enter Try.func56, Try.ntmps56
    go_wp2_with (first | (go_at_call 60; refine (implWithin_any _ _ _ _).mono ?_; rintro e w' ⟨rfl, rfl⟩) | go_in)
    go_ret
    exact ⟨retBd HB.out.symm, (Below.refl w.heap.size w).alloc (Nat.le_refl _) _⟩
  have HB := hide (show debB a0 a1 a2 = inB a2 0 1000000000 by unfold debB; rw [g0, g1]; rfl)
  go_enter Try.func56, Try.ntmps56
  go_wp2_with (first | (go_at_call 60; refine (implWithin_any _ _ _ _).mono ?_; rintro e w' ⟨rfl, rfl⟩) | go_in)
  go_ret
  exact ⟨retBd HB.out.symm, (Below.refl w.heap.size w).alloc (Nat.le_refl _) _⟩
set_option maxHeartbeats 2000000 in
theorem fnDebt_any (a0 a1 a2 : Int) (w : World) : Calls Try.prog 55 #[.agg #[.int .i64 a0, .int .i64 a1, .int .i64 a2]] w fun e w' => e = .returned (.bool (!debB a0 a1 a2)) ∧ Below w.heap.size w w' := by
  obtain ⟨W, hW⟩ : ∃ u, u = w.alloc (.cells #[.int .i64 a0, .int .i64 a1, .int .i64 a2] 58) := ⟨_, rfl⟩
  have HBW : Hid (Below w.heap.size w W) := by rw [hW]; exact (Below.refl w.heap.size w).alloc (Nat.le_refl _) _
  have HI := hide (implIsDebt_any a0 a1 a2 W)
  have HWW := hide hW
  clear hW
  go_enter Try.func55, Try.ntmps55
  go_wp2_with fail
  rw [← HWW.out]
  clear HWW
  refine HI.out.mono ?_
  rintro e w1 ⟨rfl, hb⟩
  have HB := hide (HBW.out.trans (hb.mono HBW.out.size))
  clear hb
  go_wp2
  go_ret
  exact ⟨rfl, HB.out⟩
set_option maxRecDepth 100000 in
set_option maxHeartbeats 4000000 in
theorem indexDebts_any (A : Option Addr) (n c : Nat) (x : Nat → Int) (w : World) (hn : n ≤ maxLen) (hs : SL w A (n * 3) (fun j => .int .i64 (x j))) :
    Calls Try.prog 90 #[.slice A n c, .func (Fn.func 55) #[] #[]] w fun e w' => ∃ r : Int, e = .returned (.int .i64 r) ∧ ((0 ≤ r ∧ ∃ j, j < n ∧ ¬ debP x j) ∨ (r = -1 ∧ ∀ j, j < n → debP x j)) ∧ Below w.heap.size w w' := by
  unfold maxLen at hn
  have HC := cells3_debt hs
  clear hs
  go_enter Try.func90, Try.ntmps90
  go_wp2
  go_loopw [5, 8] (fun _ i wr => ∃ k : Nat, k ≤ n ∧ i = .int .i64 k ∧ Hid (∀ j, j < k → debP x j) ∧ Below w.heap.size w wr) (fun _ i _ => n - (intOf i).toNat)
  case atStart => exact ⟨0, Nat.zero_le _, rfl, fun j hj => absurd hj (by omega), Below.refl _ _⟩
  case round =>
    obtain ⟨k, hk, rfl, hgood, hbel⟩ := hrel
    by_cases hlt : k < n
    · obtain ⟨b, off, rfl, hb, c0, c1, c2⟩ := HC.out k hlt
      have d0 := (hbel.cell (p := ⟨b, off + k * 3, none⟩) hb).trans c0
      have d1 := (hbel.cell (p := ⟨b, off + k * 3 + 1, none⟩) hb).trans c1
      have d2 := (hbel.cell (p := ⟨b, off + k * 3 + 2, none⟩) hb).trans c2
      have HBEL := hide hbel
      clear hbel c0 c1 c2
      go_wp2_with fail
      refine (fnDebt_any (x (k * 3)) (x (k * 3 + 1)) (x (k * 3 + 2)) _).mono ?_
      rintro e w1 ⟨rfl, hb1⟩
      have HB1 := hide (HBEL.out.trans (hb1.mono HBEL.out.size))
      clear hb1 d0 d1 d2
      cases ge : debB (x (k * 3)) (x (k * 3 + 1)) (x (k * 3 + 2))
      · have HE := hide (show ¬ debP x k from fun h => by rw [debB_iff.2 h] at ge; cases ge)
        go_wp2
        go_ret
        exact ⟨_, rfl, .inl ⟨by omega, k, hlt, HE.out⟩, HB1.out⟩
      · have HE := hide (debB_iff.1 ge)
        go_wp2
        clear ge
        go_roundw
        case rel => exact ⟨k + 1, by omega, by go_num, (fun j hj => by
          by_cases hjk : j = k
          · subst hjk; exact HE.out
          · exact hgood.out j (by omega)), HB1.out⟩
        case measure => simp [intOf]; omega
    · obtain rfl : k = n := by omega
      have HBEL := hide hbel
      clear hbel
      go_wp2
      go_ret
      exact ⟨_, rfl, .inr ⟨rfl, hgood.out⟩, HBEL.out⟩
set_option maxHeartbeats 2000000 in
theorem implAreDebts_any (A : Option Addr) (n c : Nat) (x : Nat → Int) (w : World) (hn : n ≤ maxLen) (hs : SL w A (n * 3) (fun j => .int .i64 (x j))) :
    Calls Try.prog 27 #[.slice A n c] w fun e w' => e = .returned (.bool (tru (debsP x n))) ∧ Below w.heap.size w w' := by
  have HI := hide (indexDebts_any A n c x w hn hs)
  unfold maxLen at hn
  clear hs
  by_cases h1 : (n : Int) < 1
  · have HT := hide (tru_no (show ¬ debsP x n from fun h => by have := h.1.1; omega))
    go_enter Try.func27, Try.ntmps27
    go_wp2
    go_ret
    exact ⟨retBd HT.out.symm, Below.refl _ _⟩
  by_cases h2 : (24 : Int) < (n : Int)
  · have HT := hide (tru_no (show ¬ debsP x n from fun h => by have := h.1.2; omega))
    have h1d : decide ((n : Int) < 1) = false := decide_eq_false h1
    go_enter Try.func27, Try.ntmps27
    go_wp2
    go_ret
    exact ⟨retBd HT.out.symm, Below.refl _ _⟩
  have h1d : decide ((n : Int) < 1) = false := decide_eq_false h1
  have h2d : decide ((24 : Int) < (n : Int)) = false := decide_eq_false h2
  go_enter Try.func27, Try.ntmps27
  go_wp2_with (first | (go_at_call 90; fail) | (go_at_call 54; go_in))
  refine HI.out.mono ?_
  rintro e w1 ⟨r, rfl, hr, hb⟩
  have HB := hide hb
  clear hb
  rcases hr with ⟨h0, j, hj, hbad⟩ | ⟨rfl, hall⟩
  · have HT := hide (tru_no (show ¬ debsP x n from fun h => hbad (h.2 j hj)))
    clear hbad
    go_wp2
    go_ret
    exact ⟨retBd HT.out.symm, HB.out⟩
  · have HT := hide (tru_yes (show debsP x n from ⟨⟨by omega, by omega⟩, hall⟩))
    clear hall
    go_wp2
    go_ret
    exact ⟨retBd HT.out.symm, HB.out⟩
end Go.Proofs.Ytadgkecbcadfpaa
