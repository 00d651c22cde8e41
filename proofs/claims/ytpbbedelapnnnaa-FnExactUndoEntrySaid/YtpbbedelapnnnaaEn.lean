/- What a ledger is, by both. -/
import Derived.Test.YtpbbedelapnnnaaEs
import Derived.Deep.RegionHeld3
namespace Go.Proofs.Ytpbbedelapnnnaa
open Go.RowKit Go.Dues
theorem retB1 {a b : Bool} (h : a = b) : Ending.returned (.bool a) = .returned (.bool b) := by rw [h]
theorem bel_w {B : Nat} {a w : World} (h : Below B a w) (n : Nat) : Below B a (w.drewN n) := ⟨h.os, h.tape, h.output, h.size, h.block⟩
def entB (a0 a1 a2 a3 : Int) : Bool := inB a0 0 36524 && (inB a1 0 11 && (inB a2 0 11 && ((a1 != a2) && inB a3 1 1000000000)))
def entP (x : Nat → Int) (k : Nat) : Prop := (0 ≤ x (k * 4) ∧ x (k * 4) ≤ 36524) ∧ (0 ≤ x (k * 4 + 1) ∧ x (k * 4 + 1) ≤ 11) ∧ (0 ≤ x (k * 4 + 2) ∧ x (k * 4 + 2) ≤ 11) ∧ x (k * 4 + 1) ≠ x (k * 4 + 2) ∧ (1 ≤ x (k * 4 + 3) ∧ x (k * 4 + 3) ≤ 1000000000)
def upP (x : Nat → Int) (k : Nat) : Prop := 0 < k → x ((k - 1) * 4) ≤ x (k * 4)
def ledP (x : Nat → Int) (n : Nat) : Prop := n ≤ 64 ∧ ∀ j, j < n → entP x j ∧ upP x j
theorem entB_iff {x : Nat → Int} {k : Nat} : entB (x (k * 4)) (x (k * 4 + 1)) (x (k * 4 + 2)) (x (k * 4 + 3)) = true ↔ entP x k := by
  unfold entB entP
  rw [Bool.and_eq_true, Bool.and_eq_true, Bool.and_eq_true, Bool.and_eq_true, inB_iff, inB_iff, inB_iff, inB_iff, bne_iff_ne]
theorem specDay_any (x : Int) (w : World) : Calls Try.prog 188 #[.int .i64 x] w fun e w' => e = .returned (.bool (inB x 0 36524)) ∧ w = w' := by
  go_enter Try.func188, Try.ntmps188
  go_wp2_with (first | (go_at_call 82; refine (specIn_any _ _ _ _).mono ?_; rintro e w' ⟨rfl, rfl⟩) | go_in)
  go_ret
  exact ⟨rfl, rfl⟩
theorem specAcc_any (x : Int) (w : World) : Calls Try.prog 189 #[.int .i64 x] w fun e w' => e = .returned (.bool (inB x 0 11)) ∧ w = w' := by
  go_enter Try.func189, Try.ntmps189
  go_wp2_with (first | (go_at_call 82; refine (specIn_any _ _ _ _).mono ?_; rintro e w' ⟨rfl, rfl⟩) | go_in)
  go_ret
  exact ⟨rfl, rfl⟩
theorem implDay_any (x : Int) (w : World) : Calls Try.prog 243 #[.int .i64 x] w fun e w' => e = .returned (.bool (inB x 0 36524)) ∧ w = w' := by
  go_enter Try.func243, Try.ntmps243
  go_wp2_with (first | (go_at_call 88; refine (implWithin_any _ _ _ _).mono ?_; rintro e w' ⟨rfl, rfl⟩) | go_in)
  go_ret
  exact ⟨rfl, rfl⟩
theorem implAcc_any (x : Int) (w : World) : Calls Try.prog 244 #[.int .i64 x] w fun e w' => e = .returned (.bool (inB x 0 11)) ∧ w = w' := by
  go_enter Try.func244, Try.ntmps244
  go_wp2_with (first | (go_at_call 88; refine (implWithin_any _ _ _ _).mono ?_; rintro e w' ⟨rfl, rfl⟩) | go_in)
  go_ret
  exact ⟨rfl, rfl⟩
set_option maxRecDepth 100000 in
set_option maxHeartbeats 8000000 in
theorem specLedger_any (A : Option Addr) (n c : Nat) (x : Nat → Int) (w : World) (hn : n ≤ maxLen) (hs : SL w A (n * 4) (fun j => .int .i64 (x j))) :
    Calls Try.prog 113 #[.slice A n c] w fun e w' => e = .returned (.bool (tru (ledP x n))) ∧ Below w.heap.size w w' := by
  unfold maxLen at hn
  have HC := cells4_entry hs
  clear hs
  go_enter Try.func113, Try.ntmps113
  go_wp2
  go_loopw [3, 4, 7] (fun _ _ i wr => ∃ k : Nat, k ≤ n ∧ i = .int .i64 k ∧ Hid (∀ j, j < k → entP x j ∧ upP x j) ∧ Below w.heap.size w wr) (fun _ _ i _ => n - (intOf i).toNat)
  case atStart => exact ⟨0, Nat.zero_le _, rfl, fun j hj => absurd hj (by omega), Below.refl _ _⟩
  case round =>
    obtain ⟨k, hk, rfl, hgood, hbel⟩ := hrel
    by_cases hlt : k < n
    · obtain ⟨b, off, rfl, hb, c0, c1, c2, c3⟩ := HC.out k hlt
      have d0 := (hbel.cell (p := ⟨b, off + k * 4, none⟩) hb).trans c0
      have d1 := (hbel.cell (p := ⟨b, off + k * 4 + 1, none⟩) hb).trans c1
      have d2 := (hbel.cell (p := ⟨b, off + k * 4 + 2, none⟩) hb).trans c2
      have d3 := (hbel.cell (p := ⟨b, off + k * 4 + 3, none⟩) hb).trans c3
      have HBEL := hide hbel
      clear c0 c1 c2 c3
      cases g0 : inB (x (k * 4)) 0 36524
      · clear hbel
        have HH := hide (show ¬ ledP x n from fun h => by rw [inB_yes (h.2 k hlt).1.1] at g0; cases g0)
        have HT := hide (tru_no HH.out)
        go_wp2_with fail
        go_quiet ((first | (go_at_call 188; exact Calls.quiet_of_same ((specDay_any _ _ ).mono fun _ _ ⟨h, h'⟩ => ⟨h, h'.symm⟩)) | (go_at_call 189; exact Calls.quiet_of_same ((specAcc_any _ _ ).mono fun _ _ ⟨h, h'⟩ => ⟨h, h'.symm⟩)) | (go_at_call 82; exact Calls.quiet_of_same ((specIn_any _ _ _ _ ).mono fun _ _ ⟨h, h'⟩ => ⟨h, h'.symm⟩))))
        go_wp2
        go_ret
        exact ⟨retB1 HT.out.symm, bel_w HBEL.out _⟩
      cases g1 : inB (x (k * 4 + 1)) 0 11
      · clear hbel
        have HH := hide (show ¬ ledP x n from fun h => by rw [inB_yes (h.2 k hlt).1.2.1] at g1; cases g1)
        have HT := hide (tru_no HH.out)
        go_wp2_with fail
        go_quiet ((first | (go_at_call 188; exact Calls.quiet_of_same ((specDay_any _ _ ).mono fun _ _ ⟨h, h'⟩ => ⟨h, h'.symm⟩)) | (go_at_call 189; exact Calls.quiet_of_same ((specAcc_any _ _ ).mono fun _ _ ⟨h, h'⟩ => ⟨h, h'.symm⟩)) | (go_at_call 82; exact Calls.quiet_of_same ((specIn_any _ _ _ _ ).mono fun _ _ ⟨h, h'⟩ => ⟨h, h'.symm⟩))))
        go_wp2
        go_ret
        exact ⟨retB1 HT.out.symm, bel_w HBEL.out _⟩
      cases g2 : inB (x (k * 4 + 2)) 0 11
      · clear hbel
        have HH := hide (show ¬ ledP x n from fun h => by rw [inB_yes (h.2 k hlt).1.2.2.1] at g2; cases g2)
        have HT := hide (tru_no HH.out)
        go_wp2_with fail
        go_quiet ((first | (go_at_call 188; exact Calls.quiet_of_same ((specDay_any _ _ ).mono fun _ _ ⟨h, h'⟩ => ⟨h, h'.symm⟩)) | (go_at_call 189; exact Calls.quiet_of_same ((specAcc_any _ _ ).mono fun _ _ ⟨h, h'⟩ => ⟨h, h'.symm⟩)) | (go_at_call 82; exact Calls.quiet_of_same ((specIn_any _ _ _ _ ).mono fun _ _ ⟨h, h'⟩ => ⟨h, h'.symm⟩))))
        go_wp2
        go_ret
        exact ⟨retB1 HT.out.symm, bel_w HBEL.out _⟩
      by_cases g3 : x (k * 4 + 1) = x (k * 4 + 2)
      · clear hbel
        have HG := hide g3
        have b3 : (x (k * 4 + 1) == x (k * 4 + 2)) = true := by rw [beq_iff_eq]; exact g3
        clear g3
        have HH := hide (show ¬ ledP x n from fun h => (h.2 k hlt).1.2.2.2.1 HG.out)
        have HT := hide (tru_no HH.out)
        go_wp2_with fail
        go_quiet ((first | (go_at_call 188; exact Calls.quiet_of_same ((specDay_any _ _ ).mono fun _ _ ⟨h, h'⟩ => ⟨h, h'.symm⟩)) | (go_at_call 189; exact Calls.quiet_of_same ((specAcc_any _ _ ).mono fun _ _ ⟨h, h'⟩ => ⟨h, h'.symm⟩)) | (go_at_call 82; exact Calls.quiet_of_same ((specIn_any _ _ _ _ ).mono fun _ _ ⟨h, h'⟩ => ⟨h, h'.symm⟩))))
        go_wp2
        go_ret
        exact ⟨retB1 HT.out.symm, bel_w HBEL.out _⟩
      have HG3 := hide g3
      have b3 : (x (k * 4 + 1) == x (k * 4 + 2)) = false := by rw [beq_eq_false_iff_ne]; exact g3
      clear g3
      cases g4 : inB (x (k * 4 + 3)) 1 1000000000
      · clear hbel
        have HH := hide (show ¬ ledP x n from fun h => by rw [inB_yes (h.2 k hlt).1.2.2.2.2] at g4; cases g4)
        have HT := hide (tru_no HH.out)
        go_wp2_with fail
        go_quiet ((first | (go_at_call 188; exact Calls.quiet_of_same ((specDay_any _ _ ).mono fun _ _ ⟨h, h'⟩ => ⟨h, h'.symm⟩)) | (go_at_call 189; exact Calls.quiet_of_same ((specAcc_any _ _ ).mono fun _ _ ⟨h, h'⟩ => ⟨h, h'.symm⟩)) | (go_at_call 82; exact Calls.quiet_of_same ((specIn_any _ _ _ _ ).mono fun _ _ ⟨h, h'⟩ => ⟨h, h'.symm⟩))))
        go_wp2
        go_ret
        exact ⟨retB1 HT.out.symm, bel_w HBEL.out _⟩
      have HE := hide (show entP x k from ⟨inB_iff.1 g0, inB_iff.1 g1, inB_iff.1 g2, HG3.out, inB_iff.1 g4⟩)
      by_cases hk0 : k = 0
      · clear hbel
        have HK0 := hide hk0
        have z0 : decide ((0 : Int) < (k : Int)) = false := decide_eq_false (by omega)
        have z2 : decide (0 < k) = false := decide_eq_false (by omega)
        clear hk0
        go_wp2_with fail
        go_quiet ((first | (go_at_call 188; exact Calls.quiet_of_same ((specDay_any _ _ ).mono fun _ _ ⟨h, h'⟩ => ⟨h, h'.symm⟩)) | (go_at_call 189; exact Calls.quiet_of_same ((specAcc_any _ _ ).mono fun _ _ ⟨h, h'⟩ => ⟨h, h'.symm⟩)) | (go_at_call 82; exact Calls.quiet_of_same ((specIn_any _ _ _ _ ).mono fun _ _ ⟨h, h'⟩ => ⟨h, h'.symm⟩))))
        go_wp2
        go_roundw
        case rel => exact ⟨k + 1, by omega, by go_num, (fun j hj => by
          obtain rfl : j = k := by have := HK0.out; omega
          exact ⟨HE.out, fun h => absurd h (by have := HK0.out; omega)⟩), bel_w HBEL.out _⟩
        case measure => simp [intOf]; omega
      · obtain ⟨i, rfl⟩ : ∃ i, k = i + 1 := ⟨k - 1, by omega⟩
        obtain ⟨b', off', e', hb', p0, p1, p2, p3⟩ := HC.out i (by omega)
        injection e' with e'
        injection e' with e1 e2
        subst e1 e2
        have q0 := (hbel.cell (p := ⟨b, off + i * 4, none⟩) hb').trans p0
        clear p0 p1 p2 p3 hbel
        have z0 : decide ((0 : Int) < ((i + 1 : Nat) : Int)) = true := decide_eq_true (by omega)
        have z1 : (0 : Int) < (i : Int) + 1 := by omega
        by_cases hlo : x ((i + 1) * 4) < x (i * 4)
        · have HLO := hide hlo
          have HH := hide (show ¬ ledP x n from fun h => by have h1 := (h.2 (i + 1) hlt).2 (by omega); rw [show i + 1 - 1 = i by omega] at h1; exact absurd h1 (by have := HLO.out; omega))
          have HT := hide (tru_no HH.out)
          go_wp2_with fail
          go_quiet ((first | (go_at_call 188; exact Calls.quiet_of_same ((specDay_any _ _ ).mono fun _ _ ⟨h, h'⟩ => ⟨h, h'.symm⟩)) | (go_at_call 189; exact Calls.quiet_of_same ((specAcc_any _ _ ).mono fun _ _ ⟨h, h'⟩ => ⟨h, h'.symm⟩)) | (go_at_call 82; exact Calls.quiet_of_same ((specIn_any _ _ _ _ ).mono fun _ _ ⟨h, h'⟩ => ⟨h, h'.symm⟩))))
          go_wp2
          go_ret
          exact ⟨retB1 HT.out.symm, bel_w HBEL.out _⟩
        · have HUP := hide (show x (i * 4) ≤ x ((i + 1) * 4) by omega)
          have hlo2 := HUP.out
          clear hlo
          go_wp2_with fail
          go_quiet ((first | (go_at_call 188; exact Calls.quiet_of_same ((specDay_any _ _ ).mono fun _ _ ⟨h, h'⟩ => ⟨h, h'.symm⟩)) | (go_at_call 189; exact Calls.quiet_of_same ((specAcc_any _ _ ).mono fun _ _ ⟨h, h'⟩ => ⟨h, h'.symm⟩)) | (go_at_call 82; exact Calls.quiet_of_same ((specIn_any _ _ _ _ ).mono fun _ _ ⟨h, h'⟩ => ⟨h, h'.symm⟩))))
          go_wp2
          go_roundw
          case rel => exact ⟨i + 1 + 1, by omega, by go_num, (fun j hj => by
            by_cases hji : j = i + 1
            · subst hji; exact ⟨HE.out, fun _ => by rw [show i + 1 - 1 = i by omega]; exact HUP.out⟩
            · exact hgood.out j (by omega)), bel_w HBEL.out _⟩
          case measure => simp [intOf]; omega
    · obtain rfl : k = n := by omega
      have HBEL := hide hbel
      clear hbel
      by_cases h64 : k ≤ 64
      · have HT := hide (tru_yes (show ledP x k from ⟨h64, hgood.out⟩))
        have h64' : (k : Int) ≤ 64 := by omega
        go_wp2
        go_ret
        exact ⟨retB1 HT.out.symm, HBEL.out⟩
      · have HT := hide (tru_no (show ¬ ledP x k from fun h => h64 h.1))
        have h64' : ¬ (k : Int) ≤ 64 := by omega
        have h64d : decide ((k : Int) ≤ 64) = false := decide_eq_false h64'
        go_wp2
        go_ret
        exact ⟨retB1 HT.out.symm, HBEL.out⟩
set_option maxHeartbeats 2000000 in
theorem implIsEntry_any (a0 a1 a2 a3 : Int) (w : World) : Calls Try.prog 190 #[.agg #[.int .i64 a0, .int .i64 a1, .int .i64 a2, .int .i64 a3]] w fun e w' => e = .returned (.bool (entB a0 a1 a2 a3)) ∧ Below w.heap.size w w' := by
  cases g0 : inB a0 0 36524
  · have HB := hide (show entB a0 a1 a2 a3 = false by unfold entB; rw [g0]; rfl)
    go_enter Try.func190, Try.ntmps190
    go_wp2_with (first | (go_at_call 243; refine (implDay_any _ _).mono ?_; rintro e w' ⟨rfl, rfl⟩) | (go_at_call 244; refine (implAcc_any _ _).mono ?_; rintro e w' ⟨rfl, rfl⟩) | (go_at_call 88; refine (implWithin_any _ _ _ _).mono ?_; rintro e w' ⟨rfl, rfl⟩))
    go_ret
    exact ⟨retB1 HB.out.symm, (Below.refl w.heap.size w).alloc (Nat.le_refl _) _⟩
  cases g1 : inB a1 0 11
  · have HB := hide (show entB a0 a1 a2 a3 = false by unfold entB; rw [g0, g1]; rfl)
    go_enter Try.func190, Try.ntmps190
    go_wp2_with (first | (go_at_call 243; refine (implDay_any _ _).mono ?_; rintro e w' ⟨rfl, rfl⟩) | (go_at_call 244; refine (implAcc_any _ _).mono ?_; rintro e w' ⟨rfl, rfl⟩) | (go_at_call 88; refine (implWithin_any _ _ _ _).mono ?_; rintro e w' ⟨rfl, rfl⟩))
    go_ret
    exact ⟨retB1 HB.out.symm, (Below.refl w.heap.size w).alloc (Nat.le_refl _) _⟩
  cases g2 : inB a2 0 11
  · have HB := hide (show entB a0 a1 a2 a3 = false by unfold entB; rw [g0, g1, g2]; rfl)
    go_enter Try.func190, Try.ntmps190
    go_wp2_with (first | (go_at_call 243; refine (implDay_any _ _).mono ?_; rintro e w' ⟨rfl, rfl⟩) | (go_at_call 244; refine (implAcc_any _ _).mono ?_; rintro e w' ⟨rfl, rfl⟩) | (go_at_call 88; refine (implWithin_any _ _ _ _).mono ?_; rintro e w' ⟨rfl, rfl⟩))
    go_ret
    exact ⟨retB1 HB.out.symm, (Below.refl w.heap.size w).alloc (Nat.le_refl _) _⟩
  cases g3 : (a1 != a2)
  · have HB := hide (show entB a0 a1 a2 a3 = false by unfold entB; rw [g0, g1, g2, g3]; rfl)
    go_enter Try.func190, Try.ntmps190
    go_wp2_with (first | (go_at_call 243; refine (implDay_any _ _).mono ?_; rintro e w' ⟨rfl, rfl⟩) | (go_at_call 244; refine (implAcc_any _ _).mono ?_; rintro e w' ⟨rfl, rfl⟩) | (go_at_call 88; refine (implWithin_any _ _ _ _).mono ?_; rintro e w' ⟨rfl, rfl⟩))
    go_ret
    exact ⟨retB1 HB.out.symm, (Below.refl w.heap.size w).alloc (Nat.le_refl _) _⟩
  have HB := hide (show entB a0 a1 a2 a3 = inB a3 1 1000000000 by unfold entB; rw [g0, g1, g2, g3]; rfl)
  go_enter Try.func190, Try.ntmps190
  go_wp2_with (first | (go_at_call 243; refine (implDay_any _ _).mono ?_; rintro e w' ⟨rfl, rfl⟩) | (go_at_call 244; refine (implAcc_any _ _).mono ?_; rintro e w' ⟨rfl, rfl⟩) | (go_at_call 88; refine (implWithin_any _ _ _ _).mono ?_; rintro e w' ⟨rfl, rfl⟩))
  go_ret
  exact ⟨retB1 HB.out.symm, (Below.refl w.heap.size w).alloc (Nat.le_refl _) _⟩
end Go.Proofs.Ytpbbedelapnnnaa
