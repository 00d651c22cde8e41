/- What a valid scale is, by the reference. -/
import Derived.Test.YtpbbedelapnnnaaLs
import Derived.Test.YtpbbedelapnnnaaVp
namespace Go.Proofs.Ytpbbedelapnnnaa
open Go.RowKit Go.Dues

def Good (x y : Nat → Int) (j : Nat) : Prop := (0 ≤ x j ∧ x j ≤ 1000000000000) ∧ (∀ i, i + 1 = j → x i < x j) ∧ (0 ≤ y j ∧ y j ≤ 10000)
theorem val_of {x y : Nat → Int} {n : Nat} (h1 : 1 ≤ n) (h8 : n ≤ 8) (h0 : x 0 = 0) (h : ∀ j, j < n → Good x y j) : Val x y n n :=
  ⟨rfl, ⟨h1, h8, h0, fun j hj => (h j hj).1, fun j hj => (h (j + 1) hj).2.1 j rfl⟩, fun j hj => (h j hj).2.2⟩
theorem good_of {x y : Nat → Int} {n m : Nat} (h : Val x y n m) {k : Nat} (hk : k < n) : Good x y k :=
  ⟨h.amt k hk, fun i hi => by subst hi; exact h.up i hk, h.rate k hk⟩

set_option maxHeartbeats 2000000 in
theorem specIs_any (b : Nat) (A A' : Option Addr) (n c n' c' : Nat) (x y : Nat → Int) (w : World) (hn : n ≤ maxLen) (hn' : n' ≤ maxLen) (hc0 : w.cell? ⟨b, 0, none⟩ = some (.slice A n c)) (hc1 : w.cell? ⟨b, 1, none⟩ = some (.slice A' n' c'))
    (hs : SL w A n (fun j => .int .i64 (x j))) (hs' : SL w A' n' (fun j => .int .i64 (y j))) :
    Calls Try.prog 101 #[.pointer (some ⟨b, 0, none⟩)] w fun e w' => e = .returned (.bool (tru (Val x y n n'))) ∧ ∃ q, w' = w.drewN q := by
  unfold maxLen at hn hn'
  have HC := cells_one hs
  have HC' := cells_one hs'
  clear hs hs'
  by_cases h1 : n < 1
  · have HF := hide (tru_no (p := Val x y n n') (fun h => by have := h.n1; omega))
    go_enter Try.func101, Try.ntmps101
    go_wp2
    go_ret
    exact ⟨retb HF.out.symm, 0, rfl⟩
  by_cases h8 : 8 < n
  · have HF := hide (tru_no (p := Val x y n n') (fun h => by have := h.n8; omega))
    go_enter Try.func101, Try.ntmps101
    go_wp2
    go_ret
    exact ⟨retb HF.out.symm, 0, rfl⟩
  by_cases hm : n' = n
  · subst hm
    have hne : ((n' : Int) != (n' : Int)) = false := by simp
    obtain ⟨b1, off, hA, hb1, hx0⟩ := HC.out 0 (by omega)
    subst hA
    simp only [Nat.add_zero] at hx0
    by_cases h0 : x 0 = 0
    · have hx : (x 0 != 0) = false := by simp [h0]
      have H0 := hide h0
      clear h0
      go_enter Try.func101, Try.ntmps101
      go_wp2
      go_loopw [4] (fun i wr => ∃ k q : Nat, k ≤ n' ∧ i = .int .i64 k ∧ Hid (∀ j, j < k → Good x y j) ∧ wr = w.drewN q) (fun i _ => n' - (intOf i).toNat)
      case atStart => exact ⟨0, 0, Nat.zero_le _, rfl, fun j hj => absurd hj (by omega), rfl⟩
      case round =>
        obtain ⟨k, q, hk, rfl, hg, rfl⟩ := hrel
        by_cases hlt : k < n'
        · obtain ⟨b2, off2, hA2, hb2, hxk⟩ := HC.out k hlt
          injection hA2 with hA2
          injection hA2 with hA2 hA3
          subst hA2 hA3
          obtain ⟨b3, off3, rfl, hb3, hyk⟩ := HC'.out k hlt
          by_cases ha : 0 ≤ x k ∧ x k ≤ 1000000000000
          · have hab := amtB_yes ha
            have HA := hide ha
            clear ha
            by_cases hr : 0 ≤ y k ∧ y k ≤ 10000
            · have hrb := ratB_yes hr
              have HR := hide hr
              clear hr
              by_cases hk0 : k = 0
              · have hgt : decide ((0 : Int) < (k : Int)) = false := by simp; omega
                have hgt2 : decide (0 < k) = false := by simp; omega
                have HK := hide hk0
                clear hk0
                go_wp2
                go_quiet ((first | (go_at_call 179; exact quiet_add_left (specCents_any _ _)) | (go_at_call 180; exact quiet_add_left (specRate_any _ _))))
                go_wp2
                go_roundw
                case rel => exact ⟨k + 1, q + nq, by omega, by go_num, (by have hk0 := HK.out; intro j hj; obtain rfl : j = k := (by omega); exact ⟨HA.out, fun i hi => absurd hi (by omega), HR.out⟩), by first | rfl | exact World.drewN_drewN ..⟩
                case measure => simp [intOf]; omega
              · obtain ⟨p, hp⟩ : ∃ p, k = p + 1 := ⟨k - 1, by omega⟩
                obtain ⟨b4, off4, hA4, hb4, hxp⟩ := HC.out p (by omega)
                injection hA4 with hA4
                injection hA4 with hA4 hA5
                subst hA4 hA5
                have hgt : decide ((0 : Int) < (k : Int)) = true := by simp; omega
                have hgt2 : decide (0 < k) = true := by simp; omega
                have hpn : (p : Int) < n' := by omega
                have hw : IntKind.i64.wrap ((k : Int) - 1) = p := by rw [IntWalk.i64_in _ (by omega)]; omega
                have hw2 : (k : Int) - 1 = p := by omega
                have HP := hide hp
                clear hp hk0
                by_cases hu : x p < x k
                · have hle : decide (x k ≤ x p) = false := by simp; omega
                  have HU := hide hu
                  clear hu
                  go_wp2
                  go_quiet ((first | (go_at_call 179; exact quiet_add_left (specCents_any _ _)) | (go_at_call 180; exact quiet_add_left (specRate_any _ _))))
                  go_wp2
                  clear hw hw2
                  go_roundw
                  case rel => exact ⟨k + 1, q + nq, by omega, by go_num, (by
                    have hp := HP.out
                    intro j hj
                    by_cases hjk : j = k
                    · subst hjk; exact ⟨HA.out, fun i hi => by obtain rfl : i = p := (by omega); exact HU.out, HR.out⟩
                    · exact hg.out j (by omega)), by first | rfl | exact World.drewN_drewN ..⟩
                  case measure => simp [intOf]; omega
                · have hle : decide (x k ≤ x p) = true := by simp; omega
                  have HF := hide (tru_no (p := Val x y n' n') (fun h => hu (by have h1 := HP.out; have h2 := h.up p (by omega); rw [h1]; exact h2)))
                  clear hu
                  go_wp2
                  go_quiet ((first | (go_at_call 179; exact quiet_add_left (specCents_any _ _)) | (go_at_call 180; exact quiet_add_left (specRate_any _ _))))
                  go_wp2
                  go_ret
                  exact ⟨retb HF.out.symm, _, by first | rfl | exact World.drewN_drewN ..⟩
            · have hrb := ratB_no hr
              have HF := hide (tru_no (p := Val x y n' n') (fun h => hr (h.rate k hlt)))
              clear hr
              by_cases hk0 : k = 0
              · have hgt : decide ((0 : Int) < (k : Int)) = false := by simp; omega
                have hgt2 : decide (0 < k) = false := by simp; omega
                clear hk0
                go_wp2
                go_quiet ((first | (go_at_call 179; exact quiet_add_left (specCents_any _ _)) | (go_at_call 180; exact quiet_add_left (specRate_any _ _))))
                go_wp2
                go_ret
                exact ⟨retb HF.out.symm, _, by first | rfl | exact World.drewN_drewN ..⟩
              · obtain ⟨p, hp⟩ : ∃ p, k = p + 1 := ⟨k - 1, by omega⟩
                obtain ⟨b4, off4, hA4, hb4, hxp⟩ := HC.out p (by omega)
                injection hA4 with hA4
                injection hA4 with hA4 hA5
                subst hA4 hA5
                have hgt : decide ((0 : Int) < (k : Int)) = true := by simp; omega
                have hgt2 : decide (0 < k) = true := by simp; omega
                have hpn : (p : Int) < n' := by omega
                have hw : IntKind.i64.wrap ((k : Int) - 1) = p := by rw [IntWalk.i64_in _ (by omega)]; omega
                have hw2 : (k : Int) - 1 = p := by omega
                clear hp hk0
                by_cases hu : x p < x k
                · have hle : decide (x k ≤ x p) = false := by simp; omega
                  clear hu
                  go_wp2
                  go_quiet ((first | (go_at_call 179; exact quiet_add_left (specCents_any _ _)) | (go_at_call 180; exact quiet_add_left (specRate_any _ _))))
                  go_wp2
                  go_ret
                  exact ⟨retb HF.out.symm, _, by first | rfl | exact World.drewN_drewN ..⟩
                · have hle : decide (x k ≤ x p) = true := by simp; omega
                  clear hu
                  go_wp2
                  go_quiet ((first | (go_at_call 179; exact quiet_add_left (specCents_any _ _)) | (go_at_call 180; exact quiet_add_left (specRate_any _ _))))
                  go_wp2
                  go_ret
                  exact ⟨retb HF.out.symm, _, by first | rfl | exact World.drewN_drewN ..⟩
          · have hab := amtB_no ha
            have HF := hide (tru_no (p := Val x y n' n') (fun h => ha (h.amt k hlt)))
            clear ha
            go_wp2
            go_quiet ((first | (go_at_call 179; exact quiet_add_left (specCents_any _ _)) | (go_at_call 180; exact quiet_add_left (specRate_any _ _))))
            go_wp2
            go_ret
            exact ⟨retb HF.out.symm, _, World.drewN_drewN ..⟩
        · go_wp2
          go_ret
          obtain rfl : k = n' := by omega
          exact ⟨retb (tru_yes (val_of (by omega) (by omega) H0.out hg.out)).symm, _, rfl⟩
    · have hx : (x 0 != 0) = true := by simp [h0]
      have HF := hide (tru_no (p := Val x y n' n') (fun h => h0 h.x0))
      clear h0
      go_enter Try.func101, Try.ntmps101
      go_wp2
      go_ret
      exact ⟨retb HF.out.symm, 0, rfl⟩
  · have hne : ((n' : Int) != (n : Int)) = true := by simp; omega
    have HF := hide (tru_no (p := Val x y n n') (fun h => hm h.1))
    clear hm
    go_enter Try.func101, Try.ntmps101
    go_wp2
    go_ret
    exact ⟨retb HF.out.symm, 0, rfl⟩

end Go.Proofs.Ytpbbedelapnnnaa
