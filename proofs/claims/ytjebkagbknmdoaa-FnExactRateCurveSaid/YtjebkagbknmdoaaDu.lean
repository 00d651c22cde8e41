/- The exact due, by both. -/
import Derived.Test.YtjebkagbknmdoaaVi
import Derived.Test.YtjebkagbknmdoaaRd
namespace Go.Proofs.Ytjebkagbknmdoaa
open Go.RowKit Go.Dues
theorem piece_hi {x : Nat → Int} {n : Nat} {c : Int} {k : Nat} (h : k + 1 < n ∧ x (k + 1) < c) : piece x n c k = x (k + 1) - x k := by unfold piece; rw [if_pos h]
theorem piece_lo {x : Nat → Int} {n : Nat} {c : Int} {k : Nat} (h : ¬ (k + 1 < n ∧ x (k + 1) < c)) : piece x n c k = c - x k := by unfold piece; rw [if_neg h]
/-- what a round of the sum does: the end is e -/
theorem due_round {x y : Nat → Int} {n m : Nat} {c e s : Int} {k : Nat} (hv : Val x y n m) (hc0 : 0 ≤ c) (hc1 : c ≤ 1000000000000) (hk : k < n) (hx : x k < c) (he : piece x n c k = e - x k) (hs : s = xsum x y n c k) :
    IntKind.i64.wrap (e - x k) = e - x k ∧ IntKind.i64.wrap ((e - x k) * y k) = (e - x k) * y k ∧ IntKind.i64.wrap (s + (e - x k) * y k) = s + (e - x k) * y k ∧ s + (e - x k) * y k = xsum x y n c (k + 1) := by
  have h1 := xsum_go (y := y) (n := n) hx
  have b1 := xsum_bd hv hc0 k (by omega)
  have b2 := xsum_bd hv hc0 (k + 1) (by omega)
  have r2 : reach x n c (k + 1) ≤ c := by
    unfold reach; split <;> omega
  rw [he, ← hs] at h1
  rw [← hs] at b1
  have r1 : reach x n c k ≤ c := by unfold reach; split <;> omega
  have hp : piece x n c k ≤ c ∧ -1000000000000 ≤ piece x n c k := by
    have hxk := hv.amt k hk
    unfold piece
    split
    · rename_i hh
      have := hv.amt (k + 1) hh.1
      omega
    · omega
  rw [he] at hp
  have hxk := hv.amt k hk
  refine ⟨IntWalk.i64_in _ (by omega), IntWalk.i64_in _ (by omega), IntWalk.i64_in _ (by omega), h1.symm⟩

theorem specMin_any (a b v : Int) (w : World) (h : (a < b ∧ v = a) ∨ (¬ a < b ∧ v = b)) : Calls Try.prog 111 #[.int .i64 a, .int .i64 b] w fun e w' => e = .returned (.int .i64 v) ∧ w = w' := by
  rcases h with ⟨h, rfl⟩ | ⟨h, rfl⟩
  · go_enter Try.func111, Try.ntmps111
    go_wp2
    go_ret
    exact ⟨rfl, rfl⟩
  · go_enter Try.func111, Try.ntmps111
    go_wp2
    go_ret
    exact ⟨rfl, rfl⟩

set_option maxHeartbeats 2000000 in
theorem specExact_any (b : Nat) (A A' : Option Addr) (n c n' c' : Nat) (x y : Nat → Int) (v : Int) (w : World) (hc0 : w.cell? ⟨b, 0, none⟩ = some (.slice A n c)) (hc1 : w.cell? ⟨b, 1, none⟩ = some (.slice A' n' c'))
    (hs : SL w A n (fun j => .int .i64 (x j))) (hs' : SL w A' n' (fun j => .int .i64 (y j))) (hv : Val x y n n') (h0 : 0 ≤ v) (h1 : v ≤ 1000000000000) :
    Calls Try.prog 171 #[.pointer (some ⟨b, 0, none⟩), .int .i64 v] w fun e w' => e = .returned (.int .i64 (xdue x y n v)) ∧ ∃ q, w' = w.drewN q := by
  obtain rfl : n' = n := hv.1
  have hn8 := hv.n8
  have HC := cells_two hs hs'
  have HV := hide hv
  clear hs hs' hv
  go_enter Try.func171, Try.ntmps171
  go_wp2
  go_loopw [5, 6, 7] (fun s i _ wr => ∃ (k q : Nat) (t : Int), k ≤ n' ∧ i = .int .i64 k ∧ s = .int .i64 t ∧ Hid (t = xsum x y n' v k) ∧ wr = w.drewN q) (fun _ i _ _ => n' - (intOf i).toNat)
  case atStart => exact ⟨0, 0, 0, Nat.zero_le _, rfl, rfl, rfl, rfl⟩
  case round =>
    obtain ⟨k, q, t, hk, rfl, rfl, ht, rfl⟩ := hrel
    by_cases hlt : k < n'
    · obtain ⟨b1, off, b2, off2, rfl, rfl, hxk, hyk⟩ := HC.out k hlt
      by_cases hx : x k < v
      · by_cases hk1 : k + 1 < n'
        · obtain ⟨b3, off3, b4, off4, hA1, hA2, hxp, _⟩ := HC.out (k + 1) hk1
          injection hA1 with hA1
          injection hA1 with hA1 hA3
          subst hA1 hA3
          clear hA2
          have hk1i : (k : Int) + 1 < n' := by omega
          by_cases hu : x (k + 1) < v
          · have HR := hide (due_round HV.out h0 h1 hlt hx (piece_hi ⟨hk1, hu⟩) ht.out)
            have HM := hide (show (v < x (k + 1) ∧ x (k + 1) = v) ∨ (¬ v < x (k + 1) ∧ x (k + 1) = x (k + 1)) from .inr ⟨by omega, rfl⟩)
            go_wp2_with (go_at_call 111; refine (specMin_any _ _ _ _ HM.out).mono ?_; rintro e w' ⟨rfl, rfl⟩)
            have e1 := HR.out.1
            have e2 := HR.out.2.1
            have e3 := HR.out.2.2.1
            go_quiet (fail)
            clear e1 e2 e3
            go_wp2
            go_roundw
            case rel => exact ⟨k + 1, _, _, by omega, by go_num, rfl, HR.out.2.2.2, by first | rfl | exact World.drewN_drewN ..⟩
            case measure => simp [intOf]; omega
          · have HR := hide (due_round HV.out h0 h1 hlt hx (piece_lo (fun h => hu h.2)) ht.out)
            have HM := hide (show (v < x (k + 1) ∧ v = v) ∨ (¬ v < x (k + 1) ∧ v = x (k + 1)) by omega)
            go_wp2_with (go_at_call 111; refine (specMin_any _ _ _ _ HM.out).mono ?_; rintro e w' ⟨rfl, rfl⟩)
            have e1 := HR.out.1
            have e2 := HR.out.2.1
            have e3 := HR.out.2.2.1
            go_quiet (fail)
            clear e1 e2 e3
            go_wp2
            go_roundw
            case rel => exact ⟨k + 1, _, _, by omega, by go_num, rfl, HR.out.2.2.2, by first | rfl | exact World.drewN_drewN ..⟩
            case measure => simp [intOf]; omega
        · have hk1i : ¬ (k : Int) + 1 < n' := by omega
          have HR := hide (due_round HV.out h0 h1 hlt hx (piece_lo (fun h => hk1 h.1)) ht.out)
          go_wp2
          have e1 := HR.out.1
          have e2 := HR.out.2.1
          have e3 := HR.out.2.2.1
          go_quiet (fail)
          clear e1 e2 e3
          go_wp2
          go_roundw
          case rel => exact ⟨k + 1, _, _, by omega, by go_num, rfl, HR.out.2.2.2, by first | rfl | exact World.drewN_drewN ..⟩
          case measure => simp [intOf]; omega
      · have HF := hide (xsum_end HV.out hlt hx)
        go_wp2
        go_ret
        exact ⟨reti (by rw [ht.out]; exact HF.out.symm), _, rfl⟩
    · go_wp2
      go_ret
      obtain rfl : k = n' := by omega
      exact ⟨reti ht.out, _, rfl⟩

set_option maxHeartbeats 2000000 in
theorem implExact_any (A A' : Option Addr) (n c n' c' : Nat) (x y : Nat → Int) (v : Int) (w : World)
    (hs : SL w A n (fun j => .int .i64 (x j))) (hs' : SL w A' n' (fun j => .int .i64 (y j))) (hv : Val x y n n') (h0 : 0 ≤ v) (h1 : v ≤ 1000000000000) :
    Calls Try.prog 80 #[.agg #[.slice A n c, .slice A' n' c'], .int .i64 v] w fun e w' => e = .returned (.int .i64 (xdue x y n v)) ∧ Below w.heap.size w w' := by
  obtain rfl : n' = n := hv.1
  have hn8 := hv.n8
  have HB := hide ((Below.refl w.heap.size w).alloc (Nat.le_refl _) (.cells #[.slice A n' c, .slice A' n' c'] 39))
  have HC := cells_two (hs.below HB.out) (hs'.below HB.out)
  have HP := hide (blocks1 w (.cells #[.slice A n' c, .slice A' n' c'] 39))
  have HV := hide hv
  clear hs hs' hv
  go_enter Try.func80, Try.ntmps80
  go_wp2
  go_loop [5, 6, 7, 8, 12] (fun s _ _ _ i => ∃ (k : Nat) (t : Int), k ≤ n' ∧ i = .int .i64 k ∧ s = .int .i64 t ∧ Hid (t = xsum x y n' v k)) (fun _ _ _ _ i => n' - (intOf i).toNat)
  case atStart => exact ⟨0, 0, Nat.zero_le _, rfl, rfl, rfl⟩
  case round =>
    obtain ⟨k, t, hk, rfl, rfl, ht⟩ := hrel
    by_cases hlt : k < n'
    · obtain ⟨b1, off, b2, off2, rfl, rfl, hxk, hyk⟩ := HC.out k hlt
      by_cases hx : x k < v
      · by_cases hk1 : k + 1 < n'
        · obtain ⟨b3, off3, b4, off4, hA1, hA2, hxp, _⟩ := HC.out (k + 1) hk1
          injection hA1 with hA1
          injection hA1 with hA1 hA3
          subst hA1 hA3
          clear hA2
          have hk1i : (k : Int) + 1 < n' := by omega
          by_cases hu : x (k + 1) < v
          · have HR := hide (due_round HV.out h0 h1 hlt hx (piece_hi ⟨hk1, hu⟩) ht.out)
            have hmn : min v (x (k + 1)) = x (k + 1) := by omega
            have e1 := HR.out.1
            have e2 := HR.out.2.1
            have e3 := HR.out.2.2.1
            go_wp2
            clear e1 e2 e3
            go_round
            case rel => exact ⟨k + 1, _, by omega, by go_num, rfl, HR.out.2.2.2⟩
            case measure => simp [intOf]; omega
          · have HR := hide (due_round HV.out h0 h1 hlt hx (piece_lo (fun h => hu h.2)) ht.out)
            have hmn : min v (x (k + 1)) = v := by omega
            have e1 := HR.out.1
            have e2 := HR.out.2.1
            have e3 := HR.out.2.2.1
            go_wp2
            clear e1 e2 e3
            go_round
            case rel => exact ⟨k + 1, _, by omega, by go_num, rfl, HR.out.2.2.2⟩
            case measure => simp [intOf]; omega
        · have hk1i : ¬ (k : Int) + 1 < n' := by omega
          have HR := hide (due_round HV.out h0 h1 hlt hx (piece_lo (fun h => hk1 h.1)) ht.out)
          have e1 := HR.out.1
          have e2 := HR.out.2.1
          have e3 := HR.out.2.2.1
          go_wp2
          clear e1 e2 e3
          go_round
          case rel => exact ⟨k + 1, _, by omega, by go_num, rfl, HR.out.2.2.2⟩
          case measure => simp [intOf]; omega
      · have HF := hide (xsum_end HV.out hlt hx)
        go_wp2
        go_ret
        exact ⟨reti (by rw [ht.out]; exact HF.out.symm), HB.out⟩
    · go_wp2
      go_ret
      obtain rfl : k = n' := by omega
      exact ⟨reti ht.out, HB.out⟩
end Go.Proofs.Ytjebkagbknmdoaa
