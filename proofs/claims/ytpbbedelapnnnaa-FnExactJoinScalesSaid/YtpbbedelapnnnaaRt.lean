/- Rates at amounts, and mean rates, by both. -/
import Derived.Test.YtpbbedelapnnnaaDi
namespace Go.Proofs.Ytpbbedelapnnnaa
open Go.RowKit Go.Dues
def rateP (x y : Nat → Int) (n m : Nat) (v : Int) : Prop := Val x y n m ∧ (0 ≤ v ∧ v ≤ 1000000000000)

set_option maxHeartbeats 1000000 in
theorem specAt_any (b : Nat) (A A' : Option Addr) (n c n' c' : Nat) (x y : Nat → Int) (v : Int) (w : World) (hc0 : w.cell? ⟨b, 0, none⟩ = some (.slice A n c)) (hc1 : w.cell? ⟨b, 1, none⟩ = some (.slice A' n' c'))
    (hs : SL w A n (fun j => .int .i64 (x j))) (hs' : SL w A' n' (fun j => .int .i64 (y j))) (hv : Val x y n n') (h0 : 0 ≤ v) :
    Calls Try.prog 103 #[.pointer (some ⟨b, 0, none⟩), .int .i64 v] w fun e w' => e = .returned (.int .i64 (rateK x y v n)) ∧ w = w' := by
  obtain rfl : n' = n := hv.1
  have hn8 := hv.n8
  have hn1 := hv.n1
  have HC := cells_two hs hs'
  have HV := hide hv
  obtain ⟨b1, off, b2, off2, hA1, hA2, hx0, hy0⟩ := HC.out 0 (by omega)
  subst hA1 hA2
  simp only [Nat.add_zero] at hx0 hy0
  have H1 := hide (show y 0 = rateK x y v 1 from (rateK_yes (by rw [hv.x0]; exact h0)).symm)
  clear hs hs' hv hx0
  go_enter Try.func103, Try.ntmps103
  go_wp2
  go_loop [5, 6] (fun t i => ∃ (k : Nat) (s : Int), 1 ≤ k ∧ k ≤ n' ∧ i = .int .i64 k ∧ t = .int .i64 s ∧ Hid (s = rateK x y v k)) (fun _ i => n' - (intOf i).toNat)
  case atStart => exact ⟨1, _, Nat.le_refl _, hn1, rfl, rfl, H1⟩
  case round =>
    obtain ⟨k, s, hk1, hk, rfl, rfl, ht⟩ := hrel
    by_cases hlt : k < n'
    · obtain ⟨b3, off3, b4, off4, hA1, hA2, hxk, hyk⟩ := HC.out k hlt
      injection hA1 with hA1
      injection hA1 with hA1 hA3
      subst hA1 hA3
      injection hA2 with hA2
      injection hA2 with hA2 hA4
      subst hA2 hA4
      by_cases hx : x k ≤ v
      · go_wp2
        go_round
        case rel => exact ⟨k + 1, _, by omega, by omega, by go_num, rfl, (rateK_yes hx).symm⟩
        case measure => simp [intOf]; omega
      · have HF := hide (rateK_end (y := y) HV.out hlt hx)
        go_wp2
        go_ret
        exact ⟨reti (by rw [ht.out]; exact HF.out.symm), rfl⟩
    · go_wp2
      go_ret
      obtain rfl : k = n' := by omega
      exact ⟨reti ht.out, rfl⟩

set_option maxHeartbeats 1000000 in
theorem implAt_any (A A' : Option Addr) (n c n' c' : Nat) (x y : Nat → Int) (v : Int) (w : World)
    (hs : SL w A n (fun j => .int .i64 (x j))) (hs' : SL w A' n' (fun j => .int .i64 (y j))) (hv : Val x y n n') :
    Calls Try.prog 111 #[.agg #[.slice A n c, .slice A' n' c'], .int .i64 v] w fun e w' => e = .returned (.int .i64 (rateK x y v n)) ∧ Below w.heap.size w w' := by
  obtain rfl : n' = n := hv.1
  have hn8 := hv.n8
  have HB := hide ((Below.refl w.heap.size w).alloc (Nat.le_refl _) (.cells #[.slice A n' c, .slice A' n' c'] 46))
  have HC := cells_two (hs.below HB.out) (hs'.below HB.out)
  have HV := hide hv
  clear hs hs' hv
  go_enter Try.func111, Try.ntmps111
  go_wp2
  go_loop [5, 6, 7, 11] (fun t _ _ i => ∃ (k : Nat) (s : Int), k ≤ n' ∧ i = .int .i64 k ∧ t = .int .i64 s ∧ Hid (s = rateK x y v k)) (fun _ _ _ i => n' - (intOf i).toNat)
  case atStart => exact ⟨0, 0, Nat.zero_le _, rfl, rfl, rfl⟩
  case round =>
    obtain ⟨k, s, hk, rfl, rfl, ht⟩ := hrel
    by_cases hlt : k < n'
    · obtain ⟨b3, off3, b4, off4, rfl, rfl, hxk, hyk⟩ := HC.out k hlt
      by_cases hx : x k ≤ v
      · go_wp2
        go_round
        case rel => exact ⟨k + 1, _, by omega, by go_num, rfl, (rateK_yes hx).symm⟩
        case measure => simp [intOf]; omega
      · have HF := hide (rateK_no (y := y) hx)
        go_wp2
        go_round
        case rel => exact ⟨k + 1, _, by omega, by go_num, rfl, by rw [HF.out]; exact ht.out⟩
        case measure => simp [intOf]; omega
    · go_wp2
      go_ret
      obtain rfl : k = n' := by omega
      exact ⟨reti ht.out, HB.out⟩

end Go.Proofs.Ytpbbedelapnnnaa
