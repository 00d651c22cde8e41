/- Bytes that a law reads by r8At. -/
import Derived.Test.YtjebkagbknmdoaaBb
namespace Go.Proofs.Ytjebkagbknmdoaa
open Go.RowKit Go.Dues
theorem r8Long_no (A : Option Addr) (n c : Nat) (B : Option Addr) (m d : Nat) (w : World) (hn : n ≤ 48) (hm : m ≤ 48) :
    Calls Try.prog 15 #[.slice A n c, .slice B m d] w fun e w' => e = .returned (.bool false) ∧ w = w' := by
  have h1 : decide ((48 : Int) < (n : Int)) = false := by simp; omega
  have h2 : decide ((48 : Int) < (m : Int)) = false := by simp; omega
  go_enter Try.func15, Try.ntmps15
  go_wp2
  go_ret
  exact ⟨rfl, rfl⟩
theorem r8Long_yes (A : Option Addr) (n c : Nat) (B : Option Addr) (m d : Nat) (w : World) (h : 48 < n ∨ 48 < m) (hn : n ≤ maxLen) (hm : m ≤ maxLen) :
    Calls Try.prog 15 #[.slice A n c, .slice B m d] w fun e w' => e = .returned (.bool true) ∧ w = w' := by
  unfold maxLen at hn hm
  by_cases h1 : (48 : Int) < (n : Int)
  · have h1' : decide ((48 : Int) < (n : Int)) = true := by simp; omega
    go_enter Try.func15, Try.ntmps15
    go_wp2
    go_ret
    exact ⟨rfl, rfl⟩
  · have h2 : (48 : Int) < (m : Int) := by omega
    have h1' : decide ((48 : Int) < (n : Int)) = false := by simp; omega
    have h2' : decide ((48 : Int) < (m : Int)) = true := by simp; omega
    go_enter Try.func15, Try.ntmps15
    go_wp2
    go_ret
    exact ⟨rfl, rfl⟩
theorem r8At_any (A : Option Addr) (n c : Nat) (x : Nat → Int) (i N : Int) (w : World) (hn : n ≤ 48) (hs : SL w A n (fun j => .int .u8 (x j))) (hx : ∀ j, j < n → 0 ≤ x j ∧ x j ≤ 255) (i0 : 0 ≤ i) (i1 : i ≤ 1000000) (N1 : N ≤ 1000000000) :
    Calls Try.prog 16 #[.slice A n c, .int .i64 i, .int .i64 N] w fun e w' => e = .returned (.int .i64 (r8V x n i N)) ∧ Below w.heap.size w w' := by
  by_cases h1 : N ≤ 1
  · have HV := hide (show (0 : Int) = r8V x n i N by unfold r8V; rw [if_pos (.inl h1)])
    go_enter Try.func16, Try.ntmps16
    go_wp2
    go_ret
    exact ⟨int_eqb HV.out, Below.refl _ _⟩
  have h1' : 1 < N := by omega
  have h1d : decide (N ≤ 1) = false := by simp; omega
  clear h1
  obtain ⟨k, rfl⟩ : ∃ k : Nat, i = k := ⟨i.toNat, by omega⟩
  by_cases h2 : k < n
  · have HV := hide (show x k % N = r8V x n k N by unfold r8V; rw [if_neg (by omega), Int.toNat_natCast])
    obtain ⟨b, off, rfl, hb, hc⟩ := hs.at_ (by omega)
    have c1 := hc k h2
    have x0 := (hx k h2).1
    have x1 := (hx k h2).2
    have h2d : decide ((n : Int) ≤ (k : Int)) = false := by simp; omega
    clear hc hx hs
    go_enter Try.func16, Try.ntmps16
    go_wp2
    go_ret
    exact ⟨int_eqb HV.out, Below.refl _ _⟩
  · have HV := hide (show (0 : Int) = r8V x n k N by unfold r8V; rw [if_pos (.inr (by omega))])
    have h2d : decide ((n : Int) ≤ (k : Int)) = true := by simp; omega
    clear hx hs
    go_enter Try.func16, Try.ntmps16
    go_wp2
    go_ret
    exact ⟨int_eqb HV.out, Below.refl _ _⟩
end Go.Proofs.Ytjebkagbknmdoaa
