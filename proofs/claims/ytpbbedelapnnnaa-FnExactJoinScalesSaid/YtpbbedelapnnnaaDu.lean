/- The exact due, by both. -/
import Derived.Test.YtpbbedelapnnnaaVi
import Derived.Test.YtpbbedelapnnnaaRd
namespace Go.Proofs.Ytpbbedelapnnnaa
open Go.RowKit Go.Dues
theorem piece_hi {x : Nat → Int} {n : Nat} {c : Int} {k : Nat} (h : k + 1 < n ∧ x (k + 1) < c) : piece x n c k = x (k + 1) - x k := by unfold piece; rw [if_pos h]
theorem piece_lo {x : Nat → Int} {n : Nat} {c : Int} {k : Nat} (h : ¬ (k + 1 < n ∧ x (k + 1) < c)) : piece x n c k = c - x k := by unfold piece; rw [if_neg h]
/-- what a round of the sum does: the end is e -/
theorem due_round {x y : Nat → Int} {n m : Nat} {c e s : Int} {k : Nat} (hv : Val x y n m) (hc0 : 0 ≤ c) (hc1 : c ≤ 1000000000000) (hk : k < n) (hx : x k < c) (he : piece x n c k = e - x k) (hs : s = xsum x y n c k) :
    IntKind.i64.wrap (e - x k) = e - x k ∧ IntKind.i64.wrap ((e - x k) * y k) = (e - x k) * y k ∧ IntKind.i64.wrap (s + (e - x k) * y k) = s + (e - x k) * y k ∧ s + (e - x k) * y k = xsum x y n c (k + 1) := by
  have h1 := xsum_go (y := y) (n := n) hx
  have b1 := xsum_bd hv hc0 k (by omega)
  have b2 := xsum_bd hv hc0 (k + 1) (by omega)
  have r2 : reach x n c (k + 1) ≤ c := by
    unfold reach; split <;> omega
  rw [he, ← hs] at h1
  rw [← hs] at b1
  have r1 : reach x n c k ≤ c := by unfold reach; split <;> omega
  have hp : piece x n c k ≤ c ∧ -1000000000000 ≤ piece x n c k := by
    have hxk := hv.amt k hk
    unfold piece
    split
    · rename_i hh
      have := hv.amt (k + 1) hh.1
      omega
    · omega
  rw [he] at hp
  have hxk := hv.amt k hk
  refine ⟨IntWalk.i64_in _ (by omega), IntWalk.i64_in _ (by omega), IntWalk.i64_in _ (by omega), h1.symm⟩

theorem specMin_any (a b v : Int) (w : World) (h : (a < b ∧ v = a) ∨ (¬ a < b ∧ v = b)) : Calls Try.prog 102 #[.int .i64 a, .int .i64 b] w fun e w' => e = .returned (.int .i64 v) ∧ w = w' := by
  rcases h with ⟨h, rfl⟩ | ⟨h, rfl⟩
  · go_enter Try.func102, Try.ntmps102
    go_wp2
    go_ret
    exact ⟨rfl, rfl⟩
  · go_enter Try.func102, Try.ntmps102
    go_wp2
    go_ret
    exact ⟨rfl, rfl⟩

end Go.Proofs.Ytpbbedelapnnnaa
