/- IndexPays, by the reference. -/
import Derived.Test.YtbcajjpgpjadaaaFu
namespace Go.Proofs.Ytbcajjpgpjadaaa
open Go.RowKit Go.Dues
def ixP (x : Nat → Int) (n : Nat) (g : Nat → Int) (m : Nat) : Prop := allP x n 1 60 0 1000000000000 ∧ (m : Int) = (n : Int) - 1 ∧ (∀ j, j < m → 0 ≤ g j ∧ g j ≤ 10000) ∧ ipOk x g n
def ixV (x g : Nat → Int) (n k : Nat) : Int := ipV x g k (n - 1 - k)
theorem ip_step {x g : Nat → Int} {i t : Nat} {c : Int} (hc : c = ipV x g i t) : grV c (g (i + t)) 1 = ipV x g i (t + 1) := by rw [ipV_succ, ← hc]
set_option maxHeartbeats 1000000 in
theorem specPays_any (A : Option Addr) (n c : Nat) (x : Nat → Int) (w : World) (hn : n ≤ maxLen) (hs : SL w A n (fun j => .int .i64 (x j))) :
    Calls Try.prog 176 #[.slice A n c] w fun e w' => e = .returned (.bool (tru (allP x n 1 60 0 1000000000000))) ∧ w = w' := by
  have HA := hide (specAmts_any A n c x 60 w hn hs)
  clear hs
  go_enter Try.func176, Try.ntmps176
  go_wp2_with fail
  refine HA.out.mono ?_
  rintro e w' ⟨rfl, rfl⟩
  go_wp2
  go_ret
  exact ⟨rfl, rfl⟩
end Go.Proofs.Ytbcajjpgpjadaaa
