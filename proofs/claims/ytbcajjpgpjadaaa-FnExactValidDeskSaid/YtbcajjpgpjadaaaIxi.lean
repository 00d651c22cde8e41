/- IndexPays, by the program. -/
import Derived.Test.YtbcajjpgpjadaaaIx
namespace Go.Proofs.Ytbcajjpgpjadaaa
open Go.RowKit Go.Dues
set_option maxHeartbeats 1000000 in
theorem implPays_any (A : Option Addr) (n c : Nat) (x : Nat → Int) (w : World) (hn : n ≤ maxLen) (hs : SL w A n (fun j => .int .i64 (x j))) :
    Calls Try.prog 88 #[.slice A n c] w fun e w' => e = .returned (.bool (tru (allP x n 1 60 0 1000000000000))) ∧ Below w.heap.size w w' := by
  have HA := hide (areAll_isAmount A n c x 1 60 w hn hs)
  clear hs
  go_enter Try.func88, Try.ntmps88
  go_wp2_with fail
  refine HA.out.mono ?_
  rintro e w' ⟨rfl, hb⟩
  go_wp2
  go_ret
  exact ⟨rfl, hb⟩
theorem ix_l {x : Nat → Int} {n : Nat} {g : Nat → Int} {m : Nat} (h : ixP x n g m) : allP g m ((n : Int) - 1) ((n : Int) - 1) 0 10000 := ⟨⟨by have := h.2.1; omega, by have := h.2.1; omega⟩, h.2.2.1⟩
end Go.Proofs.Ytbcajjpgpjadaaa
