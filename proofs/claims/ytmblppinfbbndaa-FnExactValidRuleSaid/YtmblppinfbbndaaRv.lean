/- ValidRule and AreRules, as their laws call them. -/
import Derived.Test.YtmblppinfbbndaaRql
namespace Go.Proofs.Ytmblppinfbbndaa
open Go.RowKit Go.Dues
theorem specValidRule_any (r : RV) (I : Option Addr) (ci : Nat) (w : World) (hn : r.n ≤ maxLen) (hI : SL w I r.n (fun j => .int .i64 (r.x j))) :
    Calls Try.prog 16 #[.agg #[.int .i64 r.h, .slice I r.n ci, .int .i64 r.f, .int .i64 r.t, .int .i64 r.k]] w fun e w' => e = .returned (.bool (tru (ruleP r))) ∧ Below w.heap.size w w' := by
  obtain ⟨W, hW⟩ : ∃ u, u = w.alloc (.cells #[.int .i64 r.h, .slice I r.n ci, .int .i64 r.f, .int .i64 r.t, .int .i64 r.k] 27) := ⟨_, rfl⟩
  have HBW : Hid (Below w.heap.size w W) := by rw [hW]; exact (Below.refl w.heap.size w).alloc (Nat.le_refl _) _
  have HBX : Hid (W.heap[w.heap.size]? = some (.cells #[.int .i64 r.h, .slice I r.n ci, .int .i64 r.f, .int .i64 r.t, .int .i64 r.k] 27)) := by rw [hW]; exact blocks1 w _
  have HR := hide (specRule_any w.heap.size 0 r I ci W hn ((Joins.cell_of_block HBX.out 0).trans (by simp)) ((Joins.cell_of_block HBX.out 1).trans (by simp)) ((Joins.cell_of_block HBX.out 2).trans (by simp)) ((Joins.cell_of_block HBX.out 3).trans (by simp)) ((Joins.cell_of_block HBX.out 4).trans (by simp)) (hI.below HBW.out))
  have HWW := hide hW
  clear hW hI
  go_enter Try.func16, Try.ntmps16
  go_wp2_with fail
  rw [← HWW.out]
  clear HWW
  refine HR.out.mono ?_
  rintro e w1 ⟨rfl, u, rfl⟩
  go_wp2
  go_ret
  exact ⟨rfl, bel_drewN HBW.out _⟩
theorem implValidRule_any (r : RV) (I : Option Addr) (ci : Nat) (w : World) (hn : r.n ≤ maxLen) (hI : SL w I r.n (fun j => .int .i64 (r.x j))) :
    Calls Try.prog 18 #[.agg #[.int .i64 r.h, .slice I r.n ci, .int .i64 r.f, .int .i64 r.t, .int .i64 r.k]] w fun e w' => e = .returned (.bool (tru (ruleP r))) ∧ Below w.heap.size w w' := implRule_any r I ci w hn hI
theorem specAreRules_any (A : Option Addr) (n c : Nat) (V : Nat → RV) (w : World) (hn : n ≤ maxLen) (hv : ∀ i, i < n → (V i).n ≤ maxLen) (hs : RS w A n V) :
    Calls Try.prog 21 #[.slice A n c] w fun e w' => e = .returned (.bool (tru (rulesP V n))) ∧ Below w.heap.size w w' := by
  have HR := hide (specRules_any A n c V w hn hv hs)
  clear hs hv
  go_enter Try.func21, Try.ntmps21
  go_wp2_with fail
  refine HR.out.mono ?_
  rintro e w1 ⟨rfl, u, rfl⟩
  go_wp2
  go_ret
  exact ⟨rfl, bel_drewN (Below.refl _ _) _⟩
theorem implAreRules_any (A : Option Addr) (n c : Nat) (V : Nat → RV) (w : World) (hn : n ≤ maxLen) (hv : ∀ i, i < n → (V i).n ≤ maxLen) (hs : RS w A n V) :
    Calls Try.prog 23 #[.slice A n c] w fun e w' => e = .returned (.bool (tru (rulesP V n))) ∧ Below w.heap.size w w' := implRules_any A n c V w hn hv hs
end Go.Proofs.Ytmblppinfbbndaa
