/- What a rule is, by the program. -/
import Derived.Test.YtjndhcdanpnniaaRj
namespace Go.Proofs.Ytjndhcdanpnniaa
open Go.RowKit Go.Dues
theorem implRDay_any (v : Int) (w : World) : Calls Try.prog 114 #[.int .i64 v] w fun e w' => e = .returned (.bool (inB v 0 100000)) ∧ w = w' := by
  go_enter Try.func114, Try.ntmps114
  go_wp2_with (first | (go_at_call 92; refine (implWithin_any _ _ _ _).mono ?_; rintro e w' ⟨rfl, rfl⟩) | go_in)
  go_ret
  exact ⟨rfl, rfl⟩
set_option maxRecDepth 100000 in
set_option maxHeartbeats 8000000 in
theorem implRule_any (r : RV) (I : Option Addr) (ci : Nat) (w : World) (hn : r.n ≤ maxLen) (hI : SL w I r.n (fun j => .int .i64 (r.x j))) :
    Calls Try.prog 175 #[.agg #[.int .i64 r.h, .slice I r.n ci, .int .i64 r.f, .int .i64 r.t, .int .i64 r.k]] w fun e w' => e = .returned (.bool (tru (ruleP r))) ∧ Below w.heap.size w w' := by
  obtain ⟨W, hW⟩ : ∃ u, u = w.alloc (.cells #[.int .i64 r.h, .slice I r.n ci, .int .i64 r.f, .int .i64 r.t, .int .i64 r.k] 61) := ⟨_, rfl⟩
  have HBW : Hid (Below w.heap.size w W) := by rw [hW]; exact (Below.refl w.heap.size w).alloc (Nat.le_refl _) _
  have HBX : Hid (W.heap[w.heap.size]? = some (.cells #[.int .i64 r.h, .slice I r.n ci, .int .i64 r.f, .int .i64 r.t, .int .i64 r.k] 61)) := by rw [hW]; exact blocks1 w _
  have HI := hide (hI.below HBW.out)
  have k0 := Joins.cell_of_block HBX.out 0
  have k1 := Joins.cell_of_block HBX.out 1
  have k2 := Joins.cell_of_block HBX.out 2
  have k3 := Joins.cell_of_block HBX.out 3
  have k4 := Joins.cell_of_block HBX.out 4
  simp at k0 k1 k2 k3 k4
  have HWW := hide hW
  clear hI hW
  cases g0 : wordB r.h
  · have HT := hide (tru_no (show ¬ ruleP r from fun h => by rw [wordB_yes h.1] at g0; cases g0))
    go_enter Try.func175, Try.ntmps175
    go_wp2_with fail
    rw [← HWW.out]
    clear HWW
    go_wp2_with (first | (go_at_call 159; refine (ret_eq (implWord_any _ _) g0).mono ?_; rintro e w' ⟨rfl, rfl⟩) | (go_at_call 197; refine (ret_eq (implFacts_any I r.n ci r.x _ hn HI.out) g2).mono ?_; rintro e w' ⟨rfl, uq, rfl⟩) | (go_at_call 114; refine (ret_eq (implRDay_any _ _) g3).mono ?_; rintro e w' ⟨rfl, rfl⟩) | (go_at_call 114; refine (ret_eq (implRDay_any _ _) g4).mono ?_; rintro e w' ⟨rfl, rfl⟩) | (go_at_call 92; refine (ret_eq (implWithin_any _ _ _ _) g6).mono ?_; rintro e w' ⟨rfl, rfl⟩))
    go_ret
    first | exact ⟨retBr HT.out.symm, bel_drewN HBW.out _⟩ | exact ⟨retBr HT.out.symm, HBW.out⟩
  by_cases h1 : (r.n : Int) ≤ 6
  rotate_left
  · have h1d : decide ((r.n : Int) ≤ 6) = false := decide_eq_false h1
    have HT := hide (tru_no (show ¬ ruleP r from fun h => by exact h1 (by have := h.2.1; omega)))
    clear h1
    go_enter Try.func175, Try.ntmps175
    go_wp2_with fail
    rw [← HWW.out]
    clear HWW
    go_wp2_with (first | (go_at_call 159; refine (ret_eq (implWord_any _ _) g0).mono ?_; rintro e w' ⟨rfl, rfl⟩) | (go_at_call 197; refine (ret_eq (implFacts_any I r.n ci r.x _ hn HI.out) g2).mono ?_; rintro e w' ⟨rfl, uq, rfl⟩) | (go_at_call 114; refine (ret_eq (implRDay_any _ _) g3).mono ?_; rintro e w' ⟨rfl, rfl⟩) | (go_at_call 114; refine (ret_eq (implRDay_any _ _) g4).mono ?_; rintro e w' ⟨rfl, rfl⟩) | (go_at_call 92; refine (ret_eq (implWithin_any _ _ _ _) g6).mono ?_; rintro e w' ⟨rfl, rfl⟩))
    go_ret
    first | exact ⟨retBr HT.out.symm, bel_drewN HBW.out _⟩ | exact ⟨retBr HT.out.symm, HBW.out⟩
  have h1d : decide ((r.n : Int) ≤ 6) = true := decide_eq_true h1
  cases g2 : tru (factsP r.x r.n)
  · have HT := hide (tru_no (show ¬ ruleP r from fun h => by exact truN g2 h.2.2.1))
    go_enter Try.func175, Try.ntmps175
    go_wp2_with fail
    rw [← HWW.out]
    clear HWW
    go_wp2_with (first | (go_at_call 159; refine (ret_eq (implWord_any _ _) g0).mono ?_; rintro e w' ⟨rfl, rfl⟩) | (go_at_call 197; refine (ret_eq (implFacts_any I r.n ci r.x _ hn HI.out) g2).mono ?_; rintro e w' ⟨rfl, uq, rfl⟩) | (go_at_call 114; refine (ret_eq (implRDay_any _ _) g3).mono ?_; rintro e w' ⟨rfl, rfl⟩) | (go_at_call 114; refine (ret_eq (implRDay_any _ _) g4).mono ?_; rintro e w' ⟨rfl, rfl⟩) | (go_at_call 92; refine (ret_eq (implWithin_any _ _ _ _) g6).mono ?_; rintro e w' ⟨rfl, rfl⟩))
    go_ret
    first | exact ⟨retBr HT.out.symm, bel_drewN HBW.out _⟩ | exact ⟨retBr HT.out.symm, HBW.out⟩
  cases g3 : inB r.f 0 100000
  · have HT := hide (tru_no (show ¬ ruleP r from fun h => by rw [inB_yes h.2.2.2.1] at g3; cases g3))
    go_enter Try.func175, Try.ntmps175
    go_wp2_with fail
    rw [← HWW.out]
    clear HWW
    go_wp2_with (first | (go_at_call 159; refine (ret_eq (implWord_any _ _) g0).mono ?_; rintro e w' ⟨rfl, rfl⟩) | (go_at_call 197; refine (ret_eq (implFacts_any I r.n ci r.x _ hn HI.out) g2).mono ?_; rintro e w' ⟨rfl, uq, rfl⟩) | (go_at_call 114; refine (ret_eq (implRDay_any _ _) g3).mono ?_; rintro e w' ⟨rfl, rfl⟩) | (go_at_call 114; refine (ret_eq (implRDay_any _ _) g4).mono ?_; rintro e w' ⟨rfl, rfl⟩) | (go_at_call 92; refine (ret_eq (implWithin_any _ _ _ _) g6).mono ?_; rintro e w' ⟨rfl, rfl⟩))
    go_ret
    first | exact ⟨retBr HT.out.symm, bel_drewN HBW.out _⟩ | exact ⟨retBr HT.out.symm, HBW.out⟩
  cases g4 : inB r.t 0 100000
  · have HT := hide (tru_no (show ¬ ruleP r from fun h => by rw [inB_yes h.2.2.2.2.1] at g4; cases g4))
    go_enter Try.func175, Try.ntmps175
    go_wp2_with fail
    rw [← HWW.out]
    clear HWW
    go_wp2_with (first | (go_at_call 159; refine (ret_eq (implWord_any _ _) g0).mono ?_; rintro e w' ⟨rfl, rfl⟩) | (go_at_call 197; refine (ret_eq (implFacts_any I r.n ci r.x _ hn HI.out) g2).mono ?_; rintro e w' ⟨rfl, uq, rfl⟩) | (go_at_call 114; refine (ret_eq (implRDay_any _ _) g3).mono ?_; rintro e w' ⟨rfl, rfl⟩) | (go_at_call 114; refine (ret_eq (implRDay_any _ _) g4).mono ?_; rintro e w' ⟨rfl, rfl⟩) | (go_at_call 92; refine (ret_eq (implWithin_any _ _ _ _) g6).mono ?_; rintro e w' ⟨rfl, rfl⟩))
    go_ret
    first | exact ⟨retBr HT.out.symm, bel_drewN HBW.out _⟩ | exact ⟨retBr HT.out.symm, HBW.out⟩
  by_cases h5 : r.f ≤ r.t
  rotate_left
  · have h5d : decide (r.f ≤ r.t) = false := decide_eq_false h5
    have HT := hide (tru_no (show ¬ ruleP r from fun h => by exact h5 h.2.2.2.2.2.1))
    clear h5
    go_enter Try.func175, Try.ntmps175
    go_wp2_with fail
    rw [← HWW.out]
    clear HWW
    go_wp2_with (first | (go_at_call 159; refine (ret_eq (implWord_any _ _) g0).mono ?_; rintro e w' ⟨rfl, rfl⟩) | (go_at_call 197; refine (ret_eq (implFacts_any I r.n ci r.x _ hn HI.out) g2).mono ?_; rintro e w' ⟨rfl, uq, rfl⟩) | (go_at_call 114; refine (ret_eq (implRDay_any _ _) g3).mono ?_; rintro e w' ⟨rfl, rfl⟩) | (go_at_call 114; refine (ret_eq (implRDay_any _ _) g4).mono ?_; rintro e w' ⟨rfl, rfl⟩) | (go_at_call 92; refine (ret_eq (implWithin_any _ _ _ _) g6).mono ?_; rintro e w' ⟨rfl, rfl⟩))
    go_ret
    first | exact ⟨retBr HT.out.symm, bel_drewN HBW.out _⟩ | exact ⟨retBr HT.out.symm, HBW.out⟩
  have h5d : decide (r.f ≤ r.t) = true := decide_eq_true h5
  cases g6 : inB r.k 0 100
  · have HT := hide (tru_no (show ¬ ruleP r from fun h => by rw [inB_yes h.2.2.2.2.2.2] at g6; cases g6))
    go_enter Try.func175, Try.ntmps175
    go_wp2_with fail
    rw [← HWW.out]
    clear HWW
    go_wp2_with (first | (go_at_call 159; refine (ret_eq (implWord_any _ _) g0).mono ?_; rintro e w' ⟨rfl, rfl⟩) | (go_at_call 197; refine (ret_eq (implFacts_any I r.n ci r.x _ hn HI.out) g2).mono ?_; rintro e w' ⟨rfl, uq, rfl⟩) | (go_at_call 114; refine (ret_eq (implRDay_any _ _) g3).mono ?_; rintro e w' ⟨rfl, rfl⟩) | (go_at_call 114; refine (ret_eq (implRDay_any _ _) g4).mono ?_; rintro e w' ⟨rfl, rfl⟩) | (go_at_call 92; refine (ret_eq (implWithin_any _ _ _ _) g6).mono ?_; rintro e w' ⟨rfl, rfl⟩))
    go_ret
    first | exact ⟨retBr HT.out.symm, bel_drewN HBW.out _⟩ | exact ⟨retBr HT.out.symm, HBW.out⟩
  have HT := hide (tru_yes (show ruleP r from ⟨wordB_iff.1 g0, by omega, truV g2, inB_iff.1 g3, inB_iff.1 g4, h5, inB_iff.1 g6⟩))
  clear h1 h5
  go_enter Try.func175, Try.ntmps175
  go_wp2_with fail
  rw [← HWW.out]
  clear HWW
  go_wp2_with (first | (go_at_call 159; refine (ret_eq (implWord_any _ _) g0).mono ?_; rintro e w' ⟨rfl, rfl⟩) | (go_at_call 197; refine (ret_eq (implFacts_any I r.n ci r.x _ hn HI.out) g2).mono ?_; rintro e w' ⟨rfl, uq, rfl⟩) | (go_at_call 114; refine (ret_eq (implRDay_any _ _) g3).mono ?_; rintro e w' ⟨rfl, rfl⟩) | (go_at_call 114; refine (ret_eq (implRDay_any _ _) g4).mono ?_; rintro e w' ⟨rfl, rfl⟩) | (go_at_call 92; refine (ret_eq (implWithin_any _ _ _ _) g6).mono ?_; rintro e w' ⟨rfl, rfl⟩))
  go_ret
  first | exact ⟨retBr HT.out.symm, bel_drewN HBW.out _⟩ | exact ⟨retBr HT.out.symm, HBW.out⟩
end Go.Proofs.Ytjndhcdanpnniaa
