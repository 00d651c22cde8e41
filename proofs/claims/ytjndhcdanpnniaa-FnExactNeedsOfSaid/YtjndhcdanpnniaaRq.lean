/- What rules are, by both. -/
import Derived.Test.YtjndhcdanpnniaaRj
namespace Go.Proofs.Ytjndhcdanpnniaa
open Go.RowKit Go.Dues
theorem specRDay_any (v : Int) (w : World) : Calls Try.prog 112 #[.int .i64 v] w fun e w' => e = .returned (.bool (inB v 0 100000)) ∧ w = w' := by
  go_enter Try.func112, Try.ntmps112
  go_wp2_with (first | (go_at_call 90; refine (specIn_any _ _ _ _).mono ?_; rintro e w' ⟨rfl, rfl⟩) | go_in)
  go_ret
  exact ⟨rfl, rfl⟩
set_option maxRecDepth 100000 in
set_option maxHeartbeats 8000000 in
theorem specRule_any (b o : Nat) (r : RV) (I : Option Addr) (ci : Nat) (w : World) (hn : r.n ≤ maxLen) (c0 : w.cell? ⟨b, o, none⟩ = some (.int .i64 r.h)) (c1 : w.cell? ⟨b, o + 1, none⟩ = some (.slice I r.n ci)) (c2 : w.cell? ⟨b, o + 2, none⟩ = some (.int .i64 r.f)) (c3 : w.cell? ⟨b, o + 3, none⟩ = some (.int .i64 r.t)) (c4 : w.cell? ⟨b, o + 4, none⟩ = some (.int .i64 r.k)) (hI : SL w I r.n (fun j => .int .i64 (r.x j))) :
    Calls Try.prog 180 #[.pointer (some ⟨b, o, none⟩)] w fun e w' => e = .returned (.bool (tru (ruleP r))) ∧ ∃ u, w' = w.drewN u := by
  have HI := hide hI
  clear hI
  cases g0 : wordB r.h
  · have HT := hide (tru_no (show ¬ ruleP r from fun h => by rw [wordB_yes h.1] at g0; cases g0))
    go_enter Try.func180, Try.ntmps180
    go_wp2
    go_quiet ((first | (go_at_call 155; exact Calls.quiet_of_same ((ret_eq (specWord_any _ _) g0).mono fun _ _ ⟨h, h'⟩ => ⟨h, h'.symm⟩)) | (go_at_call 194; exact Calls.quiet_of (ret_eq (specWords_any I r.n ci r.x _ hn HI.out) g2)) | (go_at_call 112; exact Calls.quiet_of_same ((ret_eq (specRDay_any _ _) g3).mono fun _ _ ⟨h, h'⟩ => ⟨h, h'.symm⟩)) | (go_at_call 112; exact Calls.quiet_of_same ((ret_eq (specRDay_any _ _) g4).mono fun _ _ ⟨h, h'⟩ => ⟨h, h'.symm⟩)) | (go_at_call 90; exact Calls.quiet_of_same ((ret_eq (specIn_any _ _ _ _) g6).mono fun _ _ ⟨h, h'⟩ => ⟨h, h'.symm⟩))))
    go_wp2
    go_ret
    exact ⟨retBr HT.out.symm, _, rfl⟩
  by_cases h1 : (r.n : Int) ≤ 6
  rotate_left
  · have h1d : decide ((r.n : Int) ≤ 6) = false := decide_eq_false h1
    have HT := hide (tru_no (show ¬ ruleP r from fun h => by exact h1 (by have := h.2.1; omega)))
    clear h1
    go_enter Try.func180, Try.ntmps180
    go_wp2
    go_quiet ((first | (go_at_call 155; exact Calls.quiet_of_same ((ret_eq (specWord_any _ _) g0).mono fun _ _ ⟨h, h'⟩ => ⟨h, h'.symm⟩)) | (go_at_call 194; exact Calls.quiet_of (ret_eq (specWords_any I r.n ci r.x _ hn HI.out) g2)) | (go_at_call 112; exact Calls.quiet_of_same ((ret_eq (specRDay_any _ _) g3).mono fun _ _ ⟨h, h'⟩ => ⟨h, h'.symm⟩)) | (go_at_call 112; exact Calls.quiet_of_same ((ret_eq (specRDay_any _ _) g4).mono fun _ _ ⟨h, h'⟩ => ⟨h, h'.symm⟩)) | (go_at_call 90; exact Calls.quiet_of_same ((ret_eq (specIn_any _ _ _ _) g6).mono fun _ _ ⟨h, h'⟩ => ⟨h, h'.symm⟩))))
    go_wp2
    go_ret
    exact ⟨retBr HT.out.symm, _, rfl⟩
  have h1d : decide ((r.n : Int) ≤ 6) = true := decide_eq_true h1
  cases g2 : tru (factsP r.x r.n)
  · have HT := hide (tru_no (show ¬ ruleP r from fun h => by exact truN g2 h.2.2.1))
    go_enter Try.func180, Try.ntmps180
    go_wp2
    go_quiet ((first | (go_at_call 155; exact Calls.quiet_of_same ((ret_eq (specWord_any _ _) g0).mono fun _ _ ⟨h, h'⟩ => ⟨h, h'.symm⟩)) | (go_at_call 194; exact Calls.quiet_of (ret_eq (specWords_any I r.n ci r.x _ hn HI.out) g2)) | (go_at_call 112; exact Calls.quiet_of_same ((ret_eq (specRDay_any _ _) g3).mono fun _ _ ⟨h, h'⟩ => ⟨h, h'.symm⟩)) | (go_at_call 112; exact Calls.quiet_of_same ((ret_eq (specRDay_any _ _) g4).mono fun _ _ ⟨h, h'⟩ => ⟨h, h'.symm⟩)) | (go_at_call 90; exact Calls.quiet_of_same ((ret_eq (specIn_any _ _ _ _) g6).mono fun _ _ ⟨h, h'⟩ => ⟨h, h'.symm⟩))))
    go_wp2
    go_ret
    exact ⟨retBr HT.out.symm, _, rfl⟩
  cases g3 : inB r.f 0 100000
  · have HT := hide (tru_no (show ¬ ruleP r from fun h => by rw [inB_yes h.2.2.2.1] at g3; cases g3))
    go_enter Try.func180, Try.ntmps180
    go_wp2
    go_quiet ((first | (go_at_call 155; exact Calls.quiet_of_same ((ret_eq (specWord_any _ _) g0).mono fun _ _ ⟨h, h'⟩ => ⟨h, h'.symm⟩)) | (go_at_call 194; exact Calls.quiet_of (ret_eq (specWords_any I r.n ci r.x _ hn HI.out) g2)) | (go_at_call 112; exact Calls.quiet_of_same ((ret_eq (specRDay_any _ _) g3).mono fun _ _ ⟨h, h'⟩ => ⟨h, h'.symm⟩)) | (go_at_call 112; exact Calls.quiet_of_same ((ret_eq (specRDay_any _ _) g4).mono fun _ _ ⟨h, h'⟩ => ⟨h, h'.symm⟩)) | (go_at_call 90; exact Calls.quiet_of_same ((ret_eq (specIn_any _ _ _ _) g6).mono fun _ _ ⟨h, h'⟩ => ⟨h, h'.symm⟩))))
    go_wp2
    go_ret
    exact ⟨retBr HT.out.symm, _, rfl⟩
  cases g4 : inB r.t 0 100000
  · have HT := hide (tru_no (show ¬ ruleP r from fun h => by rw [inB_yes h.2.2.2.2.1] at g4; cases g4))
    go_enter Try.func180, Try.ntmps180
    go_wp2
    go_quiet ((first | (go_at_call 155; exact Calls.quiet_of_same ((ret_eq (specWord_any _ _) g0).mono fun _ _ ⟨h, h'⟩ => ⟨h, h'.symm⟩)) | (go_at_call 194; exact Calls.quiet_of (ret_eq (specWords_any I r.n ci r.x _ hn HI.out) g2)) | (go_at_call 112; exact Calls.quiet_of_same ((ret_eq (specRDay_any _ _) g3).mono fun _ _ ⟨h, h'⟩ => ⟨h, h'.symm⟩)) | (go_at_call 112; exact Calls.quiet_of_same ((ret_eq (specRDay_any _ _) g4).mono fun _ _ ⟨h, h'⟩ => ⟨h, h'.symm⟩)) | (go_at_call 90; exact Calls.quiet_of_same ((ret_eq (specIn_any _ _ _ _) g6).mono fun _ _ ⟨h, h'⟩ => ⟨h, h'.symm⟩))))
    go_wp2
    go_ret
    exact ⟨retBr HT.out.symm, _, rfl⟩
  by_cases h5 : r.f ≤ r.t
  rotate_left
  · have h5d : decide (r.f ≤ r.t) = false := decide_eq_false h5
    have HT := hide (tru_no (show ¬ ruleP r from fun h => by exact h5 h.2.2.2.2.2.1))
    clear h5
    go_enter Try.func180, Try.ntmps180
    go_wp2
    go_quiet ((first | (go_at_call 155; exact Calls.quiet_of_same ((ret_eq (specWord_any _ _) g0).mono fun _ _ ⟨h, h'⟩ => ⟨h, h'.symm⟩)) | (go_at_call 194; exact Calls.quiet_of (ret_eq (specWords_any I r.n ci r.x _ hn HI.out) g2)) | (go_at_call 112; exact Calls.quiet_of_same ((ret_eq (specRDay_any _ _) g3).mono fun _ _ ⟨h, h'⟩ => ⟨h, h'.symm⟩)) | (go_at_call 112; exact Calls.quiet_of_same ((ret_eq (specRDay_any _ _) g4).mono fun _ _ ⟨h, h'⟩ => ⟨h, h'.symm⟩)) | (go_at_call 90; exact Calls.quiet_of_same ((ret_eq (specIn_any _ _ _ _) g6).mono fun _ _ ⟨h, h'⟩ => ⟨h, h'.symm⟩))))
    go_wp2
    go_ret
    exact ⟨retBr HT.out.symm, _, rfl⟩
  have h5d : decide (r.f ≤ r.t) = true := decide_eq_true h5
  cases g6 : inB r.k 0 100
  · have HT := hide (tru_no (show ¬ ruleP r from fun h => by rw [inB_yes h.2.2.2.2.2.2] at g6; cases g6))
    go_enter Try.func180, Try.ntmps180
    go_wp2
    go_quiet ((first | (go_at_call 155; exact Calls.quiet_of_same ((ret_eq (specWord_any _ _) g0).mono fun _ _ ⟨h, h'⟩ => ⟨h, h'.symm⟩)) | (go_at_call 194; exact Calls.quiet_of (ret_eq (specWords_any I r.n ci r.x _ hn HI.out) g2)) | (go_at_call 112; exact Calls.quiet_of_same ((ret_eq (specRDay_any _ _) g3).mono fun _ _ ⟨h, h'⟩ => ⟨h, h'.symm⟩)) | (go_at_call 112; exact Calls.quiet_of_same ((ret_eq (specRDay_any _ _) g4).mono fun _ _ ⟨h, h'⟩ => ⟨h, h'.symm⟩)) | (go_at_call 90; exact Calls.quiet_of_same ((ret_eq (specIn_any _ _ _ _) g6).mono fun _ _ ⟨h, h'⟩ => ⟨h, h'.symm⟩))))
    go_wp2
    go_ret
    exact ⟨retBr HT.out.symm, _, rfl⟩
  have HT := hide (tru_yes (show ruleP r from ⟨wordB_iff.1 g0, by omega, truV g2, inB_iff.1 g3, inB_iff.1 g4, h5, inB_iff.1 g6⟩))
  clear h1 h5
  go_enter Try.func180, Try.ntmps180
  go_wp2
  go_quiet ((first | (go_at_call 155; exact Calls.quiet_of_same ((ret_eq (specWord_any _ _) g0).mono fun _ _ ⟨h, h'⟩ => ⟨h, h'.symm⟩)) | (go_at_call 194; exact Calls.quiet_of (ret_eq (specWords_any I r.n ci r.x _ hn HI.out) g2)) | (go_at_call 112; exact Calls.quiet_of_same ((ret_eq (specRDay_any _ _) g3).mono fun _ _ ⟨h, h'⟩ => ⟨h, h'.symm⟩)) | (go_at_call 112; exact Calls.quiet_of_same ((ret_eq (specRDay_any _ _) g4).mono fun _ _ ⟨h, h'⟩ => ⟨h, h'.symm⟩)) | (go_at_call 90; exact Calls.quiet_of_same ((ret_eq (specIn_any _ _ _ _) g6).mono fun _ _ ⟨h, h'⟩ => ⟨h, h'.symm⟩))))
  go_wp2
  go_ret
  exact ⟨retBr HT.out.symm, _, rfl⟩
end Go.Proofs.Ytjndhcdanpnniaa
