/- ActiveRules, by both. -/
import Derived.Test.YtjndhcdanpnniaaRql
import Derived.Test.YtjndhcdanpnniaaG1
import Derived.Test.YtjndhcdanpnniaaOs
import Derived.Test.YtjndhcdanpnniaaAc
namespace Go.Proofs.Ytjndhcdanpnniaa
open Go.RowKit Go.Shelf Go.Dues
attribute [local go_sem] Oper.semAt_some
def acP (V : Nat → RV) (n : Nat) (day : Int) : Prop := rulesP V n ∧ (0 ≤ day ∧ day ≤ 100000)
def acL (V : Nat → RV) (n : Nat) (day : Int) : List Int := il (flt (actB V day) n)
theorem len_ActiveRules (V : Nat → RV) (n : Nat) (day : Int) : lenV (acP V n day) (acL V n day).length ≤ 1048576 := by
  by_cases h : acP V n day
  · rw [lenV_yes h]; have h1 := flt_len (actB V day) n; have h2 := h.1.1; unfold acL; rw [il_len]; omega
  · rw [lenV_no h]; omega
set_option maxHeartbeats 2000000 in
theorem specOn_any (b o : Nat) (f t day : Int) (w : World) (c2 : w.cell? ⟨b, o + 2, none⟩ = some (.int .i64 f)) (c3 : w.cell? ⟨b, o + 3, none⟩ = some (.int .i64 t)) :
    Calls Try.prog 157 #[.pointer (some ⟨b, o, none⟩), .int .i64 day] w fun e w' => e = .returned (.bool (inB day f t)) ∧ ∃ u, w' = w.drewN u := by
  by_cases h0 : f ≤ day
  · have d0 : decide (f ≤ day) = true := decide_eq_true h0
    by_cases h1 : day ≤ t
    · have d1 : decide (day ≤ t) = true := decide_eq_true h1
      have HB := hide (inB_yes (x := day) (lo := f) (hi := t) ⟨h0, h1⟩)
      go_enter Try.func157, Try.ntmps157
      go_wp2
      try go_quiet (fail)
      go_wp2
      go_ret
      first | exact ⟨retBr HB.out.symm, 0, rfl⟩ | exact ⟨retBr HB.out.symm, _, rfl⟩
    · have d1 : decide (day ≤ t) = false := decide_eq_false h1
      have HB := hide (inB_no (x := day) (lo := f) (hi := t) (by omega))
      go_enter Try.func157, Try.ntmps157
      go_wp2
      try go_quiet (fail)
      go_wp2
      go_ret
      first | exact ⟨retBr HB.out.symm, 0, rfl⟩ | exact ⟨retBr HB.out.symm, _, rfl⟩
  · have d0 : decide (f ≤ day) = false := decide_eq_false h0
    have HB := hide (inB_no (x := day) (lo := f) (hi := t) (by omega))
    go_enter Try.func157, Try.ntmps157
    go_wp2
    try go_quiet (fail)
    go_wp2
    go_ret
    first | exact ⟨retBr HB.out.symm, 0, rfl⟩ | exact ⟨retBr HB.out.symm, _, rfl⟩
end Go.Proofs.Ytjndhcdanpnniaa
