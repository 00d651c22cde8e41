/- The law FnExactValidSaved: whatever it is given, it returns true and changes nothing. -/
import Derived.Test.YtjndhcdanpnniaaWValidSaved
import Derived.Test.YtjndhcdanpnniaaRow
namespace Go.Proofs.Ytjndhcdanpnniaa
open Go.ChangeShapes Go.WideShapes Go.ChangeAt Go.RowKit

theorem Try.read4 : ∀ t ∈ [35], Try.prog.readableRec t = true ∧ t < Try.prog.types.size := by
  intro t ht
  simp only [List.mem_cons, List.not_mem_nil, or_false] at ht
  subst ht; exact ⟨by kernel_rfl, by decide +kernel⟩

set_option maxRecDepth 100000 in
theorem fnExactValidSaved_lifted (os : Os) (started : os.Started) (H : Type) (enc : TypeId × Value → H) :
    ReturnsInHanded {} Try.checked os 4 .any (Rows.fnExactValidSavedSpec.pre6 enc Try.prog Try.f4 Rows.fnExactValidSavedRow.domain false) (Rows.fnExactValidSavedSpec.post enc Try.prog Try.f4 false true false false) := by
  refine returnsInHanded_of_change (C := Try.checked) Try.own started (by kernel_rfl) Try.func4
    (ChangeSpec.witness6 (enc := enc) (C := Try.checked) false ⟨#[], #[.agg #[.string ⟨#[]⟩, .slice none 0 0, .slice none 0 0]], []⟩ 8 (by kernel_rfl) (by kernel_rfl) (by kernel_rfl) (by kernel_rfl)) ?_
  intro W base args ds gs before hval0 hW hcnd _
  have hval : ∀ (j : Nat) t v, Try.f4.params[j]? = some t → args[j]? = some v → Value.okWide Try.prog W .any base t v := hval0
  have hW' := hW
  obtain ⟨p, q, hA0, hV, rfl, hfz, hnd⟩ := hW
  have hA : DataW.TrodAll enc Try.prog W 0 (fun _ => true) true Try.f4.params.toList args.toList ds p := hA0
  rw [Try.params4] at hA hval
  obtain ⟨v0, d0, rfl, rfl, h0⟩ := trodAll_one hA
  obtain ⟨rfl, rfl⟩ := trodVars_none hV
  obtain ⟨x0, A0, B0, c0, e0, rfl, hv0, hs0, ht0⟩ := open_saved Try.underlying35 (by kernel_rfl) (by kernel_rfl) Try.underlying9 rfl rfl Try.underlying33 (fun v d ps hd hv => open_rules Try.underlying33 Try.underlying58 (by kernel_rfl) (by kernel_rfl) Try.underlying2 rfl Try.underlying2 Try.underlying2 Try.underlying2 Try.underlying24 Try.underlying2 Try.cellsI64 hd hv) Try.underlying24 Try.underlying2 Try.cellsI64 (hval 0 35 v0 rfl rfl) h0
  clear hA0 hval0
  refine (lawValidSaved_any x0 A0 B0 c0 e0 W hv0 hs0 ht0).mono fun e W' ⟨he, hb⟩ => ?_
  subst he
  exact ⟨_, rfl, post_law (tb := 4) Try.laidOut (by rw [Try.params4]; exact Try.read4) rfl rfl Try.underlying4 hW' rfl rfl rfl hb⟩

set_option maxHeartbeats 4000000 in
theorem fnExactValidSaved_facts : joinedFacts Try.pinned.checked.prog 4 Try.f4 Rows.fnExactValidSavedSpec Rows.fnExactValidSavedRow = true := by
  unfold joinedFacts
  rw [regroup32]
  exact and_t (by as_aux_lemma => kernel_rfl) (and_t (by as_aux_lemma => kernel_rfl) (and_t (by as_aux_lemma => kernel_rfl) (by as_aux_lemma => kernel_rfl)))
theorem fnExactValidSaved_holds : Rows.FnExactValidSavedSaid :=
  OpenClaim.holds_of_wide 4 Try.f4 rfl rfl rfl rfl rfl rfl rfl ⟨rfl, rfl, rfl, rfl, rfl⟩ rfl rfl rfl rfl rfl (by kernel_rfl) Try.func4 fnExactValidSaved_facts
    (of_decide_eq_true (by kernel_rfl)) (by unfold Func.isWrapper; first | (rw [if_pos (by decide +kernel)]; kernel_rfl) | (rw [if_neg (by decide +kernel)]; exact ⟨rfl, rfl⟩))
    (fun os started H enc _ => fnExactValidSaved_lifted os started H enc)
end Go.Proofs.Ytjndhcdanpnniaa
