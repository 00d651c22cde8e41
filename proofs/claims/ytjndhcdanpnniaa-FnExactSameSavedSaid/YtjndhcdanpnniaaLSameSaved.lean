/- The law FnExactSameSaved: whatever it is given, it returns true and changes nothing. -/
import Derived.Test.YtjndhcdanpnniaaWSameSaved
import Derived.Test.YtjndhcdanpnniaaRow
namespace Go.Proofs.Ytjndhcdanpnniaa
open Go.ChangeShapes Go.WideShapes Go.ChangeAt Go.RowKit

theorem Try.read5 : ∀ t ∈ [44, 44], Try.prog.readableRec t = true ∧ t < Try.prog.types.size := by
  intro t ht
  simp only [List.mem_cons, List.not_mem_nil, or_false] at ht
  rcases ht with rfl | rfl <;> exact ⟨by kernel_rfl, by decide +kernel⟩

set_option maxRecDepth 100000 in
theorem fnExactSameSaved_lifted (os : Os) (started : os.Started) (H : Type) (enc : TypeId × Value → H) :
    ReturnsInHanded {} Try.checked os 5 .any (Rows.fnExactSameSavedSpec.pre6 enc Try.prog Try.f5 Rows.fnExactSameSavedRow.domain false) (Rows.fnExactSameSavedSpec.post enc Try.prog Try.f5 false true false false) := by
  refine returnsInHanded_of_change (C := Try.checked) Try.own started (by kernel_rfl) Try.func5
    (ChangeSpec.witness6 (enc := enc) (C := Try.checked) false ⟨#[], #[.slice none 0 0, .slice none 0 0], []⟩ 8 (by kernel_rfl) (by kernel_rfl) (by kernel_rfl) (by kernel_rfl)) ?_
  intro W base args ds gs before hval0 hW hcnd _
  have hval : ∀ (j : Nat) t v, Try.f5.params[j]? = some t → args[j]? = some v → Value.okWide Try.prog W .any base t v := hval0
  have hW' := hW
  obtain ⟨p, q, hA0, hV, rfl, hfz, hnd⟩ := hW
  have hA : DataW.TrodAll enc Try.prog W 0 (fun _ => true) true Try.f5.params.toList args.toList ds p := hA0
  rw [Try.params5] at hA hval
  obtain ⟨v0, v1, d0, d1, p0, p1, rfl, rfl, rfl, h0, h1⟩ := trodAll_two hA
  obtain ⟨rfl, rfl⟩ := trodVars_none hV
  obtain ⟨A0, n0, c0, x0, rfl, hm0, hs0, hv0⟩ := open_saveds Try.underlying44 Try.underlying35 (by kernel_rfl) (by kernel_rfl) Try.underlying9 rfl rfl Try.underlying33 (fun v d ps hd hv => open_rules Try.underlying33 Try.underlying58 (by kernel_rfl) (by kernel_rfl) Try.underlying2 rfl Try.underlying2 Try.underlying2 Try.underlying2 Try.underlying24 Try.underlying2 Try.cellsI64 hd hv) Try.underlying24 Try.underlying2 Try.cellsI64 h0 (okWide_slice Try.underlying44 (hval 0 44 v0 rfl rfl))
  obtain ⟨A1, n1, c1, x1, rfl, hm1, hs1, hv1⟩ := open_saveds Try.underlying44 Try.underlying35 (by kernel_rfl) (by kernel_rfl) Try.underlying9 rfl rfl Try.underlying33 (fun v d ps hd hv => open_rules Try.underlying33 Try.underlying58 (by kernel_rfl) (by kernel_rfl) Try.underlying2 rfl Try.underlying2 Try.underlying2 Try.underlying2 Try.underlying24 Try.underlying2 Try.cellsI64 hd hv) Try.underlying24 Try.underlying2 Try.cellsI64 h1 (okWide_slice Try.underlying44 (hval 1 44 v1 rfl rfl))
  clear hA0 hval0
  refine (lawSameSaved_any A0 n0 c0 x0 A1 n1 c1 x1 W hm0 hs0 hv0 hm1 hs1 hv1).mono fun e W' ⟨he, hb⟩ => ?_
  subst he
  exact ⟨_, rfl, post_law (tb := 4) Try.laidOut (by rw [Try.params5]; exact Try.read5) rfl rfl Try.underlying4 hW' rfl rfl rfl hb⟩

set_option maxHeartbeats 4000000 in
theorem fnExactSameSaved_facts : joinedFacts Try.pinned.checked.prog 5 Try.f5 Rows.fnExactSameSavedSpec Rows.fnExactSameSavedRow = true := by
  unfold joinedFacts
  rw [regroup32]
  exact and_t (by as_aux_lemma => kernel_rfl) (and_t (by as_aux_lemma => kernel_rfl) (and_t (by as_aux_lemma => kernel_rfl) (by as_aux_lemma => kernel_rfl)))
theorem fnExactSameSaved_holds : Rows.FnExactSameSavedSaid :=
  OpenClaim.holds_of_wide 5 Try.f5 rfl rfl rfl rfl rfl rfl rfl ⟨rfl, rfl, rfl, rfl, rfl⟩ rfl rfl rfl rfl rfl (by kernel_rfl) Try.func5 fnExactSameSaved_facts
    (of_decide_eq_true (by kernel_rfl)) (by unfold Func.isWrapper; first | (rw [if_pos (by decide +kernel)]; kernel_rfl) | (rw [if_neg (by decide +kernel)]; exact ⟨rfl, rfl⟩))
    (fun os started H enc _ => fnExactSameSaved_lifted os started H enc)
end Go.Proofs.Ytjndhcdanpnniaa
