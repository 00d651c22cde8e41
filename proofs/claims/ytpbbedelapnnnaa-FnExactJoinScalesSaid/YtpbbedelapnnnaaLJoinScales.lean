/- The law FnExactJoinScales: whatever it is given, it returns true and changes nothing. -/
import Derived.Test.YtpbbedelapnnnaaWJoinScales
import Derived.Test.YtpbbedelapnnnaaRow
namespace Go.Proofs.Ytpbbedelapnnnaa
open Go.ChangeShapes Go.WideShapes Go.ChangeAt Go.RowKit

theorem Try.read5 : ∀ t ∈ [44, 44], Try.prog.readableRec t = true ∧ t < Try.prog.types.size := by
  intro t ht
  simp only [List.mem_cons, List.not_mem_nil, or_false] at ht
  rcases ht with rfl | rfl <;> exact ⟨by kernel_rfl, by decide +kernel⟩

set_option maxRecDepth 100000 in
theorem fnExactJoinScales_lifted (os : Os) (started : os.Started) (H : Type) (enc : TypeId × Value → H) :
    ReturnsInHanded {} Try.checked os 5 .any (Rows.fnExactJoinScalesSpec.pre6 enc Try.prog Try.f5 Rows.fnExactJoinScalesRow.domain false) (Rows.fnExactJoinScalesSpec.post enc Try.prog Try.f5 false true false false) := by
  refine returnsInHanded_of_change (C := Try.checked) Try.own started (by kernel_rfl) Try.func5
    (ChangeSpec.witness6 (enc := enc) (C := Try.checked) false ⟨#[], #[.agg #[.slice none 0 0, .slice none 0 0], .agg #[.slice none 0 0, .slice none 0 0]], []⟩ 8 (by kernel_rfl) (by kernel_rfl) (by kernel_rfl) (by kernel_rfl)) ?_
  intro W base args ds gs before hval0 hW hcnd _
  have hval : ∀ (j : Nat) t v, Try.f5.params[j]? = some t → args[j]? = some v → Value.okWide Try.prog W .any base t v := hval0
  have hW' := hW
  obtain ⟨p, q, hA0, hV, rfl, hfz, hnd⟩ := hW
  have hA : DataW.TrodAll enc Try.prog W 0 (fun _ => true) true Try.f5.params.toList args.toList ds p := hA0
  rw [Try.params5] at hA hval
  obtain ⟨v0, v1, d0, d1, p0, p1, rfl, rfl, rfl, h0, h1⟩ := trodAll_two hA
  obtain ⟨rfl, rfl⟩ := trodVars_none hV
  obtain ⟨A0, n0, c0, A0', n0', c0', x0, y0, rfl, hm0, hm0', hs0, hs0', wx0, wy0⟩ := open_two Try.underlying44 (by kernel_rfl) (by kernel_rfl) rfl rfl Try.underlying42 Try.underlying2 Try.cellsI64 (hval 0 44 v0 rfl rfl) h0
  obtain ⟨A1, n1, c1, A1', n1', c1', x1, y1, rfl, hm1, hm1', hs1, hs1', wx1, wy1⟩ := open_two Try.underlying44 (by kernel_rfl) (by kernel_rfl) rfl rfl Try.underlying42 Try.underlying2 Try.cellsI64 (hval 1 44 v1 rfl rfl) h1
  clear hA0 hval0
  refine (lawJoinScales_any A0 A0' n0 c0 n0' c0' x0 y0 A1 A1' n1 c1 n1' c1' x1 y1 W hm0 hm0' hs0 hs0' hm1 hm1' hs1 hs1').mono fun e W' ⟨he, hb⟩ => ?_
  subst he
  exact ⟨_, rfl, post_law (tb := 4) Try.laidOut (by rw [Try.params5]; exact Try.read5) rfl rfl Try.underlying4 hW' rfl rfl rfl hb⟩

set_option maxHeartbeats 4000000 in
theorem fnExactJoinScales_facts : joinedFacts Try.pinned.checked.prog 5 Try.f5 Rows.fnExactJoinScalesSpec Rows.fnExactJoinScalesRow = true := by
  unfold joinedFacts
  rw [regroup32]
  exact and_t (by as_aux_lemma => kernel_rfl) (and_t (by as_aux_lemma => kernel_rfl) (and_t (by as_aux_lemma => kernel_rfl) (by as_aux_lemma => kernel_rfl)))
theorem fnExactJoinScales_holds : Rows.FnExactJoinScalesSaid :=
  OpenClaim.holds_of_wide 5 Try.f5 rfl rfl rfl rfl rfl rfl rfl ⟨rfl, rfl, rfl, rfl, rfl⟩ rfl rfl rfl rfl rfl (by kernel_rfl) Try.func5 fnExactJoinScales_facts
    (of_decide_eq_true (by kernel_rfl)) (by unfold Func.isWrapper; first | (rw [if_pos (by decide +kernel)]; kernel_rfl) | (rw [if_neg (by decide +kernel)]; exact ⟨rfl, rfl⟩))
    (fun os started H enc _ => fnExactJoinScales_lifted os started H enc)
end Go.Proofs.Ytpbbedelapnnnaa
