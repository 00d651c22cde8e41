/- The law FnExactClashesOf: whatever it is given, it returns true and changes nothing. -/
import Derived.Test.YtpbbedelapnnnaaWClashesOf
import Derived.Test.YtpbbedelapnnnaaRow
namespace Go.Proofs.Ytpbbedelapnnnaa
open Go.ChangeShapes Go.WideShapes Go.ChangeAt Go.RowKit

theorem Try.read10 : ∀ t ∈ [79, 2], Try.prog.readableRec t = true ∧ t < Try.prog.types.size := by
  intro t ht
  simp only [List.mem_cons, List.not_mem_nil, or_false] at ht
  rcases ht with rfl | rfl <;> exact ⟨by kernel_rfl, by decide +kernel⟩

set_option maxRecDepth 100000 in
theorem fnExactClashesOf_lifted (os : Os) (started : os.Started) (H : Type) (enc : TypeId × Value → H) :
    ReturnsInHanded {} Try.checked os 10 .any (Rows.fnExactClashesOfSpec.pre6 enc Try.prog Try.f10 Rows.fnExactClashesOfRow.domain false) (Rows.fnExactClashesOfSpec.post enc Try.prog Try.f10 false true false false) := by
  refine returnsInHanded_of_change (C := Try.checked) Try.own started (by kernel_rfl) Try.func10
    (ChangeSpec.witness6 (enc := enc) (C := Try.checked) false ⟨#[], #[.slice none 0 0, .int .i64 0], []⟩ 8 (by kernel_rfl) (by kernel_rfl) (by kernel_rfl) (by kernel_rfl)) ?_
  intro W base args ds gs before hval0 hW hcnd _
  have hval : ∀ (j : Nat) t v, Try.f10.params[j]? = some t → args[j]? = some v → Value.okWide Try.prog W .any base t v := hval0
  have hW' := hW
  obtain ⟨p, q, hA0, hV, rfl, hfz, hnd⟩ := hW
  have hA : DataW.TrodAll enc Try.prog W 0 (fun _ => true) true Try.f10.params.toList args.toList ds p := hA0
  rw [Try.params10] at hA hval
  obtain ⟨v0, v1, d0, d1, p0, p1, rfl, rfl, rfl, h0, h1⟩ := trodAll_two hA
  obtain ⟨rfl, rfl⟩ := trodVars_none hV
  obtain ⟨A0, n0, c0, x0, rfl, hm0, hs0, hv0⟩ := open_rules Try.underlying79 Try.underlying175 (by kernel_rfl) (by kernel_rfl) Try.underlying2 rfl Try.underlying2 Try.underlying2 Try.underlying2 Try.underlying42 Try.underlying2 Try.cellsI64 h0 (okWide_slice Try.underlying79 (hval 0 79 v0 rfl rfl))
  obtain ⟨x1, rfl, rfl, rfl, wx1⟩ := open_int Try.underlying2 (hval 1 2 v1 rfl rfl) h1
  clear hA0 hval0
  refine (lawClashesOf_any A0 n0 c0 x0 x1 W hm0 hs0 hv0 (bd64 wx1)).mono fun e W' ⟨he, hb⟩ => ?_
  subst he
  exact ⟨_, rfl, post_law (tb := 4) Try.laidOut (by rw [Try.params10]; exact Try.read10) rfl rfl Try.underlying4 hW' rfl rfl rfl hb⟩

set_option maxHeartbeats 4000000 in
theorem fnExactClashesOf_facts : joinedFacts Try.pinned.checked.prog 10 Try.f10 Rows.fnExactClashesOfSpec Rows.fnExactClashesOfRow = true := by
  unfold joinedFacts
  rw [regroup32]
  exact and_t (by as_aux_lemma => kernel_rfl) (and_t (by as_aux_lemma => kernel_rfl) (and_t (by as_aux_lemma => kernel_rfl) (by as_aux_lemma => kernel_rfl)))
theorem fnExactClashesOf_holds : Rows.FnExactClashesOfSaid :=
  OpenClaim.holds_of_wide 10 Try.f10 rfl rfl rfl rfl rfl rfl rfl ⟨rfl, rfl, rfl, rfl, rfl⟩ rfl rfl rfl rfl rfl (by kernel_rfl) Try.func10 fnExactClashesOf_facts
    (of_decide_eq_true (by kernel_rfl)) (by unfold Func.isWrapper; first | (rw [if_pos (by decide +kernel)]; kernel_rfl) | (rw [if_neg (by decide +kernel)]; exact ⟨rfl, rfl⟩))
    (fun os started H enc _ => fnExactClashesOf_lifted os started H enc)
end Go.Proofs.Ytpbbedelapnnnaa
