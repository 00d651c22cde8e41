/- The law FnExactRateDues: whatever it is given, it returns true and changes nothing. -/
import Derived.Test.YtpbbedelapnnnaaWRateDues
import Derived.Test.YtpbbedelapnnnaaRow
namespace Go.Proofs.Ytpbbedelapnnnaa
open Go.ChangeShapes Go.WideShapes Go.ChangeAt Go.RowKit

theorem Try.read8 : ∀ t ∈ [42, 42, 42, 2], Try.prog.readableRec t = true ∧ t < Try.prog.types.size := by
  intro t ht
  simp only [List.mem_cons, List.not_mem_nil, or_false] at ht
  rcases ht with rfl | rfl | rfl | rfl <;> exact ⟨by kernel_rfl, by decide +kernel⟩

set_option maxRecDepth 100000 in
theorem fnExactRateDues_lifted (os : Os) (started : os.Started) (H : Type) (enc : TypeId × Value → H) :
    ReturnsInHanded {} Try.checked os 8 .any (Rows.fnExactRateDuesSpec.pre6 enc Try.prog Try.f8 Rows.fnExactRateDuesRow.domain false) (Rows.fnExactRateDuesSpec.post enc Try.prog Try.f8 false true false false) := by
  refine returnsInHanded_of_change (C := Try.checked) Try.own started (by kernel_rfl) Try.func8
    (ChangeSpec.witness6 (enc := enc) (C := Try.checked) false ⟨#[], #[.slice none 0 0, .slice none 0 0, .slice none 0 0, .int .i64 0], []⟩ 8 (by kernel_rfl) (by kernel_rfl) (by kernel_rfl) (by kernel_rfl)) ?_
  intro W base args ds gs before hval0 hW hcnd _
  have hval : ∀ (j : Nat) t v, Try.f8.params[j]? = some t → args[j]? = some v → Value.okWide Try.prog W .any base t v := hval0
  have hW' := hW
  obtain ⟨p, q, hA0, hV, rfl, hfz, hnd⟩ := hW
  have hA : DataW.TrodAll enc Try.prog W 0 (fun _ => true) true Try.f8.params.toList args.toList ds p := hA0
  rw [Try.params8] at hA hval
  obtain ⟨v0, v1, v2, v3, d0, d1, d2, d3, p0, p1, p2, p3, rfl, rfl, rfl, h0, h1, h2, h3⟩ := trodAll_four hA
  obtain ⟨rfl, rfl⟩ := trodVars_none hV
  obtain ⟨A0, n0, c0, x0, rfl, hm0, hs0, wx0⟩ := open_is Try.underlying42 Try.underlying2 Try.cellsI64 h0 (okWide_slice Try.underlying42 (hval 0 42 v0 rfl rfl))
  obtain ⟨A1, n1, c1, x1, rfl, hm1, hs1, wx1⟩ := open_is Try.underlying42 Try.underlying2 Try.cellsI64 h1 (okWide_slice Try.underlying42 (hval 1 42 v1 rfl rfl))
  obtain ⟨A2, n2, c2, x2, rfl, hm2, hs2, wx2⟩ := open_is Try.underlying42 Try.underlying2 Try.cellsI64 h2 (okWide_slice Try.underlying42 (hval 2 42 v2 rfl rfl))
  obtain ⟨x3, rfl, rfl, rfl, wx3⟩ := open_int Try.underlying2 (hval 3 2 v3 rfl rfl) h3
  clear hA0 hval0
  refine (lawRateDues_any A0 n0 c0 x0 A1 n1 c1 x1 A2 n2 c2 x2 x3 W hm0 hs0 hm1 hs1 hm2 hs2 (bd64 wx3)).mono fun e W' ⟨he, hb⟩ => ?_
  subst he
  exact ⟨_, rfl, post_law (tb := 4) Try.laidOut (by rw [Try.params8]; exact Try.read8) rfl rfl Try.underlying4 hW' rfl rfl rfl hb⟩

set_option maxHeartbeats 4000000 in
theorem fnExactRateDues_facts : joinedFacts Try.pinned.checked.prog 8 Try.f8 Rows.fnExactRateDuesSpec Rows.fnExactRateDuesRow = true := by
  unfold joinedFacts
  rw [regroup32]
  exact and_t (by as_aux_lemma => kernel_rfl) (and_t (by as_aux_lemma => kernel_rfl) (and_t (by as_aux_lemma => kernel_rfl) (by as_aux_lemma => kernel_rfl)))
theorem fnExactRateDues_holds : Rows.FnExactRateDuesSaid :=
  OpenClaim.holds_of_wide 8 Try.f8 rfl rfl rfl rfl rfl rfl rfl ⟨rfl, rfl, rfl, rfl, rfl⟩ rfl rfl rfl rfl rfl (by kernel_rfl) Try.func8 fnExactRateDues_facts
    (of_decide_eq_true (by kernel_rfl)) (by unfold Func.isWrapper; first | (rw [if_pos (by decide +kernel)]; kernel_rfl) | (rw [if_neg (by decide +kernel)]; exact ⟨rfl, rfl⟩))
    (fun os started H enc _ => fnExactRateDues_lifted os started H enc)
end Go.Proofs.Ytpbbedelapnnnaa
