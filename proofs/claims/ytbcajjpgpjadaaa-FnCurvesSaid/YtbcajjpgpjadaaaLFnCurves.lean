/- The law FnCurves: whatever it is given, it returns true and changes nothing. -/
import Derived.Test.YtbcajjpgpjadaaaWFnCurves
import Derived.Test.YtbcajjpgpjadaaaRow
namespace Go.Proofs.Ytbcajjpgpjadaaa
open Go.ChangeShapes Go.WideShapes Go.ChangeAt Go.RowKit

theorem Try.read14 : ∀ t ∈ [39, 39], Try.prog.readableRec t = true ∧ t < Try.prog.types.size := by
  intro t ht
  simp only [List.mem_cons, List.not_mem_nil, or_false] at ht
  rcases ht with rfl | rfl <;> exact ⟨by kernel_rfl, by decide +kernel⟩

set_option maxRecDepth 100000 in
theorem fnCurves_lifted (os : Os) (started : os.Started) (H : Type) (enc : TypeId × Value → H) :
    ReturnsInHanded {} Try.checked os 14 .any (Rows.fnCurvesSpec.pre6 enc Try.prog Try.f14 Rows.fnCurvesRow.domain false) (Rows.fnCurvesSpec.post enc Try.prog Try.f14 false true false false) := by
  refine returnsInHanded_of_change (C := Try.checked) Try.own started (by kernel_rfl) Try.func14
    (ChangeSpec.witness6 (enc := enc) (C := Try.checked) false ⟨#[], #[.slice none 0 0, .slice none 0 0], []⟩ 8 (by kernel_rfl) (by kernel_rfl) (by kernel_rfl) (by kernel_rfl)) ?_
  intro W base args ds gs before hval0 hW hcnd _
  have hval : ∀ (j : Nat) t v, Try.f14.params[j]? = some t → args[j]? = some v → Value.okWide Try.prog W .any base t v := hval0
  have hW' := hW
  obtain ⟨p, q, hA0, hV, rfl, hfz, hnd⟩ := hW
  have hA : DataW.TrodAll enc Try.prog W 0 (fun _ => true) true Try.f14.params.toList args.toList ds p := hA0
  rw [Try.params14] at hA hval
  obtain ⟨v0, v1, d0, d1, p0, p1, rfl, rfl, rfl, h0, h1⟩ := trodAll_two hA
  obtain ⟨rfl, rfl⟩ := trodVars_none hV
  obtain ⟨A0, n0, c0, x0, rfl, hm0, hs0, wx0⟩ := open_bytes Try.underlying39 Try.underlying5 Try.cellsU8 h0 (okWide_slice Try.underlying39 (hval 0 39 v0 rfl rfl))
  obtain ⟨A1, n1, c1, x1, rfl, hm1, hs1, wx1⟩ := open_bytes Try.underlying39 Try.underlying5 Try.cellsU8 h1 (okWide_slice Try.underlying39 (hval 1 39 v1 rfl rfl))
  clear hA0 hval0
  refine (lawFnCurves_any A0 n0 c0 x0 A1 n1 c1 x1 W hm0 hs0 wx0 hm1 hs1 wx1).mono fun e W' ⟨he, hb⟩ => ?_
  subst he
  exact ⟨_, rfl, post_law (tb := 4) Try.laidOut (by rw [Try.params14]; exact Try.read14) rfl rfl Try.underlying4 hW' rfl rfl rfl hb⟩

theorem fnCurves_holds : Rows.FnCurvesSaid :=
  OpenClaim.holds_of_wide 14 Try.f14 rfl rfl rfl rfl rfl rfl rfl ⟨rfl, rfl, rfl, rfl, rfl⟩ rfl rfl rfl rfl rfl (by kernel_rfl) Try.func14 (by kernel_rfl)
    (of_decide_eq_true (by kernel_rfl)) (by unfold Func.isWrapper; first | (rw [if_pos (by decide +kernel)]; kernel_rfl) | (rw [if_neg (by decide +kernel)]; exact ⟨rfl, rfl⟩))
    (fun os started H enc _ => fnCurves_lifted os started H enc)
end Go.Proofs.Ytbcajjpgpjadaaa
