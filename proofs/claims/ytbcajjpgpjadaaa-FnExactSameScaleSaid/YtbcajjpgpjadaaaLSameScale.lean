/- The law FnExactSameScale: whatever it is given, it returns true and changes nothing. -/
import Derived.Test.YtbcajjpgpjadaaaWSameScale
import Derived.Test.YtbcajjpgpjadaaaRow
namespace Go.Proofs.Ytbcajjpgpjadaaa
open Go.ChangeShapes Go.WideShapes Go.ChangeAt Go.RowKit

theorem Try.read10 : ∀ t ∈ [24, 24], Try.prog.readableRec t = true ∧ t < Try.prog.types.size := by
  intro t ht
  simp only [List.mem_cons, List.not_mem_nil, or_false] at ht
  rcases ht with rfl | rfl <;> exact ⟨by kernel_rfl, by decide +kernel⟩

set_option maxRecDepth 100000 in
theorem fnExactSameScale_lifted (os : Os) (started : os.Started) (H : Type) (enc : TypeId × Value → H) :
    ReturnsInHanded {} Try.checked os 10 .any (Rows.fnExactSameScaleSpec.pre6 enc Try.prog Try.f10 Rows.fnExactSameScaleRow.domain false) (Rows.fnExactSameScaleSpec.post enc Try.prog Try.f10 false true false false) := by
  refine returnsInHanded_of_change (C := Try.checked) Try.own started (by kernel_rfl) Try.func10
    (ChangeSpec.witness6 (enc := enc) (C := Try.checked) false ⟨#[], #[.agg #[.slice none 0 0, .slice none 0 0], .agg #[.slice none 0 0, .slice none 0 0]], []⟩ 8 (by kernel_rfl) (by kernel_rfl) (by kernel_rfl) (by kernel_rfl)) ?_
  intro W base args ds gs before hval0 hW hcnd _
  have hval : ∀ (j : Nat) t v, Try.f10.params[j]? = some t → args[j]? = some v → Value.okWide Try.prog W .any base t v := hval0
  have hW' := hW
  obtain ⟨p, q, hA0, hV, rfl, hfz, hnd⟩ := hW
  have hA : DataW.TrodAll enc Try.prog W 0 (fun _ => true) true Try.f10.params.toList args.toList ds p := hA0
  rw [Try.params10] at hA hval
  obtain ⟨v0, v1, d0, d1, p0, p1, rfl, rfl, rfl, h0, h1⟩ := trodAll_two hA
  obtain ⟨rfl, rfl⟩ := trodVars_none hV
  obtain ⟨A0, n0, c0, A0', n0', c0', x0, y0, rfl, hm0, hm0', hs0, hs0', wx0, wy0⟩ := open_two Try.underlying24 (by kernel_rfl) (by kernel_rfl) rfl rfl Try.underlying22 Try.underlying2 Try.cellsI64 (hval 0 24 v0 rfl rfl) h0
  obtain ⟨A1, n1, c1, A1', n1', c1', x1, y1, rfl, hm1, hm1', hs1, hs1', wx1, wy1⟩ := open_two Try.underlying24 (by kernel_rfl) (by kernel_rfl) rfl rfl Try.underlying22 Try.underlying2 Try.cellsI64 (hval 1 24 v1 rfl rfl) h1
  clear hA0 hval0
  refine (lawSameScale_any A0 n0 c0 x0 A0' n0' c0' y0 A1 n1 c1 x1 A1' n1' c1' y1 W hm0 hs0 hm0' hs0' hm1 hs1 hm1' hs1').mono fun e W' ⟨he, hb⟩ => ?_
  subst he
  exact ⟨_, rfl, post_law (tb := 4) Try.laidOut (by rw [Try.params10]; exact Try.read10) rfl rfl Try.underlying4 hW' rfl rfl rfl hb⟩

theorem fnExactSameScale_holds : Rows.FnExactSameScaleSaid :=
  OpenClaim.holds_of_wide 10 Try.f10 rfl rfl rfl rfl rfl rfl rfl ⟨rfl, rfl, rfl, rfl, rfl⟩ rfl rfl rfl rfl rfl (by kernel_rfl) Try.func10 (by kernel_rfl)
    (of_decide_eq_true (by kernel_rfl)) (by unfold Func.isWrapper; first | (rw [if_pos (by decide +kernel)]; kernel_rfl) | (rw [if_neg (by decide +kernel)]; exact ⟨rfl, rfl⟩))
    (fun os started H enc _ => fnExactSameScale_lifted os started H enc)
end Go.Proofs.Ytbcajjpgpjadaaa
