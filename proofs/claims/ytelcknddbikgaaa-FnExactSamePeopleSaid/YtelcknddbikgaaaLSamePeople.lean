/- The law FnExactSamePeople: whatever it is given, it returns true and changes nothing. -/
import Derived.Test.YtelcknddbikgaaaWSamePeople
import Derived.Test.YtelcknddbikgaaaRow
namespace Go.Proofs.Ytelcknddbikgaaa
open Go.ChangeShapes Go.WideShapes Go.ChangeAt Go.RowKit

theorem Try.read11 : ∀ t ∈ [37, 37], Try.prog.readableRec t = true ∧ t < Try.prog.types.size := by
  intro t ht
  simp only [List.mem_cons, List.not_mem_nil, or_false] at ht
  rcases ht with rfl | rfl <;> exact ⟨by kernel_rfl, by decide +kernel⟩

set_option maxRecDepth 100000 in
theorem fnExactSamePeople_lifted (os : Os) (started : os.Started) (H : Type) (enc : TypeId × Value → H) :
    ReturnsInHanded {} Try.checked os 11 .any (Rows.fnExactSamePeopleSpec.pre6 enc Try.prog Try.f11 Rows.fnExactSamePeopleRow.domain false) (Rows.fnExactSamePeopleSpec.post enc Try.prog Try.f11 false true false false) := by
  refine returnsInHanded_of_change (C := Try.checked) Try.own started (by kernel_rfl) Try.func11
    (ChangeSpec.witness6 (enc := enc) (C := Try.checked) false ⟨#[], #[.agg #[.slice none 0 0, .slice none 0 0, .slice none 0 0], .agg #[.slice none 0 0, .slice none 0 0, .slice none 0 0]], []⟩ 8 (by kernel_rfl) (by kernel_rfl) (by kernel_rfl) (by kernel_rfl)) ?_
  intro W base args ds gs before hval0 hW hcnd _
  have hval : ∀ (j : Nat) t v, Try.f11.params[j]? = some t → args[j]? = some v → Value.okWide Try.prog W .any base t v := hval0
  have hW' := hW
  obtain ⟨p, q, hA0, hV, rfl, hfz, hnd⟩ := hW
  have hA : DataW.TrodAll enc Try.prog W 0 (fun _ => true) true Try.f11.params.toList args.toList ds p := hA0
  rw [Try.params11] at hA hval
  obtain ⟨v0, v1, d0, d1, p0, p1, rfl, rfl, rfl, h0, h1⟩ := trodAll_two hA
  obtain ⟨rfl, rfl⟩ := trodVars_none hV
  obtain ⟨A0a, n0a, c0a, A0b, n0b, c0b, A0c, n0c, c0c, x0a, x0b, x0c, rfl, hm0a, hm0b, hm0c, hs0a, hs0b, hs0c, wx0a, wx0b, wx0c⟩ := open_ppl Try.underlying37 (by kernel_rfl) (by kernel_rfl) rfl rfl rfl Try.underlying35 Try.underlying45 Try.cellsF32 (hval 0 37 v0 rfl rfl) h0
  obtain ⟨A1a, n1a, c1a, A1b, n1b, c1b, A1c, n1c, c1c, x1a, x1b, x1c, rfl, hm1a, hm1b, hm1c, hs1a, hs1b, hs1c, wx1a, wx1b, wx1c⟩ := open_ppl Try.underlying37 (by kernel_rfl) (by kernel_rfl) rfl rfl rfl Try.underlying35 Try.underlying45 Try.cellsF32 (hval 1 37 v1 rfl rfl) h1
  clear hA0 hval0
  refine (lawSamePeople_any A0a n0a c0a x0a A0b n0b c0b x0b A0c n0c c0c x0c A1a n1a c1a x1a A1b n1b c1b x1b A1c n1c c1c x1c W hm0a hs0a wx0a hm0b hs0b wx0b hm0c hs0c wx0c hm1a hs1a wx1a hm1b hs1b wx1b hm1c hs1c wx1c).mono fun e W' ⟨he, hb⟩ => ?_
  subst he
  exact ⟨_, rfl, post_law (tb := 4) Try.laidOut (by rw [Try.params11]; exact Try.read11) rfl rfl Try.underlying4 hW' rfl rfl rfl hb⟩

theorem fnExactSamePeople_holds : Rows.FnExactSamePeopleSaid :=
  OpenClaim.holds_of_wide 11 Try.f11 rfl rfl rfl rfl rfl rfl rfl ⟨rfl, rfl, rfl, rfl, rfl⟩ rfl rfl rfl rfl rfl (by kernel_rfl) Try.func11 (by kernel_rfl)
    (of_decide_eq_true (by kernel_rfl)) (by unfold Func.isWrapper; first | (rw [if_pos (by decide +kernel)]; kernel_rfl) | (rw [if_neg (by decide +kernel)]; exact ⟨rfl, rfl⟩))
    (fun os started H enc _ => fnExactSamePeople_lifted os started H enc)
end Go.Proofs.Ytelcknddbikgaaa
