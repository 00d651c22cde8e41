/- The law FnExactLifeLeft: whatever it is given, it returns true and changes nothing. -/
import Derived.Test.YtjebkagbknmdoaaWLifeLeft
import Derived.Test.YtjebkagbknmdoaaRow
namespace Go.Proofs.Ytjebkagbknmdoaa
open Go.ChangeShapes Go.WideShapes Go.ChangeAt Go.RowKit

theorem Try.read6 : ∀ t ∈ [47], Try.prog.readableRec t = true ∧ t < Try.prog.types.size := by
  intro t ht
  simp only [List.mem_cons, List.not_mem_nil, or_false] at ht
  subst ht; exact ⟨by kernel_rfl, by decide +kernel⟩

set_option maxRecDepth 100000 in
theorem fnExactLifeLeft_lifted (os : Os) (started : os.Started) (H : Type) (enc : TypeId × Value → H) :
    ReturnsInHanded {} Try.checked os 6 .any (Rows.fnExactLifeLeftSpec.pre6 enc Try.prog Try.f6 Rows.fnExactLifeLeftRow.domain false) (Rows.fnExactLifeLeftSpec.post enc Try.prog Try.f6 false true false false) := by
  refine returnsInHanded_of_change (C := Try.checked) Try.own started (by kernel_rfl) Try.func6
    (ChangeSpec.witness6 (enc := enc) (C := Try.checked) false ⟨#[], #[.agg #[.slice none 0 0, .slice none 0 0, .slice none 0 0]], []⟩ 8 (by kernel_rfl) (by kernel_rfl) (by kernel_rfl) (by kernel_rfl)) ?_
  intro W base args ds gs before hval0 hW hcnd _
  have hval : ∀ (j : Nat) t v, Try.f6.params[j]? = some t → args[j]? = some v → Value.okWide Try.prog W .any base t v := hval0
  have hW' := hW
  obtain ⟨p, q, hA0, hV, rfl, hfz, hnd⟩ := hW
  have hA : DataW.TrodAll enc Try.prog W 0 (fun _ => true) true Try.f6.params.toList args.toList ds p := hA0
  rw [Try.params6] at hA hval
  obtain ⟨v0, d0, rfl, rfl, h0⟩ := trodAll_one hA
  obtain ⟨rfl, rfl⟩ := trodVars_none hV
  obtain ⟨A0a, n0a, c0a, A0b, n0b, c0b, A0c, n0c, c0c, x0a, x0b, x0c, rfl, hm0a, hm0b, hm0c, hs0a, hs0b, hs0c, wx0a, wx0b, wx0c⟩ := open_ppl Try.underlying47 (by kernel_rfl) (by kernel_rfl) rfl rfl rfl Try.underlying45 Try.underlying62 Try.cellsF32 (hval 0 47 v0 rfl rfl) h0
  clear hA0 hval0
  refine (lawLifeLeft_any A0a n0a c0a x0a A0b n0b c0b x0b A0c n0c c0c x0c W hm0a hs0a hm0b hs0b hm0c hs0c).mono fun e W' ⟨he, hb⟩ => ?_
  subst he
  exact ⟨_, rfl, post_law (tb := 4) Try.laidOut (by rw [Try.params6]; exact Try.read6) rfl rfl Try.underlying4 hW' rfl rfl rfl hb⟩

theorem fnExactLifeLeft_holds : Rows.FnExactLifeLeftSaid :=
  OpenClaim.holds_of_wide 6 Try.f6 rfl rfl rfl rfl rfl rfl rfl ⟨rfl, rfl, rfl, rfl, rfl⟩ rfl rfl rfl rfl rfl (by kernel_rfl) Try.func6 (by kernel_rfl)
    (of_decide_eq_true (by kernel_rfl)) (by unfold Func.isWrapper; first | (rw [if_pos (by decide +kernel)]; kernel_rfl) | (rw [if_neg (by decide +kernel)]; exact ⟨rfl, rfl⟩))
    (fun os started H enc _ => fnExactLifeLeft_lifted os started H enc)
end Go.Proofs.Ytjebkagbknmdoaa
