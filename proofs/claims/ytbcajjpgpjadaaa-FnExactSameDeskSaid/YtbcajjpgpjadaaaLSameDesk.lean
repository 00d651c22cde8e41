/- The law FnExactSameDesk: whatever it is given, it returns true and changes nothing. -/
import Derived.Test.YtbcajjpgpjadaaaWSameDesk
import Derived.Test.YtbcajjpgpjadaaaRow
namespace Go.Proofs.Ytbcajjpgpjadaaa
open Go.ChangeShapes Go.WideShapes Go.ChangeAt Go.RowKit

theorem Try.read13 : ∀ t ∈ [27, 27], Try.prog.readableRec t = true ∧ t < Try.prog.types.size := by
  intro t ht
  simp only [List.mem_cons, List.not_mem_nil, or_false] at ht
  rcases ht with rfl | rfl <;> exact ⟨by kernel_rfl, by decide +kernel⟩

set_option maxRecDepth 100000 in
theorem fnExactSameDesk_lifted (os : Os) (started : os.Started) (H : Type) (enc : TypeId × Value → H) :
    ReturnsInHanded {} Try.checked os 13 .any (Rows.fnExactSameDeskSpec.pre6 enc Try.prog Try.f13 Rows.fnExactSameDeskRow.domain false) (Rows.fnExactSameDeskSpec.post enc Try.prog Try.f13 false true false false) := by
  refine returnsInHanded_of_change (C := Try.checked) Try.own started (by kernel_rfl) Try.func13
    (ChangeSpec.witness6 (enc := enc) (C := Try.checked) false ⟨#[], #[.agg #[.slice none 0 0, .slice none 0 0, .slice none 0 0, .slice none 0 0, .slice none 0 0], .agg #[.slice none 0 0, .slice none 0 0, .slice none 0 0, .slice none 0 0, .slice none 0 0]], []⟩ 8 (by kernel_rfl) (by kernel_rfl) (by kernel_rfl) (by kernel_rfl)) ?_
  intro W base args ds gs before hval0 hW hcnd _
  have hval : ∀ (j : Nat) t v, Try.f13.params[j]? = some t → args[j]? = some v → Value.okWide Try.prog W .any base t v := hval0
  have hW' := hW
  obtain ⟨p, q, hA0, hV, rfl, hfz, hnd⟩ := hW
  have hA : DataW.TrodAll enc Try.prog W 0 (fun _ => true) true Try.f13.params.toList args.toList ds p := hA0
  rw [Try.params13] at hA hval
  obtain ⟨v0, v1, d0, d1, p0, p1, rfl, rfl, rfl, h0, h1⟩ := trodAll_two hA
  obtain ⟨rfl, rfl⟩ := trodVars_none hV
  obtain ⟨A0a, n0a, c0a, A0b, n0b, c0b, A0c, n0c, c0c, A0d, n0d, c0d, A0e, n0e, c0e, x0a, x0b, x0c, x0d, x0e, rfl, hm0a, hm0b, hm0c, hm0d, hm0e, hs0a, hs0b, hs0c, hs0d, hs0e, wx0a, wx0b, wx0c, wx0d, wx0e⟩ := open_desk (td := 24) (ti := 22) (tf := 25) Try.underlying27 (by kernel_rfl) rfl rfl rfl rfl rfl rfl rfl rfl (by kernel_rfl) (by kernel_rfl) (by kernel_rfl) Try.underlying24 rfl rfl rfl rfl Try.underlying22 Try.underlying2 Try.cellsI64 Try.underlying25 Try.underlying102 Try.cellsF32 (hval 0 27 v0 rfl rfl) h0
  obtain ⟨A1a, n1a, c1a, A1b, n1b, c1b, A1c, n1c, c1c, A1d, n1d, c1d, A1e, n1e, c1e, x1a, x1b, x1c, x1d, x1e, rfl, hm1a, hm1b, hm1c, hm1d, hm1e, hs1a, hs1b, hs1c, hs1d, hs1e, wx1a, wx1b, wx1c, wx1d, wx1e⟩ := open_desk (td := 24) (ti := 22) (tf := 25) Try.underlying27 (by kernel_rfl) rfl rfl rfl rfl rfl rfl rfl rfl (by kernel_rfl) (by kernel_rfl) (by kernel_rfl) Try.underlying24 rfl rfl rfl rfl Try.underlying22 Try.underlying2 Try.cellsI64 Try.underlying25 Try.underlying102 Try.cellsF32 (hval 1 27 v1 rfl rfl) h1
  clear hA0 hval0
  refine (lawSameDesk_any A0a n0a c0a x0a A0b n0b c0b x0b A0c n0c c0c x0c A0d n0d c0d x0d A0e n0e c0e x0e A1a n1a c1a x1a A1b n1b c1b x1b A1c n1c c1c x1c A1d n1d c1d x1d A1e n1e c1e x1e W hm0a hs0a hm0b hs0b hm0c hs0c hm0d hs0d hm0e hs0e hm1a hs1a hm1b hs1b hm1c hs1c hm1d hs1d hm1e hs1e wx0e wx1e).mono fun e W' ⟨he, hb⟩ => ?_
  subst he
  exact ⟨_, rfl, post_law (tb := 4) Try.laidOut (by rw [Try.params13]; exact Try.read13) rfl rfl Try.underlying4 hW' rfl rfl rfl hb⟩

theorem fnExactSameDesk_holds : Rows.FnExactSameDeskSaid :=
  OpenClaim.holds_of_wide 13 Try.f13 rfl rfl rfl rfl rfl rfl rfl ⟨rfl, rfl, rfl, rfl, rfl⟩ rfl rfl rfl rfl rfl (by kernel_rfl) Try.func13 (by kernel_rfl)
    (of_decide_eq_true (by kernel_rfl)) (by unfold Func.isWrapper; first | (rw [if_pos (by decide +kernel)]; kernel_rfl) | (rw [if_neg (by decide +kernel)]; exact ⟨rfl, rfl⟩))
    (fun os started H enc _ => fnExactSameDesk_lifted os started H enc)
end Go.Proofs.Ytbcajjpgpjadaaa
