/- The law FnExactRunFund: whatever it is given, it returns true and changes nothing. -/
import Derived.Test.YtelcknddbikgaaaWRunFund
import Derived.Test.YtelcknddbikgaaaRow
namespace Go.Proofs.Ytelcknddbikgaaa
open Go.ChangeShapes Go.WideShapes Go.ChangeAt Go.RowKit

theorem Try.read13 : ∀ t ∈ [45, 35, 35, 35], Try.prog.readableRec t = true ∧ t < Try.prog.types.size := by
  intro t ht
  simp only [List.mem_cons, List.not_mem_nil, or_false] at ht
  rcases ht with rfl | rfl | rfl | rfl <;> exact ⟨by kernel_rfl, by decide +kernel⟩

set_option maxRecDepth 100000 in
theorem fnExactRunFund_lifted (os : Os) (started : os.Started) (H : Type) (enc : TypeId × Value → H) :
    ReturnsInHanded {} Try.checked os 13 .any (Rows.fnExactRunFundSpec.pre6 enc Try.prog Try.f13 Rows.fnExactRunFundRow.domain false) (Rows.fnExactRunFundSpec.post enc Try.prog Try.f13 false true false false) := by
  refine returnsInHanded_of_change (C := Try.checked) Try.own started (by kernel_rfl) Try.func13
    (ChangeSpec.witness6 (enc := enc) (C := Try.checked) false ⟨#[], #[.float .f32 0, .slice none 0 0, .slice none 0 0, .slice none 0 0], []⟩ 8 (by kernel_rfl) (by kernel_rfl) (by kernel_rfl) (by kernel_rfl)) ?_
  intro W base args ds gs before hval0 hW hcnd _
  have hval : ∀ (j : Nat) t v, Try.f13.params[j]? = some t → args[j]? = some v → Value.okWide Try.prog W .any base t v := hval0
  have hW' := hW
  obtain ⟨p, q, hA0, hV, rfl, hfz, hnd⟩ := hW
  have hA : DataW.TrodAll enc Try.prog W 0 (fun _ => true) true Try.f13.params.toList args.toList ds p := hA0
  rw [Try.params13] at hA hval
  obtain ⟨v0, v1, v2, v3, d0, d1, d2, d3, p0, p1, p2, p3, rfl, rfl, rfl, h0, h1, h2, h3⟩ := trodAll_four hA
  obtain ⟨rfl, rfl⟩ := trodVars_none hV
  obtain ⟨x0, rfl, rfl, rfl, wx0⟩ := open_float Try.underlying45 (hval 0 45 v0 rfl rfl) h0
  obtain ⟨A1, n1, c1, x1, rfl, hm1, hs1, wx1⟩ := open_fl Try.underlying35 Try.underlying45 Try.cellsF32 h1 (okWide_slice Try.underlying35 (hval 1 35 v1 rfl rfl))
  obtain ⟨A2, n2, c2, x2, rfl, hm2, hs2, wx2⟩ := open_fl Try.underlying35 Try.underlying45 Try.cellsF32 h2 (okWide_slice Try.underlying35 (hval 2 35 v2 rfl rfl))
  obtain ⟨A3, n3, c3, x3, rfl, hm3, hs3, wx3⟩ := open_fl Try.underlying35 Try.underlying45 Try.cellsF32 h3 (okWide_slice Try.underlying35 (hval 3 35 v3 rfl rfl))
  clear hA0 hval0
  refine (lawRunFund_any x0 A1 n1 c1 x1 A2 n2 c2 x2 A3 n3 c3 x3 W hm1 hs1 wx1 hm2 hs2 wx2 hm3 hs3 wx3 (bd32 wx0)).mono fun e W' ⟨he, hb⟩ => ?_
  subst he
  exact ⟨_, rfl, post_law (tb := 4) Try.laidOut (by rw [Try.params13]; exact Try.read13) rfl rfl Try.underlying4 hW' rfl rfl rfl hb⟩

theorem fnExactRunFund_holds : Rows.FnExactRunFundSaid :=
  OpenClaim.holds_of_wide 13 Try.f13 rfl rfl rfl rfl rfl rfl rfl ⟨rfl, rfl, rfl, rfl, rfl⟩ rfl rfl rfl rfl rfl (by kernel_rfl) Try.func13 (by kernel_rfl)
    (of_decide_eq_true (by kernel_rfl)) (by unfold Func.isWrapper; first | (rw [if_pos (by decide +kernel)]; kernel_rfl) | (rw [if_neg (by decide +kernel)]; exact ⟨rfl, rfl⟩))
    (fun os started H enc _ => fnExactRunFund_lifted os started H enc)
end Go.Proofs.Ytelcknddbikgaaa
