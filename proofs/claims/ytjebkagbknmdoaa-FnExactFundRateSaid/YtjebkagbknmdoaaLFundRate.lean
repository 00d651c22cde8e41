/- The law FnExactFundRate: whatever it is given, it returns true and changes nothing. -/
import Derived.Test.YtjebkagbknmdoaaWFundRate
import Derived.Test.YtjebkagbknmdoaaRow
namespace Go.Proofs.Ytjebkagbknmdoaa
open Go.ChangeShapes Go.WideShapes Go.ChangeAt Go.RowKit

theorem Try.read7 : ∀ t ∈ [62, 45, 45, 45, 2], Try.prog.readableRec t = true ∧ t < Try.prog.types.size := by
  intro t ht
  simp only [List.mem_cons, List.not_mem_nil, or_false] at ht
  rcases ht with rfl | rfl | rfl | rfl | rfl <;> exact ⟨by kernel_rfl, by decide +kernel⟩

set_option maxRecDepth 100000 in
theorem fnExactFundRate_lifted (os : Os) (started : os.Started) (H : Type) (enc : TypeId × Value → H) :
    ReturnsInHanded {} Try.checked os 7 .any (Rows.fnExactFundRateSpec.pre6 enc Try.prog Try.f7 Rows.fnExactFundRateRow.domain false) (Rows.fnExactFundRateSpec.post enc Try.prog Try.f7 false true false false) := by
  refine returnsInHanded_of_change (C := Try.checked) Try.own started (by kernel_rfl) Try.func7
    (ChangeSpec.witness6 (enc := enc) (C := Try.checked) false ⟨#[], #[.float .f32 0, .slice none 0 0, .slice none 0 0, .slice none 0 0, .int .i64 0], []⟩ 8 (by kernel_rfl) (by kernel_rfl) (by kernel_rfl) (by kernel_rfl)) ?_
  intro W base args ds gs before hval0 hW hcnd _
  have hval : ∀ (j : Nat) t v, Try.f7.params[j]? = some t → args[j]? = some v → Value.okWide Try.prog W .any base t v := hval0
  have hW' := hW
  obtain ⟨p, q, hA0, hV, rfl, hfz, hnd⟩ := hW
  have hA : DataW.TrodAll enc Try.prog W 0 (fun _ => true) true Try.f7.params.toList args.toList ds p := hA0
  rw [Try.params7] at hA hval
  obtain ⟨v0, vs0, d0, ds0, p0, q0, hargs, rfl, rfl, h0, r0⟩ := trodAll_cons hA
  obtain ⟨v1, vs1, d1, ds1, p1, q1, rfl, rfl, rfl, h1, r1⟩ := trodAll_cons r0
  obtain ⟨v2, vs2, d2, ds2, p2, q2, rfl, rfl, rfl, h2, r2⟩ := trodAll_cons r1
  obtain ⟨v3, vs3, d3, ds3, p3, q3, rfl, rfl, rfl, h3, r3⟩ := trodAll_cons r2
  obtain ⟨v4, vs4, d4, ds4, p4, q4, rfl, rfl, rfl, h4, r4⟩ := trodAll_cons r3
  obtain ⟨rfl, rfl, rfl⟩ := trodAll_nil r4
  obtain ⟨args⟩ := args
  simp only at hargs
  subst hargs
  obtain ⟨rfl, rfl⟩ := trodVars_none hV
  obtain ⟨x0, rfl, rfl, rfl, wx0⟩ := open_float Try.underlying62 (hval 0 62 v0 rfl rfl) h0
  obtain ⟨A1, n1, c1, x1, rfl, hm1, hs1, wx1⟩ := open_fl Try.underlying45 Try.underlying62 Try.cellsF32 h1 (okWide_slice Try.underlying45 (hval 1 45 v1 rfl rfl))
  obtain ⟨A2, n2, c2, x2, rfl, hm2, hs2, wx2⟩ := open_fl Try.underlying45 Try.underlying62 Try.cellsF32 h2 (okWide_slice Try.underlying45 (hval 2 45 v2 rfl rfl))
  obtain ⟨A3, n3, c3, x3, rfl, hm3, hs3, wx3⟩ := open_fl Try.underlying45 Try.underlying62 Try.cellsF32 h3 (okWide_slice Try.underlying45 (hval 3 45 v3 rfl rfl))
  obtain ⟨x4, rfl, rfl, rfl, wx4⟩ := open_int Try.underlying2 (hval 4 2 v4 rfl rfl) h4
  clear hA0 hval0
  refine (lawFundRate_any x0 A1 n1 c1 x1 A2 n2 c2 x2 A3 n3 c3 x3 x4 W hm1 hs1 wx1 hm2 hs2 wx2 hm3 hs3 wx3 (bd32 wx0) (bd64 wx4)).mono fun e W' ⟨he, hb⟩ => ?_
  subst he
  exact ⟨_, rfl, post_law (tb := 4) Try.laidOut (by rw [Try.params7]; exact Try.read7) rfl rfl Try.underlying4 hW' rfl rfl rfl hb⟩

theorem fnExactFundRate_holds : Rows.FnExactFundRateSaid :=
  OpenClaim.holds_of_wide 7 Try.f7 rfl rfl rfl rfl rfl rfl rfl ⟨rfl, rfl, rfl, rfl, rfl⟩ rfl rfl rfl rfl rfl (by kernel_rfl) Try.func7 (by kernel_rfl)
    (of_decide_eq_true (by kernel_rfl)) (by unfold Func.isWrapper; first | (rw [if_pos (by decide +kernel)]; kernel_rfl) | (rw [if_neg (by decide +kernel)]; exact ⟨rfl, rfl⟩))
    (fun os started H enc _ => fnExactFundRate_lifted os started H enc)
end Go.Proofs.Ytjebkagbknmdoaa
