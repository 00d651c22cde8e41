/- The law FnExactNeedsOf: whatever it is given, it returns true and changes nothing. -/
import Derived.Test.YtjndhcdanpnniaaWNeedsOf
import Derived.Test.YtjndhcdanpnniaaRow
namespace Go.Proofs.Ytjndhcdanpnniaa
open Go.ChangeShapes Go.WideShapes Go.ChangeAt Go.RowKit

theorem Try.read14 : ∀ t ∈ [33, 2, 2], Try.prog.readableRec t = true ∧ t < Try.prog.types.size := by
  intro t ht
  simp only [List.mem_cons, List.not_mem_nil, or_false] at ht
  rcases ht with rfl | rfl | rfl <;> exact ⟨by kernel_rfl, by decide +kernel⟩

set_option maxRecDepth 100000 in
theorem fnExactNeedsOf_lifted (os : Os) (started : os.Started) (H : Type) (enc : TypeId × Value → H) :
    ReturnsInHanded {} Try.checked os 14 .any (Rows.fnExactNeedsOfSpec.pre6 enc Try.prog Try.f14 Rows.fnExactNeedsOfRow.domain false) (Rows.fnExactNeedsOfSpec.post enc Try.prog Try.f14 false true false false) := by
  refine returnsInHanded_of_change (C := Try.checked) Try.own started (by kernel_rfl) Try.func14
    (ChangeSpec.witness6 (enc := enc) (C := Try.checked) false ⟨#[], #[.slice none 0 0, .int .i64 0, .int .i64 0], []⟩ 8 (by kernel_rfl) (by kernel_rfl) (by kernel_rfl) (by kernel_rfl)) ?_
  intro W base args ds gs before hval0 hW hcnd _
  have hval : ∀ (j : Nat) t v, Try.f14.params[j]? = some t → args[j]? = some v → Value.okWide Try.prog W .any base t v := hval0
  have hW' := hW
  obtain ⟨p, q, hA0, hV, rfl, hfz, hnd⟩ := hW
  have hA : DataW.TrodAll enc Try.prog W 0 (fun _ => true) true Try.f14.params.toList args.toList ds p := hA0
  rw [Try.params14] at hA hval
  obtain ⟨v0, v1, v2, d0, d1, d2, p0, p1, p2, rfl, rfl, rfl, h0, h1, h2⟩ := trodAll_three hA
  obtain ⟨rfl, rfl⟩ := trodVars_none hV
  obtain ⟨A0, n0, c0, x0, rfl, hm0, hs0, hv0⟩ := open_rules Try.underlying33 Try.underlying58 (by kernel_rfl) (by kernel_rfl) Try.underlying2 rfl Try.underlying2 Try.underlying2 Try.underlying2 Try.underlying24 Try.underlying2 Try.cellsI64 h0 (okWide_slice Try.underlying33 (hval 0 33 v0 rfl rfl))
  obtain ⟨x1, rfl, rfl, rfl, wx1⟩ := open_int Try.underlying2 (hval 1 2 v1 rfl rfl) h1
  obtain ⟨x2, rfl, rfl, rfl, wx2⟩ := open_int Try.underlying2 (hval 2 2 v2 rfl rfl) h2
  clear hA0 hval0
  refine (lawNeedsOf_any A0 n0 c0 x0 x1 x2 W hm0 hs0 hv0 (bd64 wx1) (bd64 wx2)).mono fun e W' ⟨he, hb⟩ => ?_
  subst he
  exact ⟨_, rfl, post_law (tb := 4) Try.laidOut (by rw [Try.params14]; exact Try.read14) rfl rfl Try.underlying4 hW' rfl rfl rfl hb⟩

set_option maxHeartbeats 4000000 in
theorem fnExactNeedsOf_facts : joinedFacts Try.pinned.checked.prog 14 Try.f14 Rows.fnExactNeedsOfSpec Rows.fnExactNeedsOfRow = true := by
  unfold joinedFacts
  rw [regroup32]
  exact and_t (by as_aux_lemma => kernel_rfl) (and_t (by as_aux_lemma => kernel_rfl) (and_t (by as_aux_lemma => kernel_rfl) (by as_aux_lemma => kernel_rfl)))
theorem fnExactNeedsOf_holds : Rows.FnExactNeedsOfSaid :=
  OpenClaim.holds_of_wide 14 Try.f14 rfl rfl rfl rfl rfl rfl rfl ⟨rfl, rfl, rfl, rfl, rfl⟩ rfl rfl rfl rfl rfl (by kernel_rfl) Try.func14 fnExactNeedsOf_facts
    (of_decide_eq_true (by kernel_rfl)) (by unfold Func.isWrapper; first | (rw [if_pos (by decide +kernel)]; kernel_rfl) | (rw [if_neg (by decide +kernel)]; exact ⟨rfl, rfl⟩))
    (fun os started H enc _ => fnExactNeedsOf_lifted os started H enc)
end Go.Proofs.Ytjndhcdanpnniaa
