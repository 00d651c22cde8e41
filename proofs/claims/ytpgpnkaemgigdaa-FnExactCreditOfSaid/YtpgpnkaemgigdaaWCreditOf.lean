/- The law FnExactCreditOf, walked. -/
import Derived.Test.YtpgpnkaemgigdaaAm
import Derived.Deep.RegionHeld3
namespace Go.Proofs.Ytpgpnkaemgigdaa
open Go.RowKit Go.Dues
set_option maxHeartbeats 4000000 in
theorem lawCreditOf_any (v0 : Int) (v1 : Int) (v2 : Bool) (w : World) (wv0 : -9223372036854775808 ≤ v0 ∧ v0 ≤ 9223372036854775807) (wv1 : -9223372036854775808 ≤ v1 ∧ v1 ≤ 9223372036854775807) :
    Calls Try.prog 10 #[.int .i64 v0, .int .i64 v1, .bool v2] w fun e w' => e = .returned (.bool true) ∧ Below w.heap.size w w' := by
  have WV0 := hide wv0
  clear wv0
  have WV1 := hide wv1
  clear wv1
  go_enter Try.func10, Try.ntmps10
  have HB0 := hide (Below.refl w.heap.size w)
  go_wp2_with fail
  refine (specCreditOf_any v0 v1 v2 _ ).mono ?_
  rintro e w1 ⟨rfl, hb⟩
  have HB1 := hide (HB0.out.trans (hb.mono HB0.out.size))
  clear hb
  go_wp2_with fail
  refine (implCreditOf_any v0 v1 v2 _ ).mono ?_
  rintro e w2 ⟨rfl, hb⟩
  have HB2 := hide (HB1.out.trans (hb.mono HB1.out.size))
  clear hb
  go_wp2_with fail
  go_ret
  exact ⟨rfl, HB2.out⟩
end Go.Proofs.Ytpgpnkaemgigdaa
