/- The law FnExactCreditLimit, walked. -/
import Derived.Test.YtfkndehhepplbaaNp
import Derived.Test.YtfkndehhepplbaaRow
import Derived.Deep.RegionHeld3
namespace Go.Proofs.Ytfkndehhepplbaa
open Go.RowKit Go.Dues
set_option maxHeartbeats 4000000 in
theorem lawCreditLimit_any (v0 : Int) (v1 : Int) (v2 : Int) (v3 : Int) (w : World) (wv0 : -9223372036854775808 ≤ v0 ∧ v0 ≤ 9223372036854775807) (wv1 : -9223372036854775808 ≤ v1 ∧ v1 ≤ 9223372036854775807) (wv2 : -9223372036854775808 ≤ v2 ∧ v2 ≤ 9223372036854775807) (wv3 : -9223372036854775808 ≤ v3 ∧ v3 ≤ 9223372036854775807) :
    Calls Try.prog 5 #[.int .i64 v0, .int .i64 v1, .int .i64 v2, .int .i64 v3] w fun e w' => e = .returned (.bool true) ∧ Below w.heap.size w w' := by
  have WV0 := hide wv0
  clear wv0
  have WV1 := hide wv1
  clear wv1
  have WV2 := hide wv2
  clear wv2
  have WV3 := hide wv3
  clear wv3
  go_enter Try.func5, Try.ntmps5
  have HB0 := hide (Below.refl w.heap.size w)
  go_wp2_with fail
  refine (specCreditLimit_any v0 v1 v2 v3 _ ).mono ?_
  rintro e w1 ⟨rfl, hb⟩
  have HB1 := hide (HB0.out.trans (hb.mono HB0.out.size))
  clear hb
  go_wp2_with fail
  refine (implCreditLimit_any v0 v1 v2 v3 _ ).mono ?_
  rintro e w2 ⟨rfl, hb⟩
  have HB2 := hide (HB1.out.trans (hb.mono HB1.out.size))
  clear hb
  go_wp2_with fail
  go_ret
  exact ⟨rfl, HB2.out⟩
end Go.Proofs.Ytfkndehhepplbaa
