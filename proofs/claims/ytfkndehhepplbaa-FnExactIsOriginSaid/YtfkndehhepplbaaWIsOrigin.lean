/- The law FnExactIsOrigin, walked. -/
import Derived.Test.YtfkndehhepplbaaNp
import Derived.Test.YtfkndehhepplbaaRow
import Derived.Deep.RegionHeld3
namespace Go.Proofs.Ytfkndehhepplbaa
open Go.RowKit Go.Dues
set_option maxHeartbeats 4000000 in
theorem lawIsOrigin_any (v0 : Int) (v1 : Int) (v2 : Int) (w : World) (wv0 : -9223372036854775808 ≤ v0 ∧ v0 ≤ 9223372036854775807) (wv1 : -9223372036854775808 ≤ v1 ∧ v1 ≤ 9223372036854775807) (wv2 : -9223372036854775808 ≤ v2 ∧ v2 ≤ 9223372036854775807) :
    Calls Try.prog 4 #[.int .i64 v0, .int .i64 v1, .int .i64 v2] w fun e w' => e = .returned (.bool true) ∧ Below w.heap.size w w' := by
  have WV0 := hide wv0
  clear wv0
  have WV1 := hide wv1
  clear wv1
  have WV2 := hide wv2
  clear wv2
  go_enter Try.func4, Try.ntmps4
  have HB0 := hide (Below.refl w.heap.size w)
  go_wp2_with fail
  refine (specIsOrigin_any v0 v1 v2 _ ).mono ?_
  rintro e w1 ⟨rfl, hb⟩
  have HB1 := hide (HB0.out.trans (hb.mono HB0.out.size))
  clear hb
  go_wp2_with fail
  refine (implIsOrigin_any v0 v1 v2 _ ).mono ?_
  rintro e w2 ⟨rfl, hb⟩
  have HB2 := hide (HB1.out.trans (hb.mono HB1.out.size))
  clear hb
  go_wp2_with fail
  go_ret
  exact ⟨rfl, HB2.out⟩
end Go.Proofs.Ytfkndehhepplbaa
