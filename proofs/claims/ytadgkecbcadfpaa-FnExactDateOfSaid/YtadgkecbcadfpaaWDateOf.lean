/- The law FnExactDateOf, walked. -/
import Derived.Test.YtadgkecbcadfpaaDa
import Derived.Test.YtadgkecbcadfpaaRow
import Derived.Deep.RegionHeld3
namespace Go.Proofs.Ytadgkecbcadfpaa
open Go.RowKit Go.Dues
set_option maxHeartbeats 4000000 in
theorem lawDateOf_any (v0 : Int) (w : World) (wv0 : -9223372036854775808 ≤ v0 ∧ v0 ≤ 9223372036854775807) :
    Calls Try.prog 9 #[.int .i64 v0] w fun e w' => e = .returned (.bool true) ∧ Below w.heap.size w w' := by
  have WV0 := hide wv0
  clear wv0
  go_enter Try.func9, Try.ntmps9
  have HB0 := hide (Below.refl w.heap.size w)
  go_wp2_with fail
  refine (specDateOf_any v0 _ ).mono ?_
  rintro e w1 ⟨rfl, hb⟩
  have HB1 := hide (HB0.out.trans (hb.mono HB0.out.size))
  clear hb
  go_wp2_with fail
  refine (implDateOf_any v0 _ ).mono ?_
  rintro e w2 ⟨rfl, hb⟩
  have HB2 := hide (HB1.out.trans (hb.mono HB1.out.size))
  clear hb
  go_wp2_with fail
  go_ret
  exact ⟨rfl, HB2.out⟩
end Go.Proofs.Ytadgkecbcadfpaa
