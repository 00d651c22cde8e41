/- The law FnExactValidTariff, walked. -/
import Derived.Test.YtfkndehhepplbaaTa
import Derived.Test.YtfkndehhepplbaaTf
import Derived.Test.YtfkndehhepplbaaRow
import Derived.Test.YtfkndehhepplbaaOt
namespace Go.Proofs.Ytfkndehhepplbaa
open Go.RowKit Go.Dues
set_option maxHeartbeats 4000000 in
theorem lawValidTariff_any (a b d : Int) (w : World) :
    Calls Try.prog 6 #[.agg #[.int .i64 a, .int .i64 b, .int .i64 d]] w fun e w' => e = .returned (.bool true) ∧ Below w.heap.size w w' := by
  obtain ⟨w0, hw0⟩ : ∃ u, u = w.alloc (.cells #[.int .i64 a, .int .i64 b, .int .i64 d] 30) := ⟨_, rfl⟩
  have HB0 : Hid (Below w.heap.size w w0) := by rw [hw0]; exact (Below.refl w.heap.size w).alloc (Nat.le_refl _) _
  have HX0 : Hid (w0.heap[w.heap.size]? = some (.cells #[.int .i64 a, .int .i64 b, .int .i64 d] 30)) := by rw [hw0]; exact blocks1 w _
  have hz0 : w.heap.size < w0.heap.size := by rw [hw0]; simp
  have HW := hide hw0
  clear hw0
  go_enter Try.func6, Try.ntmps6
  go_wp2_with fail
  rw [← HW.out]
  clear HW
  refine (toTariff_any a b d _).mono ?_
  rintro e w1 ⟨rfl, hb⟩
  have HB1 := hide (HB0.out.trans (hb.mono HB0.out.size))
  have HX1 := hide (blk_below hb hz0 HX0.out)
  have hz1 := Nat.lt_of_lt_of_le hz0 hb.size
  clear hb
  go_wp2_with fail
  refine (specValidTariff_any a b d  _).mono ?_
  rintro e w2 ⟨rfl, hb⟩
  have HB2 := hide (HB1.out.trans (hb.mono HB1.out.size))
  have HX2 := hide (blk_below hb hz1 HX1.out)
  have hz2 := Nat.lt_of_lt_of_le hz1 hb.size
  clear hb
  have k0 := Joins.cell_of_block HX2.out 0
  have k1 := Joins.cell_of_block HX2.out 1
  have k2 := Joins.cell_of_block HX2.out 2
  simp at k0 k1 k2
  go_wp2_with fail
  clear k0 k1 k2
  refine (toTariff_any a b d _).mono ?_
  rintro e w3 ⟨rfl, hb⟩
  have HB3 := hide (HB2.out.trans (hb.mono HB2.out.size))
  have HX3 := hide (blk_below hb hz2 HX2.out)
  have hz3 := Nat.lt_of_lt_of_le hz2 hb.size
  clear hb
  go_wp2_with fail
  refine (implValidTariff_any a b d  _).mono ?_
  rintro e w4 ⟨rfl, hb⟩
  have HB4 := hide (HB3.out.trans (hb.mono HB3.out.size))
  have HX4 := hide (blk_below hb hz3 HX3.out)
  have hz4 := Nat.lt_of_lt_of_le hz3 hb.size
  clear hb
  go_wp2_with fail
  go_ret
  exact ⟨rfl, HB4.out⟩
end Go.Proofs.Ytfkndehhepplbaa
