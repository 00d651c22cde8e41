/- The law FnExactLaterValue, walked. -/
import Derived.Test.YtjefpcmegkeceabFq
import Derived.Test.YtjefpcmegkeceabRow
namespace Go.Proofs.Ytjefpcmegkeceab
open Go.RowKit Go.Dues
set_option maxRecDepth 100000 in
set_option maxHeartbeats 4000000 in
theorem lawLaterValue_any (A : Option Addr) (n c : Nat) (x : Nat → Nat) (v1 : Nat) (v2 : Int) (w : World) (hm : n ≤ maxLen) (hs : SL w A n (fun j => .float .f32 (x j))) (wv2 : -9223372036854775808 ≤ v2 ∧ v2 ≤ 9223372036854775807) :
    Calls Try.prog 6 #[.slice A n c, .float .f32 v1, .int .i64 v2] w fun e w' => e = .returned (.bool true) ∧ Below w.heap.size w w' := by
  unfold maxLen at hm
  have hwd := fun (w : World) (b : Nat) => run_widen_eq (P := Try.prog) w 29 33 b (by rw [Try.underlying29]; rfl) Try.underlying33
  have WV2 := hide wv2
  clear wv2
  by_cases h20 : 1048576 < n
  · clear hs
    go_enter Try.func6, Try.ntmps6
    go_wp2
    go_ret
    exact ⟨rfl, Below.refl _ _⟩
  have HS := hide hs
  clear hs
  have HB0 := hide (Below.refl w.heap.size w)
  go_enter Try.func6, Try.ntmps6
  go_wp2_with fail
  refine (toFl_any A n c x _ (by omega) (HS.out.below HB0.out)).mono ?_
  rintro e w1 ⟨g1, rfl, hg, hb, hs⟩
  have HB1 := hide (HB0.out.trans (hb.mono HB0.out.size))
  have Sa_1 := hide hs
  clear hs hg hb
  go_wp2_with fail
  refine (specLater_any _ n n x v1 v2 w1 (by unfold maxLen; omega) Sa_1.out).mono ?_
  rintro e w2 ⟨r0, rfl, hr0, hb⟩
  have HB2 := hide (HB1.out.trans (hb.mono HB1.out.size))
  have Sa_2 := hide (Sa_1.out.below hb)
  clear Sa_1
  have Hr0 := hide hr0
  clear hr0 hb
  go_wp2_with fail
  refine (toFl_any A n c x _ (by omega) (HS.out.below HB2.out)).mono ?_
  rintro e w3 ⟨g3, rfl, hg, hb, hs⟩
  have HB3 := hide (HB2.out.trans (hb.mono HB2.out.size))
  have Sb_3 := hide hs
  clear hs hg hb
  go_wp2_with fail
  refine (implLater_any _ n n x v1 v2 w3 (by unfold maxLen; omega) Sb_3.out).mono ?_
  rintro e w4 ⟨r1, rfl, hr1, hb⟩
  have HB4 := hide (HB3.out.trans (hb.mono HB3.out.size))
  have Sb_4 := hide (Sb_3.out.below hb)
  clear Sb_3
  have Hr1 := hide hr1
  clear hr1 hb
  go_wp2_with fail
  refine (sameFloat_any _ _ _ (wv_both (Hr1.out.trans Hr0.out.symm))).mono ?_
  rintro e w5 ⟨rfl, q, hq⟩
  have hb : Below w4.heap.size w4 w5 := by rw [hq]; first | exact bel_q (bel_q (Below.refl _ _) _) _ | exact bel_q (Below.refl _ _) _
  clear hq
  have HB5 := hide (HB4.out.trans (hb.mono HB4.out.size))
  have Sb_5 := hide (Sb_4.out.below hb)
  clear Sb_4
  clear hb
  go_wp2_with fail
  refine (toFl_any A n c x _ (by omega) (HS.out.below HB5.out)).mono ?_
  rintro e w6 ⟨g6, rfl, hg, hb, hs⟩
  have HB6 := hide (HB5.out.trans (hb.mono HB5.out.size))
  have Sb_6 := hide (Sb_5.out.below hb)
  clear Sb_5
  have St_6 := hide hs
  clear hs hg hb
  go_wp2_with fail
  refine (eqFl_any _ _ n n n x x _ hm Sb_6.out St_6.out (fun _ _ => FS.refl _ _)).mono ?_
  rintro e w7 ⟨rfl, q, hq⟩
  have hb : Below w6.heap.size w6 w7 := by rw [hq]; exact bel_q (Below.refl _ _) _
  clear hq
  have HB7 := hide (HB6.out.trans (hb.mono HB6.out.size))
  have Sb_7 := hide (Sb_6.out.below hb)
  clear Sb_6
  have St_7 := hide (St_6.out.below hb)
  clear St_6
  clear hb
  go_wp2_with fail
  go_ret
  exact ⟨rfl, HB7.out⟩
end Go.Proofs.Ytjefpcmegkeceab
