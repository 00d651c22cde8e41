/- The law FnExactIsLifeTable, walked. -/
import Derived.Test.YtjefpcmegkeceaaFd
import Derived.Test.YtjefpcmegkeceaaRow
namespace Go.Proofs.Ytjefpcmegkeceaa
open Go.RowKit Go.Dues
set_option maxRecDepth 100000 in
set_option maxHeartbeats 4000000 in
theorem lawIsLifeTable_any (A : Option Addr) (n c : Nat) (x : Nat → Nat) (w : World) (hm : n ≤ maxLen) (hs : SL w A n (fun j => .float .f32 (x j)))  :
    Calls Try.prog 14 #[.slice A n c] w fun e w' => e = .returned (.bool true) ∧ Below w.heap.size w w' := by
  unfold maxLen at hm
  have hwd := fun (w : World) (b : Nat) => run_widen_eq (P := Try.prog) w 72 76 b (by rw [Try.underlying72]; rfl) Try.underlying76
  by_cases h20 : 1048576 < n
  · clear hs
    go_enter Try.func14, Try.ntmps14
    go_wp2
    go_ret
    exact ⟨rfl, Below.refl _ _⟩
  have HS := hide hs
  clear hs
  have HB0 := hide (Below.refl w.heap.size w)
  go_enter Try.func14, Try.ntmps14
  go_wp2_with fail
  refine (toFl_any A n c x _ (by omega) (HS.out.below HB0.out)).mono ?_
  rintro e w1 ⟨g1, rfl, hg, hb, hs⟩
  have HB1 := hide (HB0.out.trans (hb.mono HB0.out.size))
  have Sa_1 := hide hs
  clear hs hg hb
  go_wp2_with fail
  refine (specTable2_any _ n n x  w1 (by unfold maxLen; omega) Sa_1.out).mono ?_
  rintro e w2 ⟨rfl, hb⟩
  have HB2 := hide (HB1.out.trans (hb.mono HB1.out.size))
  have Sa_2 := hide (Sa_1.out.below hb)
  clear Sa_1
  clear hb
  go_wp2_with fail
  refine (toFl_any A n c x _ (by omega) (HS.out.below HB2.out)).mono ?_
  rintro e w3 ⟨g3, rfl, hg, hb, hs⟩
  have HB3 := hide (HB2.out.trans (hb.mono HB2.out.size))
  have Sb_3 := hide hs
  clear hs hg hb
  go_wp2_with fail
  refine (implLife2_any _ n n x  w3 (by unfold maxLen; omega) Sb_3.out).mono ?_
  rintro e w4 ⟨rfl, hb⟩
  have HB4 := hide (HB3.out.trans (hb.mono HB3.out.size))
  have Sb_4 := hide (Sb_3.out.below hb)
  clear Sb_3
  clear hb
  go_wp2_with fail
  refine (toFl_any A n c x _ (by omega) (HS.out.below HB4.out)).mono ?_
  rintro e w5 ⟨g5, rfl, hg, hb, hs⟩
  have HB5 := hide (HB4.out.trans (hb.mono HB4.out.size))
  have Sb_5 := hide (Sb_4.out.below hb)
  clear Sb_4
  have St_5 := hide hs
  clear hs hg hb
  go_wp2_with fail
  refine (eqFl_any _ _ n n n x x _ hm Sb_5.out St_5.out (fun _ _ => FS.refl _ _)).mono ?_
  rintro e w6 ⟨rfl, q, hq⟩
  have hb : Below w5.heap.size w5 w6 := by rw [hq]; exact bel_q (Below.refl _ _) _
  clear hq
  have HB6 := hide (HB5.out.trans (hb.mono HB5.out.size))
  have Sb_6 := hide (Sb_5.out.below hb)
  clear Sb_5
  have St_6 := hide (St_5.out.below hb)
  clear St_5
  clear hb
  go_wp2_with fail
  go_ret
  exact ⟨rfl, HB6.out⟩
end Go.Proofs.Ytjefpcmegkeceaa
