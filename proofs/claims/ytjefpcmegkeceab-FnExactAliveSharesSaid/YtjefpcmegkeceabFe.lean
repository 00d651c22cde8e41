/- AliveShares, by the reference. -/
import Derived.Test.YtjefpcmegkeceabFa
namespace Go.Proofs.Ytjefpcmegkeceab
open Go.RowKit Go.Dues
set_option maxRecDepth 100000 in
set_option maxHeartbeats 4000000 in
theorem specAliveS_any (A : Option Addr) (n c : Nat) (x : Nat → Nat) (w : World) (hn : n ≤ maxLen) (hs : SL w A n (fun j => .float .f32 (x j))) :
    Calls Try.prog 15 #[.slice A n c] w fun e w' => GaveF w w' e (ltP x n) n (alV x) := by
  have HL := hide (specTable_any A n c x w hn hs)
  have HSL := hide hs
  clear hs
  unfold maxLen at hn
  by_cases hp : ltP x n
  rotate_left
  · have HT := hide (tru_no hp)
    have HH := hide hp
    clear hp
    go_enter Try.func15, Try.ntmps15
    go_wp2_with fail
    refine HL.out.mono ?_
    rw [HT.out]
    rintro e w' ⟨rfl, rfl⟩
    go_wp2
    go_ret2
    exact gavef_no HH.out (Below.refl _ _)
  have HT := hide (tru_yes hp)
  have HH := hide hp
  have n120 := hp.1.2
  clear hp
  go_enter Try.func15, Try.ntmps15
  go_wp2_with fail
  refine HL.out.mono ?_
  rw [HT.out]
  rintro e W ⟨rfl, hbe⟩
  have HB0 : Hid (Below w.heap.size w W) := by rw [← hbe]; exact Below.refl _ _
  have HS0 : Hid (SL W A n (fun j => .float .f32 (x j))) := by rw [← hbe]; exact HSL.out
  clear hbe
  go_wp2_with fail
  refine (specAlive_any A n c x W n120 HS0.out).mono ?_
  rintro e W2 ⟨G, d, z, rfl, ho, hz, hb⟩
  have HB2 := hide (HB0.out.trans (hb.mono HB0.out.size))
  have HO := hide (ho.wide HB0.out.size (Nat.le_refl _))
  have HZ := hide hz
  clear ho hz hb
  go_wp2
  go_ret2
  exact gavef_yes HH.out HO.out HZ.out HB2.out
end Go.Proofs.Ytjefpcmegkeceab
