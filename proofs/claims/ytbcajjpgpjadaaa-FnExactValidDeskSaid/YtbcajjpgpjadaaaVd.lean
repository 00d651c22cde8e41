/- Desks that are valid, by both. -/
import Derived.Test.YtbcajjpgpjadaaaDo
import Derived.Test.YtbcajjpgpjadaaaIxi
import Derived.Test.YtbcajjpgpjadaaaGp
import Derived.Test.YtbcajjpgpjadaaaFc
import Derived.Test.YtbcajjpgpjadaaaVs
import Derived.Test.YtbcajjpgpjadaaaVi
import Derived.Test.YtbcajjpgpjadaaaAl
namespace Go.Proofs.Ytbcajjpgpjadaaa
open Go.RowKit Go.Dues
def dkP (xa : Nat → Int) (na : Nat) (xb : Nat → Int) (nb : Nat) (xc : Nat → Int) (nc : Nat) (xd : Nat → Int) (nd : Nat) (xe : Nat → Nat) (ne : Nat) : Prop := Val xa xb na nb ∧ allP xc nc 1 60 0 1000000000000 ∧ allP xd nd 1 60 (-9999) 10000 ∧ ltP xe ne
theorem implFRates_any (A : Option Addr) (n c : Nat) (x : Nat → Int) (w : World) (hn : n ≤ maxLen) (hs : SL w A n (fun j => .int .i64 (x j))) :
    Calls Try.prog 89 #[.slice A n c] w fun e w' => e = .returned (.bool (tru (allP x n 1 60 (-9999) 10000))) ∧ Below w.heap.size w w' := by
  have HA := hide (areAll_isFundRate A n c x 1 60 w hn hs)
  clear hs
  go_enter Try.func89, Try.ntmps89
  go_wp2_with fail
  refine HA.out.mono ?_
  rintro e w' ⟨rfl, hb⟩
  go_wp2
  go_ret
  exact ⟨rfl, hb⟩
set_option maxHeartbeats 4000000 in
theorem specDk_any (b : Nat) (Aa : Option Addr) (na ca : Nat) (xa : Nat → Int) (Ab : Option Addr) (nb cb : Nat) (xb : Nat → Int) (Ac : Option Addr) (nc cc : Nat) (xc : Nat → Int) (Ad : Option Addr) (nd cd : Nat) (xd : Nat → Int) (Ae : Option Addr) (ne ce : Nat) (xe : Nat → Nat) (w : World) (hna : na ≤ maxLen) (hsa : SL w Aa na (fun j => .int .i64 (xa j))) (hnb : nb ≤ maxLen) (hsb : SL w Ab nb (fun j => .int .i64 (xb j))) (hnc : nc ≤ maxLen) (hsc : SL w Ac nc (fun j => .int .i64 (xc j))) (hnd : nd ≤ maxLen) (hsd : SL w Ad nd (fun j => .int .i64 (xd j))) (hne : ne ≤ maxLen) (hse : SL w Ae ne (fun j => .float .f32 (xe j))) (hX : w.heap[b]? = some (.cells #[.slice Aa na ca, .slice Ab nb cb, .slice Ac nc cc, .slice Ad nd cd, .slice Ae ne ce] 32)) :
    Calls Try.prog 85 #[.pointer (some ⟨b, 0, none⟩)] w fun e w' => e = .returned (.bool (tru (dkP xa na xb nb xc nc xd nd xe ne))) ∧ Below w.heap.size w w' := by
  have HSa := hide hsa
  clear hsa
  have HSb := hide hsb
  clear hsb
  have HSc := hide hsc
  clear hsc
  have HSd := hide hsd
  clear hsd
  have HSe := hide hse
  clear hse
  have k0 := Joins.cell_of_block hX 0
  simp at k0
  have k1 := Joins.cell_of_block hX 1
  simp at k1
  have k2 := Joins.cell_of_block hX 2
  simp at k2
  have k3 := Joins.cell_of_block hX 3
  simp at k3
  have k4 := Joins.cell_of_block hX 4
  simp at k4
  have HV := hide (specIs_any b Aa Ab na ca nb cb xa xb w hna hnb k0 k1 HSa.out HSb.out)
  have HXX := hide hX
  clear hX k0 k1
  by_cases g0 : Val xa xb na nb
  rotate_left
  · have G0 := hide (tru_no g0)
    have HT := hide (tru_no (show ¬ dkP xa na xb nb xc nc xd nd xe ne from fun h => g0 h.1))
    clear g0
    go_enter Try.func85, Try.ntmps85
    go_wp2_with fail
    refine HV.out.mono ?_
    rw [G0.out]
    rintro e w1 ⟨rfl, q, rfl⟩
    go_wp2
    go_ret
    exact ⟨retBa HT.out.symm, bel_q (Below.refl _ _) _⟩
  have G0 := hide (tru_yes g0)
  by_cases g1 : allP xc nc 1 60 0 1000000000000
  rotate_left
  · have G1 := hide (tru_no g1)
    have HT := hide (tru_no (show ¬ dkP xa na xb nb xc nc xd nd xe ne from fun h => g1 h.2.1))
    clear g1
    go_enter Try.func85, Try.ntmps85
    go_wp2_with fail
    refine HV.out.mono ?_
    rw [G0.out]
    rintro e w1 ⟨rfl, q, rfl⟩
    go_wp2_with fail
    refine (specPays_any Ac nc cc xc _ hnc (show SL (World.drewN w _) _ _ _ from HSc.out)).mono ?_
    rw [G1.out]
    rintro e w' ⟨rfl, rfl⟩
    go_wp2
    go_ret
    exact ⟨retBa HT.out.symm, bel_q (Below.refl _ _) _⟩
  have G1 := hide (tru_yes g1)
  by_cases g2 : allP xd nd 1 60 (-9999) 10000
  rotate_left
  · have G2 := hide (tru_no g2)
    have HT := hide (tru_no (show ¬ dkP xa na xb nb xc nc xd nd xe ne from fun h => g2 h.2.2.1))
    clear g2
    go_enter Try.func85, Try.ntmps85
    go_wp2_with fail
    refine HV.out.mono ?_
    rw [G0.out]
    rintro e w1 ⟨rfl, q, rfl⟩
    go_wp2_with fail
    refine (specPays_any Ac nc cc xc _ hnc (show SL (World.drewN w _) _ _ _ from HSc.out)).mono ?_
    rw [G1.out]
    rintro e w' ⟨rfl, rfl⟩
    go_wp2_with fail
    refine (specFRates_any Ad nd cd xd _ hnd (show SL (World.drewN w _) _ _ _ from HSd.out)).mono ?_
    rw [G2.out]
    rintro e w' ⟨rfl, rfl⟩
    go_wp2
    go_ret
    exact ⟨retBa HT.out.symm, bel_q (Below.refl _ _) _⟩
  have G2 := hide (tru_yes g2)
  by_cases g3 : ltP xe ne
  rotate_left
  · have G3 := hide (tru_no g3)
    have HT := hide (tru_no (show ¬ dkP xa na xb nb xc nc xd nd xe ne from fun h => g3 h.2.2.2))
    clear g3
    go_enter Try.func85, Try.ntmps85
    go_wp2_with fail
    refine HV.out.mono ?_
    rw [G0.out]
    rintro e w1 ⟨rfl, q, rfl⟩
    go_wp2_with fail
    refine (specPays_any Ac nc cc xc _ hnc (show SL (World.drewN w _) _ _ _ from HSc.out)).mono ?_
    rw [G1.out]
    rintro e w' ⟨rfl, rfl⟩
    go_wp2_with fail
    refine (specFRates_any Ad nd cd xd _ hnd (show SL (World.drewN w _) _ _ _ from HSd.out)).mono ?_
    rw [G2.out]
    rintro e w' ⟨rfl, rfl⟩
    go_wp2_with fail
    refine (specTable_any Ae ne ce xe _ hne (show SL (World.drewN w _) _ _ _ from HSe.out)).mono ?_
    rw [G3.out]
    rintro e w' ⟨rfl, rfl⟩
    go_wp2
    go_ret
    exact ⟨retBa HT.out.symm, bel_q (Below.refl _ _) _⟩
  have G3 := hide (tru_yes g3)
  have HT := hide (tru_yes (show dkP xa na xb nb xc nc xd nd xe ne from ⟨g0, g1, g2, g3⟩))
  clear g0 g1 g2 g3
  go_enter Try.func85, Try.ntmps85
  go_wp2_with fail
  refine HV.out.mono ?_
  rw [G0.out]
  rintro e w1 ⟨rfl, q, rfl⟩
  go_wp2_with fail
  refine (specPays_any Ac nc cc xc _ hnc (show SL (World.drewN w _) _ _ _ from HSc.out)).mono ?_
  rw [G1.out]
  rintro e w' ⟨rfl, rfl⟩
  go_wp2_with fail
  refine (specFRates_any Ad nd cd xd _ hnd (show SL (World.drewN w _) _ _ _ from HSd.out)).mono ?_
  rw [G2.out]
  rintro e w' ⟨rfl, rfl⟩
  go_wp2_with fail
  refine (specTable_any Ae ne ce xe _ hne (show SL (World.drewN w _) _ _ _ from HSe.out)).mono ?_
  rw [G3.out]
  rintro e w' ⟨rfl, rfl⟩
  go_wp2
  go_ret
  exact ⟨retBa HT.out.symm, bel_q (Below.refl _ _) _⟩
set_option maxHeartbeats 4000000 in
theorem specValidDk_any (Aa : Option Addr) (na ca : Nat) (xa : Nat → Int) (Ab : Option Addr) (nb cb : Nat) (xb : Nat → Int) (Ac : Option Addr) (nc cc : Nat) (xc : Nat → Int) (Ad : Option Addr) (nd cd : Nat) (xd : Nat → Int) (Ae : Option Addr) (ne ce : Nat) (xe : Nat → Nat) (w : World) (hna : na ≤ maxLen) (hsa : SL w Aa na (fun j => .int .i64 (xa j))) (hnb : nb ≤ maxLen) (hsb : SL w Ab nb (fun j => .int .i64 (xb j))) (hnc : nc ≤ maxLen) (hsc : SL w Ac nc (fun j => .int .i64 (xc j))) (hnd : nd ≤ maxLen) (hsd : SL w Ad nd (fun j => .int .i64 (xd j))) (hne : ne ≤ maxLen) (hse : SL w Ae ne (fun j => .float .f32 (xe j))) :
    Calls Try.prog 16 #[.agg #[.slice Aa na ca, .slice Ab nb cb, .slice Ac nc cc, .slice Ad nd cd, .slice Ae ne ce]] w fun e w' => e = .returned (.bool (tru (dkP xa na xb nb xc nc xd nd xe ne))) ∧ Below w.heap.size w w' := by
  obtain ⟨W, hW⟩ : ∃ u, u = w.alloc (.cells #[.slice Aa na ca, .slice Ab nb cb, .slice Ac nc cc, .slice Ad nd cd, .slice Ae ne ce] 32) := ⟨_, rfl⟩
  have HB : Hid (Below w.heap.size w W) := by rw [hW]; exact (Below.refl w.heap.size w).alloc (Nat.le_refl _) _
  have HX : Hid (W.heap[w.heap.size]? = some (.cells #[.slice Aa na ca, .slice Ab nb cb, .slice Ac nc cc, .slice Ad nd cd, .slice Ae ne ce] 32)) := by rw [hW]; exact blocks1 w _
  have HV := hide (specDk_any w.heap.size Aa na ca xa Ab nb cb xb Ac nc cc xc Ad nd cd xd Ae ne ce xe W hna (hsa.below HB.out) hnb (hsb.below HB.out) hnc (hsc.below HB.out) hnd (hsd.below HB.out) hne (hse.below HB.out) HX.out)
  have HWW := hide hW
  clear hW hsa hsb hsc hsd hse
  go_enter Try.func16, Try.ntmps16
  go_wp2_with fail
  rw [← HWW.out]
  refine HV.out.mono ?_
  rintro e w1 ⟨rfl, hb⟩
  go_wp2
  go_ret
  exact ⟨rfl, HB.out.trans (hb.mono HB.out.size)⟩
set_option maxHeartbeats 8000000 in
theorem implValidDk_any (Aa : Option Addr) (na ca : Nat) (xa : Nat → Int) (Ab : Option Addr) (nb cb : Nat) (xb : Nat → Int) (Ac : Option Addr) (nc cc : Nat) (xc : Nat → Int) (Ad : Option Addr) (nd cd : Nat) (xd : Nat → Int) (Ae : Option Addr) (ne ce : Nat) (xe : Nat → Nat) (w : World) (hna : na ≤ maxLen) (hsa : SL w Aa na (fun j => .int .i64 (xa j))) (hnb : nb ≤ maxLen) (hsb : SL w Ab nb (fun j => .int .i64 (xb j))) (hnc : nc ≤ maxLen) (hsc : SL w Ac nc (fun j => .int .i64 (xc j))) (hnd : nd ≤ maxLen) (hsd : SL w Ad nd (fun j => .int .i64 (xd j))) (hne : ne ≤ maxLen) (hse : SL w Ae ne (fun j => .float .f32 (xe j))) :
    Calls Try.prog 18 #[.agg #[.slice Aa na ca, .slice Ab nb cb, .slice Ac nc cc, .slice Ad nd cd, .slice Ae ne ce]] w fun e w' => e = .returned (.bool (tru (dkP xa na xb nb xc nc xd nd xe ne))) ∧ Below w.heap.size w w' := by
  obtain ⟨W, hW⟩ : ∃ u, u = w.alloc (.cells #[.slice Aa na ca, .slice Ab nb cb, .slice Ac nc cc, .slice Ad nd cd, .slice Ae ne ce] 32) := ⟨_, rfl⟩
  have HB : Hid (Below w.heap.size w W) := by rw [hW]; exact (Below.refl w.heap.size w).alloc (Nat.le_refl _) _
  have HX : Hid (W.heap[w.heap.size]? = some (.cells #[.slice Aa na ca, .slice Ab nb cb, .slice Ac nc cc, .slice Ad nd cd, .slice Ae ne ce] 32)) := by rw [hW]; exact blocks1 w _
  have hz : w.heap.size + 1 ≤ W.heap.size := by rw [hW]; simp
  have HSa := hide (hsa.below HB.out)
  clear hsa
  have HSb := hide (hsb.below HB.out)
  clear hsb
  have HSc := hide (hsc.below HB.out)
  clear hsc
  have HSd := hide (hsd.below HB.out)
  clear hsd
  have HSe := hide (hse.below HB.out)
  clear hse
  have i0 := Joins.cell_of_block HX.out 0
  simp at i0
  rw [hW] at i0
  have i1 := Joins.cell_of_block HX.out 1
  simp at i1
  rw [hW] at i1
  have HWW := hide hW
  clear hW
  by_cases g0 : Val xa xb na nb
  rotate_left
  · have G0 := hide (tru_no g0)
    have HT := hide (tru_no (show ¬ dkP xa na xb nb xc nc xd nd xe ne from fun h => g0 h.1))
    clear g0
    go_enter Try.func18, Try.ntmps18
    go_wp2_with fail
    rw [← HWW.out]
    clear i0 i1
    refine (implValid_any Aa Ab na ca nb cb xa xb W hna hnb HSa.out HSb.out).mono ?_
    rw [G0.out]
    rintro e w1 ⟨rfl, hb⟩
    have HB1 := hide (HB.out.trans (hb.mono HB.out.size))
    have HX1 := hide (blk_below hb (by omega) HX.out)
    have hz1 : w.heap.size + 1 ≤ w1.heap.size := by have := hb.size; omega
    have HSc1 := hide (HSc.out.below hb)
    have HSd1 := hide (HSd.out.below hb)
    have HSe1 := hide (HSe.out.below hb)
    clear hb
    go_wp2
    go_ret
    exact ⟨retBa HT.out.symm, HB1.out⟩
  have G0 := hide (tru_yes g0)
  by_cases g1 : allP xc nc 1 60 0 1000000000000
  rotate_left
  · have G1 := hide (tru_no g1)
    have HT := hide (tru_no (show ¬ dkP xa na xb nb xc nc xd nd xe ne from fun h => g1 h.2.1))
    clear g1
    go_enter Try.func18, Try.ntmps18
    go_wp2_with fail
    rw [← HWW.out]
    clear i0 i1
    refine (implValid_any Aa Ab na ca nb cb xa xb W hna hnb HSa.out HSb.out).mono ?_
    rw [G0.out]
    rintro e w1 ⟨rfl, hb⟩
    have HB1 := hide (HB.out.trans (hb.mono HB.out.size))
    have HX1 := hide (blk_below hb (by omega) HX.out)
    have hz1 : w.heap.size + 1 ≤ w1.heap.size := by have := hb.size; omega
    have HSc1 := hide (HSc.out.below hb)
    have HSd1 := hide (HSd.out.below hb)
    have HSe1 := hide (HSe.out.below hb)
    clear hb
    have k2 := Joins.cell_of_block HX1.out 2
    simp at k2
    go_wp2_with fail
    refine (implPays_any Ac nc cc xc w1 hnc HSc1.out).mono ?_
    rw [G1.out]
    rintro e w2 ⟨rfl, hb⟩
    have HB2 := hide (HB1.out.trans (hb.mono HB1.out.size))
    have HX2 := hide (blk_below hb (by omega) HX1.out)
    have hz2 : w.heap.size + 1 ≤ w2.heap.size := by have := hb.size; omega
    have HSd2 := hide (HSd1.out.below hb)
    have HSe2 := hide (HSe1.out.below hb)
    clear hb k2
    go_wp2
    go_ret
    exact ⟨retBa HT.out.symm, HB2.out⟩
  have G1 := hide (tru_yes g1)
  by_cases g2 : allP xd nd 1 60 (-9999) 10000
  rotate_left
  · have G2 := hide (tru_no g2)
    have HT := hide (tru_no (show ¬ dkP xa na xb nb xc nc xd nd xe ne from fun h => g2 h.2.2.1))
    clear g2
    go_enter Try.func18, Try.ntmps18
    go_wp2_with fail
    rw [← HWW.out]
    clear i0 i1
    refine (implValid_any Aa Ab na ca nb cb xa xb W hna hnb HSa.out HSb.out).mono ?_
    rw [G0.out]
    rintro e w1 ⟨rfl, hb⟩
    have HB1 := hide (HB.out.trans (hb.mono HB.out.size))
    have HX1 := hide (blk_below hb (by omega) HX.out)
    have hz1 : w.heap.size + 1 ≤ w1.heap.size := by have := hb.size; omega
    have HSc1 := hide (HSc.out.below hb)
    have HSd1 := hide (HSd.out.below hb)
    have HSe1 := hide (HSe.out.below hb)
    clear hb
    have k2 := Joins.cell_of_block HX1.out 2
    simp at k2
    go_wp2_with fail
    refine (implPays_any Ac nc cc xc w1 hnc HSc1.out).mono ?_
    rw [G1.out]
    rintro e w2 ⟨rfl, hb⟩
    have HB2 := hide (HB1.out.trans (hb.mono HB1.out.size))
    have HX2 := hide (blk_below hb (by omega) HX1.out)
    have hz2 : w.heap.size + 1 ≤ w2.heap.size := by have := hb.size; omega
    have HSd2 := hide (HSd1.out.below hb)
    have HSe2 := hide (HSe1.out.below hb)
    clear hb k2
    have k3 := Joins.cell_of_block HX2.out 3
    simp at k3
    go_wp2_with fail
    refine (implFRates_any Ad nd cd xd w2 hnd HSd2.out).mono ?_
    rw [G2.out]
    rintro e w3 ⟨rfl, hb⟩
    have HB3 := hide (HB2.out.trans (hb.mono HB2.out.size))
    have HX3 := hide (blk_below hb (by omega) HX2.out)
    have hz3 : w.heap.size + 1 ≤ w3.heap.size := by have := hb.size; omega
    have HSd3 := hide (HSd2.out.below hb)
    have HSe3 := hide (HSe2.out.below hb)
    clear hb k3
    go_wp2
    go_ret
    exact ⟨retBa HT.out.symm, HB3.out⟩
  have G2 := hide (tru_yes g2)
  by_cases g3 : ltP xe ne
  rotate_left
  · have G3 := hide (tru_no g3)
    have HT := hide (tru_no (show ¬ dkP xa na xb nb xc nc xd nd xe ne from fun h => g3 h.2.2.2))
    clear g3
    go_enter Try.func18, Try.ntmps18
    go_wp2_with fail
    rw [← HWW.out]
    clear i0 i1
    refine (implValid_any Aa Ab na ca nb cb xa xb W hna hnb HSa.out HSb.out).mono ?_
    rw [G0.out]
    rintro e w1 ⟨rfl, hb⟩
    have HB1 := hide (HB.out.trans (hb.mono HB.out.size))
    have HX1 := hide (blk_below hb (by omega) HX.out)
    have hz1 : w.heap.size + 1 ≤ w1.heap.size := by have := hb.size; omega
    have HSc1 := hide (HSc.out.below hb)
    have HSd1 := hide (HSd.out.below hb)
    have HSe1 := hide (HSe.out.below hb)
    clear hb
    have k2 := Joins.cell_of_block HX1.out 2
    simp at k2
    go_wp2_with fail
    refine (implPays_any Ac nc cc xc w1 hnc HSc1.out).mono ?_
    rw [G1.out]
    rintro e w2 ⟨rfl, hb⟩
    have HB2 := hide (HB1.out.trans (hb.mono HB1.out.size))
    have HX2 := hide (blk_below hb (by omega) HX1.out)
    have hz2 : w.heap.size + 1 ≤ w2.heap.size := by have := hb.size; omega
    have HSd2 := hide (HSd1.out.below hb)
    have HSe2 := hide (HSe1.out.below hb)
    clear hb k2
    have k3 := Joins.cell_of_block HX2.out 3
    simp at k3
    go_wp2_with fail
    refine (implFRates_any Ad nd cd xd w2 hnd HSd2.out).mono ?_
    rw [G2.out]
    rintro e w3 ⟨rfl, hb⟩
    have HB3 := hide (HB2.out.trans (hb.mono HB2.out.size))
    have HX3 := hide (blk_below hb (by omega) HX2.out)
    have hz3 : w.heap.size + 1 ≤ w3.heap.size := by have := hb.size; omega
    have HSd3 := hide (HSd2.out.below hb)
    have HSe3 := hide (HSe2.out.below hb)
    clear hb k3
    have k4 := Joins.cell_of_block HX3.out 4
    simp at k4
    go_wp2_with fail
    refine (implLife_any Ae ne ce xe w3 hne HSe3.out).mono ?_
    rw [G3.out]
    rintro e w' ⟨rfl, rfl⟩
    go_wp2
    go_ret
    exact ⟨retBa HT.out.symm, HB3.out⟩
  have G3 := hide (tru_yes g3)
  have HT := hide (tru_yes (show dkP xa na xb nb xc nc xd nd xe ne from ⟨g0, g1, g2, g3⟩))
  clear g0 g1 g2 g3
  go_enter Try.func18, Try.ntmps18
  go_wp2_with fail
  rw [← HWW.out]
  clear i0 i1
  refine (implValid_any Aa Ab na ca nb cb xa xb W hna hnb HSa.out HSb.out).mono ?_
  rw [G0.out]
  rintro e w1 ⟨rfl, hb⟩
  have HB1 := hide (HB.out.trans (hb.mono HB.out.size))
  have HX1 := hide (blk_below hb (by omega) HX.out)
  have hz1 : w.heap.size + 1 ≤ w1.heap.size := by have := hb.size; omega
  have HSc1 := hide (HSc.out.below hb)
  have HSd1 := hide (HSd.out.below hb)
  have HSe1 := hide (HSe.out.below hb)
  clear hb
  have k2 := Joins.cell_of_block HX1.out 2
  simp at k2
  go_wp2_with fail
  refine (implPays_any Ac nc cc xc w1 hnc HSc1.out).mono ?_
  rw [G1.out]
  rintro e w2 ⟨rfl, hb⟩
  have HB2 := hide (HB1.out.trans (hb.mono HB1.out.size))
  have HX2 := hide (blk_below hb (by omega) HX1.out)
  have hz2 : w.heap.size + 1 ≤ w2.heap.size := by have := hb.size; omega
  have HSd2 := hide (HSd1.out.below hb)
  have HSe2 := hide (HSe1.out.below hb)
  clear hb k2
  have k3 := Joins.cell_of_block HX2.out 3
  simp at k3
  go_wp2_with fail
  refine (implFRates_any Ad nd cd xd w2 hnd HSd2.out).mono ?_
  rw [G2.out]
  rintro e w3 ⟨rfl, hb⟩
  have HB3 := hide (HB2.out.trans (hb.mono HB2.out.size))
  have HX3 := hide (blk_below hb (by omega) HX2.out)
  have hz3 : w.heap.size + 1 ≤ w3.heap.size := by have := hb.size; omega
  have HSd3 := hide (HSd2.out.below hb)
  have HSe3 := hide (HSe2.out.below hb)
  clear hb k3
  have k4 := Joins.cell_of_block HX3.out 4
  simp at k4
  go_wp2_with fail
  refine (implLife_any Ae ne ce xe w3 hne HSe3.out).mono ?_
  rw [G3.out]
  rintro e w' ⟨rfl, rfl⟩
  go_wp2
  go_ret
  exact ⟨retBa HT.out.symm, HB3.out⟩
end Go.Proofs.Ytbcajjpgpjadaaa
