/- The law FnExactValidDesk, walked. -/
import Derived.Test.YtbcajjpgpjadaaaDk
import Derived.Test.YtbcajjpgpjadaaaVd
import Derived.Deep.RegionHeld3
namespace Go.Proofs.Ytbcajjpgpjadaaa
open Go.RowKit Go.Dues
set_option maxRecDepth 100000 in
set_option maxHeartbeats 8000000 in
theorem lawValidDesk_any (Aa : Option Addr) (na ca : Nat) (xa : Nat → Int) (Ab : Option Addr) (nb cb : Nat) (xb : Nat → Int) (Ac : Option Addr) (nc cc : Nat) (xc : Nat → Int) (Ad : Option Addr) (nd cd : Nat) (xd : Nat → Int) (Ae : Option Addr) (ne ce : Nat) (xe : Nat → Nat) (w : World) (hma : na ≤ maxLen) (hsa : SL w Aa na (fun j => .int .i64 (xa j))) (hmb : nb ≤ maxLen) (hsb : SL w Ab nb (fun j => .int .i64 (xb j))) (hmc : nc ≤ maxLen) (hsc : SL w Ac nc (fun j => .int .i64 (xc j))) (hmd : nd ≤ maxLen) (hsd : SL w Ad nd (fun j => .int .i64 (xd j))) (hme : ne ≤ maxLen) (hse : SL w Ae ne (fun j => .float .f32 (xe j))) :
    Calls Try.prog 3 #[.agg #[.slice Aa na ca, .slice Ab nb cb, .slice Ac nc cc, .slice Ad nd cd, .slice Ae ne ce]] w fun e w' => e = .returned (.bool true) ∧ Below w.heap.size w w' := by
  have HSa := hide hsa
  clear hsa
  have HSb := hide hsb
  clear hsb
  have HSc := hide hsc
  clear hsc
  have HSd := hide hsd
  clear hsd
  have HSe := hide hse
  clear hse
  obtain ⟨w0, hw0⟩ : ∃ u, u = w.alloc (.cells #[.slice Aa na ca, .slice Ab nb cb, .slice Ac nc cc, .slice Ad nd cd, .slice Ae ne ce] 27) := ⟨_, rfl⟩
  have HB0 : Hid (Below w.heap.size w w0) := by rw [hw0]; exact (Below.refl w.heap.size w).alloc (Nat.le_refl _) _
  have HX0 : Hid (w0.heap[w.heap.size]? = some (.cells #[.slice Aa na ca, .slice Ab nb cb, .slice Ac nc cc, .slice Ad nd cd, .slice Ae ne ce] 27)) := by rw [hw0]; exact blocks1 w _
  have hz0 : w.heap.size + 1 ≤ w0.heap.size := by rw [hw0]; simp
  have k0 := Joins.cell_of_block HX0.out 0
  simp at k0
  have i0 := k0
  rw [hw0] at i0
  have k1 := Joins.cell_of_block HX0.out 1
  simp at k1
  have i1 := k1
  rw [hw0] at i1
  have k2 := Joins.cell_of_block HX0.out 2
  simp at k2
  have i2 := k2
  rw [hw0] at i2
  have k3 := Joins.cell_of_block HX0.out 3
  simp at k3
  have i3 := k3
  rw [hw0] at i3
  have k4 := Joins.cell_of_block HX0.out 4
  simp at k4
  have i4 := k4
  rw [hw0] at i4
  have HW := hide hw0
  clear hw0
  go_enter Try.func3, Try.ntmps3
  go_wp2_with fail
  rw [← HW.out]
  clear HW i0 i1 i2 i3 i4
  refine (szDesk_any Aa na ca Ab nb cb Ac nc cc Ad nd cd Ae ne ce 1048576 w0 hma hmb hmc hmd hme (by omega) (by omega)).mono ?_
  rintro e w1 ⟨q, rfl, hq, hb⟩
  have HB1 := hide (HB0.out.trans (hb.mono HB0.out.size))
  have hz1 : w.heap.size + 1 ≤ w1.heap.size := by have := hb.size; omega
  have HX1 := hide (blk_below hb (by omega) HX0.out)
  clear hb k0 k1 k2 k3 k4
  rcases hq with ⟨hq0, hq1, hna, hnb, hnc, hnd, hne⟩ | rfl
  rotate_left
  · go_wp2
    go_ret
    exact ⟨rfl, HB1.out⟩
  have k0 := Joins.cell_of_block HX1.out 0
  simp at k0
  have k1 := Joins.cell_of_block HX1.out 1
  simp at k1
  have k2 := Joins.cell_of_block HX1.out 2
  simp at k2
  have k3 := Joins.cell_of_block HX1.out 3
  simp at k3
  have k4 := Joins.cell_of_block HX1.out 4
  simp at k4
  go_wp2_with fail
  refine (toDeskW_any Aa na ca xa Ab nb cb xb Ac nc cc xc Ad nd cd xd Ae ne ce xe _ hna (show SL _ _ _ _ from HSa.out.below HB1.out) hnb (show SL _ _ _ _ from HSb.out.below HB1.out) hnc (show SL _ _ _ _ from HSc.out.below HB1.out) hnd (show SL _ _ _ _ from HSd.out.below HB1.out) hne (show SL _ _ _ _ from HSe.out.below HB1.out)).mono ?_
  rintro e w2 ⟨ga, gb, gc, gd, ge, _, _, _, _, _, _, _, _, _, _, rfl, hoa, hob, hoc, hod, hoe, _, _, _, _, _, _, _, _, _, _, _, hb⟩
  replace hb : Below w1.heap.size w1 w2 := ⟨hb.os, hb.tape, hb.output, hb.size, hb.block⟩
  have HB2 := hide (HB1.out.trans (hb.mono HB1.out.size))
  have hz2 : w.heap.size + 1 ≤ w2.heap.size := by have := hb.size; omega
  have HX2 := hide (blk_below hb (by omega) HX1.out)
  clear hb k0 k1 k2 k3 k4
  have HOa := hide hoa.sl
  clear hoa
  have HOb := hide hob.sl
  clear hob
  have HOc := hide hoc.sl
  clear hoc
  have HOd := hide hod.sl
  clear hod
  have HOe := hide hoe.sl
  clear hoe
  go_wp2_with fail
  refine (specValidDk_any _ na na xa _ nb nb xb _ nc nc xc _ nd nd xd _ ne ne xe w2 hma HOa.out hmb HOb.out hmc HOc.out hmd HOd.out hme HOe.out).mono ?_
  rintro e w3 ⟨rfl, hb⟩
  have HB3 := hide (HB2.out.trans (hb.mono HB2.out.size))
  have hz3 : w.heap.size + 1 ≤ w3.heap.size := by have := hb.size; omega
  have HX3 := hide (blk_below hb (by omega) HX2.out)
  clear hb HOa HOb HOc HOd HOe
  have k0 := Joins.cell_of_block HX3.out 0
  simp at k0
  have k1 := Joins.cell_of_block HX3.out 1
  simp at k1
  have k2 := Joins.cell_of_block HX3.out 2
  simp at k2
  have k3 := Joins.cell_of_block HX3.out 3
  simp at k3
  have k4 := Joins.cell_of_block HX3.out 4
  simp at k4
  go_wp2_with fail
  refine (toDeskW_any Aa na ca xa Ab nb cb xb Ac nc cc xc Ad nd cd xd Ae ne ce xe w3 hna (HSa.out.below HB3.out) hnb (HSb.out.below HB3.out) hnc (HSc.out.below HB3.out) hnd (HSd.out.below HB3.out) hne (HSe.out.below HB3.out)).mono ?_
  rintro e w4 ⟨ra, rb, rc, rd, re, _, _, _, _, _, _, _, _, _, _, rfl, hoa, hob, hoc, hod, hoe, _, _, _, _, _, _, _, _, _, _, _, hb⟩
  have HB4 := hide (HB3.out.trans (hb.mono HB3.out.size))
  have hz4 : w.heap.size + 1 ≤ w4.heap.size := by have := hb.size; omega
  have HX4 := hide (blk_below hb (by omega) HX3.out)
  clear hb k0 k1 k2 k3 k4
  have HOa_4 := hide hoa.sl
  clear hoa
  have HOb_4 := hide hob.sl
  clear hob
  have HOc_4 := hide hoc.sl
  clear hoc
  have HOd_4 := hide hod.sl
  clear hod
  have HOe_4 := hide hoe.sl
  clear hoe
  go_wp2_with fail
  obtain ⟨w5, hw⟩ : ∃ u, u = w4.alloc (.cells #[.slice (some ⟨ra, 0, none⟩) na na, .slice (some ⟨rb, 0, none⟩) nb nb, .slice (some ⟨rc, 0, none⟩) nc nc, .slice (some ⟨rd, 0, none⟩) nd nd, .slice (some ⟨re, 0, none⟩) ne ne] 32) := ⟨_, rfl⟩
  have hb : Below w4.heap.size w4 w5 := by rw [hw]; exact (Below.refl _ _).alloc (Nat.le_refl _) _
  have HY5 : Hid (w5.heap[w4.heap.size]? = some (.cells #[.slice (some ⟨ra, 0, none⟩) na na, .slice (some ⟨rb, 0, none⟩) nb nb, .slice (some ⟨rc, 0, none⟩) nc nc, .slice (some ⟨rd, 0, none⟩) nd nd, .slice (some ⟨re, 0, none⟩) ne ne] 32)) := by rw [hw]; exact blocks1 w4 _
  have hy5 : w4.heap.size + 1 ≤ w5.heap.size := by rw [hw]; simp
  have HB5 := hide (HB4.out.trans (hb.mono HB4.out.size))
  have hz5 : w.heap.size + 1 ≤ w5.heap.size := by have := hb.size; omega
  have HX5 := hide (blk_below hb (by omega) HX4.out)
  have HOa_5 := hide (HOa_4.out.below hb)
  clear HOa_4
  have HOb_5 := hide (HOb_4.out.below hb)
  clear HOb_4
  have HOc_5 := hide (HOc_4.out.below hb)
  clear HOc_4
  have HOd_5 := hide (HOd_4.out.below hb)
  clear HOd_4
  have HOe_5 := hide (HOe_4.out.below hb)
  clear HOe_4
  rw [← hw]
  clear hw hb
  refine (implValidDk_any _ na na xa _ nb nb xb _ nc nc xc _ nd nd xd _ ne ne xe w5 hma HOa_5.out hmb HOb_5.out hmc HOc_5.out hmd HOd_5.out hme HOe_5.out).mono ?_
  rintro e w6 ⟨rfl, hb⟩
  have HB6 := hide (HB5.out.trans (hb.mono HB5.out.size))
  have hz6 : w.heap.size + 1 ≤ w6.heap.size := by have := hb.size; omega
  have HX6 := hide (blk_below hb (by omega) HX5.out)
  have HY6 := hide (blk_below hb (by omega) HY5.out)
  have hy6 : w4.heap.size + 1 ≤ w6.heap.size := by have := hb.size; omega
  have HOa_6 := hide (HOa_5.out.below hb)
  clear HOa_5
  have HOb_6 := hide (HOb_5.out.below hb)
  clear HOb_5
  have HOc_6 := hide (HOc_5.out.below hb)
  clear HOc_5
  have HOd_6 := hide (HOd_5.out.below hb)
  clear HOd_5
  have HOe_6 := hide (HOe_5.out.below hb)
  clear HOe_5
  clear hb HX3 HX4 HX5 HY5
  have ka0p := Joins.cell_of_block HX6.out 0
  have kx0p := Joins.cell_of_block HY6.out 0
  simp at ka0p kx0p
  have ka1p := Joins.cell_of_block HX6.out 1
  have kx1p := Joins.cell_of_block HY6.out 1
  simp at ka1p kx1p
  have ka2p := Joins.cell_of_block HX6.out 2
  have kx2p := Joins.cell_of_block HY6.out 2
  simp at ka2p kx2p
  have ka3p := Joins.cell_of_block HX6.out 3
  have kx3p := Joins.cell_of_block HY6.out 3
  simp at ka3p kx3p
  have ka4p := Joins.cell_of_block HX6.out 4
  have kx4p := Joins.cell_of_block HY6.out 4
  simp at ka4p kx4p
  have GSa := hide (HSa.out.below HB6.out)
  have GSb := hide (HSb.out.below HB6.out)
  have GSc := hide (HSc.out.below HB6.out)
  have GSd := hide (HSd.out.below HB6.out)
  have GSe := hide (HSe.out.below HB6.out)
  go_wp2_with fail
  go_region_held3 (fun w' => w'.cell? ⟨w4.heap.size, 0, none⟩ = some (.slice (some ⟨ra, 0, none⟩) na na) ∧ w'.cell? ⟨w4.heap.size, 1, none⟩ = some (.slice (some ⟨rb, 0, none⟩) nb nb) ∧ w'.cell? ⟨w4.heap.size, 2, none⟩ = some (.slice (some ⟨rc, 0, none⟩) nc nc) ∧ w'.cell? ⟨w4.heap.size, 3, none⟩ = some (.slice (some ⟨rd, 0, none⟩) nd nd) ∧ w'.cell? ⟨w4.heap.size, 4, none⟩ = some (.slice (some ⟨re, 0, none⟩) ne ne) ∧ w'.cell? ⟨w.heap.size, 0, none⟩ = some (.slice Aa na ca) ∧ w'.cell? ⟨w.heap.size, 1, none⟩ = some (.slice Ab nb cb) ∧ w'.cell? ⟨w.heap.size, 2, none⟩ = some (.slice Ac nc cc) ∧ w'.cell? ⟨w.heap.size, 3, none⟩ = some (.slice Ad nd cd) ∧ w'.cell? ⟨w.heap.size, 4, none⟩ = some (.slice Ae ne ce)) ((first | exact ⟨kx0p, kx1p, kx2p, kx3p, kx4p, ka0p, ka1p, ka2p, ka3p, ka4p⟩ | exact ⟨kx0q, kx1q, kx2q, kx3q, kx4q, ka0q, ka1q, ka2q, ka3q, ka4q⟩ | exact ⟨kx0r, kx1r, kx2r, kx3r, kx4r, ka0r, ka1r, ka2r, ka3r, ka4r⟩)) (first
    | (go_at_call 17; refine (toDeskW_any Aa na ca xa Ab nb cb xb Ac nc cc xc Ad nd cd xd Ae ne ce xe _ hna (by exact GSa.out) hnb (by exact GSb.out) hnc (by exact GSc.out) hnd (by exact GSd.out) hne (by exact GSe.out)).mono ?_; rintro e w7 ⟨za, zb, zc, zd, ze, _, _, _, _, _, _, _, _, _, _, rfl, hoa, hob, hoc, hod, hoe, _, _, _, _, _, _, _, _, _, _, _, hb⟩; replace hb : Below w6.heap.size w6 w7 := ⟨hb.os, hb.tape, hb.output, hb.size, hb.block⟩; have hz7 : w6.heap.size ≤ w7.heap.size := hb.size; have HB7 := hide (HB6.out.trans (hb.mono HB6.out.size)); have HX7 := hide (blk_below hb (by omega) HX6.out); have HY7 := hide (blk_below hb (by omega) HY6.out); have HOa_7 := hide (HOa_6.out.below hb); have HOb_7 := hide (HOb_6.out.below hb); have HOc_7 := hide (HOc_6.out.below hb); have HOd_7 := hide (HOd_6.out.below hb); have HOe_7 := hide (HOe_6.out.below hb); have HTa := hide hoa.sl; have HTb := hide hob.sl; have HTc := hide hoc.sl; have HTd := hide hod.sl; have HTe := hide hoe.sl; have ka0q := Joins.cell_of_block HX7.out 0; have kx0q := Joins.cell_of_block HY7.out 0; simp at ka0q kx0q; have ka1q := Joins.cell_of_block HX7.out 1; have kx1q := Joins.cell_of_block HY7.out 1; simp at ka1q kx1q; have ka2q := Joins.cell_of_block HX7.out 2; have kx2q := Joins.cell_of_block HY7.out 2; simp at ka2q kx2q; have ka3q := Joins.cell_of_block HX7.out 3; have kx3q := Joins.cell_of_block HY7.out 3; simp at ka3q kx3q; have ka4q := Joins.cell_of_block HX7.out 4; have kx4q := Joins.cell_of_block HY7.out 4; simp at ka4q kx4q; clear hb hoa hob hoc hod hoe)
    | (go_at_call 19; refine (eqDesk_any _ _ na na na xa _ _ nb nb nb xb _ _ nc nc nc xc _ _ nd nd nd xd _ _ ne ne ne xe xe _ hma (by exact HOa_7.out) (by exact HTa.out) hmb (by exact HOb_7.out) (by exact HTb.out) hmc (by exact HOc_7.out) (by exact HTc.out) hmd (by exact HOd_7.out) (by exact HTd.out) hme (by exact HOe_7.out) (by exact HTe.out) (fun _ _ => FS.refl _ _)).mono ?_; rintro e w8 ⟨rfl, hb⟩; replace hb : Below w7.heap.size w7 w8 := ⟨hb.os, hb.tape, hb.output, hb.size, hb.block⟩; have HB8 := hide (HB7.out.trans (hb.mono HB7.out.size)); have HX8 := hide (blk_below hb (by omega) HX7.out); have HY8 := hide (blk_below hb (by omega) HY7.out); have ka0r := Joins.cell_of_block HX8.out 0; have kx0r := Joins.cell_of_block HY8.out 0; simp at ka0r kx0r; have ka1r := Joins.cell_of_block HX8.out 1; have kx1r := Joins.cell_of_block HY8.out 1; simp at ka1r kx1r; have ka2r := Joins.cell_of_block HX8.out 2; have kx2r := Joins.cell_of_block HY8.out 2; simp at ka2r kx2r; have ka3r := Joins.cell_of_block HX8.out 3; have kx3r := Joins.cell_of_block HY8.out 3; simp at ka3r kx3r; have ka4r := Joins.cell_of_block HX8.out 4; have kx4r := Joins.cell_of_block HY8.out 4; simp at ka4r kx4r; clear hb))
  go_wp2_with fail
  go_ret
  exact ⟨rfl, HB8.out⟩
end Go.Proofs.Ytbcajjpgpjadaaa
