/- The laws' own helpers over desks: sizes, copies, comparisons. -/
import Derived.Test.YtbcajjpgpjadaaaMf
import Derived.Test.YtbcajjpgpjadaaaSc
import Derived.Test.YtbcajjpgpjadaaaMs
import Derived.Test.YtbcajjpgpjadaaaDo
import Derived.Test.YtbcajjpgpjadaaaPl
namespace Go.Proofs.Ytbcajjpgpjadaaa
open Go.RowKit Go.Dues
set_option maxHeartbeats 4000000 in
theorem szDesk_any (Aa : Option Addr) (na ca : Nat) (Ab : Option Addr) (nb cb : Nat) (Ac : Option Addr) (nc cc : Nat) (Ad : Option Addr) (nd cd : Nat) (Ae : Option Addr) (ne ce : Nat) (v : Int) (w : World) (hna : na ≤ maxLen) (hnb : nb ≤ maxLen) (hnc : nc ≤ maxLen) (hnd : nd ≤ maxLen) (hne : ne ≤ maxLen) (h0 : 0 ≤ v) (h1 : v ≤ 1048576) :
    Calls Try.prog 15 #[.agg #[.slice Aa na ca, .slice Ab nb cb, .slice Ac nc cc, .slice Ad nd cd, .slice Ae ne ce], .int .i64 v] w fun e w' => ∃ q : Int, e = .returned (.int .i64 q) ∧ ((0 ≤ q ∧ q ≤ v ∧ na ≤ 1048576 ∧ nb ≤ 1048576 ∧ nc ≤ 1048576 ∧ nd ≤ 1048576 ∧ ne ≤ 1048576) ∨ q = -1) ∧ Below w.heap.size w w' := by
  have PB := hide (blocks1 w (.cells #[.slice Aa na ca, .slice Ab nb cb, .slice Ac nc cc, .slice Ad nd cd, .slice Ae ne ce] 27))
  have HB := hide ((Below.refl w.heap.size w).alloc (Nat.le_refl _) (.cells #[.slice Aa na ca, .slice Ab nb cb, .slice Ac nc cc, .slice Ad nd cd, .slice Ae ne ce] 27))
  go_enter Try.func15, Try.ntmps15
  go_wp2_with fail
  refine (szScale_any Aa Ab na ca nb cb v _ hna hnb h0 h1).mono ?_
  rintro e w1 ⟨q1, rfl, hq, hb⟩
  have hz := hb.size
  simp at hz
  have Q := hide (blk_below hb (by simp) PB.out)
  have k2 := Joins.cell_of_block Q.out 2
  have k3 := Joins.cell_of_block Q.out 3
  have k4 := Joins.cell_of_block Q.out 4
  simp at k2 k3 k4
  have HB1 := hide (HB.out.trans (hb.mono (by simp)))
  clear hb PB
  rcases hq with ⟨hq0, hq1, ha, hb⟩ | rfl
  rotate_left
  · go_wp2
    go_ret
    exact ⟨-1, rfl, .inr rfl, HB1.out⟩
  have K1 : ¬ q1 < 0 := by omega
  have Sc := fun w => hide (szIs_any Ac nc cc (q1) w hnc (by omega) (by omega))
  by_cases gc : q1 < nc
  · rw [if_pos gc] at Sc
    go_wp2_with fail
    refine (Sc _).out.mono ?_
    rintro e w' ⟨rfl, rfl⟩
    go_wp2_with fail
    go_ret
    exact ⟨-1, rfl, .inr rfl, HB1.out⟩
  rw [if_neg gc] at Sc
  have Kc : ¬ q1 - (nc : Int) < 0 := by omega
  have Sd := fun w => hide (szIs_any Ad nd cd (q1 - nc) w hnd (by omega) (by omega))
  by_cases gd : q1 - nc < nd
  · rw [if_pos gd] at Sd
    go_wp2_with fail
    refine (Sc _).out.mono ?_
    rintro e w' ⟨rfl, rfl⟩
    go_wp2_with fail
    refine (Sd _).out.mono ?_
    rintro e w' ⟨rfl, rfl⟩
    go_wp2_with fail
    go_ret
    exact ⟨-1, rfl, .inr rfl, HB1.out⟩
  rw [if_neg gd] at Sd
  have Kd : ¬ q1 - nc - (nd : Int) < 0 := by omega
  have Se := fun w => hide (szFl_any Ae ne ce (q1 - nc - nd) w hne (by omega) (by omega))
  by_cases ge : q1 - nc - nd < ne
  · rw [if_pos ge] at Se
    go_wp2_with fail
    refine (Sc _).out.mono ?_
    rintro e w' ⟨rfl, rfl⟩
    go_wp2_with fail
    refine (Sd _).out.mono ?_
    rintro e w' ⟨rfl, rfl⟩
    go_wp2_with fail
    refine (Se _).out.mono ?_
    rintro e w' ⟨rfl, rfl⟩
    go_wp2_with fail
    go_ret
    exact ⟨-1, rfl, .inr rfl, HB1.out⟩
  rw [if_neg ge] at Se
  have Ke : ¬ q1 - nc - nd - (ne : Int) < 0 := by omega
  go_wp2_with fail
  refine (Sc _).out.mono ?_
  rintro e w' ⟨rfl, rfl⟩
  go_wp2_with fail
  refine (Sd _).out.mono ?_
  rintro e w' ⟨rfl, rfl⟩
  go_wp2_with fail
  refine (Se _).out.mono ?_
  rintro e w' ⟨rfl, rfl⟩
  go_wp2_with fail
  go_ret
  exact ⟨_, rfl, .inl ⟨by omega, by omega, ha, hb, by omega, by omega, by omega⟩, HB1.out⟩
set_option maxHeartbeats 8000000 in
theorem toDeskW_any (Aa : Option Addr) (na ca : Nat) (xa : Nat → Int) (Ab : Option Addr) (nb cb : Nat) (xb : Nat → Int) (Ac : Option Addr) (nc cc : Nat) (xc : Nat → Int) (Ad : Option Addr) (nd cd : Nat) (xd : Nat → Int) (Ae : Option Addr) (ne ce : Nat) (xe : Nat → Nat) (w : World) (hna : na ≤ 1048576) (hsa : SL w Aa na (fun j => .int .i64 (xa j))) (hnb : nb ≤ 1048576) (hsb : SL w Ab nb (fun j => .int .i64 (xb j))) (hnc : nc ≤ 1048576) (hsc : SL w Ac nc (fun j => .int .i64 (xc j))) (hnd : nd ≤ 1048576) (hsd : SL w Ad nd (fun j => .int .i64 (xd j))) (hne : ne ≤ 1048576) (hse : SL w Ae ne (fun j => .float .f32 (xe j))) :
    Calls Try.prog 17 #[.agg #[.slice Aa na ca, .slice Ab nb cb, .slice Ac nc cc, .slice Ad nd cd, .slice Ae ne ce]] w fun e w' => ∃ ga gb gc gd ge la ua lb ub lc uc ld ud le ue, e = .returned (.agg #[.slice (some ⟨ga, 0, none⟩) na na, .slice (some ⟨gb, 0, none⟩) nb nb, .slice (some ⟨gc, 0, none⟩) nc nc, .slice (some ⟨gd, 0, none⟩) nd nd, .slice (some ⟨ge, 0, none⟩) ne ne]) ∧
      OW w' la ua (some ⟨ga, 0, none⟩) na (fun j => .int .i64 (xa j)) ∧ OW w' lb ub (some ⟨gb, 0, none⟩) nb (fun j => .int .i64 (xb j)) ∧ OW w' lc uc (some ⟨gc, 0, none⟩) nc (fun j => .int .i64 (xc j)) ∧ OW w' ld ud (some ⟨gd, 0, none⟩) nd (fun j => .int .i64 (xd j)) ∧ OW w' le ue (some ⟨ge, 0, none⟩) ne (fun j => .float .f32 (xe j)) ∧
      w.heap.size ≤ la ∧ la ≤ ua ∧ ua ≤ lb ∧ lb ≤ ub ∧ ub ≤ lc ∧ lc ≤ uc ∧ uc ≤ ld ∧ ld ≤ ud ∧ ud ≤ le ∧ le ≤ ue ∧ ue ≤ w'.heap.size ∧ Below w.heap.size w w' := by
  have HSa := hide hsa
  clear hsa
  have HSb := hide hsb
  clear hsb
  have HSc := hide hsc
  clear hsc
  have HSd := hide hsd
  clear hsd
  have HSe := hide hse
  clear hse
  have HB := hide ((((Below.refl w.heap.size w).alloc (Nat.le_refl _) (.cells #[.slice Aa na ca, .slice Ab nb cb, .slice Ac nc cc, .slice Ad nd cd, .slice Ae ne ce] 27)).alloc (by simp) (.cells #[.slice none 0 0, .slice none 0 0, .slice none 0 0, .slice none 0 0, .slice none 0 0] 32)).alloc (by simp; omega) (.cells #[.slice none 0 0, .slice none 0 0, .slice none 0 0, .slice none 0 0, .slice none 0 0] 32))
  have PP := hide (blocks3 w (.cells #[.slice Aa na ca, .slice Ab nb cb, .slice Ac nc cc, .slice Ad nd cd, .slice Ae ne ce] 27) (.cells #[.slice none 0 0, .slice none 0 0, .slice none 0 0, .slice none 0 0, .slice none 0 0] 32) (.cells #[.slice none 0 0, .slice none 0 0, .slice none 0 0, .slice none 0 0, .slice none 0 0] 32))
  go_enter Try.func17, Try.ntmps17
  go_wp2_with fail
  refine (toScaleW_any Aa Ab na ca nb cb xa xb _ hna hnb (HSa.out.below HB.out) (HSb.out.below HB.out)).mono ?_
  rintro e w1 ⟨ga, gb, rfl, e1, e2, e3, hb, hoa, hob⟩
  have hz1 := hb.size
  simp at hz1
  have Q0 := hide (blk_below hb (by first | (simp; done) | (simp; omega)) PP.out.1)
  have Q1 := hide (blk_below hb (by first | (simp; done) | (simp; omega)) PP.out.2.1)
  have Q2 := hide (blk_below hb (by first | (simp; done) | (simp; omega)) PP.out.2.2)
  have HOa := hide (hoa.wide (lo' := w.heap.size + 1 + 1 + 1) (hi' := gb) (by simp) (Nat.le_refl _))
  clear hoa
  have HOb := hide hob
  clear hob
  simp at e1
  have HB1 := hide (HB.out.trans (hb.mono (by simp; omega)))
  clear hb
  have c0 := Joins.cell_of_block Q2.out 0
  have f0 := Joins.unfrozen_of_block Q2.out 0
  simp at c0 f0
  have c1 := Joins.cell_of_block Q2.out 1
  have f1 := Joins.unfrozen_of_block Q2.out 1
  simp at c1 f1
  have d2 := Joins.cell_of_block Q0.out 2
  simp at d2
  go_wp2_with fail
  obtain ⟨v1, hv1⟩ : ∃ u, u = ((w1.setCell ⟨w.heap.size + 1 + 1, 0, none⟩ (.slice (some ⟨ga, 0, none⟩) na na)).setCell ⟨w.heap.size + 1 + 1, 1, none⟩ (.slice (some ⟨gb, 0, none⟩) nb nb)) := ⟨_, rfl⟩
  have zv1 : v1.heap.size = w1.heap.size := by rw [hv1]; simp [World.setCell]
  have HC1 : Hid (Below w.heap.size w v1) := by rw [hv1]; exact ((HB1.out.setCell (by simp; omega) _).setCell (by simp; omega) _)
  have HPa : Hid (OW v1 (w.heap.size + 1 + 1 + 1) (gb) (some ⟨ga, 0, none⟩) na (fun j => .int .i64 (xa j))) := by rw [hv1]; exact ((HOa.out.setCell (.inl (by first | (simp; done) | (simp; omega) | omega))).setCell (.inl (by first | (simp; done) | (simp; omega) | omega)))
  clear HOa
  have HOa := HPa
  clear HPa
  have HPb : Hid (OW v1 (gb) (w1.heap.size) (some ⟨gb, 0, none⟩) nb (fun j => .int .i64 (xb j))) := by rw [hv1]; exact ((HOb.out.setCell (.inl (by first | (simp; done) | (simp; omega) | omega))).setCell (.inl (by first | (simp; done) | (simp; omega) | omega)))
  clear HOb
  have HOb := HPb
  clear HPb
  have R0 : Hid (v1.heap[w.heap.size]? = some (.cells #[.slice Aa na ca, .slice Ab nb cb, .slice Ac nc cc, .slice Ad nd cd, .slice Ae ne ce] 27)) := by rw [hv1]; exact (blk_set (by first | (simp; done) | (simp; omega)) (blk_set (by first | (simp; done) | (simp; omega)) Q0.out))
  have R1 : Hid (v1.heap[w.heap.size + 1]? = some (.cells #[.slice none 0 0, .slice none 0 0, .slice none 0 0, .slice none 0 0, .slice none 0 0] 32)) := by rw [hv1]; exact (blk_set (by first | (simp; done) | (simp; omega)) (blk_set (by first | (simp; done) | (simp; omega)) Q1.out))
  have R2 : Hid (v1.heap[w.heap.size + 1 + 1]? = some (.cells #[.slice (some ⟨ga, 0, none⟩) na na, .slice (some ⟨gb, 0, none⟩) nb nb, .slice none 0 0, .slice none 0 0, .slice none 0 0] 32)) := by rw [hv1]; exact (Joins.block_setCell (Joins.block_setCell Q2.out (i := 0) (.slice (some ⟨ga, 0, none⟩) na na)) (i := 1) (.slice (some ⟨gb, 0, none⟩) nb nb))
  rw [← hv1]
  clear hv1 Q0 Q1 Q2 c0 f0 c1 f1 d2
  refine (toIsW_any Ac nc cc xc _ hnc (HSc.out.below HC1.out)).mono ?_
  rintro e w2 ⟨gc, rfl, q1c, q2c, hb, hoc⟩
  have hz2 := hb.size
  have Q0 := hide (blk_below hb (by omega) R0.out)
  have Q1 := hide (blk_below hb (by omega) R1.out)
  have Q2 := hide (blk_below hb (by omega) R2.out)
  have HOa := hide (HOa.out.below hb)
  have HOb := hide (HOb.out.below hb)
  have HOc := hide hoc
  clear hoc
  have HB2 := hide (HC1.out.trans (hb.mono (by omega)))
  clear hb R0 R1 R2
  have c2 := Joins.cell_of_block Q2.out 2
  have f2 := Joins.unfrozen_of_block Q2.out 2
  simp at c2 f2
  have d3 := Joins.cell_of_block Q0.out 3
  simp at d3
  go_wp2_with fail
  obtain ⟨v2, hv2⟩ : ∃ u, u = (w2.setCell ⟨w.heap.size + 1 + 1, 2, none⟩ (.slice (some ⟨gc, 0, none⟩) nc nc)) := ⟨_, rfl⟩
  have zv2 : v2.heap.size = w2.heap.size := by rw [hv2]; simp [World.setCell]
  have HC2 : Hid (Below w.heap.size w v2) := by rw [hv2]; exact (HB2.out.setCell (by simp; omega) _)
  have HPa : Hid (OW v2 (w.heap.size + 1 + 1 + 1) (gb) (some ⟨ga, 0, none⟩) na (fun j => .int .i64 (xa j))) := by rw [hv2]; exact (HOa.out.setCell (.inl (by first | (simp; done) | (simp; omega) | omega)))
  clear HOa
  have HOa := HPa
  clear HPa
  have HPb : Hid (OW v2 (gb) (w1.heap.size) (some ⟨gb, 0, none⟩) nb (fun j => .int .i64 (xb j))) := by rw [hv2]; exact (HOb.out.setCell (.inl (by first | (simp; done) | (simp; omega) | omega)))
  clear HOb
  have HOb := HPb
  clear HPb
  have HPc : Hid (OW v2 (v1.heap.size) (w2.heap.size) (some ⟨gc, 0, none⟩) nc (fun j => .int .i64 (xc j))) := by rw [hv2]; exact (HOc.out.setCell (.inl (by first | (simp; done) | (simp; omega) | omega)))
  clear HOc
  have HOc := HPc
  clear HPc
  have R0 : Hid (v2.heap[w.heap.size]? = some (.cells #[.slice Aa na ca, .slice Ab nb cb, .slice Ac nc cc, .slice Ad nd cd, .slice Ae ne ce] 27)) := by rw [hv2]; exact (blk_set (by first | (simp; done) | (simp; omega)) Q0.out)
  have R1 : Hid (v2.heap[w.heap.size + 1]? = some (.cells #[.slice none 0 0, .slice none 0 0, .slice none 0 0, .slice none 0 0, .slice none 0 0] 32)) := by rw [hv2]; exact (blk_set (by first | (simp; done) | (simp; omega)) Q1.out)
  have R2 : Hid (v2.heap[w.heap.size + 1 + 1]? = some (.cells #[.slice (some ⟨ga, 0, none⟩) na na, .slice (some ⟨gb, 0, none⟩) nb nb, .slice (some ⟨gc, 0, none⟩) nc nc, .slice none 0 0, .slice none 0 0] 32)) := by rw [hv2]; exact (Joins.block_setCell Q2.out (i := 2) (.slice (some ⟨gc, 0, none⟩) nc nc))
  rw [← hv2]
  clear hv2 Q0 Q1 Q2 c2 f2 d3
  refine (toIsW_any Ad nd cd xd _ hnd (HSd.out.below HC2.out)).mono ?_
  rintro e w3 ⟨gd, rfl, q1d, q2d, hb, hod⟩
  have hz3 := hb.size
  have Q0 := hide (blk_below hb (by omega) R0.out)
  have Q1 := hide (blk_below hb (by omega) R1.out)
  have Q2 := hide (blk_below hb (by omega) R2.out)
  have HOa := hide (HOa.out.below hb)
  have HOb := hide (HOb.out.below hb)
  have HOc := hide (HOc.out.below hb)
  have HOd := hide hod
  clear hod
  have HB3 := hide (HC2.out.trans (hb.mono (by omega)))
  clear hb R0 R1 R2
  have c3 := Joins.cell_of_block Q2.out 3
  have f3 := Joins.unfrozen_of_block Q2.out 3
  simp at c3 f3
  have d4 := Joins.cell_of_block Q0.out 4
  simp at d4
  go_wp2_with fail
  obtain ⟨v3, hv3⟩ : ∃ u, u = (w3.setCell ⟨w.heap.size + 1 + 1, 3, none⟩ (.slice (some ⟨gd, 0, none⟩) nd nd)) := ⟨_, rfl⟩
  have zv3 : v3.heap.size = w3.heap.size := by rw [hv3]; simp [World.setCell]
  have HC3 : Hid (Below w.heap.size w v3) := by rw [hv3]; exact (HB3.out.setCell (by simp; omega) _)
  have HPa : Hid (OW v3 (w.heap.size + 1 + 1 + 1) (gb) (some ⟨ga, 0, none⟩) na (fun j => .int .i64 (xa j))) := by rw [hv3]; exact (HOa.out.setCell (.inl (by first | (simp; done) | (simp; omega) | omega)))
  clear HOa
  have HOa := HPa
  clear HPa
  have HPb : Hid (OW v3 (gb) (w1.heap.size) (some ⟨gb, 0, none⟩) nb (fun j => .int .i64 (xb j))) := by rw [hv3]; exact (HOb.out.setCell (.inl (by first | (simp; done) | (simp; omega) | omega)))
  clear HOb
  have HOb := HPb
  clear HPb
  have HPc : Hid (OW v3 (v1.heap.size) (w2.heap.size) (some ⟨gc, 0, none⟩) nc (fun j => .int .i64 (xc j))) := by rw [hv3]; exact (HOc.out.setCell (.inl (by first | (simp; done) | (simp; omega) | omega)))
  clear HOc
  have HOc := HPc
  clear HPc
  have HPd : Hid (OW v3 (v2.heap.size) (w3.heap.size) (some ⟨gd, 0, none⟩) nd (fun j => .int .i64 (xd j))) := by rw [hv3]; exact (HOd.out.setCell (.inl (by first | (simp; done) | (simp; omega) | omega)))
  clear HOd
  have HOd := HPd
  clear HPd
  have R0 : Hid (v3.heap[w.heap.size]? = some (.cells #[.slice Aa na ca, .slice Ab nb cb, .slice Ac nc cc, .slice Ad nd cd, .slice Ae ne ce] 27)) := by rw [hv3]; exact (blk_set (by first | (simp; done) | (simp; omega)) Q0.out)
  have R1 : Hid (v3.heap[w.heap.size + 1]? = some (.cells #[.slice none 0 0, .slice none 0 0, .slice none 0 0, .slice none 0 0, .slice none 0 0] 32)) := by rw [hv3]; exact (blk_set (by first | (simp; done) | (simp; omega)) Q1.out)
  have R2 : Hid (v3.heap[w.heap.size + 1 + 1]? = some (.cells #[.slice (some ⟨ga, 0, none⟩) na na, .slice (some ⟨gb, 0, none⟩) nb nb, .slice (some ⟨gc, 0, none⟩) nc nc, .slice (some ⟨gd, 0, none⟩) nd nd, .slice none 0 0] 32)) := by rw [hv3]; exact (Joins.block_setCell Q2.out (i := 3) (.slice (some ⟨gd, 0, none⟩) nd nd))
  rw [← hv3]
  clear hv3 Q0 Q1 Q2 c3 f3 d4
  refine (toFlW_any Ae ne ce xe _ hne (HSe.out.below HC3.out)).mono ?_
  rintro e w4 ⟨ge, rfl, hb, hoe⟩
  have hz4 := hb.size
  have Q0 := hide (blk_below hb (by omega) R0.out)
  have Q1 := hide (blk_below hb (by omega) R1.out)
  have Q2 := hide (blk_below hb (by omega) R2.out)
  have HOa := hide (HOa.out.below hb)
  have HOb := hide (HOb.out.below hb)
  have HOc := hide (HOc.out.below hb)
  have HOd := hide (HOd.out.below hb)
  have HOe := hide hoe
  clear hoe
  have HB4 := hide (HC3.out.trans (hb.mono (by omega)))
  clear hb R0 R1 R2
  have c4 := Joins.cell_of_block Q2.out 4
  have f4 := Joins.unfrozen_of_block Q2.out 4
  simp at c4 f4
  skip
  have S2 : Hid ((w4.setCell ⟨w.heap.size + 1 + 1, 4, none⟩ (.slice (some ⟨ge, 0, none⟩) ne ne)).heap[w.heap.size + 1 + 1]? = some (.cells #[.slice (some ⟨ga, 0, none⟩) na na, .slice (some ⟨gb, 0, none⟩) nb nb, .slice (some ⟨gc, 0, none⟩) nc nc, .slice (some ⟨gd, 0, none⟩) nd nd, .slice (some ⟨ge, 0, none⟩) ne ne] 32)) := hide (Joins.block_setCell Q2.out (i := 4) (.slice (some ⟨ge, 0, none⟩) ne ne))
  have k0 := Joins.cell_of_block S2.out 0
  have m0 := Joins.cell_of_block Q1.out 0
  have n0 := Joins.unfrozen_of_block Q1.out 0
  simp at k0 m0 n0
  have k1 := Joins.cell_of_block S2.out 1
  have m1 := Joins.cell_of_block Q1.out 1
  have n1 := Joins.unfrozen_of_block Q1.out 1
  simp at k1 m1 n1
  have k2 := Joins.cell_of_block S2.out 2
  have m2 := Joins.cell_of_block Q1.out 2
  have n2 := Joins.unfrozen_of_block Q1.out 2
  simp at k2 m2 n2
  have k3 := Joins.cell_of_block S2.out 3
  have m3 := Joins.cell_of_block Q1.out 3
  have n3 := Joins.unfrozen_of_block Q1.out 3
  simp at k3 m3 n3
  have k4 := Joins.cell_of_block S2.out 4
  have m4 := Joins.cell_of_block Q1.out 4
  have n4 := Joins.unfrozen_of_block Q1.out 4
  simp at k4 m4 n4
  go_wp2
  have R := (Joins.block_setCell (Joins.block_setCell (Joins.block_setCell (Joins.block_setCell (Joins.block_setCell (blk_set (p := ⟨w.heap.size + 1 + 1, 4, none⟩) (v := .slice (some ⟨ge, 0, none⟩) ne ne) (by simp) Q1.out) (i := 0) (.slice (some ⟨ga, 0, none⟩) na na)) (i := 1) (.slice (some ⟨gb, 0, none⟩) nb nb)) (i := 2) (.slice (some ⟨gc, 0, none⟩) nc nc)) (i := 3) (.slice (some ⟨gd, 0, none⟩) nd nd)) (i := 4) (.slice (some ⟨ge, 0, none⟩) ne ne))
  have r0 := Joins.cell_of_block R 0
  simp at r0
  have r1 := Joins.cell_of_block R 1
  simp at r1
  have r2 := Joins.cell_of_block R 2
  simp at r2
  have r3 := Joins.cell_of_block R 3
  simp at r3
  have r4 := Joins.cell_of_block R 4
  simp at r4
  refine bodyPost_ret (v := .agg #[.slice (some ⟨ga, 0, none⟩) na na, .slice (some ⟨gb, 0, none⟩) nb nb, .slice (some ⟨gc, 0, none⟩) nc nc, .slice (some ⟨gd, 0, none⟩) nd nd, .slice (some ⟨ge, 0, none⟩) ne ne]) (by simp [results, Try.results17, go_sem, r0, r1, r2, r3, r4]) rfl ⟨ga, gb, gc, gd, ge, _, _, _, _, _, _, _, _, _, _, rfl, ((((((HOa.out.setCell ?_).setCell ?_).setCell ?_).setCell ?_).setCell ?_).setCell ?_), ((((((HOb.out.setCell ?_).setCell ?_).setCell ?_).setCell ?_).setCell ?_).setCell ?_), ((((((HOc.out.setCell ?_).setCell ?_).setCell ?_).setCell ?_).setCell ?_).setCell ?_), ((((((HOd.out.setCell ?_).setCell ?_).setCell ?_).setCell ?_).setCell ?_).setCell ?_), ((((((HOe.out.setCell ?_).setCell ?_).setCell ?_).setCell ?_).setCell ?_).setCell ?_), ?_, ?_, ?_, ?_, ?_, ?_, ?_, ?_, ?_, ?_, ?_, ((((((HB4.out.setCell ?_ _).setCell ?_ _).setCell ?_ _).setCell ?_ _).setCell ?_ _).setCell ?_ _)⟩
  all_goals first | (simp [World.setCell]; done) | (simp [World.setCell]; omega) | (exact .inl (by first | (simp; done) | (simp; omega) | omega)) | omega
set_option maxHeartbeats 4000000 in
theorem eqDesk_any (Aa Ba : Option Addr) (na ca ea : Nat) (xa : Nat → Int) (Ab Bb : Option Addr) (nb cb eb : Nat) (xb : Nat → Int) (Ac Bc : Option Addr) (nc cc ec : Nat) (xc : Nat → Int) (Ad Bd : Option Addr) (nd cd ed : Nat) (xd : Nat → Int) (Ae Be : Option Addr) (ne ce ee : Nat) (xe ye : Nat → Nat) (w : World) (hna : na ≤ maxLen) (hsa : SL w Aa na (fun j => .int .i64 (xa j))) (hta : SL w Ba na (fun j => .int .i64 (xa j))) (hnb : nb ≤ maxLen) (hsb : SL w Ab nb (fun j => .int .i64 (xb j))) (htb : SL w Bb nb (fun j => .int .i64 (xb j))) (hnc : nc ≤ maxLen) (hsc : SL w Ac nc (fun j => .int .i64 (xc j))) (htc : SL w Bc nc (fun j => .int .i64 (xc j))) (hnd : nd ≤ maxLen) (hsd : SL w Ad nd (fun j => .int .i64 (xd j))) (htd : SL w Bd nd (fun j => .int .i64 (xd j))) (hne : ne ≤ maxLen) (hse : SL w Ae ne (fun j => .float .f32 (xe j))) (hte : SL w Be ne (fun j => .float .f32 (ye j))) (hxy : ∀ j, j < ne → FS .f32 (xe j) (ye j)) :
    Calls Try.prog 19 #[.agg #[.slice Aa na ca, .slice Ab nb cb, .slice Ac nc cc, .slice Ad nd cd, .slice Ae ne ce], .agg #[.slice Ba na ea, .slice Bb nb eb, .slice Bc nc ec, .slice Bd nd ed, .slice Be ne ee]] w fun e w' => e = .returned (.bool true) ∧ Below w.heap.size w w' := by
  obtain ⟨W, hW⟩ : ∃ u, u = (w.alloc (.cells #[.slice Aa na ca, .slice Ab nb cb, .slice Ac nc cc, .slice Ad nd cd, .slice Ae ne ce] 32)).alloc (.cells #[.slice Ba na ea, .slice Bb nb eb, .slice Bc nc ec, .slice Bd nd ed, .slice Be ne ee] 32) := ⟨_, rfl⟩
  have HB : Hid (Below w.heap.size w W) := by rw [hW]; exact ((Below.refl w.heap.size w).alloc (Nat.le_refl _) _).alloc (by simp) _
  have HX1 : Hid (W.heap[w.heap.size]? = some (.cells #[.slice Aa na ca, .slice Ab nb cb, .slice Ac nc cc, .slice Ad nd cd, .slice Ae ne ce] 32)) := by rw [hW]; exact (blocks2 w _ _).1
  have HX2 : Hid (W.heap[w.heap.size + 1]? = some (.cells #[.slice Ba na ea, .slice Bb nb eb, .slice Bc nc ec, .slice Bd nd ed, .slice Be ne ee] 32)) := by rw [hW]; exact (blocks2 w _ _).2
  have hz0 : w.heap.size + 2 ≤ W.heap.size := by rw [hW]; simp
  have HSa := hide (hsa.below HB.out)
  have HTa := hide (hta.below HB.out)
  clear hsa hta
  have HSb := hide (hsb.below HB.out)
  have HTb := hide (htb.below HB.out)
  clear hsb htb
  have HSc := hide (hsc.below HB.out)
  have HTc := hide (htc.below HB.out)
  clear hsc htc
  have HSd := hide (hsd.below HB.out)
  have HTd := hide (htd.below HB.out)
  clear hsd htd
  have HSe := hide (hse.below HB.out)
  have HTe := hide (hte.below HB.out)
  clear hse hte
  have HXY := hide hxy
  clear hxy
  have HW := hide hW
  have a0 := Joins.cell_of_block HX1.out 0
  have b0 := Joins.cell_of_block HX2.out 0
  simp at a0 b0
  have i0 := a0
  have l0 := b0
  rw [hW] at i0 l0
  have a1 := Joins.cell_of_block HX1.out 1
  have b1 := Joins.cell_of_block HX2.out 1
  simp at a1 b1
  have i1 := a1
  have l1 := b1
  rw [hW] at i1 l1
  clear hW
  go_enter Try.func19, Try.ntmps19
  go_wp2_with fail
  rw [← HW.out]
  clear HW i0 l0 i1 l1
  refine (eqScale_any Aa Ab Ba Bb na ca nb cb ea eb xa xb W hna hnb HSa.out HSb.out HTa.out HTb.out).mono ?_
  rintro e w1 ⟨rfl, hb⟩
  have hz := hb.size
  have HB1 := hide (HB.out.trans (hb.mono HB.out.size))
  have HY1 := hide (blk_below hb (by omega) HX1.out)
  have HY2 := hide (blk_below hb (by omega) HX2.out)
  have HSc := hide (HSc.out.below hb)
  have HTc := hide (HTc.out.below hb)
  have HSd := hide (HSd.out.below hb)
  have HTd := hide (HTd.out.below hb)
  have HSe := hide (HSe.out.below hb)
  have HTe := hide (HTe.out.below hb)
  clear hb a0 a1 b0 b1
  have a2 := Joins.cell_of_block HY1.out 2
  have b2 := Joins.cell_of_block HY2.out 2
  simp at a2 b2
  have a3 := Joins.cell_of_block HY1.out 3
  have b3 := Joins.cell_of_block HY2.out 3
  simp at a3 b3
  have a4 := Joins.cell_of_block HY1.out 4
  have b4 := Joins.cell_of_block HY2.out 4
  simp at a4 b4
  go_wp2_with fail
  refine (eqIs_any Ac Bc nc cc ec xc _ hnc (show SL w1 _ _ _ from HSc.out) (show SL w1 _ _ _ from HTc.out)).mono ?_
  rintro e w' ⟨rfl, qc, rfl⟩
  go_wp2_with fail
  refine (eqIs_any Ad Bd nd cd ed xd _ hnd (show SL (World.drewN w1 _) _ _ _ from HSd.out) (show SL (World.drewN w1 _) _ _ _ from HTd.out)).mono ?_
  rintro e w' ⟨rfl, qd, rfl⟩
  go_wp2_with fail
  refine (eqFl_any Ae Be ne ce ee xe ye _ hne (show SL (World.drewN w1 _) _ _ _ from HSe.out) (show SL (World.drewN w1 _) _ _ _ from HTe.out) HXY.out).mono ?_
  rintro e w' ⟨rfl, qe, rfl⟩
  go_wp2_with fail
  go_ret
  exact ⟨rfl, by first | exact bel_q HB1.out _ | exact bel_q (bel_q HB1.out _) _ | exact bel_q (bel_q (bel_q HB1.out _) _) _⟩
end Go.Proofs.Ytbcajjpgpjadaaa
