/- The law FnExactJoinScales, walked. -/
import Derived.Test.YtpbbedelapnnnaaJr
import Derived.Test.YtpbbedelapnnnaaJo
import Derived.Test.YtpbbedelapnnnaaMs
import Derived.Test.YtpbbedelapnnnaaMk
import Derived.Test.YtpbbedelapnnnaaRow
import Derived.Deep.RegionHeld3
import Derived.Deep.RegionWith
import Derived.Deep.CutRange
namespace Go.Proofs.Ytpbbedelapnnnaa
open Go.RowKit Go.Dues
/-- a scale of the call's own, boxed: where it lies -/
def JoW (w0 : World) (n : Nat) (x y : Nat → Int) (p : Bool) (s6 s7 : Value) (wx : World) : Prop :=
  ∃ (B : Nat) (W : Option Addr) (Wc : Nat) (W' : Option Addr) (Wc' : Nat), s6 = .pointer (some ⟨B, 0, none⟩) ∧ s7 = .bool p ∧ wx.heap[B]? = some (.cells #[.slice W n Wc, .slice W' n Wc'] 46) ∧ OW2 wx w0.heap.size wx.heap.size W n x W' n y ∧ Below w0.heap.size w0 wx ∧ w0.heap.size ≤ B ∧ B < wx.heap.size
theorem ow2_set {w : World} {lo hi n n' : Nat} {A A' : Option Addr} {x x' : Nat → Int} {p : Addr} {v : Value} (h : OW2 w lo hi A n x A' n' x') (hp : p.block < lo ∨ hi ≤ p.block) : OW2 (w.setCell p v) lo hi A n x A' n' x' := ⟨h.1.setCell hp, h.2.1.setCell hp, h.2.2⟩
theorem jow_set {w0 v : World} {lo B n Wc Wc' : Nat} {W W' : Option Addr} {x y : Nat → Int} {p : Bool} (hz : v.heap[B]? = some (.cells #[.slice none 0 0, .slice none 0 0] 46)) (ho : OW2 v lo v.heap.size W n x W' n y) (hB : B < lo) (hB0 : w0.heap.size ≤ B) (hl : w0.heap.size ≤ lo) (hb : Below w0.heap.size w0 v) :
    JoW w0 n x y p (.pointer (some ⟨B, 0, none⟩)) (.bool p) ((v.setCell ⟨B, 0, none⟩ (.slice W n Wc)).setCell ⟨B, 1, none⟩ (.slice W' n Wc')) := by
  have hlt := (Array.getElem?_eq_some_iff.1 hz).1
  refine ⟨B, W, Wc, W', Wc', rfl, rfl, Joins.block_setCell (Joins.block_setCell hz _) _, ?_, (hb.setCell hB0 _).setCell hB0 _, hB0, by simpa using hlt⟩
  have h2 := ow2_set (p := ⟨B, 1, none⟩) (v := .slice W' n Wc') (ow2_set (p := ⟨B, 0, none⟩) (v := .slice W n Wc) ho (.inl hB)) (.inl hB)
  exact h2.wide hl (by simp)
theorem jow_new {w0 v : World} {lo n Wc Wc' : Nat} {W W' : Option Addr} {x y : Nat → Int} {p : Bool} (ho : OW2 v lo v.heap.size W n x W' n y) (hl : w0.heap.size ≤ lo) (hb : Below w0.heap.size w0 v) :
    JoW w0 n x y p (.pointer (some ⟨v.heap.size, 0, none⟩)) (.bool p) (v.alloc (.cells #[.slice W n Wc, .slice W' n Wc'] 46)) :=
  ⟨_, W, Wc, W', Wc', rfl, rfl, blocks1 v _, (ho.below ((Below.refl _ _).alloc (Nat.le_refl _) _)).wide hl (by simp), hb.alloc hb.size _, hb.size, by simp⟩
set_option maxRecDepth 100000 in
set_option maxHeartbeats 16000000 in
theorem lawJoinScales_any (A0 A0' : Option Addr) (n0 c0 n0' c0' : Nat) (x0 y0 : Nat → Int) (A1 A1' : Option Addr) (n1 c1 n1' c1' : Nat) (x1 y1 : Nat → Int) (w : World) (hm0 : n0 ≤ maxLen) (hm0' : n0' ≤ maxLen) (hs0 : SL w A0 n0 (fun j => .int .i64 (x0 j))) (hs0' : SL w A0' n0' (fun j => .int .i64 (y0 j))) (hm1 : n1 ≤ maxLen) (hm1' : n1' ≤ maxLen) (hs1 : SL w A1 n1 (fun j => .int .i64 (x1 j))) (hs1' : SL w A1' n1' (fun j => .int .i64 (y1 j))) :
    Calls Try.prog 5 #[.agg #[.slice A0 n0 c0, .slice A0' n0' c0'], .agg #[.slice A1 n1 c1, .slice A1' n1' c1']] w fun e w' => e = .returned (.bool true) ∧ Below w.heap.size w w' := by
  have HS0 := hide hs0
  have HS0' := hide hs0'
  clear hs0 hs0'
  have HS1 := hide hs1
  have HS1' := hide hs1'
  clear hs1 hs1'
  obtain ⟨w0, hw0⟩ : ∃ u, u = ((w.alloc (.cells #[.slice A0 n0 c0, .slice A0' n0' c0'] 44)).alloc (.cells #[.slice A1 n1 c1, .slice A1' n1' c1'] 44)) := ⟨_, rfl⟩
  have HB0 : Hid (Below w.heap.size w w0) := by rw [hw0]; exact (((Below.refl w.heap.size w).alloc (Nat.le_refl _) (.cells #[.slice A0 n0 c0, .slice A0' n0' c0'] 44)).alloc (by simp) (.cells #[.slice A1 n1 c1, .slice A1' n1' c1'] 44))
  have HXa0_0 : Hid (w0.heap[w.heap.size]? = some (.cells #[.slice A0 n0 c0, .slice A0' n0' c0'] 44)) := by rw [hw0]; exact (blocks2 w _ _).1
  have HXa1_0 : Hid (w0.heap[w.heap.size + 1]? = some (.cells #[.slice A1 n1 c1, .slice A1' n1' c1'] 44)) := by rw [hw0]; exact (blocks2 w _ _).2
  have hs0 : w.heap.size + 2 ≤ w0.heap.size := by rw [hw0]; simp
  have HW := hide hw0
  clear hw0
  go_enter Try.func5, Try.ntmps5
  go_wp2_with fail
  rw [← HW.out]
  clear HW
  refine (szScale_any A0 A0' n0 c0 n0' c0' 1048576 _ hm0 hm0' (by omega) (by omega)).mono ?_
  rintro e w1 ⟨m0, rfl, hm, hb⟩
  have HB1 := hide (HB0.out.trans (hb.mono HB0.out.size))
  have hs1 : w0.heap.size ≤ w1.heap.size := hb.size
  have HXa0_1 := hide (blk_below hb (by omega) HXa0_0.out)
  clear HXa0_0
  have HXa1_1 := hide (blk_below hb (by omega) HXa1_0.out)
  clear HXa1_0
  clear hb
  rcases hm with ⟨hl0, hu0, hn0, hn0'⟩ | rfl
  rotate_left
  · go_wp2
    go_ret
    exact ⟨rfl, HB1.out⟩
  have ka1 := Joins.cell_of_block HXa1_1.out 0
  have ka1' := Joins.cell_of_block HXa1_1.out 1
  simp at ka1 ka1'
  go_wp2_with fail
  refine (szScale_any A1 A1' n1 c1 n1' c1' m0 _ hm1 hm1' (by omega) (by omega)).mono ?_
  rintro e w2 ⟨m1, rfl, hm, hb⟩
  have HB2 := hide (HB1.out.trans (hb.mono HB1.out.size))
  have hs2 : w1.heap.size ≤ w2.heap.size := hb.size
  have HXa0_2 := hide (blk_below hb (by omega) HXa0_1.out)
  clear HXa0_1
  have HXa1_2 := hide (blk_below hb (by omega) HXa1_1.out)
  clear HXa1_1
  clear hb
  clear ka1 ka1'
  rcases hm with ⟨hl1, hu1, hn1, hn1'⟩ | rfl
  rotate_left
  · go_wp2
    go_ret
    exact ⟨rfl, HB2.out⟩
  have AL := hide (show Below w2.heap.size w2 (w2.alloc (.cells #[.slice none 0 0, .slice none 0 0] 46)).drew from bel_q ((Below.refl _ _).alloc (Nat.le_refl _) _) 1)
  have AQ := hide (show Below w2.heap.size w2 w2.drew from bel_q (Below.refl _ _) 1)
  have SA := hide (show ∀ u, Below w2.heap.size w2 u → SL u A0 n0 (fun j => .int .i64 (x0 j)) ∧ SL u A0' n0' (fun j => .int .i64 (y0 j)) from fun u hu => ⟨(HS0.out.below HB2.out).below hu, (HS0'.out.below HB2.out).below hu⟩)
  have SB := hide (show ∀ u, Below w2.heap.size w2 u → SL u A1 n1 (fun j => .int .i64 (x1 j)) ∧ SL u A1' n1' (fun j => .int .i64 (y1 j)) from fun u hu => ⟨(HS1.out.below HB2.out).below hu, (HS1'.out.below HB2.out).below hu⟩)
  have KK := hide (show ∀ u, Below w2.heap.size w2 u → u.cell? ⟨w.heap.size, 0, none⟩ = some (Value.slice A0 n0 c0) ∧ u.cell? ⟨w.heap.size, 1, none⟩ = some (Value.slice A0' n0' c0') ∧ u.cell? ⟨w.heap.size + 1, 0, none⟩ = some (Value.slice A1 n1 c1) ∧ u.cell? ⟨w.heap.size + 1, 1, none⟩ = some (Value.slice A1' n1' c1') from fun u hu => by
    have q0 := blk_below hu (by omega) HXa0_2.out
    have q1 := blk_below hu (by omega) HXa1_2.out
    have r0 := Joins.cell_of_block q0 0
    have r1 := Joins.cell_of_block q0 1
    have r2 := Joins.cell_of_block q1 0
    have r3 := Joins.cell_of_block q1 1
    simp at r0 r1 r2 r3
    exact ⟨r0, r1, r2, r3⟩)
  have kk0 := (KK.out _ (Below.refl _ _)).1
  have kk1 := (KK.out _ (Below.refl _ _)).2.1
  have kk2 := (KK.out _ (Below.refl _ _)).2.2.1
  have kk3 := (KK.out _ (Below.refl _ _)).2.2.2
  have TK0 := True.intro
  go_upto_region 8 with fail
  go_cut [6, 7] from 27 to 34 (fun s6 s7 wx => JoW w2 (lenV (joP x0 y0 n0 n0' x1 y1 n1 n1') (joN x0 n0 x1 n1)) (joV x0 n0 x1 n1) (joR x0 y0 n0 x1 y1 n1) (tru (joP x0 y0 n0 n0' x1 y1 n1 n1')) s6 s7 wx)
  case first =>
    have al0 := (KK.out _ AL.out).1
    have al1 := (KK.out _ AL.out).2.1
    have al2 := (KK.out _ AL.out).2.2.1
    have al3 := (KK.out _ AL.out).2.2.2
    go_region_held3 (fun w' => w'.cell? ⟨w.heap.size, 0, none⟩ = some (Value.slice A0 n0 c0) ∧ w'.cell? ⟨w.heap.size, 1, none⟩ = some (Value.slice A0' n0' c0') ∧ w'.cell? ⟨w.heap.size + 1, 0, none⟩ = some (Value.slice A1 n1 c1) ∧ w'.cell? ⟨w.heap.size + 1, 1, none⟩ = some (Value.slice A1' n1' c1')) ((refine KK.out _ ?_; first | with_reducible exact AQ.out | with_reducible exact AL.out | with_reducible exact V1.out | with_reducible exact (V1.out.alloc V1.out.size _) | with_reducible exact V2.out | with_reducible exact (V2.out.alloc V2.out.size _) | with_reducible exact V3.out | with_reducible exact (V3.out.alloc V3.out.size _) | exact (V3.out.setCell (by first | exact Nat.le_refl _ | exact V1.out.size | exact V2.out.size | exact V3.out.size) _).setCell (by first | exact Nat.le_refl _ | exact V1.out.size | exact V2.out.size | exact V3.out.size) _ | exact ((V3.out.alloc V3.out.size _).setCell (by first | exact Nat.le_refl _ | exact V1.out.size | exact V2.out.size | exact V3.out.size) _).setCell (by first | exact Nat.le_refl _ | exact V1.out.size | exact V2.out.size | exact V3.out.size) _ | fail)) (first
      | (go_at_call 30; have tk1 := TK0; clear tk1; refine (toScaleW_any A0 A0' n0 c0 n0' c0' x0 y0 _ hn0 hn0' (SA.out _ (by first | with_reducible exact AQ.out | with_reducible exact AL.out | with_reducible exact V1.out | with_reducible exact (V1.out.alloc V1.out.size _) | with_reducible exact V2.out | with_reducible exact (V2.out.alloc V2.out.size _) | with_reducible exact V3.out | with_reducible exact (V3.out.alloc V3.out.size _))).1 (SA.out _ (by first | with_reducible exact AQ.out | with_reducible exact AL.out | with_reducible exact V1.out | with_reducible exact (V1.out.alloc V1.out.size _) | with_reducible exact V2.out | with_reducible exact (V2.out.alloc V2.out.size _) | with_reducible exact V3.out | with_reducible exact (V3.out.alloc V3.out.size _))).2).mono ?_; rintro e v1 ⟨h0, h0', rfl, hg1, hg2, hg3, hb, ho, ho'⟩; have V1 : Hid (Below w2.heap.size w2 v1) := hide (by first | (have hq : Below w2.drew.heap.size w2.drew v1 := (by with_reducible exact hb); exact AQ.out.trans (hq.mono AQ.out.size)) | (have hq : Below (w2.alloc (.cells #[.slice none 0 0, .slice none 0 0] 46)).drew.heap.size (w2.alloc (.cells #[.slice none 0 0, .slice none 0 0] 46)).drew v1 := (by with_reducible exact hb); exact AL.out.trans (hq.mono AL.out.size))); have R1 := hide (show SL v1 _ n0 (fun j => .int .i64 (x0 j)) ∧ SL v1 _ n0' (fun j => .int .i64 (y0 j)) from ⟨ho.sl, ho'.sl⟩); (try (have hq : Below (w2.alloc (.cells #[.slice none 0 0, .slice none 0 0] 46)).drew.heap.size (w2.alloc (.cells #[.slice none 0 0, .slice none 0 0] 46)).drew v1 := (by with_reducible exact hb); have ZA1 := hide (show v1.heap[w2.heap.size]? = some (.cells #[.slice none 0 0, .slice none 0 0] 46) from (hq.block w2.heap.size (by simp)).trans (blocks1 w2 _)))); have m2 := (KK.out _ V1.out).2.2.1; have m3 := (KK.out _ V1.out).2.2.2; have n2 := (KK.out _ (V1.out.alloc V1.out.size (.cells #[.slice none 0 0, .slice none 0 0] 46))).2.2.1; have n3 := (KK.out _ (V1.out.alloc V1.out.size (.cells #[.slice none 0 0, .slice none 0 0] 46))).2.2.2; clear hb ho ho' hg1 hg2 hg3 TK0)
      | (go_at_call 30; refine (toScaleW_any A1 A1' n1 c1 n1' c1' x1 y1 _ hn1 hn1' (SB.out _ (by first | with_reducible exact AQ.out | with_reducible exact AL.out | with_reducible exact V1.out | with_reducible exact (V1.out.alloc V1.out.size _) | with_reducible exact V2.out | with_reducible exact (V2.out.alloc V2.out.size _) | with_reducible exact V3.out | with_reducible exact (V3.out.alloc V3.out.size _))).1 (SB.out _ (by first | with_reducible exact AQ.out | with_reducible exact AL.out | with_reducible exact V1.out | with_reducible exact (V1.out.alloc V1.out.size _) | with_reducible exact V2.out | with_reducible exact (V2.out.alloc V2.out.size _) | with_reducible exact V3.out | with_reducible exact (V3.out.alloc V3.out.size _))).2).mono ?_; rintro e v2 ⟨h1, h1', rfl, hg1, hg2, hg3, hb, ho, ho'⟩; have V12 : Hid (Below v1.heap.size v1 v2) := hide (by first | (with_reducible exact hb) | exact ((Below.refl v1.heap.size v1).alloc (Nat.le_refl _) (.cells #[.slice none 0 0, .slice none 0 0] 46)).trans (hb.mono (by simp))); have V2 := hide (V1.out.trans (V12.out.mono V1.out.size)); have R2 := hide (show (SL v2 _ n0 (fun j => .int .i64 (x0 j)) ∧ SL v2 _ n0' (fun j => .int .i64 (y0 j))) ∧ SL v2 _ n1 (fun j => .int .i64 (x1 j)) ∧ SL v2 _ n1' (fun j => .int .i64 (y1 j)) from ⟨⟨R1.out.1.below V12.out, R1.out.2.below V12.out⟩, ho.sl, ho'.sl⟩); (try (have ZA2 := hide (show v2.heap[w2.heap.size]? = some (.cells #[.slice none 0 0, .slice none 0 0] 46) from (V12.out.block _ (Array.getElem?_eq_some_iff.1 ZA1.out).1).trans ZA1.out))); (try (have hq : Below (v1.alloc (.cells #[.slice none 0 0, .slice none 0 0] 46)).heap.size (v1.alloc (.cells #[.slice none 0 0, .slice none 0 0] 46)) v2 := (by with_reducible exact hb); have ZB2 := hide (show v2.heap[v1.heap.size]? = some (.cells #[.slice none 0 0, .slice none 0 0] 46) from (hq.block v1.heap.size (by simp)).trans (blocks1 v1 _)))); clear hb ho ho' hg1 hg2 hg3)
      | (go_at_call 29; have R3 := hide (show ∀ u, Below v2.heap.size v2 u → (SL u _ n0 (fun j => .int .i64 (x0 j)) ∧ SL u _ n0' (fun j => .int .i64 (y0 j))) ∧ SL u _ n1 (fun j => .int .i64 (x1 j)) ∧ SL u _ n1' (fun j => .int .i64 (y1 j)) from fun u hu => ⟨⟨R2.out.1.1.below hu, R2.out.1.2.below hu⟩, R2.out.2.1.below hu, R2.out.2.2.below hu⟩); have Q3 : Hid (Below v2.heap.size v2 v2) := Below.refl _ _; have Q4 := hide (Q3.out.alloc Q3.out.size (.cells #[.slice none 0 0, .slice none 0 0] 46)); refine (specJoin_any _ _ n0 n0 n0' n0' x0 y0 _ _ n1 n1 n1' n1' x1 y1 _ hm0 hm0' (R3.out _ (by first | with_reducible exact Q3.out | with_reducible exact Q4.out)).1.1 (R3.out _ (by first | with_reducible exact Q3.out | with_reducible exact Q4.out)).1.2 hm1 hm1' (R3.out _ (by first | with_reducible exact Q3.out | with_reducible exact Q4.out)).2.1 (R3.out _ (by first | with_reducible exact Q3.out | with_reducible exact Q4.out)).2.2).mono ?_; rintro e v3 ⟨W, Wc, W', Wc', rfl, ho, hb⟩; have V23 : Hid (Below v2.heap.size v2 v3) := hide (by first | (with_reducible exact hb) | exact ((Below.refl v2.heap.size v2).alloc (Nat.le_refl _) (.cells #[.slice none 0 0, .slice none 0 0] 46)).trans (hb.mono (by simp))); have V3 := hide (V2.out.trans (V23.out.mono V2.out.size)); have HO := hide ho; (try (have ZA3 := hide (show v3.heap[w2.heap.size]? = some (.cells #[.slice none 0 0, .slice none 0 0] 46) from (V23.out.block _ (Array.getElem?_eq_some_iff.1 ZA2.out).1).trans ZA2.out); have pZA30 := Joins.cell_of_block ZA3.out 0; have uZA30 := Joins.unfrozen_of_block ZA3.out 0; have pZA31 := Joins.cell_of_block ZA3.out 1; have uZA31 := Joins.unfrozen_of_block ZA3.out 1; (try simp at pZA30 pZA31); (try simp at uZA30 uZA31))); (try (have ZB3 := hide (show v3.heap[v1.heap.size]? = some (.cells #[.slice none 0 0, .slice none 0 0] 46) from (V23.out.block _ (Array.getElem?_eq_some_iff.1 ZB2.out).1).trans ZB2.out); have pZB30 := Joins.cell_of_block ZB3.out 0; have uZB30 := Joins.unfrozen_of_block ZB3.out 0; have pZB31 := Joins.cell_of_block ZB3.out 1; have uZB31 := Joins.unfrozen_of_block ZB3.out 1; (try simp at pZB30 pZB31); (try simp at uZB30 uZB31))); (try (have hq : Below (v2.alloc (.cells #[.slice none 0 0, .slice none 0 0] 46)).heap.size (v2.alloc (.cells #[.slice none 0 0, .slice none 0 0] 46)) v3 := (by with_reducible exact hb); have ZC3 := hide (show v3.heap[v2.heap.size]? = some (.cells #[.slice none 0 0, .slice none 0 0] 46) from (hq.block v2.heap.size (by simp)).trans (blocks1 v2 _)); have pZC30 := Joins.cell_of_block ZC3.out 0; have uZC30 := Joins.unfrozen_of_block ZC3.out 0; have pZC31 := Joins.cell_of_block ZC3.out 1; have uZC31 := Joins.unfrozen_of_block ZC3.out 1; (try simp at pZC30 pZC31); (try simp at uZC30 uZC31))); clear hb ho))
    all_goals
      have z1 := V1.out.size
      have z2 := V12.out.size
      have z3 := V23.out.size
      go_wp2_with fail
      go_meet
      first
        | exact jow_new HO.out (by omega) V3.out
        | exact jow_set ZA3.out HO.out (Array.getElem?_eq_some_iff.1 ZA2.out).1 (by omega) (by omega) V3.out
        | exact jow_set ZB3.out HO.out (Array.getElem?_eq_some_iff.1 ZB2.out).1 (by omega) (by omega) V3.out
        | exact jow_set ZC3.out HO.out (by simp) (by omega) (by simp; omega) V3.out
  case rest =>
  obtain ⟨w6, rfl⟩ : ∃ u, u = wc := ⟨_, rfl⟩
  obtain ⟨BW, W, Wc, W', Wc', rfl, rfl, hbx, hox, hbel, hB0, hB1⟩ := hcut
  have HXW_6 := hide hbx
  have HOW_6 := hide hox
  have HB6 := hide (HB2.out.trans (hbel.mono HB2.out.size))
  have hs6 := hbel.size
  have HXa0_6 := hide (blk_below hbel (by omega) HXa0_2.out)
  have HXa1_6 := hide (blk_below hbel (by omega) HXa1_2.out)
  clear TK0 hbx hox hbel HXa0_2 HXa1_2 kk0 kk1 kk2 kk3 KK SA SB AL AQ
  have ka0 := Joins.cell_of_block HXa0_6.out 0
  have ka0' := Joins.cell_of_block HXa0_6.out 1
  simp at ka0 ka0'
  go_wp2_with fail
  refine (toScaleW_any A0 A0' n0 c0 n0' c0' x0 y0 _ hn0 hn0' (HS0.out.below HB6.out) (HS0'.out.below HB6.out)).mono ?_
  rintro e w7 ⟨gx0_, gx0_', rfl, hg1, hg2, hg3, hb, ho, ho'⟩
  have HOx0__7 := hide (show OW2 w7 w6.heap.size w7.heap.size _ _ x0 _ _ y0 from ⟨ho.wide (Nat.le_refl _) (by omega), ho'.wide (by omega) (Nat.le_refl _), fun _ _ e => by injection e with e; injection e with e; omega⟩)
  clear ho ho' hg1 hg2 hg3
  have HB7 := hide (HB6.out.trans (hb.mono HB6.out.size))
  have hs7 : w6.heap.size ≤ w7.heap.size := hb.size
  have HXa0_7 := hide (blk_below hb (by omega) HXa0_6.out)
  clear HXa0_6
  have HXa1_7 := hide (blk_below hb (by omega) HXa1_6.out)
  clear HXa1_6
  have HXW_7 := hide (blk_below hb (by omega) HXW_6.out)
  clear HXW_6
  have HOW_7 := hide (HOW_6.out.below hb)
  clear HOW_6
  clear hb
  clear ka0 ka0'
  obtain ⟨w8, hwe⟩ : ∃ u, u = w7.alloc (.cells #[.slice (some ⟨gx0_, 0, none⟩) n0 n0, .slice (some ⟨gx0_', 0, none⟩) n0' n0'] 46) := ⟨_, rfl⟩
  have hb : Below w7.heap.size w7 w8 := by rw [hwe]; exact (Below.refl _ _).alloc (Nat.le_refl _) _
  have HXx0_8 : Hid (w8.heap[w7.heap.size]? = some (.cells #[.slice (some ⟨gx0_, 0, none⟩) n0 n0, .slice (some ⟨gx0_', 0, none⟩) n0' n0'] 46)) := by rw [hwe]; exact blocks1 w7 _
  have hsb8 : w7.heap.size + 1 ≤ w8.heap.size := by rw [hwe]; simp
  have HW := hide hwe
  clear hwe
  have HB8 := hide (HB7.out.trans (hb.mono HB7.out.size))
  have hs8 : w7.heap.size ≤ w8.heap.size := hb.size
  have HXa0_8 := hide (blk_below hb (by omega) HXa0_7.out)
  clear HXa0_7
  have HXa1_8 := hide (blk_below hb (by omega) HXa1_7.out)
  clear HXa1_7
  have HXW_8 := hide (blk_below hb (by omega) HXW_7.out)
  clear HXW_7
  have HOW_8 := hide (HOW_7.out.below hb)
  clear HOW_7
  have HOx0__8 := hide (HOx0__7.out.below hb)
  clear HOx0__7
  clear hb
  have ka1 := Joins.cell_of_block HXa1_8.out 0
  have ka1' := Joins.cell_of_block HXa1_8.out 1
  simp at ka1 ka1'
  have ia1 := ka1
  have ia1' := ka1'
  rw [HW.out] at ia1 ia1'
  go_wp2_with fail
  rw [← HW.out]
  clear HW
  clear ia1 ia1'
  refine (toScaleW_any A1 A1' n1 c1 n1' c1' x1 y1 _ hn1 hn1' (HS1.out.below HB8.out) (HS1'.out.below HB8.out)).mono ?_
  rintro e w9 ⟨gx1_, gx1_', rfl, hg1, hg2, hg3, hb, ho, ho'⟩
  have HOx1__9 := hide (show OW2 w9 w8.heap.size w9.heap.size _ _ x1 _ _ y1 from ⟨ho.wide (Nat.le_refl _) (by omega), ho'.wide (by omega) (Nat.le_refl _), fun _ _ e => by injection e with e; injection e with e; omega⟩)
  clear ho ho' hg1 hg2 hg3
  have HB9 := hide (HB8.out.trans (hb.mono HB8.out.size))
  have hs9 : w8.heap.size ≤ w9.heap.size := hb.size
  have HXa0_9 := hide (blk_below hb (by omega) HXa0_8.out)
  clear HXa0_8
  have HXa1_9 := hide (blk_below hb (by omega) HXa1_8.out)
  clear HXa1_8
  have HXW_9 := hide (blk_below hb (by omega) HXW_8.out)
  clear HXW_8
  have HXx0_9 := hide (blk_below hb (by omega) HXx0_8.out)
  clear HXx0_8
  have HOW_9 := hide (HOW_8.out.below hb)
  clear HOW_8
  have HOx0__9 := hide (HOx0__8.out.below hb)
  clear HOx0__8
  clear hb
  clear ka1 ka1'
  obtain ⟨w10, hwe⟩ : ∃ u, u = w9.alloc (.cells #[.slice (some ⟨gx1_, 0, none⟩) n1 n1, .slice (some ⟨gx1_', 0, none⟩) n1' n1'] 46) := ⟨_, rfl⟩
  have hb : Below w9.heap.size w9 w10 := by rw [hwe]; exact (Below.refl _ _).alloc (Nat.le_refl _) _
  have HXx1_10 : Hid (w10.heap[w9.heap.size]? = some (.cells #[.slice (some ⟨gx1_, 0, none⟩) n1 n1, .slice (some ⟨gx1_', 0, none⟩) n1' n1'] 46)) := by rw [hwe]; exact blocks1 w9 _
  have hsb10 : w9.heap.size + 1 ≤ w10.heap.size := by rw [hwe]; simp
  have HW := hide hwe
  clear hwe
  have HB10 := hide (HB9.out.trans (hb.mono HB9.out.size))
  have hs10 : w9.heap.size ≤ w10.heap.size := hb.size
  have HXa0_10 := hide (blk_below hb (by omega) HXa0_9.out)
  clear HXa0_9
  have HXa1_10 := hide (blk_below hb (by omega) HXa1_9.out)
  clear HXa1_9
  have HXW_10 := hide (blk_below hb (by omega) HXW_9.out)
  clear HXW_9
  have HXx0_10 := hide (blk_below hb (by omega) HXx0_9.out)
  clear HXx0_9
  have HOW_10 := hide (HOW_9.out.below hb)
  clear HOW_9
  have HOx0__10 := hide (HOx0__9.out.below hb)
  clear HOx0__9
  have HOx1__10 := hide (HOx1__9.out.below hb)
  clear HOx1__9
  clear hb
  have kx0 := Joins.cell_of_block HXx0_10.out 0
  have kx0' := Joins.cell_of_block HXx0_10.out 1
  simp at kx0 kx0'
  have ix0 := kx0
  have ix0' := kx0'
  rw [HW.out] at ix0 ix0'
  have kx1 := Joins.cell_of_block HXx1_10.out 0
  have kx1' := Joins.cell_of_block HXx1_10.out 1
  simp at kx1 kx1'
  have ix1 := kx1
  have ix1' := kx1'
  rw [HW.out] at ix1 ix1'
  go_wp2_with fail
  rw [← HW.out]
  clear HW
  clear ix0 ix0' ix1 ix1'
  refine (implJoin_any _ _ n0 n0 n0' n0' x0 y0 _ _ n1 n1 n1' n1' x1 y1 _ hm0 hm0' HOx0__10.out.1.sl HOx0__10.out.2.1.sl hm1 hm1' HOx1__10.out.1.sl HOx1__10.out.2.1.sl).mono ?_
  rintro e w11 ⟨R, Rc, R', Rc', rfl, ho, hb⟩
  have HOR_11 := hide ho
  clear ho
  have HB11 := hide (HB10.out.trans (hb.mono HB10.out.size))
  have hs11 : w10.heap.size ≤ w11.heap.size := hb.size
  have HXa0_11 := hide (blk_below hb (by omega) HXa0_10.out)
  clear HXa0_10
  have HXa1_11 := hide (blk_below hb (by omega) HXa1_10.out)
  clear HXa1_10
  have HXW_11 := hide (blk_below hb (by omega) HXW_10.out)
  clear HXW_10
  have HXx0_11 := hide (blk_below hb (by omega) HXx0_10.out)
  clear HXx0_10
  have HXx1_11 := hide (blk_below hb (by omega) HXx1_10.out)
  clear HXx1_10
  have HOW_11 := hide (HOW_10.out.below hb)
  clear HOW_10
  have HOx0__11 := hide (HOx0__10.out.below hb)
  clear HOx0__10
  have HOx1__11 := hide (HOx1__10.out.below hb)
  clear HOx1__10
  clear hb
  clear kx0 kx0' kx1 kx1'
  obtain ⟨w12, hwe⟩ : ∃ u, u = w11.alloc (.cells #[.slice R (lenV (joP x0 y0 n0 n0' x1 y1 n1 n1') (joN x0 n0 x1 n1)) Rc, .slice R' (lenV (joP x0 y0 n0 n0' x1 y1 n1 n1') (joN x0 n0 x1 n1)) Rc'] 46) := ⟨_, rfl⟩
  have hb : Below w11.heap.size w11 w12 := by rw [hwe]; exact (Below.refl _ _).alloc (Nat.le_refl _) _
  have HXR_12 : Hid (w12.heap[w11.heap.size]? = some (.cells #[.slice R (lenV (joP x0 y0 n0 n0' x1 y1 n1 n1') (joN x0 n0 x1 n1)) Rc, .slice R' (lenV (joP x0 y0 n0 n0' x1 y1 n1 n1') (joN x0 n0 x1 n1)) Rc'] 46)) := by rw [hwe]; exact blocks1 w11 _
  have hsb12 : w11.heap.size + 1 ≤ w12.heap.size := by rw [hwe]; simp
  have HW := hide hwe
  clear hwe
  have HB12 := hide (HB11.out.trans (hb.mono HB11.out.size))
  have hs12 : w11.heap.size ≤ w12.heap.size := hb.size
  have HXa0_12 := hide (blk_below hb (by omega) HXa0_11.out)
  clear HXa0_11
  have HXa1_12 := hide (blk_below hb (by omega) HXa1_11.out)
  clear HXa1_11
  have HXW_12 := hide (blk_below hb (by omega) HXW_11.out)
  clear HXW_11
  have HXx0_12 := hide (blk_below hb (by omega) HXx0_11.out)
  clear HXx0_11
  have HXx1_12 := hide (blk_below hb (by omega) HXx1_11.out)
  clear HXx1_11
  have HOW_12 := hide (HOW_11.out.below hb)
  clear HOW_11
  have HOx0__12 := hide (HOx0__11.out.below hb)
  clear HOx0__11
  have HOx1__12 := hide (HOx1__11.out.below hb)
  clear HOx1__11
  have HOR_12 := hide (HOR_11.out.below hb)
  clear HOR_11
  clear hb
  have kR := Joins.cell_of_block HXR_12.out 0
  have kR' := Joins.cell_of_block HXR_12.out 1
  simp at kR kR'
  have iR := kR
  have iR' := kR'
  rw [HW.out] at iR iR'
  have kW := Joins.cell_of_block HXW_12.out 0
  have kW' := Joins.cell_of_block HXW_12.out 1
  simp at kW kW'
  have iW := kW
  have iW' := kW'
  rw [HW.out] at iW iW'
  go_wp2_with fail
  rw [← HW.out]
  clear HW
  clear iR iR' iW iW'
  refine (eqScale_any _ _ _ _ (lenV (joP x0 y0 n0 n0' x1 y1 n1 n1') (joN x0 n0 x1 n1)) _ (lenV (joP x0 y0 n0 n0' x1 y1 n1 n1') (joN x0 n0 x1 n1)) _ _ _ _ _ _ (by unfold maxLen; have := (jo_len x0 y0 n0 n0' x1 y1 n1 n1'); omega) (by unfold maxLen; have := (jo_len x0 y0 n0 n0' x1 y1 n1 n1'); omega) HOR_12.out.1.sl HOR_12.out.2.1.sl HOW_12.out.1.sl HOW_12.out.2.1.sl).mono ?_
  rintro e w13 ⟨rfl, hb⟩
  have HB13 := hide (HB12.out.trans (hb.mono HB12.out.size))
  have hs13 : w12.heap.size ≤ w13.heap.size := hb.size
  have HXa0_13 := hide (blk_below hb (by omega) HXa0_12.out)
  clear HXa0_12
  have HXa1_13 := hide (blk_below hb (by omega) HXa1_12.out)
  clear HXa1_12
  have HXW_13 := hide (blk_below hb (by omega) HXW_12.out)
  clear HXW_12
  have HXx0_13 := hide (blk_below hb (by omega) HXx0_12.out)
  clear HXx0_12
  have HXx1_13 := hide (blk_below hb (by omega) HXx1_12.out)
  clear HXx1_12
  have HXR_13 := hide (blk_below hb (by omega) HXR_12.out)
  clear HXR_12
  have HOW_13 := hide (HOW_12.out.below hb)
  clear HOW_12
  have HOx0__13 := hide (HOx0__12.out.below hb)
  clear HOx0__12
  have HOx1__13 := hide (HOx1__12.out.below hb)
  clear HOx1__12
  have HOR_13 := hide (HOR_12.out.below hb)
  clear HOR_12
  clear hb
  clear kR kR' kW kW'
  have ka0p := Joins.cell_of_block HXa0_13.out 0
  have ka0p' := Joins.cell_of_block HXa0_13.out 1
  simp at ka0p ka0p'
  have kx0p := Joins.cell_of_block HXx0_13.out 0
  have kx0p' := Joins.cell_of_block HXx0_13.out 1
  simp at kx0p kx0p'
  have GS := hide (HS0.out.below HB13.out)
  have GS' := hide (HS0'.out.below HB13.out)
  go_wp2_with fail
  go_region_held3 (fun w' => w'.cell? ⟨w7.heap.size, 0, none⟩ = some (.slice (some ⟨gx0_, 0, none⟩) n0 n0) ∧ w'.cell? ⟨w7.heap.size, 1, none⟩ = some (.slice (some ⟨gx0_', 0, none⟩) n0' n0') ∧ w'.cell? ⟨w.heap.size, 0, none⟩ = some (.slice A0 n0 c0) ∧ w'.cell? ⟨w.heap.size, 1, none⟩ = some (.slice A0' n0' c0')) ((first | exact ⟨kx0p, kx0p', ka0p, ka0p'⟩ | exact ⟨kx0q, kx0q', ka0q, ka0q'⟩ | exact ⟨kx0r, kx0r', ka0r, ka0r'⟩)) (first
    | (go_at_call 30; refine (toScale_any A0 A0' n0 c0 n0' c0' x0 y0 _ hn0 hn0' (by exact GS.out) (by exact GS'.out)).mono ?_; rintro e w14 ⟨_, _, rfl, _, _, _, hb, ht, ht'⟩; replace hb : Below w13.heap.size w13 w14 := ⟨hb.os, hb.tape, hb.output, hb.size, hb.block⟩; have hs14 : w13.heap.size ≤ w14.heap.size := hb.size; have HB14 := hide (HB13.out.trans (hb.mono HB13.out.size)); have HT := hide ht; have HT' := hide ht'; have HXa0_14 := hide (blk_below hb (by omega) HXa0_13.out); have HXa1_14 := hide (blk_below hb (by omega) HXa1_13.out); have HXW_14 := hide (blk_below hb (by omega) HXW_13.out); have HXx0_14 := hide (blk_below hb (by omega) HXx0_13.out); have HXx1_14 := hide (blk_below hb (by omega) HXx1_13.out); have HXR_14 := hide (blk_below hb (by omega) HXR_13.out); have HOW_14 := hide (HOW_13.out.below hb); have HOx0__14 := hide (HOx0__13.out.below hb); have HOx1__14 := hide (HOx1__13.out.below hb); have HOR_14 := hide (HOR_13.out.below hb); have ka0q := Joins.cell_of_block HXa0_14.out 0; have ka0q' := Joins.cell_of_block HXa0_14.out 1; have kx0q := Joins.cell_of_block HXx0_14.out 0; have kx0q' := Joins.cell_of_block HXx0_14.out 1; simp at ka0q ka0q' kx0q kx0q'; clear hb ht ht')
    | (go_at_call 32; refine (eqScale_any _ _ _ _ n0 n0 n0' n0' n0 n0' x0 y0 _ hm0 hm0' (by exact HOx0__14.out.1.sl) (by exact HOx0__14.out.2.1.sl) (by exact HT.out) (by exact HT'.out)).mono ?_; rintro e w15 ⟨rfl, hb⟩; replace hb : Below w14.heap.size w14 w15 := ⟨hb.os, hb.tape, hb.output, hb.size, hb.block⟩; have hs15 : w14.heap.size ≤ w15.heap.size := hb.size; have HB15 := hide (HB14.out.trans (hb.mono HB14.out.size)); have HXa0_15 := hide (blk_below hb (by omega) HXa0_14.out); have HXa1_15 := hide (blk_below hb (by omega) HXa1_14.out); have HXW_15 := hide (blk_below hb (by omega) HXW_14.out); have HXx0_15 := hide (blk_below hb (by omega) HXx0_14.out); have HXx1_15 := hide (blk_below hb (by omega) HXx1_14.out); have HXR_15 := hide (blk_below hb (by omega) HXR_14.out); have HOW_15 := hide (HOW_14.out.below hb); have HOx0__15 := hide (HOx0__14.out.below hb); have HOx1__15 := hide (HOx1__14.out.below hb); have HOR_15 := hide (HOR_14.out.below hb); have ka0r := Joins.cell_of_block HXa0_15.out 0; have ka0r' := Joins.cell_of_block HXa0_15.out 1; have kx0r := Joins.cell_of_block HXx0_15.out 0; have kx0r' := Joins.cell_of_block HXx0_15.out 1; simp at ka0r ka0r' kx0r kx0r'; clear hb))
  clear kx0p kx0p' ka0p ka0p' kx0q kx0q' ka0q ka0q' kx0r kx0r' ka0r ka0r' GS GS' HT HT'
  clear HXa0_13 HXa0_14 HXa1_13 HXa1_14 HXW_13 HXW_14 HXx0_13 HXx0_14 HXx1_13 HXx1_14 HXR_13 HXR_14 HOW_13 HOW_14 HOx0__13 HOx0__14 HOx1__13 HOx1__14 HOR_13 HOR_14
  have ka1p := Joins.cell_of_block HXa1_15.out 0
  have ka1p' := Joins.cell_of_block HXa1_15.out 1
  simp at ka1p ka1p'
  have kx1p := Joins.cell_of_block HXx1_15.out 0
  have kx1p' := Joins.cell_of_block HXx1_15.out 1
  simp at kx1p kx1p'
  have GS := hide (HS1.out.below HB15.out)
  have GS' := hide (HS1'.out.below HB15.out)
  go_wp2_with fail
  go_region_held3 (fun w' => w'.cell? ⟨w9.heap.size, 0, none⟩ = some (.slice (some ⟨gx1_, 0, none⟩) n1 n1) ∧ w'.cell? ⟨w9.heap.size, 1, none⟩ = some (.slice (some ⟨gx1_', 0, none⟩) n1' n1') ∧ w'.cell? ⟨w.heap.size + 1, 0, none⟩ = some (.slice A1 n1 c1) ∧ w'.cell? ⟨w.heap.size + 1, 1, none⟩ = some (.slice A1' n1' c1')) ((first | exact ⟨kx1p, kx1p', ka1p, ka1p'⟩ | exact ⟨kx1q, kx1q', ka1q, ka1q'⟩ | exact ⟨kx1r, kx1r', ka1r, ka1r'⟩)) (first
    | (go_at_call 30; refine (toScale_any A1 A1' n1 c1 n1' c1' x1 y1 _ hn1 hn1' (by exact GS.out) (by exact GS'.out)).mono ?_; rintro e w16 ⟨_, _, rfl, _, _, _, hb, ht, ht'⟩; replace hb : Below w15.heap.size w15 w16 := ⟨hb.os, hb.tape, hb.output, hb.size, hb.block⟩; have hs16 : w15.heap.size ≤ w16.heap.size := hb.size; have HB16 := hide (HB15.out.trans (hb.mono HB15.out.size)); have HT := hide ht; have HT' := hide ht'; have HXa0_16 := hide (blk_below hb (by omega) HXa0_15.out); have HXa1_16 := hide (blk_below hb (by omega) HXa1_15.out); have HXW_16 := hide (blk_below hb (by omega) HXW_15.out); have HXx0_16 := hide (blk_below hb (by omega) HXx0_15.out); have HXx1_16 := hide (blk_below hb (by omega) HXx1_15.out); have HXR_16 := hide (blk_below hb (by omega) HXR_15.out); have HOW_16 := hide (HOW_15.out.below hb); have HOx0__16 := hide (HOx0__15.out.below hb); have HOx1__16 := hide (HOx1__15.out.below hb); have HOR_16 := hide (HOR_15.out.below hb); have ka1q := Joins.cell_of_block HXa1_16.out 0; have ka1q' := Joins.cell_of_block HXa1_16.out 1; have kx1q := Joins.cell_of_block HXx1_16.out 0; have kx1q' := Joins.cell_of_block HXx1_16.out 1; simp at ka1q ka1q' kx1q kx1q'; clear hb ht ht')
    | (go_at_call 32; refine (eqScale_any _ _ _ _ n1 n1 n1' n1' n1 n1' x1 y1 _ hm1 hm1' (by exact HOx1__16.out.1.sl) (by exact HOx1__16.out.2.1.sl) (by exact HT.out) (by exact HT'.out)).mono ?_; rintro e w17 ⟨rfl, hb⟩; replace hb : Below w16.heap.size w16 w17 := ⟨hb.os, hb.tape, hb.output, hb.size, hb.block⟩; have hs17 : w16.heap.size ≤ w17.heap.size := hb.size; have HB17 := hide (HB16.out.trans (hb.mono HB16.out.size)); have HXa0_17 := hide (blk_below hb (by omega) HXa0_16.out); have HXa1_17 := hide (blk_below hb (by omega) HXa1_16.out); have HXW_17 := hide (blk_below hb (by omega) HXW_16.out); have HXx0_17 := hide (blk_below hb (by omega) HXx0_16.out); have HXx1_17 := hide (blk_below hb (by omega) HXx1_16.out); have HXR_17 := hide (blk_below hb (by omega) HXR_16.out); have HOW_17 := hide (HOW_16.out.below hb); have HOx0__17 := hide (HOx0__16.out.below hb); have HOx1__17 := hide (HOx1__16.out.below hb); have HOR_17 := hide (HOR_16.out.below hb); have ka1r := Joins.cell_of_block HXa1_17.out 0; have ka1r' := Joins.cell_of_block HXa1_17.out 1; have kx1r := Joins.cell_of_block HXx1_17.out 0; have kx1r' := Joins.cell_of_block HXx1_17.out 1; simp at ka1r ka1r' kx1r kx1r'; clear hb))
  clear kx1p kx1p' ka1p ka1p' kx1q kx1q' ka1q ka1q' kx1r kx1r' ka1r ka1r' GS GS' HT HT'
  clear HXa0_15 HXa0_16 HXa1_15 HXa1_16 HXW_15 HXW_16 HXx0_15 HXx0_16 HXx1_15 HXx1_16 HXR_15 HXR_16 HOW_15 HOW_16 HOx0__15 HOx0__16 HOx1__15 HOx1__16 HOR_15 HOR_16
  have kx0 := Joins.cell_of_block HXx0_17.out 0
  have kx0' := Joins.cell_of_block HXx0_17.out 1
  simp at kx0 kx0'
  go_wp2_with fail
  refine (markScale_any _ _ n0 _ n0' _ w6.heap.size w7.heap.size _ _ (1) _ (hn0) (hn0') (by omega) (by omega) HOx0__17.out (by omega) (by omega)).mono ?_
  rintro e w18 ⟨rfl, ho, hw⟩
  have HOx0__18 := hide ho
  clear ho HOx0__17
  replace hw : Marked w6.heap.size w7.heap.size w17 w18 := marked_alloc hw
  have hs18 : w17.heap.size ≤ w18.heap.size := hw.size
  have HB18 := hide (HB17.out.trans (hw.bel (B := w.heap.size) (by omega) (by omega)))
  have HXa0_18 := hide (blk_marked hw (by omega) (by omega) HXa0_17.out)
  clear HXa0_17
  have HXa1_18 := hide (blk_marked hw (by omega) (by omega) HXa1_17.out)
  clear HXa1_17
  have HXW_18 := hide (blk_marked hw (by omega) (by omega) HXW_17.out)
  clear HXW_17
  have HXx0_18 := hide (blk_marked hw (by omega) (by omega) HXx0_17.out)
  clear HXx0_17
  have HXx1_18 := hide (blk_marked hw (by omega) (by omega) HXx1_17.out)
  clear HXx1_17
  have HXR_18 := hide (blk_marked hw (by omega) (by omega) HXR_17.out)
  clear HXR_17
  have HOW_18 := hide (HOW_17.out.marked hw (by omega))
  clear HOW_17
  have HOx1__18 := hide (HOx1__17.out.marked hw (by omega))
  clear HOx1__17
  have HOR_18 := hide (HOR_17.out.marked hw (by omega))
  clear HOR_17
  clear hw
  clear kx0 kx0'
  have kx1 := Joins.cell_of_block HXx1_18.out 0
  have kx1' := Joins.cell_of_block HXx1_18.out 1
  simp at kx1 kx1'
  go_wp2_with fail
  refine (markScale_any _ _ n1 _ n1' _ w8.heap.size w9.heap.size _ _ (1 + n0 + n0') _ (hn1) (hn1') (by omega) (by omega) HOx1__18.out (by omega) (by omega)).mono ?_
  rintro e w19 ⟨rfl, ho, hw⟩
  have HOx1__19 := hide ho
  clear ho HOx1__18
  replace hw : Marked w8.heap.size w9.heap.size w18 w19 := marked_alloc hw
  have hs19 : w18.heap.size ≤ w19.heap.size := hw.size
  have HB19 := hide (HB18.out.trans (hw.bel (B := w.heap.size) (by omega) (by omega)))
  have HXa0_19 := hide (blk_marked hw (by omega) (by omega) HXa0_18.out)
  clear HXa0_18
  have HXa1_19 := hide (blk_marked hw (by omega) (by omega) HXa1_18.out)
  clear HXa1_18
  have HXW_19 := hide (blk_marked hw (by omega) (by omega) HXW_18.out)
  clear HXW_18
  have HXx0_19 := hide (blk_marked hw (by omega) (by omega) HXx0_18.out)
  clear HXx0_18
  have HXx1_19 := hide (blk_marked hw (by omega) (by omega) HXx1_18.out)
  clear HXx1_18
  have HXR_19 := hide (blk_marked hw (by omega) (by omega) HXR_18.out)
  clear HXR_18
  have HOW_19 := hide (HOW_18.out.marked hw (by omega))
  clear HOW_18
  have HOx0__19 := hide (HOx0__18.out.marked hw (by omega))
  clear HOx0__18
  have HOR_19 := hide (HOR_18.out.marked hw (by omega))
  clear HOR_18
  clear hw
  clear kx1 kx1'
  clear HOx0__19
  clear HXx0_19
  clear HOx1__19
  clear HXx1_19
  have kR := Joins.cell_of_block HXR_19.out 0
  have kR' := Joins.cell_of_block HXR_19.out 1
  simp at kR kR'
  have kW := Joins.cell_of_block HXW_19.out 0
  have kW' := Joins.cell_of_block HXW_19.out 1
  simp at kW kW'
  go_wp2_with fail
  refine (eqScale_any _ _ _ _ (lenV (joP x0 y0 n0 n0' x1 y1 n1 n1') (joN x0 n0 x1 n1)) _ (lenV (joP x0 y0 n0 n0' x1 y1 n1 n1') (joN x0 n0 x1 n1)) _ _ _ _ _ _ (by unfold maxLen; have := (jo_len x0 y0 n0 n0' x1 y1 n1 n1'); omega) (by unfold maxLen; have := (jo_len x0 y0 n0 n0' x1 y1 n1 n1'); omega) HOR_19.out.1.sl HOR_19.out.2.1.sl HOW_19.out.1.sl HOW_19.out.2.1.sl).mono ?_
  rintro e w20 ⟨rfl, hb⟩
  have HB20 := hide (HB19.out.trans (hb.mono HB19.out.size))
  have hs20 : w19.heap.size ≤ w20.heap.size := hb.size
  have HXa0_20 := hide (blk_below hb (by omega) HXa0_19.out)
  clear HXa0_19
  have HXa1_20 := hide (blk_below hb (by omega) HXa1_19.out)
  clear HXa1_19
  have HXW_20 := hide (blk_below hb (by omega) HXW_19.out)
  clear HXW_19
  have HXR_20 := hide (blk_below hb (by omega) HXR_19.out)
  clear HXR_19
  have HOW_20 := hide (HOW_19.out.below hb)
  clear HOW_19
  have HOR_20 := hide (HOR_19.out.below hb)
  clear HOR_19
  clear hb
  clear kR kR' kW kW'
  have hM := (jo_len x0 y0 n0 n0' x1 y1 n1 n1')
  have hM := (jo_len x0 y0 n0 n0' x1 y1 n1 n1')
  have kR := Joins.cell_of_block HXR_20.out 0
  have kR' := Joins.cell_of_block HXR_20.out 1
  simp at kR kR'
  go_wp2_with fail
  refine (markScale_any _ _ (lenV (joP x0 y0 n0 n0' x1 y1 n1 n1') (joN x0 n0 x1 n1)) _ (lenV (joP x0 y0 n0 n0' x1 y1 n1 n1') (joN x0 n0 x1 n1)) _ w10.heap.size w11.heap.size _ _ (1) _ (hM) (hM) (by omega) (by omega) HOR_20.out (by omega) (by omega)).mono ?_
  rintro e w21 ⟨rfl, ho, hw⟩
  have HOR_21 := hide ho
  clear ho HOR_20
  replace hw : Marked w10.heap.size w11.heap.size w20 w21 := marked_alloc hw
  have hs21 : w20.heap.size ≤ w21.heap.size := hw.size
  have HB21 := hide (HB20.out.trans (hw.bel (B := w.heap.size) (by omega) (by omega)))
  have HXa0_21 := hide (blk_marked hw (by omega) (by omega) HXa0_20.out)
  clear HXa0_20
  have HXa1_21 := hide (blk_marked hw (by omega) (by omega) HXa1_20.out)
  clear HXa1_20
  have HXW_21 := hide (blk_marked hw (by omega) (by omega) HXW_20.out)
  clear HXW_20
  have HXR_21 := hide (blk_marked hw (by omega) (by omega) HXR_20.out)
  clear HXR_20
  have HOW_21 := hide (HOW_20.out.marked hw (by omega))
  clear HOW_20
  clear hw
  clear kR kR'
  have kR := Joins.cell_of_block HXR_21.out 0
  have kR' := Joins.cell_of_block HXR_21.out 1
  simp at kR kR'
  go_wp2_with fail
  refine (heldScale_any _ _ (lenV (joP x0 y0 n0 n0' x1 y1 n1 n1') (joN x0 n0 x1 n1)) _ (lenV (joP x0 y0 n0 n0' x1 y1 n1 n1') (joN x0 n0 x1 n1)) _ 1 _ hM hM (by omega) (by omega) HOR_21.out.1.sl HOR_21.out.2.1.sl).mono ?_
  rintro e w22 ⟨rfl, hb⟩
  have HB22 := hide (HB21.out.trans (hb.mono HB21.out.size))
  have hs22 : w21.heap.size ≤ w22.heap.size := hb.size
  have HXa0_22 := hide (blk_below hb (by omega) HXa0_21.out)
  clear HXa0_21
  have HXa1_22 := hide (blk_below hb (by omega) HXa1_21.out)
  clear HXa1_21
  have HXW_22 := hide (blk_below hb (by omega) HXW_21.out)
  clear HXW_21
  have HXR_22 := hide (blk_below hb (by omega) HXR_21.out)
  clear HXR_21
  have HOW_22 := hide (HOW_21.out.below hb)
  clear HOW_21
  have HOR_22 := hide (HOR_21.out.below hb)
  clear HOR_21
  clear hb
  clear kR kR'
  have AL := hide (show Below w22.heap.size w22 (w22.alloc (.cells #[.slice none 0 0, .slice none 0 0] 46)).drew from bel_q ((Below.refl _ _).alloc (Nat.le_refl _) _) 1)
  have AQ := hide (show Below w22.heap.size w22 w22.drew from bel_q (Below.refl _ _) 1)
  have SA := hide (show ∀ u, Below w22.heap.size w22 u → SL u A0 n0 (fun j => .int .i64 (x0 j)) ∧ SL u A0' n0' (fun j => .int .i64 (y0 j)) from fun u hu => ⟨(HS0.out.below HB22.out).below hu, (HS0'.out.below HB22.out).below hu⟩)
  have SB := hide (show ∀ u, Below w22.heap.size w22 u → SL u A1 n1 (fun j => .int .i64 (x1 j)) ∧ SL u A1' n1' (fun j => .int .i64 (y1 j)) from fun u hu => ⟨(HS1.out.below HB22.out).below hu, (HS1'.out.below HB22.out).below hu⟩)
  have KK := hide (show ∀ u, Below w22.heap.size w22 u → u.cell? ⟨w.heap.size, 0, none⟩ = some (Value.slice A0 n0 c0) ∧ u.cell? ⟨w.heap.size, 1, none⟩ = some (Value.slice A0' n0' c0') ∧ u.cell? ⟨w.heap.size + 1, 0, none⟩ = some (Value.slice A1 n1 c1) ∧ u.cell? ⟨w.heap.size + 1, 1, none⟩ = some (Value.slice A1' n1' c1') from fun u hu => by
    have q0 := blk_below hu (by omega) HXa0_22.out
    have q1 := blk_below hu (by omega) HXa1_22.out
    have r0 := Joins.cell_of_block q0 0
    have r1 := Joins.cell_of_block q0 1
    have r2 := Joins.cell_of_block q1 0
    have r3 := Joins.cell_of_block q1 1
    simp at r0 r1 r2 r3
    exact ⟨r0, r1, r2, r3⟩)
  have kk0 := (KK.out _ (Below.refl _ _)).1
  have kk1 := (KK.out _ (Below.refl _ _)).2.1
  have kk2 := (KK.out _ (Below.refl _ _)).2.2.1
  have kk3 := (KK.out _ (Below.refl _ _)).2.2.2
  have TK0 := True.intro
  go_upto_region 31 with fail
  go_cut [15, 16] from 94 to 101 (fun s6 s7 wx => JoW w22 (lenV (joP x0 y0 n0 n0' x1 y1 n1 n1') (joN x0 n0 x1 n1)) (joV x0 n0 x1 n1) (joR x0 y0 n0 x1 y1 n1) (tru (joP x0 y0 n0 n0' x1 y1 n1 n1')) s6 s7 wx)
  case first =>
    have al0 := (KK.out _ AL.out).1
    have al1 := (KK.out _ AL.out).2.1
    have al2 := (KK.out _ AL.out).2.2.1
    have al3 := (KK.out _ AL.out).2.2.2
    go_region_held3 (fun w' => w'.cell? ⟨w.heap.size, 0, none⟩ = some (Value.slice A0 n0 c0) ∧ w'.cell? ⟨w.heap.size, 1, none⟩ = some (Value.slice A0' n0' c0') ∧ w'.cell? ⟨w.heap.size + 1, 0, none⟩ = some (Value.slice A1 n1 c1) ∧ w'.cell? ⟨w.heap.size + 1, 1, none⟩ = some (Value.slice A1' n1' c1')) ((refine KK.out _ ?_; first | with_reducible exact AQ.out | with_reducible exact AL.out | with_reducible exact V1.out | with_reducible exact (V1.out.alloc V1.out.size _) | with_reducible exact V2.out | with_reducible exact (V2.out.alloc V2.out.size _) | with_reducible exact V3.out | with_reducible exact (V3.out.alloc V3.out.size _) | exact (V3.out.setCell (by first | exact Nat.le_refl _ | exact V1.out.size | exact V2.out.size | exact V3.out.size) _).setCell (by first | exact Nat.le_refl _ | exact V1.out.size | exact V2.out.size | exact V3.out.size) _ | exact ((V3.out.alloc V3.out.size _).setCell (by first | exact Nat.le_refl _ | exact V1.out.size | exact V2.out.size | exact V3.out.size) _).setCell (by first | exact Nat.le_refl _ | exact V1.out.size | exact V2.out.size | exact V3.out.size) _ | fail)) (first
      | (go_at_call 30; have tk1 := TK0; clear tk1; refine (toScaleW_any A0 A0' n0 c0 n0' c0' x0 y0 _ hn0 hn0' (SA.out _ (by first | with_reducible exact AQ.out | with_reducible exact AL.out | with_reducible exact V1.out | with_reducible exact (V1.out.alloc V1.out.size _) | with_reducible exact V2.out | with_reducible exact (V2.out.alloc V2.out.size _) | with_reducible exact V3.out | with_reducible exact (V3.out.alloc V3.out.size _))).1 (SA.out _ (by first | with_reducible exact AQ.out | with_reducible exact AL.out | with_reducible exact V1.out | with_reducible exact (V1.out.alloc V1.out.size _) | with_reducible exact V2.out | with_reducible exact (V2.out.alloc V2.out.size _) | with_reducible exact V3.out | with_reducible exact (V3.out.alloc V3.out.size _))).2).mono ?_; rintro e v1 ⟨h0, h0', rfl, hg1, hg2, hg3, hb, ho, ho'⟩; have V1 : Hid (Below w22.heap.size w22 v1) := hide (by first | (have hq : Below w22.drew.heap.size w22.drew v1 := (by with_reducible exact hb); exact AQ.out.trans (hq.mono AQ.out.size)) | (have hq : Below (w22.alloc (.cells #[.slice none 0 0, .slice none 0 0] 46)).drew.heap.size (w22.alloc (.cells #[.slice none 0 0, .slice none 0 0] 46)).drew v1 := (by with_reducible exact hb); exact AL.out.trans (hq.mono AL.out.size))); have R1 := hide (show SL v1 _ n0 (fun j => .int .i64 (x0 j)) ∧ SL v1 _ n0' (fun j => .int .i64 (y0 j)) from ⟨ho.sl, ho'.sl⟩); (try (have hq : Below (w22.alloc (.cells #[.slice none 0 0, .slice none 0 0] 46)).drew.heap.size (w22.alloc (.cells #[.slice none 0 0, .slice none 0 0] 46)).drew v1 := (by with_reducible exact hb); have ZA1 := hide (show v1.heap[w22.heap.size]? = some (.cells #[.slice none 0 0, .slice none 0 0] 46) from (hq.block w22.heap.size (by simp)).trans (blocks1 w22 _)))); have m2 := (KK.out _ V1.out).2.2.1; have m3 := (KK.out _ V1.out).2.2.2; have n2 := (KK.out _ (V1.out.alloc V1.out.size (.cells #[.slice none 0 0, .slice none 0 0] 46))).2.2.1; have n3 := (KK.out _ (V1.out.alloc V1.out.size (.cells #[.slice none 0 0, .slice none 0 0] 46))).2.2.2; clear hb ho ho' hg1 hg2 hg3 TK0)
      | (go_at_call 30; refine (toScaleW_any A1 A1' n1 c1 n1' c1' x1 y1 _ hn1 hn1' (SB.out _ (by first | with_reducible exact AQ.out | with_reducible exact AL.out | with_reducible exact V1.out | with_reducible exact (V1.out.alloc V1.out.size _) | with_reducible exact V2.out | with_reducible exact (V2.out.alloc V2.out.size _) | with_reducible exact V3.out | with_reducible exact (V3.out.alloc V3.out.size _))).1 (SB.out _ (by first | with_reducible exact AQ.out | with_reducible exact AL.out | with_reducible exact V1.out | with_reducible exact (V1.out.alloc V1.out.size _) | with_reducible exact V2.out | with_reducible exact (V2.out.alloc V2.out.size _) | with_reducible exact V3.out | with_reducible exact (V3.out.alloc V3.out.size _))).2).mono ?_; rintro e v2 ⟨h1, h1', rfl, hg1, hg2, hg3, hb, ho, ho'⟩; have V12 : Hid (Below v1.heap.size v1 v2) := hide (by first | (with_reducible exact hb) | exact ((Below.refl v1.heap.size v1).alloc (Nat.le_refl _) (.cells #[.slice none 0 0, .slice none 0 0] 46)).trans (hb.mono (by simp))); have V2 := hide (V1.out.trans (V12.out.mono V1.out.size)); have R2 := hide (show (SL v2 _ n0 (fun j => .int .i64 (x0 j)) ∧ SL v2 _ n0' (fun j => .int .i64 (y0 j))) ∧ SL v2 _ n1 (fun j => .int .i64 (x1 j)) ∧ SL v2 _ n1' (fun j => .int .i64 (y1 j)) from ⟨⟨R1.out.1.below V12.out, R1.out.2.below V12.out⟩, ho.sl, ho'.sl⟩); (try (have ZA2 := hide (show v2.heap[w22.heap.size]? = some (.cells #[.slice none 0 0, .slice none 0 0] 46) from (V12.out.block _ (Array.getElem?_eq_some_iff.1 ZA1.out).1).trans ZA1.out))); (try (have hq : Below (v1.alloc (.cells #[.slice none 0 0, .slice none 0 0] 46)).heap.size (v1.alloc (.cells #[.slice none 0 0, .slice none 0 0] 46)) v2 := (by with_reducible exact hb); have ZB2 := hide (show v2.heap[v1.heap.size]? = some (.cells #[.slice none 0 0, .slice none 0 0] 46) from (hq.block v1.heap.size (by simp)).trans (blocks1 v1 _)))); clear hb ho ho' hg1 hg2 hg3)
      | (go_at_call 31; have R3 := hide (show ∀ u, Below v2.heap.size v2 u → (SL u _ n0 (fun j => .int .i64 (x0 j)) ∧ SL u _ n0' (fun j => .int .i64 (y0 j))) ∧ SL u _ n1 (fun j => .int .i64 (x1 j)) ∧ SL u _ n1' (fun j => .int .i64 (y1 j)) from fun u hu => ⟨⟨R2.out.1.1.below hu, R2.out.1.2.below hu⟩, R2.out.2.1.below hu, R2.out.2.2.below hu⟩); have Q3 : Hid (Below v2.heap.size v2 v2) := Below.refl _ _; have Q4 := hide (Q3.out.alloc Q3.out.size (.cells #[.slice none 0 0, .slice none 0 0] 46)); refine (implJoin_any _ _ n0 n0 n0' n0' x0 y0 _ _ n1 n1 n1' n1' x1 y1 _ hm0 hm0' (R3.out _ (by first | with_reducible exact Q3.out | with_reducible exact Q4.out)).1.1 (R3.out _ (by first | with_reducible exact Q3.out | with_reducible exact Q4.out)).1.2 hm1 hm1' (R3.out _ (by first | with_reducible exact Q3.out | with_reducible exact Q4.out)).2.1 (R3.out _ (by first | with_reducible exact Q3.out | with_reducible exact Q4.out)).2.2).mono ?_; rintro e v3 ⟨W, Wc, W', Wc', rfl, ho, hb⟩; have V23 : Hid (Below v2.heap.size v2 v3) := hide (by first | (with_reducible exact hb) | exact ((Below.refl v2.heap.size v2).alloc (Nat.le_refl _) (.cells #[.slice none 0 0, .slice none 0 0] 46)).trans (hb.mono (by simp))); have V3 := hide (V2.out.trans (V23.out.mono V2.out.size)); have HO := hide ho; (try (have ZA3 := hide (show v3.heap[w22.heap.size]? = some (.cells #[.slice none 0 0, .slice none 0 0] 46) from (V23.out.block _ (Array.getElem?_eq_some_iff.1 ZA2.out).1).trans ZA2.out); have pZA30 := Joins.cell_of_block ZA3.out 0; have uZA30 := Joins.unfrozen_of_block ZA3.out 0; have pZA31 := Joins.cell_of_block ZA3.out 1; have uZA31 := Joins.unfrozen_of_block ZA3.out 1; (try simp at pZA30 pZA31); (try simp at uZA30 uZA31))); (try (have ZB3 := hide (show v3.heap[v1.heap.size]? = some (.cells #[.slice none 0 0, .slice none 0 0] 46) from (V23.out.block _ (Array.getElem?_eq_some_iff.1 ZB2.out).1).trans ZB2.out); have pZB30 := Joins.cell_of_block ZB3.out 0; have uZB30 := Joins.unfrozen_of_block ZB3.out 0; have pZB31 := Joins.cell_of_block ZB3.out 1; have uZB31 := Joins.unfrozen_of_block ZB3.out 1; (try simp at pZB30 pZB31); (try simp at uZB30 uZB31))); (try (have hq : Below (v2.alloc (.cells #[.slice none 0 0, .slice none 0 0] 46)).heap.size (v2.alloc (.cells #[.slice none 0 0, .slice none 0 0] 46)) v3 := (by with_reducible exact hb); have ZC3 := hide (show v3.heap[v2.heap.size]? = some (.cells #[.slice none 0 0, .slice none 0 0] 46) from (hq.block v2.heap.size (by simp)).trans (blocks1 v2 _)); have pZC30 := Joins.cell_of_block ZC3.out 0; have uZC30 := Joins.unfrozen_of_block ZC3.out 0; have pZC31 := Joins.cell_of_block ZC3.out 1; have uZC31 := Joins.unfrozen_of_block ZC3.out 1; (try simp at pZC30 pZC31); (try simp at uZC30 uZC31))); clear hb ho))
    all_goals
      have z1 := V1.out.size
      have z2 := V12.out.size
      have z3 := V23.out.size
      go_wp2_with fail
      go_meet
      first
        | exact jow_new HO.out (by omega) V3.out
        | exact jow_set ZA3.out HO.out (Array.getElem?_eq_some_iff.1 ZA2.out).1 (by omega) (by omega) V3.out
        | exact jow_set ZB3.out HO.out (Array.getElem?_eq_some_iff.1 ZB2.out).1 (by omega) (by omega) V3.out
        | exact jow_set ZC3.out HO.out (by simp) (by omega) (by simp; omega) V3.out
  case rest =>
  obtain ⟨w26, rfl⟩ : ∃ u, u = wc := ⟨_, rfl⟩
  obtain ⟨BQ, Q, Qc, Q', Qc', rfl, rfl, hbx, hox, hbel, hB0, hB1⟩ := hcut
  have HXQ_26 := hide hbx
  have HOQ_26 := hide hox
  have HB26 := hide (HB22.out.trans (hbel.mono HB22.out.size))
  have hs26 := hbel.size
  have HXa0_26 := hide (blk_below hbel (by omega) HXa0_22.out)
  have HXa1_26 := hide (blk_below hbel (by omega) HXa1_22.out)
  have HXW_26 := hide (blk_below hbel (by omega) HXW_22.out)
  have HXR_26 := hide (blk_below hbel (by omega) HXR_22.out)
  have HOW_26 := hide (HOW_22.out.below hbel)
  have HOR_26 := hide (HOR_22.out.below hbel)
  clear hbx hox hbel HXa0_22 HXa1_22 HXW_22 HXR_22 HOW_22 HOR_22 kk0 kk1 kk2 kk3 KK SA SB AL AQ
  have kQ := Joins.cell_of_block HXQ_26.out 0
  have kQ' := Joins.cell_of_block HXQ_26.out 1
  simp at kQ kQ'
  have kW := Joins.cell_of_block HXW_26.out 0
  have kW' := Joins.cell_of_block HXW_26.out 1
  simp at kW kW'
  go_wp2_with fail
  refine (eqScale_any _ _ _ _ (lenV (joP x0 y0 n0 n0' x1 y1 n1 n1') (joN x0 n0 x1 n1)) _ (lenV (joP x0 y0 n0 n0' x1 y1 n1 n1') (joN x0 n0 x1 n1)) _ _ _ _ _ _ (by unfold maxLen; have := (jo_len x0 y0 n0 n0' x1 y1 n1 n1'); omega) (by unfold maxLen; have := (jo_len x0 y0 n0 n0' x1 y1 n1 n1'); omega) HOQ_26.out.1.sl HOQ_26.out.2.1.sl HOW_26.out.1.sl HOW_26.out.2.1.sl).mono ?_
  rintro e w27 ⟨rfl, hb⟩
  have HB27 := hide (HB26.out.trans (hb.mono HB26.out.size))
  have hs27 : w26.heap.size ≤ w27.heap.size := hb.size
  have HXa0_27 := hide (blk_below hb (by omega) HXa0_26.out)
  clear HXa0_26
  have HXa1_27 := hide (blk_below hb (by omega) HXa1_26.out)
  clear HXa1_26
  have HXW_27 := hide (blk_below hb (by omega) HXW_26.out)
  clear HXW_26
  have HXR_27 := hide (blk_below hb (by omega) HXR_26.out)
  clear HXR_26
  have HXQ_27 := hide (blk_below hb (by omega) HXQ_26.out)
  clear HXQ_26
  have HOW_27 := hide (HOW_26.out.below hb)
  clear HOW_26
  have HOR_27 := hide (HOR_26.out.below hb)
  clear HOR_26
  have HOQ_27 := hide (HOQ_26.out.below hb)
  clear HOQ_26
  clear hb
  clear kQ kQ' kW kW'
  have kR := Joins.cell_of_block HXR_27.out 0
  have kR' := Joins.cell_of_block HXR_27.out 1
  simp at kR kR'
  go_wp2_with fail
  refine (heldScale_any _ _ (lenV (joP x0 y0 n0 n0' x1 y1 n1 n1') (joN x0 n0 x1 n1)) _ (lenV (joP x0 y0 n0 n0' x1 y1 n1 n1') (joN x0 n0 x1 n1)) _ 1 _ hM hM (by omega) (by omega) HOR_27.out.1.sl HOR_27.out.2.1.sl).mono ?_
  rintro e w28 ⟨rfl, hb⟩
  have HB28 := hide (HB27.out.trans (hb.mono HB27.out.size))
  have hs28 : w27.heap.size ≤ w28.heap.size := hb.size
  have HXa0_28 := hide (blk_below hb (by omega) HXa0_27.out)
  clear HXa0_27
  have HXa1_28 := hide (blk_below hb (by omega) HXa1_27.out)
  clear HXa1_27
  have HXW_28 := hide (blk_below hb (by omega) HXW_27.out)
  clear HXW_27
  have HXR_28 := hide (blk_below hb (by omega) HXR_27.out)
  clear HXR_27
  have HXQ_28 := hide (blk_below hb (by omega) HXQ_27.out)
  clear HXQ_27
  have HOW_28 := hide (HOW_27.out.below hb)
  clear HOW_27
  have HOR_28 := hide (HOR_27.out.below hb)
  clear HOR_27
  have HOQ_28 := hide (HOQ_27.out.below hb)
  clear HOQ_27
  clear hb
  clear kR kR'
  go_wp2_with fail
  go_ret
  exact ⟨rfl, HB28.out⟩
end Go.Proofs.Ytpbbedelapnnnaa
