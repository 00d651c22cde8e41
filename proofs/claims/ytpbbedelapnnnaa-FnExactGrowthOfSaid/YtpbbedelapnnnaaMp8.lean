/- The laws' marks in peoples. -/
import Derived.Test.YtpbbedelapnnnaaMf
import Derived.Test.YtpbbedelapnnnaaPl
namespace Go.Proofs.Ytpbbedelapnnnaa
open Go.RowKit
set_option maxRecDepth 100000 in
set_option maxHeartbeats 4000000 in
theorem markPpl_any (A : Option Addr) (n c : Nat) (x : Nat → Nat) (B : Option Addr) (m d : Nat) (y : Nat → Nat) (C : Option Addr) (l f : Nat) (z : Nat → Nat) (l1 h1 l2 h2 l3 h3 lo hi : Nat) (k : Int) (w : World) (hn : n ≤ 1048576) (hm : m ≤ 1048576) (hl : l ≤ 1048576) (hk0 : 0 ≤ k) (hk1 : k ≤ 100000000) (hd1 : lo ≤ l1 ∧ h1 ≤ hi ∧ lo ≤ l2 ∧ h2 ≤ hi ∧ lo ≤ l3 ∧ h3 ≤ hi ∧ hi ≤ w.heap.size) (hd2 : (h1 ≤ l2 ∨ h2 ≤ l1) ∧ (h1 ≤ l3 ∨ h3 ≤ l1) ∧ (h2 ≤ l3 ∨ h3 ≤ l2)) (ha : OW w l1 h1 A n (fun j => .float .f32 (x j))) (hb : OW w l2 h2 B m (fun j => .float .f32 (y j))) (hc : OW w l3 h3 C l (fun j => .float .f32 (z j))) :
    Calls Try.prog 22 #[.agg #[.slice A n c, .slice B m d, .slice C l f], .int .i64 k] w fun e w' => e = .returned (.int .i64 (k + n + m + l)) ∧ OW w' l1 h1 A n (fun j => .float .f32 (fI (k + j))) ∧ OW w' l2 h2 B m (fun j => .float .f32 (fI (k + n + j))) ∧ OW w' l3 h3 C l (fun j => .float .f32 (fI (k + n + m + j))) ∧ Marked lo hi w w' := by
  obtain ⟨W, hW⟩ : ∃ u, u = w.alloc (.cells #[.slice A n c, .slice B m d, .slice C l f] 29) := ⟨_, rfl⟩
  have hbw : Below w.heap.size w W := by rw [hW]; exact (Below.refl w.heap.size w).alloc (Nat.le_refl _) _
  have HBX : Hid (W.heap[w.heap.size]? = some (.cells #[.slice A n c, .slice B m d, .slice C l f] 29)) := by rw [hW]; exact blocks1 w _
  have HA := hide (ha.below hbw)
  have HB := hide (hb.below hbw)
  have HC := hide (hc.below hbw)
  have HMA := fun {w'} (h : Within lo hi W w') => hide (show Marked lo hi w w' by rw [hW] at h; exact marked_alloc h)
  have k0 := Joins.cell_of_block HBX.out 0
  have k1 := Joins.cell_of_block HBX.out 1
  have k2 := Joins.cell_of_block HBX.out 2
  simp at k0 k1 k2
  have i0 := k0
  have i1 := k1
  have i2 := k2
  have HWW := hide hW
  rw [hW] at i0 i1 i2
  clear ha hb hc hbw hW
  go_enter Try.func22, Try.ntmps22
  go_wp2_with fail
  rw [← HWW.out]
  clear HWW i0 i1 i2
  refine (markFl_any A n c l1 h1 x k W hn hk0 (by omega) HA.out).mono ?_
  rintro e w1 ⟨rfl, ho, hw⟩
  have HX1 := hide ((hw.block w.heap.size (.inr (by omega))).trans HBX.out)
  have HA1 := hide ho
  have HB1 := hide (HB.out.within hw (by omega))
  have HC1 := hide (HC.out.within hw (by omega))
  have HW1 := hide (hw.wide (lo' := lo) (hi' := hi) (by omega) (by omega))
  clear ho hw k0 k1 k2 HA HB HC
  have k0 := Joins.cell_of_block HX1.out 0
  have k1 := Joins.cell_of_block HX1.out 1
  have k2 := Joins.cell_of_block HX1.out 2
  simp at k0 k1 k2
  go_wp2_with fail
  refine (markFl_any B m d l2 h2 y (k + n) w1 hm (by omega) (by omega) HB1.out).mono ?_
  rintro e w2 ⟨rfl, ho, hw⟩
  have HX2 := hide ((hw.block w.heap.size (.inr (by omega))).trans HX1.out)
  have HA2 := hide (HA1.out.within hw (by omega))
  have HB2 := hide ho
  have HC2 := hide (HC1.out.within hw (by omega))
  have HW2 := hide (HW1.out.trans (hw.wide (lo' := lo) (hi' := hi) (by omega) (by omega)))
  clear ho hw k0 k1 k2 HA1 HB1 HC1
  have k0 := Joins.cell_of_block HX2.out 0
  have k1 := Joins.cell_of_block HX2.out 1
  have k2 := Joins.cell_of_block HX2.out 2
  simp at k0 k1 k2
  go_wp2_with fail
  refine (markFl_any C l f l3 h3 z (k + n + m) w2 hl (by omega) (by omega) HC2.out).mono ?_
  rintro e w3 ⟨rfl, ho, hw⟩
  have HA3 := hide (HA2.out.within hw (by omega))
  have HB3 := hide (HB2.out.within hw (by omega))
  have HC3 := hide ho
  have HW3 := hide (HW2.out.trans (hw.wide (lo' := lo) (hi' := hi) (by omega) (by omega)))
  clear ho hw k0 k1 k2
  go_wp2
  go_ret
  exact ⟨rfl, HA3.out, HB3.out, HC3.out, (HMA HW3.out).out⟩
end Go.Proofs.Ytpbbedelapnnnaa
