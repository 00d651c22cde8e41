/- ValidPeople, by both. -/
import Derived.Test.YtpbbedelapnnnaaR7
namespace Go.Proofs.Ytpbbedelapnnnaa
open Go.RowKit Go.Dues
/-- what valid people are -/
def ppP (x : Nat → Nat) (n : Nat) (y : Nat → Nat) (m : Nat) (z : Nat → Nat) (l : Nat) : Prop := (2 ≤ n ∧ n ≤ 12) ∧ m = n ∧ l = n ∧ (∀ j, j < n → hdB (x j) = true) ∧ (∀ j, j < n → shB (y j) = true) ∧ ∀ j, j < n → hdB (z j) = true
theorem pp_a {x y z : Nat → Nat} {n m l : Nat} (h : ppP x n y m z l) : allB hdB x n 2 12 := ⟨by have := h.1; omega, h.2.2.2.1⟩
theorem pp_b {x y z : Nat → Nat} {n m l : Nat} (h : ppP x n y m z l) : allB shB y m n n := ⟨by have := h.2.1; omega, fun j hj => h.2.2.2.2.1 j (by have := h.2.1; omega)⟩
theorem pp_c {x y z : Nat → Nat} {n m l : Nat} (h : ppP x n y m z l) : allB hdB z l n n := ⟨by have := h.2.2.1; omega, fun j hj => h.2.2.2.2.2 j (by have := h.2.2.1; omega)⟩
theorem pp_of {x y z : Nat → Nat} {n m l : Nat} (h1 : allB hdB x n 2 12) (h2 : allB shB y m n n) (h3 : allB hdB z l n n) : ppP x n y m z l :=
  ⟨by have := h1.1; omega, by have := h2.1; omega, by have := h3.1; omega, h1.2, fun j hj => h2.2 j (by have := h2.1; omega), fun j hj => h3.2 j (by have := h3.1; omega)⟩
set_option maxRecDepth 100000 in
set_option maxHeartbeats 8000000 in
theorem specPpl_any (A : Option Addr) (n c : Nat) (x : Nat → Nat) (B : Option Addr) (m d : Nat) (y : Nat → Nat) (C : Option Addr) (l f : Nat) (z : Nat → Nat) (P : Nat) (w : World) (hn : n ≤ maxLen) (hs : SL w A n (fun j => .float .f32 (x j))) (hm : m ≤ maxLen) (hs' : SL w B m (fun j => .float .f32 (y j))) (hl : l ≤ maxLen) (hs'' : SL w C l (fun j => .float .f32 (z j))) (hp : w.heap[P]? = some (.cells #[.slice A n c, .slice B m d, .slice C l f] 29)) :
    Calls Try.prog 81 #[.pointer (some ⟨P, 0, none⟩)] w fun e w' => e = .returned (.bool (tru (ppP x n y m z l))) ∧ ∃ q, w' = w.drewN q := by
  have k0 := Joins.cell_of_block hp 0
  have k1 := Joins.cell_of_block hp 1
  have k2 := Joins.cell_of_block hp 2
  simp at k0 k1 k2
  unfold maxLen at hn hm hl
  have HC := cells_f hs
  have HC' := cells_f hs'
  have HC'' := cells_f hs''
  clear hs hs' hs'' hp
  by_cases h1 : (n : Int) < 2
  · have HT := hide (tru_no (show ¬ ppP x n y m z l from fun h => by have := h.1.1; omega))
    go_enter Try.func81, Try.ntmps81
    go_wp2
    go_ret
    exact ⟨retBa HT.out.symm, 0, rfl⟩
  by_cases h2 : 12 < (n : Int)
  · have HT := hide (tru_no (show ¬ ppP x n y m z l from fun h => by have := h.1.2; omega))
    go_enter Try.func81, Try.ntmps81
    go_wp2
    go_ret
    exact ⟨retBa HT.out.symm, 0, rfl⟩
  by_cases h3 : (m : Int) = (n : Int)
  rotate_left
  · have h3b : ¬ m = n := by omega
    have HT := hide (tru_no (show ¬ ppP x n y m z l from fun h => h3b h.2.1))
    go_enter Try.func81, Try.ntmps81
    go_wp2
    go_ret
    exact ⟨retBa HT.out.symm, 0, rfl⟩
  obtain rfl : m = n := by omega
  by_cases h4 : (l : Int) = (m : Int)
  rotate_left
  · have h4b : ¬ l = m := by omega
    have HT := hide (tru_no (show ¬ ppP x m y m z l from fun h => h4b h.2.2.1))
    go_enter Try.func81, Try.ntmps81
    go_wp2
    go_ret
    exact ⟨retBa HT.out.symm, 0, rfl⟩
  obtain rfl : l = m := by omega
  clear h3 h4
  go_enter Try.func81, Try.ntmps81
  go_wp2
  go_loopw [4, 39] (fun _ i wr => ∃ k q : Nat, k ≤ l ∧ i = .int .i64 k ∧ Hid (∀ j, j < k → hdB (x j) = true ∧ shB (y j) = true ∧ hdB (z j) = true) ∧ wr = w.drewN q) (fun _ i _ => l - (intOf i).toNat)
  case atStart => exact ⟨0, 0, Nat.zero_le _, rfl, fun j hj => absurd hj (by omega), rfl⟩
  case round =>
    obtain ⟨k, q, hk, rfl, hg, rfl⟩ := hrel
    by_cases hlt : k < l
    · obtain ⟨b1, o1, rfl, hb1, hxk⟩ := HC.out k hlt
      obtain ⟨b2, o2, rfl, hb2, hyk⟩ := HC'.out k hlt
      obtain ⟨b3, o3, rfl, hb3, hzk⟩ := HC''.out k hlt
      have hki : (k : Int) < (l : Int) := by omega
      cases p1 : hdB (x k)
      · have HT := hide (tru_no (show ¬ ppP x l y l z l from fun h => by rw [h.2.2.2.1 k hlt] at p1; cases p1))
        go_wp2_with fail
        refine (specLeast_any _ _).mono ?_
        rw [p1]
        rintro e w' ⟨rfl, qp1, rfl⟩
        go_wp2
        go_ret
        exact ⟨retBa HT.out.symm, _, rfl⟩
      cases p2 : shB (y k)
      · have HT := hide (tru_no (show ¬ ppP x l y l z l from fun h => by rw [h.2.2.2.2.1 k hlt] at p2; cases p2))
        go_wp2_with fail
        refine (specLeast_any _ _).mono ?_
        rw [p1]
        rintro e w' ⟨rfl, qp1, rfl⟩
        go_wp2_with fail
        refine (specShare_any _ _).mono ?_
        rw [p2]
        rintro e w' ⟨rfl, rfl⟩
        go_wp2
        go_ret
        exact ⟨retBa HT.out.symm, _, rfl⟩
      cases p3 : hdB (z k)
      · have HT := hide (tru_no (show ¬ ppP x l y l z l from fun h => by rw [h.2.2.2.2.2 k hlt] at p3; cases p3))
        go_wp2_with fail
        refine (specLeast_any _ _).mono ?_
        rw [p1]
        rintro e w' ⟨rfl, qp1, rfl⟩
        go_wp2_with fail
        refine (specShare_any _ _).mono ?_
        rw [p2]
        rintro e w' ⟨rfl, rfl⟩
        go_wp2_with fail
        refine (specLeast_any _ _).mono ?_
        rw [p3]
        rintro e w' ⟨rfl, qp3, rfl⟩
        go_wp2
        go_ret
        exact ⟨retBa HT.out.symm, _, rfl⟩
      have HE := hide (show hdB (x k) = true ∧ shB (y k) = true ∧ hdB (z k) = true from ⟨p1, p2, p3⟩)
      go_wp2_with fail
      refine (specLeast_any _ _).mono ?_
      rw [p1]
      rintro e w' ⟨rfl, qp1, rfl⟩
      go_wp2_with fail
      refine (specShare_any _ _).mono ?_
      rw [p2]
      rintro e w' ⟨rfl, rfl⟩
      go_wp2_with fail
      refine (specLeast_any _ _).mono ?_
      rw [p3]
      rintro e w' ⟨rfl, qp3, rfl⟩
      clear p1 p2 p3
      go_wp2
      go_roundw
      case rel => exact ⟨k + 1, _, by omega, by go_num, (by
        intro j hj
        by_cases hjk : j = k
        · subst hjk; exact HE.out
        · exact hg.out j (by omega)), rfl⟩
      case measure => simp [intOf]; omega
    · have HT := hide (tru_yes (show ppP x l y l z l from ⟨by omega, rfl, rfl, fun j hj => (hg.out j (by omega)).1, fun j hj => (hg.out j (by omega)).2.1, fun j hj => (hg.out j (by omega)).2.2⟩))
      have hki : ¬ (k : Int) < (l : Int) := by omega
      go_wp2
      go_ret
      exact ⟨retBa HT.out.symm, _, rfl⟩
set_option maxHeartbeats 4000000 in
theorem implValidPpl_any (A : Option Addr) (n c : Nat) (x : Nat → Nat) (B : Option Addr) (m d : Nat) (y : Nat → Nat) (C : Option Addr) (l f : Nat) (z : Nat → Nat) (w : World) (hn : n ≤ maxLen) (hs : SL w A n (fun j => .float .f32 (x j))) (hm : m ≤ maxLen) (hs' : SL w B m (fun j => .float .f32 (y j))) (hl : l ≤ maxLen) (hs'' : SL w C l (fun j => .float .f32 (z j))) :
    Calls Try.prog 225 #[.agg #[.slice A n c, .slice B m d, .slice C l f]] w fun e w' => e = .returned (.bool (tru (ppP x n y m z l))) ∧ Below w.heap.size w w' := by
  have HA1 := fun w hs => hide (areReals_Heads A n c x 2 12 w hn hs)
  have HA2 := fun w hs => hide (areReals_Share B m d y n n w hm hs)
  have HA3 := fun w hs => hide (areReals_Heads C l f z n n w hl hs)
  obtain ⟨W, hW⟩ : ∃ u, u = w.alloc (.cells #[.slice A n c, .slice B m d, .slice C l f] 29) := ⟨_, rfl⟩
  have HBW : Hid (Below w.heap.size w W) := by rw [hW]; exact (Below.refl w.heap.size w).alloc (Nat.le_refl _) _
  have HBX : Hid (W.heap[w.heap.size]? = some (.cells #[.slice A n c, .slice B m d, .slice C l f] 29)) := by rw [hW]; exact blocks1 w _
  have HS := hide (hs.below HBW.out)
  have HS' := hide (hs'.below HBW.out)
  have HS'' := hide (hs''.below HBW.out)
  have HWW := hide hW
  unfold maxLen at hn hm hl
  clear hs hs' hs'' hW
  by_cases g1 : allB hdB x n 2 12
  rotate_left
  · rw [tru_no g1] at HA1
    have HT := hide (tru_no (show ¬ ppP x n y m z l from fun h => g1 (pp_a h)))
    clear g1
    go_enter Try.func225, Try.ntmps225
    go_wp2_with fail
    rw [← HWW.out]
    refine (HA1 _ HS.out).out.mono ?_
    rintro e w1 ⟨rfl, hb⟩
    have HB := hide (HBW.out.trans (hb.mono HBW.out.size))
    have HBL := hide hb
    have R1 := hide (blk_below hb (Array.getElem?_eq_some_iff.1 HBX.out).1 HBX.out)
    have c0 := Joins.cell_of_block R1.out 0
    have c1 := Joins.cell_of_block R1.out 1
    have c2 := Joins.cell_of_block R1.out 2
    simp at c0 c1 c2
    clear hb
    go_wp2
    go_ret
    exact ⟨retBa HT.out.symm, HB.out⟩
  rw [tru_yes g1] at HA1
  by_cases g2 : allB shB y m n n
  rotate_left
  · rw [tru_no g2] at HA2
    have HT := hide (tru_no (show ¬ ppP x n y m z l from fun h => g2 (pp_b h)))
    clear g1 g2
    go_enter Try.func225, Try.ntmps225
    go_wp2_with fail
    rw [← HWW.out]
    refine (HA1 _ HS.out).out.mono ?_
    rintro e w1 ⟨rfl, hb⟩
    have HB := hide (HBW.out.trans (hb.mono HBW.out.size))
    have HBL := hide hb
    have R1 := hide (blk_below hb (Array.getElem?_eq_some_iff.1 HBX.out).1 HBX.out)
    have c0 := Joins.cell_of_block R1.out 0
    have c1 := Joins.cell_of_block R1.out 1
    have c2 := Joins.cell_of_block R1.out 2
    simp at c0 c1 c2
    clear hb
    go_wp2_with fail
    refine (HA2 _ (HS'.out.below HBL.out)).out.mono ?_
    rintro e w2 ⟨rfl, hb⟩
    have HB2 := hide (HB.out.trans (hb.mono HB.out.size))
    have HBL2 := hide (HBL.out.trans (hb.mono HBL.out.size))
    have R2 := hide (blk_below hb (Array.getElem?_eq_some_iff.1 R1.out).1 R1.out)
    clear c0 c1 c2
    have c0 := Joins.cell_of_block R2.out 0
    have c1 := Joins.cell_of_block R2.out 1
    have c2 := Joins.cell_of_block R2.out 2
    simp at c0 c1 c2
    clear hb
    go_wp2
    go_ret
    exact ⟨retBa HT.out.symm, HB2.out⟩
  rw [tru_yes g2] at HA2
  have HT := hide (show tru (allB hdB z l n n) = tru (ppP x n y m z l) from by
    by_cases g3 : allB hdB z l n n
    · rw [tru_yes g3, tru_yes (pp_of g1 g2 g3)]
    · rw [tru_no g3, tru_no (fun h => g3 (pp_c h))])
  clear g1 g2
  go_enter Try.func225, Try.ntmps225
  go_wp2_with fail
  rw [← HWW.out]
  refine (HA1 _ HS.out).out.mono ?_
  rintro e w1 ⟨rfl, hb⟩
  have HB := hide (HBW.out.trans (hb.mono HBW.out.size))
  have HBL := hide hb
  have R1 := hide (blk_below hb (Array.getElem?_eq_some_iff.1 HBX.out).1 HBX.out)
  have c0 := Joins.cell_of_block R1.out 0
  have c1 := Joins.cell_of_block R1.out 1
  have c2 := Joins.cell_of_block R1.out 2
  simp at c0 c1 c2
  clear hb
  go_wp2_with fail
  refine (HA2 _ (HS'.out.below HBL.out)).out.mono ?_
  rintro e w2 ⟨rfl, hb⟩
  have HB2 := hide (HB.out.trans (hb.mono HB.out.size))
  have HBL2 := hide (HBL.out.trans (hb.mono HBL.out.size))
  have R2 := hide (blk_below hb (Array.getElem?_eq_some_iff.1 R1.out).1 R1.out)
  clear c0 c1 c2
  have c0 := Joins.cell_of_block R2.out 0
  have c1 := Joins.cell_of_block R2.out 1
  have c2 := Joins.cell_of_block R2.out 2
  simp at c0 c1 c2
  clear hb
  go_wp2_with fail
  refine (HA3 _ (HS''.out.below HBL2.out)).out.mono ?_
  rintro e w3 ⟨rfl, hb⟩
  have HB3 := hide (HB2.out.trans (hb.mono HB2.out.size))
  clear hb
  go_wp2
  go_ret
  exact ⟨retBa HT.out, HB3.out⟩
end Go.Proofs.Ytpbbedelapnnnaa
