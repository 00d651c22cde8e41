/- V7, Fc, Os, Fa, Fy6, S7, En9, Ox, Ls, Vs, Vi, Am, C4, P4, Li, P7, P8, P9, Shf, In, Is, Ih, Es8: merged. -/
import Derived.Test.YtjebkagbknmdoaaEnt1
import Derived.Laws.AppendOwn
import Derived.Test.YtjebkagbknmdoaaChecked
import Derived.RegionTactic
import Derived.Deep.RegionWith
import Derived.Ground.SlgnProg
import Derived.Ground.SlgmProg
import Derived.Shelf.SortM.Plain
import Derived.Test.YtjebkagbknmdoaaProg
import Derived.ArgAppend
import Derived.Sort.OwnSortedInts
import Derived.StillTailTactics
import Derived.Deep.RegionHeldLaw
import Derived.Deep.AppendLies
/- ValidPeople, by both. -/
namespace Go.Proofs.Ytjebkagbknmdoaa
open Go.RowKit Go.Dues
/-- what valid people are -/
def ppP (x : Nat → Nat) (n : Nat) (y : Nat → Nat) (m : Nat) (z : Nat → Nat) (l : Nat) : Prop := (2 ≤ n ∧ n ≤ 12) ∧ m = n ∧ l = n ∧ (∀ j, j < n → hdB (x j) = true) ∧ (∀ j, j < n → shB (y j) = true) ∧ ∀ j, j < n → hdB (z j) = true
theorem pp_a {x y z : Nat → Nat} {n m l : Nat} (h : ppP x n y m z l) : allB hdB x n 2 12 := ⟨by have := h.1; omega, h.2.2.2.1⟩
theorem pp_b {x y z : Nat → Nat} {n m l : Nat} (h : ppP x n y m z l) : allB shB y m n n := ⟨by have := h.2.1; omega, fun j hj => h.2.2.2.2.1 j (by have := h.2.1; omega)⟩
theorem pp_c {x y z : Nat → Nat} {n m l : Nat} (h : ppP x n y m z l) : allB hdB z l n n := ⟨by have := h.2.2.1; omega, fun j hj => h.2.2.2.2.2 j (by have := h.2.2.1; omega)⟩
theorem pp_of {x y z : Nat → Nat} {n m l : Nat} (h1 : allB hdB x n 2 12) (h2 : allB shB y m n n) (h3 : allB hdB z l n n) : ppP x n y m z l :=
  ⟨by have := h1.1; omega, by have := h2.1; omega, by have := h3.1; omega, h1.2, fun j hj => h2.2 j (by have := h2.1; omega), fun j hj => h3.2 j (by have := h3.1; omega)⟩
set_option maxRecDepth 100000 in
set_option maxHeartbeats 8000000 in
theorem specPpl_any (A : Option Addr) (n c : Nat) (x : Nat → Nat) (B : Option Addr) (m d : Nat) (y : Nat → Nat) (C : Option Addr) (l f : Nat) (z : Nat → Nat) (P : Nat) (w : World) (hn : n ≤ maxLen) (hs : SL w A n (fun j => .float .f32 (x j))) (hm : m ≤ maxLen) (hs' : SL w B m (fun j => .float .f32 (y j))) (hl : l ≤ maxLen) (hs'' : SL w C l (fun j => .float .f32 (z j))) (hp : w.heap[P]? = some (.cells #[.slice A n c, .slice B m d, .slice C l f] 49)) :
    Calls Try.prog 84 #[.pointer (some ⟨P, 0, none⟩)] w fun e w' => e = .returned (.bool (tru (ppP x n y m z l))) ∧ ∃ q, w' = w.drewN q := by
  have k0 := Joins.cell_of_block hp 0
  have k1 := Joins.cell_of_block hp 1
  have k2 := Joins.cell_of_block hp 2
  simp at k0 k1 k2
  unfold maxLen at hn hm hl
  have HC := cells_f hs
  have HC' := cells_f hs'
  have HC'' := cells_f hs''
  clear hs hs' hs'' hp
  by_cases h1 : (n : Int) < 2
  · have HT := hide (tru_no (show ¬ ppP x n y m z l from fun h => by have := h.1.1; omega))
    go_enter Try.func84, Try.ntmps84
    go_wp2
    go_ret
    exact ⟨retBa HT.out.symm, 0, rfl⟩
  by_cases h2 : 12 < (n : Int)
  · have HT := hide (tru_no (show ¬ ppP x n y m z l from fun h => by have := h.1.2; omega))
    go_enter Try.func84, Try.ntmps84
    go_wp2
    go_ret
    exact ⟨retBa HT.out.symm, 0, rfl⟩
  by_cases h3 : (m : Int) = (n : Int)
  rotate_left
  · have h3b : ¬ m = n := by omega
    have HT := hide (tru_no (show ¬ ppP x n y m z l from fun h => h3b h.2.1))
    go_enter Try.func84, Try.ntmps84
    go_wp2
    go_ret
    exact ⟨retBa HT.out.symm, 0, rfl⟩
  obtain rfl : m = n := by omega
  by_cases h4 : (l : Int) = (m : Int)
  rotate_left
  · have h4b : ¬ l = m := by omega
    have HT := hide (tru_no (show ¬ ppP x m y m z l from fun h => h4b h.2.2.1))
    go_enter Try.func84, Try.ntmps84
    go_wp2
    go_ret
    exact ⟨retBa HT.out.symm, 0, rfl⟩
  obtain rfl : l = m := by omega
  clear h3 h4
  go_enter Try.func84, Try.ntmps84
  go_wp2
  go_loopw [4, 39] (fun _ i wr => ∃ k q : Nat, k ≤ l ∧ i = .int .i64 k ∧ Hid (∀ j, j < k → hdB (x j) = true ∧ shB (y j) = true ∧ hdB (z j) = true) ∧ wr = w.drewN q) (fun _ i _ => l - (intOf i).toNat)
  case atStart => exact ⟨0, 0, Nat.zero_le _, rfl, fun j hj => absurd hj (by omega), rfl⟩
  case round =>
    obtain ⟨k, q, hk, rfl, hg, rfl⟩ := hrel
    by_cases hlt : k < l
    · obtain ⟨b1, o1, rfl, hb1, hxk⟩ := HC.out k hlt
      obtain ⟨b2, o2, rfl, hb2, hyk⟩ := HC'.out k hlt
      obtain ⟨b3, o3, rfl, hb3, hzk⟩ := HC''.out k hlt
      have hki : (k : Int) < (l : Int) := by omega
      cases p1 : hdB (x k)
      · have HT := hide (tru_no (show ¬ ppP x l y l z l from fun h => by rw [h.2.2.2.1 k hlt] at p1; cases p1))
        go_wp2_with fail
        refine (specLeast_any _ _).mono ?_
        rw [p1]
        rintro e w' ⟨rfl, qp1, rfl⟩
        go_wp2
        go_ret
        exact ⟨retBa HT.out.symm, _, rfl⟩
      cases p2 : shB (y k)
      · have HT := hide (tru_no (show ¬ ppP x l y l z l from fun h => by rw [h.2.2.2.2.1 k hlt] at p2; cases p2))
        go_wp2_with fail
        refine (specLeast_any _ _).mono ?_
        rw [p1]
        rintro e w' ⟨rfl, qp1, rfl⟩
        go_wp2_with fail
        refine (specShare_any _ _).mono ?_
        rw [p2]
        rintro e w' ⟨rfl, rfl⟩
        go_wp2
        go_ret
        exact ⟨retBa HT.out.symm, _, rfl⟩
      cases p3 : hdB (z k)
      · have HT := hide (tru_no (show ¬ ppP x l y l z l from fun h => by rw [h.2.2.2.2.2 k hlt] at p3; cases p3))
        go_wp2_with fail
        refine (specLeast_any _ _).mono ?_
        rw [p1]
        rintro e w' ⟨rfl, qp1, rfl⟩
        go_wp2_with fail
        refine (specShare_any _ _).mono ?_
        rw [p2]
        rintro e w' ⟨rfl, rfl⟩
        go_wp2_with fail
        refine (specLeast_any _ _).mono ?_
        rw [p3]
        rintro e w' ⟨rfl, qp3, rfl⟩
        go_wp2
        go_ret
        exact ⟨retBa HT.out.symm, _, rfl⟩
      have HE := hide (show hdB (x k) = true ∧ shB (y k) = true ∧ hdB (z k) = true from ⟨p1, p2, p3⟩)
      go_wp2_with fail
      refine (specLeast_any _ _).mono ?_
      rw [p1]
      rintro e w' ⟨rfl, qp1, rfl⟩
      go_wp2_with fail
      refine (specShare_any _ _).mono ?_
      rw [p2]
      rintro e w' ⟨rfl, rfl⟩
      go_wp2_with fail
      refine (specLeast_any _ _).mono ?_
      rw [p3]
      rintro e w' ⟨rfl, qp3, rfl⟩
      clear p1 p2 p3
      go_wp2
      go_roundw
      case rel => exact ⟨k + 1, _, by omega, by go_num, (by
        intro j hj
        by_cases hjk : j = k
        · subst hjk; exact HE.out
        · exact hg.out j (by omega)), rfl⟩
      case measure => simp [intOf]; omega
    · have HT := hide (tru_yes (show ppP x l y l z l from ⟨by omega, rfl, rfl, fun j hj => (hg.out j (by omega)).1, fun j hj => (hg.out j (by omega)).2.1, fun j hj => (hg.out j (by omega)).2.2⟩))
      have hki : ¬ (k : Int) < (l : Int) := by omega
      go_wp2
      go_ret
      exact ⟨retBa HT.out.symm, _, rfl⟩
set_option maxHeartbeats 4000000 in
theorem implValidPpl_any (A : Option Addr) (n c : Nat) (x : Nat → Nat) (B : Option Addr) (m d : Nat) (y : Nat → Nat) (C : Option Addr) (l f : Nat) (z : Nat → Nat) (w : World) (hn : n ≤ maxLen) (hs : SL w A n (fun j => .float .f32 (x j))) (hm : m ≤ maxLen) (hs' : SL w B m (fun j => .float .f32 (y j))) (hl : l ≤ maxLen) (hs'' : SL w C l (fun j => .float .f32 (z j))) :
    Calls Try.prog 87 #[.agg #[.slice A n c, .slice B m d, .slice C l f]] w fun e w' => e = .returned (.bool (tru (ppP x n y m z l))) ∧ Below w.heap.size w w' := by
  have HA1 := fun w hs => hide (areReals_Heads A n c x 2 12 w hn hs)
  have HA2 := fun w hs => hide (areReals_Share B m d y n n w hm hs)
  have HA3 := fun w hs => hide (areReals_Heads C l f z n n w hl hs)
  obtain ⟨W, hW⟩ : ∃ u, u = w.alloc (.cells #[.slice A n c, .slice B m d, .slice C l f] 49) := ⟨_, rfl⟩
  have HBW : Hid (Below w.heap.size w W) := by rw [hW]; exact (Below.refl w.heap.size w).alloc (Nat.le_refl _) _
  have HBX : Hid (W.heap[w.heap.size]? = some (.cells #[.slice A n c, .slice B m d, .slice C l f] 49)) := by rw [hW]; exact blocks1 w _
  have HS := hide (hs.below HBW.out)
  have HS' := hide (hs'.below HBW.out)
  have HS'' := hide (hs''.below HBW.out)
  have HWW := hide hW
  unfold maxLen at hn hm hl
  clear hs hs' hs'' hW
  by_cases g1 : allB hdB x n 2 12
  rotate_left
  · rw [tru_no g1] at HA1
    have HT := hide (tru_no (show ¬ ppP x n y m z l from fun h => g1 (pp_a h)))
    clear g1
    go_enter Try.func87, Try.ntmps87
    go_wp2_with fail
    rw [← HWW.out]
    refine (HA1 _ HS.out).out.mono ?_
    rintro e w1 ⟨rfl, hb⟩
    have HB := hide (HBW.out.trans (hb.mono HBW.out.size))
    have HBL := hide hb
    have R1 := hide (blk_below hb (Array.getElem?_eq_some_iff.1 HBX.out).1 HBX.out)
    have c0 := Joins.cell_of_block R1.out 0
    have c1 := Joins.cell_of_block R1.out 1
    have c2 := Joins.cell_of_block R1.out 2
    simp at c0 c1 c2
    clear hb
    go_wp2
    go_ret
    exact ⟨retBa HT.out.symm, HB.out⟩
  rw [tru_yes g1] at HA1
  by_cases g2 : allB shB y m n n
  rotate_left
  · rw [tru_no g2] at HA2
    have HT := hide (tru_no (show ¬ ppP x n y m z l from fun h => g2 (pp_b h)))
    clear g1 g2
    go_enter Try.func87, Try.ntmps87
    go_wp2_with fail
    rw [← HWW.out]
    refine (HA1 _ HS.out).out.mono ?_
    rintro e w1 ⟨rfl, hb⟩
    have HB := hide (HBW.out.trans (hb.mono HBW.out.size))
    have HBL := hide hb
    have R1 := hide (blk_below hb (Array.getElem?_eq_some_iff.1 HBX.out).1 HBX.out)
    have c0 := Joins.cell_of_block R1.out 0
    have c1 := Joins.cell_of_block R1.out 1
    have c2 := Joins.cell_of_block R1.out 2
    simp at c0 c1 c2
    clear hb
    go_wp2_with fail
    refine (HA2 _ (HS'.out.below HBL.out)).out.mono ?_
    rintro e w2 ⟨rfl, hb⟩
    have HB2 := hide (HB.out.trans (hb.mono HB.out.size))
    have HBL2 := hide (HBL.out.trans (hb.mono HBL.out.size))
    have R2 := hide (blk_below hb (Array.getElem?_eq_some_iff.1 R1.out).1 R1.out)
    clear c0 c1 c2
    have c0 := Joins.cell_of_block R2.out 0
    have c1 := Joins.cell_of_block R2.out 1
    have c2 := Joins.cell_of_block R2.out 2
    simp at c0 c1 c2
    clear hb
    go_wp2
    go_ret
    exact ⟨retBa HT.out.symm, HB2.out⟩
  rw [tru_yes g2] at HA2
  have HT := hide (show tru (allB hdB z l n n) = tru (ppP x n y m z l) from by
    by_cases g3 : allB hdB z l n n
    · rw [tru_yes g3, tru_yes (pp_of g1 g2 g3)]
    · rw [tru_no g3, tru_no (fun h => g3 (pp_c h))])
  clear g1 g2
  go_enter Try.func87, Try.ntmps87
  go_wp2_with fail
  rw [← HWW.out]
  refine (HA1 _ HS.out).out.mono ?_
  rintro e w1 ⟨rfl, hb⟩
  have HB := hide (HBW.out.trans (hb.mono HBW.out.size))
  have HBL := hide hb
  have R1 := hide (blk_below hb (Array.getElem?_eq_some_iff.1 HBX.out).1 HBX.out)
  have c0 := Joins.cell_of_block R1.out 0
  have c1 := Joins.cell_of_block R1.out 1
  have c2 := Joins.cell_of_block R1.out 2
  simp at c0 c1 c2
  clear hb
  go_wp2_with fail
  refine (HA2 _ (HS'.out.below HBL.out)).out.mono ?_
  rintro e w2 ⟨rfl, hb⟩
  have HB2 := hide (HB.out.trans (hb.mono HB.out.size))
  have HBL2 := hide (HBL.out.trans (hb.mono HBL.out.size))
  have R2 := hide (blk_below hb (Array.getElem?_eq_some_iff.1 R1.out).1 R1.out)
  clear c0 c1 c2
  have c0 := Joins.cell_of_block R2.out 0
  have c1 := Joins.cell_of_block R2.out 1
  have c2 := Joins.cell_of_block R2.out 2
  simp at c0 c1 c2
  clear hb
  go_wp2_with fail
  refine (HA3 _ (HS''.out.below HBL2.out)).out.mono ?_
  rintro e w3 ⟨rfl, hb⟩
  have HB3 := hide (HB2.out.trans (hb.mono HB2.out.size))
  clear hb
  go_wp2
  go_ret
  exact ⟨retBa HT.out, HB3.out⟩
end Go.Proofs.Ytjebkagbknmdoaa

/- Life tables, by both: the whole. -/
namespace Go.Proofs.Ytjebkagbknmdoaa
open Go.RowKit Go.Dues
theorem notShare_any (x : Nat) (w : World) : Calls Try.prog 214 #[.float .f32 x] w fun e w' => e = .returned (.bool (!shB x)) ∧ w = w' := by
  go_enter Try.func214, Try.ntmps214
  go_wp2_with (go_at_call 105; refine (implShare_any _ _ ).mono ?_; rintro e w' ⟨rfl, rfl⟩)
  go_ret
  exact ⟨rfl, rfl⟩
set_option maxHeartbeats 4000000 in
theorem index_notShare (A : Option Addr) (n c : Nat) (x : Nat → Nat) (w : World) (hn : n ≤ maxLen) (hs : SL w A n (fun j => .float .f32 (x j))) :
    Calls Try.prog 211 #[.slice A n c, .func (Fn.func 214) #[] #[]] w fun e w' => ∃ r : Int, e = .returned (.int .i64 r) ∧ ((0 ≤ r ∧ ∃ j, j < n ∧ ¬ shB (x j) = true) ∨ (r = -1 ∧ ∀ j, j < n → shB (x j) = true)) ∧ w = w' := by
  unfold maxLen at hn
  have HC := cells_f hs
  clear hs
  go_enter Try.func211, Try.ntmps211
  go_wp2
  go_loop [5, 8] (fun _ i => ∃ k : Nat, k ≤ n ∧ i = .int .i64 k ∧ Hid (∀ j, j < k → shB (x j) = true)) (fun _ i => n - (intOf i).toNat)
  case atStart => exact ⟨0, Nat.zero_le _, rfl, fun j hj => absurd hj (by omega)⟩
  case round =>
    obtain ⟨k, hk, rfl, hg⟩ := hrel
    by_cases hlt : k < n
    · obtain ⟨b1, off, rfl, hb1, hxk⟩ := HC.out k hlt
      cases hp : shB (x k)
      · have HE := hide (show ¬ shB (x k) = true by rw [hp]; decide)
        go_wp2_with fail
        refine (notShare_any _ _).mono ?_
        rw [hp]
        rintro e w' ⟨rfl, rfl⟩
        go_wp2
        go_ret
        exact ⟨_, rfl, .inl ⟨by omega, k, hlt, HE.out⟩, rfl⟩
      · have HE := hide hp
        go_wp2_with fail
        refine (notShare_any _ _).mono ?_
        rw [hp]
        rintro e w' ⟨rfl, rfl⟩
        clear hp
        go_wp2
        go_round
        case rel => exact ⟨k + 1, by omega, by go_num, by
          intro j hj
          by_cases hjk : j = k
          · subst hjk; exact HE.out
          · exact hg.out j (by omega)⟩
        case measure => simp [intOf]; omega
    · go_wp2
      go_ret
      obtain rfl : k = n := by omega
      exact ⟨_, rfl, .inr ⟨rfl, hg.out⟩, rfl⟩
set_option maxRecDepth 100000 in
set_option maxHeartbeats 4000000 in
theorem implLife_any (A : Option Addr) (n c : Nat) (x : Nat → Nat) (w : World) (hn : n ≤ maxLen) (hs : SL w A n (fun j => .float .f32 (x j))) :
    Calls Try.prog 190 #[.slice A n c] w fun e w' => e = .returned (.bool (tru (ltP x n))) ∧ w = w' := by
  have HI := hide (index_notShare A n c x w hn hs)
  unfold maxLen at hn
  have HC := cells_f hs
  clear hs
  by_cases h1 : (n : Int) < 1
  · have HT := hide (tru_no (show ¬ ltP x n from fun h => by have := h.1.1; omega))
    go_enter Try.func190, Try.ntmps190
    go_wp2
    go_ret
    exact ⟨retBa HT.out.symm, rfl⟩
  have h1d : decide ((n : Int) < 1) = false := decide_eq_false h1
  by_cases h2 : (120 : Int) < (n : Int)
  · have HT := hide (tru_no (show ¬ ltP x n from fun h => by have := h.1.2; omega))
    go_enter Try.func190, Try.ntmps190
    go_wp2
    go_ret
    exact ⟨retBa HT.out.symm, rfl⟩
  have h2d : decide ((120 : Int) < (n : Int)) = false := decide_eq_false h2
  obtain ⟨m, rfl⟩ : ∃ m : Nat, n = m + 1 := ⟨n - 1, by omega⟩
  obtain ⟨b, off, rfl, hb, hc⟩ := HC.out m (by omega)
  have hm1 : ((m + 1 : Nat) : Int) - 1 = (m : Int) := by omega
  cases h3 : eqB (x m) 1065353216
  · have HT := hide (tru_no (show ¬ ltP x (m + 1) from fun h => by have := h.2.2; rw [show m + 1 - 1 = m by omega, h3] at this; cases this))
    have h3' : (FloatKind.f32.format.order (x m) 1065353216 == some .eq) = false := h3
    have h3'' : (FloatKind.f32.format.order (x m) 1065353216 != some .eq) = true := by rw [bne, h3']; rfl
    clear h3
    go_enter Try.func190, Try.ntmps190
    go_wp2
    go_ret
    exact ⟨retBa HT.out.symm, rfl⟩
  have HEQ := hide (show eqB (x (m + 1 - 1)) 1065353216 = true by rw [show m + 1 - 1 = m by omega]; exact h3)
  have h3' : (FloatKind.f32.format.order (x m) 1065353216 == some .eq) = true := h3
  have h3'' : (FloatKind.f32.format.order (x m) 1065353216 != some .eq) = false := by rw [bne, h3']; rfl
  have HL := hide (show 1 ≤ m + 1 ∧ m + 1 ≤ 120 by omega)
  clear h3
  go_enter Try.func190, Try.ntmps190
  go_wp2_with (first | (go_at_call 211; fail) | (go_at_call 179; go_in))
  refine HI.out.mono ?_
  rintro e w1 ⟨r, rfl, hr, rfl⟩
  rcases hr with ⟨h0, j, hj, hbad⟩ | ⟨rfl, hall⟩
  · have HT := hide (tru_no (show ¬ ltP x (m + 1) from fun h => hbad (h.2.1 j hj)))
    clear hbad
    go_wp2
    go_ret
    exact ⟨retBa HT.out.symm, rfl⟩
  · have HT := hide (tru_yes (show ltP x (m + 1) from ⟨HL.out, hall, HEQ.out⟩))
    clear hall
    go_wp2
    go_ret
    exact ⟨retBa HT.out.symm, rfl⟩
set_option maxRecDepth 100000 in
set_option maxHeartbeats 4000000 in
theorem specTable_any (A : Option Addr) (n c : Nat) (x : Nat → Nat) (w : World) (hn : n ≤ maxLen) (hs : SL w A n (fun j => .float .f32 (x j))) :
    Calls Try.prog 100 #[.slice A n c] w fun e w' => e = .returned (.bool (tru (ltP x n))) ∧ w = w' := by
  unfold maxLen at hn
  have HC := cells_f hs
  clear hs
  go_enter Try.func100, Try.ntmps100
  go_wp2
  go_loop [4] (fun i => ∃ k : Nat, k ≤ n ∧ i = .int .i64 k ∧ Hid (∀ j, j < k → shB (x j) = true)) (fun i => n - (intOf i).toNat)
  case atStart => exact ⟨0, Nat.zero_le _, rfl, fun j hj => absurd hj (by omega)⟩
  case round =>
    obtain ⟨k, hk, rfl, hg⟩ := hrel
    by_cases hlt : k < n
    · obtain ⟨b1, off, rfl, hb1, hxk⟩ := HC.out k hlt
      cases hp : shB (x k)
      · have HT := hide (tru_no (show ¬ ltP x n from fun h => by rw [h.2.1 k hlt] at hp; cases hp))
        go_wp2_with (go_at_call 101; refine (specShare_any _ _ ).mono ?_; rintro e w' ⟨rfl, rfl⟩)
        go_ret
        exact ⟨retBa HT.out.symm, rfl⟩
      · have HE := hide hp
        go_wp2_with (go_at_call 101; refine (specShare_any _ _ ).mono ?_; rintro e w' ⟨rfl, rfl⟩)
        clear hp
        go_round
        case rel => exact ⟨k + 1, by omega, by go_num, by
          intro j hj
          by_cases hjk : j = k
          · subst hjk; exact HE.out
          · exact hg.out j (by omega)⟩
        case measure => simp [intOf]; omega
    · obtain rfl : k = n := by omega
      by_cases h1 : (1 : Int) ≤ (k : Int)
      · have h1d : decide ((1 : Int) ≤ (k : Int)) = true := decide_eq_true h1
        by_cases h2 : (k : Int) ≤ 120
        · have h2d : decide ((k : Int) ≤ 120) = true := decide_eq_true h2
          obtain ⟨m, rfl⟩ : ∃ m : Nat, k = m + 1 := ⟨k - 1, by omega⟩
          obtain ⟨b, off, rfl, hb, hc⟩ := HC.out m (by omega)
          have hm1 : ((m + 1 : Nat) : Int) - 1 = (m : Int) := by omega
          have HT := hide (show eqB (x m) 1065353216 = tru (ltP x (m + 1)) from by
            cases h3 : eqB (x m) 1065353216
            · exact (tru_no (fun h => by have := h.2.2; rw [show m + 1 - 1 = m by omega, h3] at this; cases this)).symm
            · exact (tru_yes ⟨⟨by omega, by omega⟩, hg.out, by rw [show m + 1 - 1 = m by omega]; exact h3⟩).symm)
          go_wp2
          go_ret
          exact ⟨retBa HT.out, rfl⟩
        · have h2d : decide ((k : Int) ≤ 120) = false := decide_eq_false h2
          have HT := hide (tru_no (show ¬ ltP x k from fun h => by have := h.1.2; omega))
          go_wp2
          go_ret
          exact ⟨retBa HT.out.symm, rfl⟩
      · have h1d : decide ((1 : Int) ≤ (k : Int)) = false := decide_eq_false h1
        have HT := hide (tru_no (show ¬ ltP x k from fun h => by have := h.1.1; omega))
        go_wp2
        go_ret
        exact ⟨retBa HT.out.symm, rfl⟩
end Go.Proofs.Ytjebkagbknmdoaa

/- A row of the call's own stays where a callee only makes memory behind it. -/
namespace Go
open Go.RowKit
theorem own_stays {w w' : World} {B size n : Nat} {e : TypeId} {v : Value} {xs : List Value} (h : w.ownsRow B e size v n xs) (hb : Below w.heap.size w w') : w'.ownsRow B e size v n xs := by
  refine ⟨h.1, ?_⟩
  rcases h.2 with h0 | ⟨g, cap, cur, h1, h2, h3, h4⟩
  · exact .inl h0
  · exact .inr ⟨g, cap, cur, h1, h2, blk_below hb (Array.getElem?_eq_some_iff.1 h3).1 h3, h4⟩
end Go

/- Shares that are alive, powers of a factor, and their worth, by both. -/
namespace Go.Proofs.Ytjebkagbknmdoaa
open Go.RowKit Go.Dues
theorem Try.infoF : (Try.prog.info? 62).map (fun i => (i.zero, i.size, i.bytes)) = some (some (.float .f32 0), 1, 4) := by kernel_rfl
def alV (q : Nat → Nat) : Nat → Nat
  | 0 => 1065353216
  | k + 1 => fop .mul .f32 (alV q k) (fop .sub .f32 1065353216 (q k))
def pwV (r : Nat) : Nat → Nat
  | 0 => 1065353216
  | k + 1 => fop .mul .f32 (pwV r k) (fop .quo .f32 1065353216 (fop .add .f32 1065353216 r))
theorem alV_step {q : Nat → Nat} {k r d r' : Nat} (h : FS .f32 r (alV q k)) (h1 : FR .f32 d (fop .sub .f32 1065353216 (q k))) (h2 : FR .f32 r' (fop .mul .f32 r d)) : FS .f32 r' (alV q (k + 1)) := by
  refine h2.same.trans (.inl ?_)
  show _ = fop .mul .f32 (alV q k) (fop .sub .f32 1065353216 (q k))
  exact fop_same h h1.same
theorem pwV_step {p k r d e r' : Nat} (h : FS .f32 r (pwV p k)) (h0 : FS .f32 e (fop .quo .f32 1065353216 (fop .add .f32 1065353216 p))) (h2 : FR .f32 r' (fop .mul .f32 r e)) : FS .f32 r' (pwV p (k + 1)) := by
  refine h2.same.trans (.inl ?_)
  show _ = fop .mul .f32 (pwV p k) (fop .quo .f32 1065353216 (fop .add .f32 1065353216 p))
  exact fop_same h h0
theorem factor_step {p d e : Nat} (h0 : FR .f32 d (fop .add .f32 1065353216 p)) (h1 : FR .f32 e (fop .quo .f32 1065353216 d)) : FS .f32 e (fop .quo .f32 1065353216 (fop .add .f32 1065353216 p)) :=
  h1.same.trans (.inl (fop_same (FS.refl _ _) h0.same))
/-- a row of numbers that are the same as told -/
def FRow (xs : List Value) (k : Nat) (V : Nat → Nat) : Prop := ∀ j, j < k → ∃ u, xs[j]? = some (.float .f32 u) ∧ FS .f32 u (V j)
theorem frow_step {xs : List Value} {k u : Nat} {V : Nat → Nat} (hl : xs.length = k) (h : FRow xs k V) (hu : FS .f32 u (V k)) : FRow (xs ++ [.float .f32 u]) (k + 1) V := by
  intro j hj
  by_cases hjk : j = k
  · subst hjk
    exact ⟨u, by rw [List.getElem?_append_right (by omega), hl, Nat.sub_self]; rfl, hu⟩
  · rw [List.getElem?_append_left (by omega)]
    exact h j (by omega)
theorem frow_fun {xs : List Value} {k : Nat} {V : Nat → Nat} (h : FRow xs k V) : ∃ z : Nat → Nat, (∀ j, j < k → xs[j]? = some (.float .f32 (z j))) ∧ ∀ j, j < k → FS .f32 (z j) (V j) := by
  refine ⟨fun j => match xs[j]? with | some (.float _ b) => b | _ => 0, fun j hj => ?_, fun j hj => ?_⟩
  · obtain ⟨u, h1, _⟩ := h j hj
    simp only [h1]
  · obtain ⟨u, h1, h2⟩ := h j hj
    simp only [h1]
    exact h2
/-- one list of n numbers, the same as told, that the call made, if p holds; none if not -/
def GaveF (w w' : World) (e : Ending) (p : Prop) (n : Nat) (V : Nat → Nat) : Prop :=
  ∃ G d, ∃ z : Nat → Nat, e = .returned (.tuple #[.slice G (lenV p n) d, .bool (tru p)]) ∧ OW w' w.heap.size w'.heap.size G (lenV p n) (fun j => .float .f32 (z j)) ∧ (∀ j, j < lenV p n → FS .f32 (z j) (V j)) ∧ Below w.heap.size w w'
theorem gavef_no {w w' : World} {p : Prop} {n : Nat} {V : Nat → Nat} (h : ¬ p) (hb : Below w.heap.size w w') : GaveF w w' (.returned (.tuple #[.slice none 0 0, .bool false])) p n V :=
  ⟨none, 0, fun _ => 0, ret_slice0 h, .inl (lenV_no h), fun j hj => absurd hj (by rw [lenV_no h]; omega), hb⟩
theorem gavef_yes {w w' : World} {p : Prop} {n d : Nat} {V z : Nat → Nat} {G : Option Addr} (h : p) (ho : OW w' w.heap.size w'.heap.size G n (fun j => .float .f32 (z j))) (hz : ∀ j, j < n → FS .f32 (z j) (V j)) (hb : Below w.heap.size w w') : GaveF w w' (.returned (.tuple #[.slice G n d, .bool true])) p n V :=
  ⟨G, d, z, ret_slice h rfl, by rw [lenV_yes h]; exact ho, by rw [lenV_yes h]; exact hz, hb⟩
set_option maxRecDepth 100000 in
set_option maxHeartbeats 8000000 in
theorem specAlive_any (A : Option Addr) (n c : Nat) (x : Nat → Nat) (w : World) (hn : n ≤ 120) (hs : SL w A n (fun j => .float .f32 (x j))) :
    Calls Try.prog 102 #[.slice A n c] w fun e w' => ∃ G d, ∃ z : Nat → Nat, e = .returned (.slice G n d) ∧ OW w' w.heap.size w'.heap.size G n (fun j => .float .f32 (z j)) ∧ (∀ j, j < n → FS .f32 (z j) (alV x j)) ∧ Below w.heap.size w w' := by
  obtain ⟨i0, hi, hz0, hz1, hz2⟩ := info_parts Try.infoF
  have HC := cells_f hs
  clear hs
  go_enter Try.func102, Try.ntmps102
  go_wp2
  have hst : (w.alloc (.cells #[] 62)).ownsRow w.heap.size 62 1 (.slice (some ⟨w.heap.size, 0, none⟩) 0 0) 0 [] :=
    ⟨by simp, .inr ⟨w.heap.size, 0, #[], rfl, Nat.le_refl _, new_at w _, Nat.le_refl 0, by unfold maxLen; omega, rfl, rfl⟩⟩
  have HBS := hide ((Below.refl w.heap.size w).alloc (Nat.le_refl _) (.cells #[] 62))
  have HO0 := hide hst
  clear hst
  go_loopw [3, 4, 5] (fun v s i wr => ∃ (k : Nat) (xs : List Value) (r : Nat), k ≤ n ∧ i = .int .i64 k ∧ s = .float .f32 r ∧ Hid (FS .f32 r (alV x k)) ∧ wr.ownsRow w.heap.size 62 1 v k xs ∧ Hid (FRow xs k (alV x)) ∧ Below w.heap.size w wr) (fun _ _ i _ => n - (intOf i).toNat)
  case atStart => exact ⟨0, [], 1065353216, Nat.zero_le _, rfl, rfl, .inl rfl, HO0.out, fun j hj => absurd hj (by omega), HBS.out⟩
  case round =>
    obtain ⟨k, xs, r, hk, rfl, rfl, hr, hown, hxs, hbel⟩ := hrel
    by_cases hlt : k < n
    · obtain ⟨b, off, rfl, hb, hc⟩ := HC.out k hlt
      have hc2 := (hbel.cell (p := ⟨b, off + k, none⟩) hb).trans hc
      have hsz := hbel.size
      have HLL := hide (show xs.length = k by have := hown.1; omega)
      go_wp2_with (at_builtin; refine wpList_append_own _ rfl _ _ 45 rfl (w.heap.size) 62 i0 (.float .f32 0) 1 4 Try.underlying45 hi hz0 hz1 hz2 rfl (by decide) _ _ _ rfl (by exact (hown.alloc _)) ⟨_, 0, none⟩ 1 1 [.float .f32 (r)] rfl rfl (cell_one_new _ _ _) (by intro u hu; simp at hu; subst hu; rfl) (by unfold maxLen; omega) (by omega) (by simp; omega) ?_)
      intro v' w5 hown' hgrow _
      have hb1 := (hbel.alloc (by omega) (.cells #[.float .f32 r] 62)).grown hgrow (by simp; omega) (fun j hj => (hown.lt j hj).1)
      have HB1 := hide hb1
      have HON := hide hown'
      have hzz := True.intro
      clear hgrow hown' hown hbel hb1
      have hc3 := (HB1.out.cell (p := ⟨b, off + k, none⟩) hb).trans hc
      go_wp2_with (refine wpList_far _ rfl _ _ _ _ _ rfl (by decide) _ _ _ rfl rfl ?_; intro _ _ _)
      go_roundw
      case rel => exact ⟨k + 1, _, _, by omega, by go_num, rfl, alV_step hr.out (by assumption) (by assumption), HON.out, frow_step HLL.out hxs.out hr.out, bel_q HB1.out _⟩
      case measure => simp [intOf]; omega
    · obtain rfl : k = n := by omega
      obtain ⟨Gx, dx, rfl⟩ := own_shape hown
      obtain ⟨z, hz1, hz2⟩ := frow_fun hxs.out
      have HO := hide hown
      have HBEL := hide hbel
      have HZ1 := hide hz1
      have HZ2 := hide hz2
      clear hown hbel hz1 hz2
      go_wp2
      go_ret
      exact ⟨Gx, dx, z, rfl, OW.of_owns HO.out HZ1.out, HZ2.out, HBEL.out⟩
set_option maxRecDepth 100000 in
set_option maxHeartbeats 8000000 in
theorem implAlive_any (A : Option Addr) (n c : Nat) (x : Nat → Nat) (w : World) (hn : n ≤ maxLen) (hs : SL w A n (fun j => .float .f32 (x j))) :
    Calls Try.prog 163 #[.slice A n c] w fun e w' => GaveF w w' e (ltP x n) n (alV x) := by
  obtain ⟨i0, hi, hz0, hz1, hz2⟩ := info_parts Try.infoF
  have HL := hide (implLife_any A n c x w hn hs)
  have HC := cells_f hs
  clear hs
  unfold maxLen at hn
  by_cases hp : ltP x n
  rotate_left
  · have HT := hide (tru_no hp)
    have HH := hide hp
    clear hp
    go_enter Try.func163, Try.ntmps163
    go_wp2_with fail
    refine HL.out.mono ?_
    rw [HT.out]
    rintro e w' ⟨rfl, rfl⟩
    go_wp2
    go_ret2
    exact gavef_no HH.out (Below.refl _ _)
  have HT := hide (tru_yes hp)
  have HH := hide hp
  have n120 := hp.1.2
  clear hp
  go_enter Try.func163, Try.ntmps163
  go_wp2_with fail
  refine HL.out.mono ?_
  rw [HT.out]
  rintro e W ⟨rfl, hbe⟩
  have HB0 : Hid (Below w.heap.size w W) := by rw [← hbe]; exact Below.refl _ _
  have HCW : Hid (∀ k, k < n → ∃ b off, A = some ⟨b, off, none⟩ ∧ b < W.heap.size ∧ W.cell? ⟨b, off + k, none⟩ = some (.float .f32 (x k))) := by rw [← hbe]; exact HC.out
  clear hbe
  go_wp2_with (at_make; refine wpList_make_own _ rfl _ _ 45 rfl W.heap.size 62 i0 (.float .f32 0) 1 Try.underlying45 hi hz0 hz1 _ _ _ n rfl rfl rfl (by rw [hz2]; omega) (by unfold maxLen; omega) (Nat.le_refl _) ?_; intro w2 hown0 hgrow0)
  have HBS := hide ((Below.refl W.heap.size W).grown hgrow0 (Nat.le_refl _) (fun k h => by cases h))
  have HO0 := hide hown0
  clear hown0 hgrow0
  go_loopw [4, 5, 7, 16] (fun v s _ i wr => ∃ (k : Nat) (xs : List Value) (r : Nat), k ≤ n ∧ i = .int .i64 k ∧ s = .float .f32 r ∧ Hid (FS .f32 r (alV x k)) ∧ wr.ownsRow W.heap.size 62 1 v k xs ∧ Hid (FRow xs k (alV x)) ∧ Below W.heap.size W wr) (fun _ _ _ i _ => n - (intOf i).toNat)
  case atStart => exact ⟨0, [], 1065353216, Nat.zero_le _, rfl, rfl, .inl rfl, HO0.out, fun j hj => absurd hj (by omega), HBS.out⟩
  case round =>
    obtain ⟨k, xs, r, hk, rfl, rfl, hr, hown, hxs, hbel⟩ := hrel
    by_cases hlt : k < n
    · obtain ⟨b, off, rfl, hb, hc⟩ := HCW.out k hlt
      have hc2 := (hbel.cell (p := ⟨b, off + k, none⟩) hb).trans hc
      have hsz := hbel.size
      have HLL := hide (show xs.length = k by have := hown.1; omega)
      go_wp2_with (at_builtin; refine wpList_append_own _ rfl _ _ 45 rfl (W.heap.size) 62 i0 (.float .f32 0) 1 4 Try.underlying45 hi hz0 hz1 hz2 rfl (by decide) _ _ _ rfl (by exact (hown.alloc _)) ⟨_, 0, none⟩ 1 1 [.float .f32 (r)] rfl rfl (cell_one_new _ _ _) (by intro u hu; simp at hu; subst hu; rfl) (by unfold maxLen; omega) (by omega) (by simp; omega) ?_)
      intro v' w5 hown' hgrow _
      have hb1 := (hbel.alloc (by omega) (.cells #[.float .f32 r] 62)).grown hgrow (by simp; omega) (fun j hj => (hown.lt j hj).1)
      have HB1 := hide hb1
      have HON := hide hown'
      clear hc2
      clear hgrow hown' hown hbel hb1
      go_wp2_with (refine wpList_far _ rfl _ _ _ _ _ rfl (by decide) _ _ _ rfl rfl ?_; intro _ _ _)
      go_roundw
      case rel => exact ⟨k + 1, _, _, by omega, by go_num, rfl, alV_step hr.out (by assumption) (by assumption), HON.out, frow_step HLL.out hxs.out hr.out, bel_q HB1.out _⟩
      case measure => simp [intOf]; omega
    · obtain rfl : k = n := by omega
      obtain ⟨Gx, dx, rfl⟩ := own_shape hown
      obtain ⟨z, hz1, hz2⟩ := frow_fun hxs.out
      have HO := hide hown
      have HBEL := hide hbel
      have HZ1 := hide hz1
      have HZ2 := hide hz2
      clear hown hbel hz1 hz2
      go_wp2
      go_ret2
      exact gavef_yes HH.out ((OW.of_owns HO.out HZ1.out).wide HB0.out.size (Nat.le_refl _)) HZ2.out (HB0.out.trans (HBEL.out.mono HB0.out.size))
end Go.Proofs.Ytjebkagbknmdoaa

/- YearsToLive, by both. -/
namespace Go.Proofs.Ytjebkagbknmdoaa
open Go.RowKit Go.Dues
noncomputable def ifF (p : Prop) (v : Nat) : Nat := @ite _ p (Classical.propDecidable p) v 0
theorem ifF_yes {p : Prop} {v : Nat} (h : p) : ifF p v = v := by unfold ifF; exact if_pos h
theorem ifF_no {p : Prop} {v : Nat} (h : ¬ p) : ifF p v = 0 := by unfold ifF; exact if_neg h
/-- a number, the same as told, if p holds; 0 if not -/
def GaveV (w w' : World) (e : Ending) (p : Prop) (V : Nat) : Prop := ∃ r, e = .returned (.tuple #[.float .f32 r, .bool (tru p)]) ∧ FS .f32 r (ifF p V) ∧ Below w.heap.size w w'
theorem gavev_no {w w' : World} {p : Prop} {V : Nat} (h : ¬ p) (hb : Below w.heap.size w w') : GaveV w w' (.returned (.tuple #[.float .f32 0, .bool false])) p V :=
  ⟨0, by rw [tru_no h], by rw [ifF_no h]; exact .inl rfl, hb⟩
theorem gavev_yes {w w' : World} {p : Prop} {V r : Nat} (h : p) (hr : FS .f32 r V) (hb : Below w.heap.size w w') : GaveV w w' (.returned (.tuple #[.float .f32 r, .bool true])) p V :=
  ⟨r, by rw [tru_yes h], by rw [ifF_yes h]; exact hr, hb⟩
theorem fsum_congr {x y : Nat → Nat} {n : Nat} (h : ∀ j, j < n → FS .f32 (x j) (y j)) : ∀ k, k ≤ n → fsum x k = fsum y k
  | 0, _ => rfl
  | k + 1, hk => by
    show fop .add .f32 (fsum x k) (x k) = fop .add .f32 (fsum y k) (y k)
    rw [fsum_congr h k (by omega)]
    exact fop_same (FS.refl _ _) (h k (by omega))
def ylV (q : Nat → Nat) (n : Nat) : Nat := fop .sub .f32 (fsum (alV q) n) 1056964608
theorem yl_step {q : Nat → Nat} {n r r' : Nat} (h : FS .f32 r (fsum (alV q) n)) (h2 : FR .f32 r' (fop .sub .f32 r 1056964608)) : FS .f32 r' (ylV q n) := h2.same.trans (.inl (fop_same h (FS.refl _ _)))
end Go.Proofs.Ytjebkagbknmdoaa

/- SumPeople, by both; a number that is finite. -/
namespace Go.Proofs.Ytjebkagbknmdoaa
open Go.RowKit Go.Dues
def fnum (x : Nat) : Nat := if ffin .f32 x = true then x else 0
theorem gavev_num {w w' : World} {p : Prop} {V r : Nat} (hr : FS .f32 r V) (hp : p ↔ ffin .f32 V = true) (hb : Below w.heap.size w w') : GaveV w w' (.returned (.tuple #[.float .f32 (fnum r), .bool (ffin .f32 r)])) p V := by
  by_cases h : ffin .f32 V = true
  · have h2 : ffin .f32 r = true := by rw [ffin_same hr]; exact h
    unfold fnum
    rw [if_pos h2, h2]
    exact gavev_yes (hp.2 h) hr hb
  · have h2 : ffin .f32 r = false := by rw [ffin_same hr]; simpa using h
    unfold fnum
    rw [if_neg (by rw [h2]; simp), h2]
    exact gavev_no (fun q => h (hp.1 q)) hb
theorem SL.sub7 {w : World} {b off n p m : Nat} {f : Nat → Value} (h : SL w (some ⟨b, off, none⟩) n f) (hp : p + m ≤ n) : SL w (some ⟨b, off + p, none⟩) m (fun j => f (p + j)) := by
  rcases h with h | ⟨b', off', h1, h2, h3⟩
  · exact .inl (by omega)
  · injection h1 with h1
    injection h1 with h1 h4
    subst h1 h4
    exact .inr ⟨b, off + p, rfl, h2, fun j hj => by rw [Nat.add_assoc]; exact h3 (p + j) (by omega)⟩
theorem specNum_any (x : Nat) (w : World) : Calls Try.prog 135 #[.float .f32 x] w fun e w' => e = .returned (.tuple #[.float .f32 (fnum x), .bool (ffin .f32 x)]) ∧ ∃ q, w' = w.drewN q := by
  cases h1 : ffin .f32 x
  · have HN := hide (show (0 : Nat) = fnum x by unfold fnum; rw [if_neg (by rw [h1]; simp)])
    go_enter Try.func135, Try.ntmps135
    go_wp2_with fail
    refine (spec7Fin_any _ _).mono ?_
    rw [h1]
    rintro e w' ⟨rfl, q, rfl⟩
    go_wp2
    go_ret2
    exact ⟨by rw [← HN.out]; rfl, q, rfl⟩
  · have HN := hide (show x = fnum x by unfold fnum; rw [if_pos h1])
    go_enter Try.func135, Try.ntmps135
    go_wp2_with fail
    refine (spec7Fin_any _ _).mono ?_
    rw [h1]
    rintro e w' ⟨rfl, q, rfl⟩
    go_wp2
    go_ret2
    exact ⟨by rw [← HN.out]; rfl, q, rfl⟩
theorem implNum_any (x : Nat) (w : World) : Calls Try.prog 149 #[.float .f32 x] w fun e w' => e = .returned (.tuple #[.float .f32 (fnum x), .bool (ffin .f32 x)]) ∧ ∃ q, w' = w.drewN q := by
  cases h1 : ffin .f32 x
  · have HN := hide (show (0 : Nat) = fnum x by unfold fnum; rw [if_neg (by rw [h1]; simp)])
    go_enter Try.func149, Try.ntmps149
    go_wp2_with fail
    refine (implIsFinite_any _ _).mono ?_
    rw [h1]
    rintro e w' ⟨rfl, q, rfl⟩
    go_wp2
    go_ret2
    exact ⟨by rw [← HN.out]; rfl, q, rfl⟩
  · have HN := hide (show x = fnum x by unfold fnum; rw [if_pos h1])
    go_enter Try.func149, Try.ntmps149
    go_wp2_with fail
    refine (implIsFinite_any _ _).mono ?_
    rw [h1]
    rintro e w' ⟨rfl, q, rfl⟩
    go_wp2
    go_ret2
    exact ⟨by rw [← HN.out]; rfl, q, rfl⟩
theorem specSum7_any (A : Option Addr) (n c : Nat) (x : Nat → Nat) (w : World) (hn : n ≤ maxLen) (hs : SL w A n (fun j => .float .f32 (x j))) :
    Calls Try.prog 126 #[.slice A n c] w fun e w' => ∃ r, e = .returned (.float .f32 r) ∧ FS .f32 r (fsum x n) ∧ ∃ q, w' = w.drewN q := by
  unfold maxLen at hn
  have HC := cells_f hs
  clear hs
  go_enter Try.func126, Try.ntmps126
  go_wp2
  go_loopw [3, 4, 7] (fun v _ i wr => ∃ k q r : Nat, k ≤ n ∧ i = .int .i64 k ∧ v = .float .f32 r ∧ FS .f32 r (fsum x k) ∧ wr = w.drewN q) (fun _ _ i _ => n - (intOf i).toNat)
  case atStart => exact ⟨0, 0, 0, Nat.zero_le _, rfl, rfl, .inl rfl, rfl⟩
  case round =>
    obtain ⟨k, q, r, hk, rfl, rfl, hr, rfl⟩ := hrel
    by_cases hlt : k < n
    · obtain ⟨b, off, rfl, hb, hc⟩ := HC.out k hlt
      go_wp2_with (refine wpList_far _ rfl _ _ _ _ _ rfl (by decide) _ _ _ rfl rfl ?_; intro _ _ _)
      go_roundw
      case rel => exact ⟨k + 1, _, _, by omega, by go_num, rfl, fsum_step hr (by assumption), rfl⟩
      case measure => simp [intOf]; omega
    · go_wp2
      go_ret
      obtain rfl : k = n := by omega
      exact ⟨r, rfl, hr, _, rfl⟩
def suV (x : Nat → Nat) (F T : Int) : Nat := fsum (fun j => x (F.toNat + j)) (T.toNat + 1 - F.toNat)
def suP (x : Nat → Nat) (n : Nat) (y : Nat → Nat) (m : Nat) (z : Nat → Nat) (l : Nat) (F T : Int) : Prop := ppP x n y m z l ∧ (0 ≤ F ∧ F ≤ T) ∧ (0 ≤ T ∧ T ≤ (n : Int) - 1) ∧ ffin .f32 (suV x F T) = true
set_option maxRecDepth 100000 in
set_option maxHeartbeats 8000000 in
theorem implSumP_any (A : Option Addr) (n _n : Nat) (x : Nat → Nat) (B : Option Addr) (m _m : Nat) (y : Nat → Nat) (C : Option Addr) (l _l : Nat) (z : Nat → Nat) (F T : Int) (w : World) (hn : n ≤ maxLen) (hs : SL w A n (fun j => .float .f32 (x j))) (hm : m ≤ maxLen) (hs' : SL w B m (fun j => .float .f32 (y j))) (hl : l ≤ maxLen) (hs'' : SL w C l (fun j => .float .f32 (z j))) :
    Calls Try.prog 202 #[.agg #[.slice A n n, .slice B m m, .slice C l l], .int .i64 F, .int .i64 T] w fun e w' => GaveV w w' e (suP x n y m z l F T) (suV x F T) := by
  obtain ⟨W, hW⟩ : ∃ u, u = w.alloc (.cells #[.slice A n n, .slice B m m, .slice C l l] 49) := ⟨_, rfl⟩
  have HBW : Hid (Below w.heap.size w W) := by rw [hW]; exact (Below.refl w.heap.size w).alloc (Nat.le_refl _) _
  have HBX : Hid (W.heap[w.heap.size]? = some (.cells #[.slice A n n, .slice B m m, .slice C l l] 49)) := by rw [hW]; exact blocks1 w _
  have HV := hide (implValidPpl_any A n n x B m m y C l l z W hn (hs.below HBW.out) hm (hs'.below HBW.out) hl (hs''.below HBW.out))
  have HS := hide (hs.below HBW.out)
  have HWW := hide hW
  clear hs hs' hs'' hW
  unfold maxLen at hn hm hl
  by_cases hp : ppP x n y m z l
  rotate_left
  · have HT := hide (tru_no hp)
    have HH := hide (show ¬ suP x n y m z l F T from fun h => hp h.1)
    clear hp
    go_enter Try.func202, Try.ntmps202
    go_wp2_with fail
    rw [← HWW.out]
    refine HV.out.mono ?_
    rw [HT.out]
    rintro e w1 ⟨rfl, hb⟩
    have HB1 := hide (HBW.out.trans (hb.mono HBW.out.size))
    have HS1 := hide (HS.out.below hb)
    have HX1 := hide (blk_below hb (Array.getElem?_eq_some_iff.1 HBX.out).1 HBX.out)
    have k0 := Joins.cell_of_block HX1.out 0
    simp at k0
    clear hb
    go_wp2
    go_ret2
    exact gavev_no HH.out HB1.out
  have HT := hide (tru_yes hp)
  have HPP := hide hp
  have n12 := hp.1.2
  have n2 := hp.1.1
  clear hp
  cases g2 : inB T 0 ((n : Int) - 1)
  · have HH := hide (show ¬ suP x n y m z l F T from fun h => by rw [inB_yes h.2.2.1] at g2; cases g2)
    go_enter Try.func202, Try.ntmps202
    go_wp2_with fail
    rw [← HWW.out]
    refine HV.out.mono ?_
    rw [HT.out]
    rintro e w1 ⟨rfl, hb⟩
    have HB1 := hide (HBW.out.trans (hb.mono HBW.out.size))
    have HS1 := hide (HS.out.below hb)
    have HX1 := hide (blk_below hb (Array.getElem?_eq_some_iff.1 HBX.out).1 HBX.out)
    have k0 := Joins.cell_of_block HX1.out 0
    simp at k0
    clear hb
    go_wp2_with (first | (go_at_call 71; refine (implWithin_any _ _ _ _ ).mono ?_; rintro e w' ⟨rfl, rfl⟩) | (go_at_call 182; go_in))
    go_ret2
    exact gavev_no HH.out HB1.out
  have HTT := hide (inB_iff.1 g2)
  cases g1 : inB F 0 T
  · have HH := hide (show ¬ suP x n y m z l F T from fun h => by rw [inB_yes h.2.1] at g1; cases g1)
    go_enter Try.func202, Try.ntmps202
    go_wp2_with fail
    rw [← HWW.out]
    refine HV.out.mono ?_
    rw [HT.out]
    rintro e w1 ⟨rfl, hb⟩
    have HB1 := hide (HBW.out.trans (hb.mono HBW.out.size))
    have HS1 := hide (HS.out.below hb)
    have HX1 := hide (blk_below hb (Array.getElem?_eq_some_iff.1 HBX.out).1 HBX.out)
    have k0 := Joins.cell_of_block HX1.out 0
    simp at k0
    clear hb
    go_wp2_with (first | (go_at_call 71; refine (implWithin_any _ _ _ _ ).mono ?_; rintro e w' ⟨rfl, rfl⟩) | (go_at_call 182; go_in))
    go_ret2
    exact gavev_no HH.out HB1.out
  have HF := hide (inB_iff.1 g1)
  have HH := hide (show suP x n y m z l F T ↔ ffin .f32 (suV x F T) = true from ⟨fun h => h.2.2.2, fun h => ⟨HPP.out, HF.out, HTT.out, h⟩⟩)
  obtain ⟨a, ha⟩ : ∃ a : Nat, F = a := ⟨F.toNat, by have := HF.out; omega⟩
  obtain ⟨b, hb⟩ : ∃ b : Nat, T = b := ⟨T.toNat, by have := HTT.out; omega⟩
  subst ha hb
  have hab : a ≤ b := by have := HF.out; omega
  have hbn : b < n := by have := HTT.out; omega
  have hVV : suV x (a : Int) (b : Int) = fsum (fun j => x (a + j)) (b + 1 - a) := rfl
  rw [hVV] at HH ⊢
  clear hVV
  have hbi : ((b : Nat) : Int) + 1 ≤ (n : Int) := by omega
  have hab2 : ((a : Nat) : Int) ≤ (b : Int) + 1 := by omega
  have habn : a ≤ b + 1 := by omega
  have hbn2 : b + 1 ≤ n := by omega
  have han : a ≤ n := by omega
  have hac : ¬ n - a = 0 := by omega
  obtain ⟨D, hD⟩ : ∃ D : Nat, b + 1 - a = D := ⟨_, rfl⟩
  rw [hD] at HH ⊢
  have HSUB := fun (bb off : Nat) (w : World) (h : SL w (some ⟨bb, off, none⟩) n (fun j => .float .f32 (x j))) => hide (SL.sub7 (p := a) (m := D) h (by omega))
  go_enter Try.func202, Try.ntmps202
  go_wp2_with fail
  rw [← HWW.out]
  refine HV.out.mono ?_
  rw [HT.out]
  rintro e w1 ⟨rfl, hb⟩
  have HB1 := hide (HBW.out.trans (hb.mono HBW.out.size))
  have HS1 := hide (HS.out.below hb)
  have HX1 := hide (blk_below hb (Array.getElem?_eq_some_iff.1 HBX.out).1 HBX.out)
  have k0 := Joins.cell_of_block HX1.out 0
  simp at k0
  clear hb
  obtain ⟨bb, off, hA, hbb, hcc⟩ := HS1.out.at_ (by omega)
  subst hA
  clear hcc hbb
  go_wp2_with (first | (go_at_call 71; refine (implWithin_any _ _ _ _ ).mono ?_; rintro e w' ⟨rfl, rfl⟩) | (go_at_call 182; go_in))
  clear g1 g2
  refine (implSum_any _ _ _ (fun j => x (a + j)) _ (by omega) (HSUB _ _ _ HS1.out).out).mono ?_
  rintro e w2 ⟨r, rfl, hr, q2, rfl⟩
  have HR := hide hr
  clear hr
  go_wp2_with fail
  refine (implNum_any _ _).mono ?_
  rintro e w3 ⟨rfl, q3, rfl⟩
  go_wp2
  go_ret2
  exact gavev_num HR.out HH.out (by first | exact bel_q HB1.out _ | exact bel_q (bel_q HB1.out _) _)
end Go.Proofs.Ytjebkagbknmdoaa

/- Entropy: what is told, and that it is finite. -/
namespace Go.Proofs.Ytjebkagbknmdoaa
open Go.RowKit Go.Dues
open Ieee (single double)
def enC (n : Nat) : Nat := floatOfInt .f32 (n : Int)
def enM (S : Int) (n : Nat) : Nat := fop .quo .f32 (floatOfInt .f32 S) (enC n)
def enX (x : Nat → Int) (S : Int) (n j : Nat) : Nat := fop .quo .f32 (floatOfInt .f32 (x j)) (enM S n)
def enT (x : Nat → Int) (S : Int) (n j : Nat) : Nat := if x j = 0 then 0 else fop .mul .f32 (enX x S n j) (flogn (enX x S n j))
def enS (x : Nat → Int) (S : Int) (n : Nat) : Nat → Nat
  | 0 => 0
  | k + 1 => fop .add .f32 (enS x S n k) (enT x S n k)
def enV (x : Nat → Int) (S : Int) (n : Nat) : Nat := fop .quo .f32 (enS x S n n) (enC n)
/-- what is asked of the incomes and of their sum -/
def enP (x : Nat → Int) (S : Int) (n : Nat) : Prop := (1 ≤ n ∧ n ≤ 64) ∧ (∀ j, j < n → 0 ≤ x j ∧ x j ≤ 1000000000) ∧ 1 ≤ S ∧ S ≤ 64000000000
theorem fin_word {x : Nat} (hx : x ≤ 2139095040) (h : ffin .f32 x = true) : x < 2139095040 := by
  rcases Nat.lt_or_eq_of_le hx with h1 | h1
  · exact h1
  · subst h1
    have : ffin .f32 2139095040 = false := by decide +kernel
    rw [this] at h; cases h
theorem nw_fin {n : Nat} {k : Int} (h : Mag k (single.read (nw n))) : nw n < 2139095040 := fin_word (nw_le_inf n) (mag_fin h)
theorem enC_bd {n : Nat} (h1 : 1 ≤ n) (h2 : n ≤ 64) : 1065353216 ≤ enC n ∧ enC n ≤ 1115684864 := by
  unfold enC
  refine ⟨int_ge (by omega), ?_⟩
  rw [int_word (by omega)]
  refine nw_le ?_
  have e : uv 1115684864 = 64 * 2 ^ 149 := by decide +kernel
  rw [e]
  exact Nat.mul_le_mul_right _ (by omega)
theorem enM_bd {x : Nat → Int} {S : Int} {n : Nat} (h : enP x S n) : 1015021568 ≤ enM S n ∧ enM S n < 2139095040 ∧ Mag 38 (single.read (enM S n)) := by
  obtain ⟨⟨h1, h2⟩, _, h3, h4⟩ := h
  obtain ⟨c1, c2⟩ := enC_bd h1 h2
  have m1 := int_mag (m := S) (k := 36) (by omega) (by omega) (by decide)
  have s1 := int_ge h3
  have s2 : floatOfInt .f32 S < 2139095040 := by rw [int_word h3] at m1 ⊢; exact nw_fin m1
  have m2 := mag_quo32 (x := floatOfInt .f32 S) (y := enC n) m1 (big_one c1 (by omega)) (by decide) (by decide)
  have e1 : uv 1015021568 = 2 ^ (149 - 6) := by decide +kernel
  have g := fquo_ge (x := floatOfInt .f32 S) (y := enC n) (z := 1015021568) (s := 6) s2 (by omega) (by omega) (by omega) (by decide) (by decide) e1 (by
    have e2 : uv 1115684864 = uv 1065353216 * 2 ^ 6 := by decide +kernel
    exact Nat.le_trans (uv_le c2) (by rw [e2]; exact Nat.mul_le_mul_right _ (uv_le s1)))
  exact ⟨g.1, fin_word g.2 (mag_fin m2), m2⟩
theorem big_m {y : Nat} (h1 : 1015021568 ≤ y) (h2 : y < 2139095040) : Big (-6) (single.read y) := by
  have e1 : uv 1015021568 = 2 ^ 143 := by decide +kernel
  exact big_low (k := 143) 1015021568 h1 h2 e1
theorem enX_bd {x : Nat → Int} {S : Int} {n j : Nat} (h : enP x S n) (hj : j < n) (hx : ¬ x j = 0) : 0 < enX x S n j ∧ enX x S n j < 2139095040 ∧ Mag 38 (single.read (enX x S n j)) := by
  obtain ⟨a1, a2, a3⟩ := enM_bd h
  obtain ⟨b1, b2⟩ := h.2.1 j hj
  have m1 := int_mag (m := x j) (k := 30) b1 (by omega) (by decide)
  have s1 := int_ge (m := x j) (by omega)
  have s2 : floatOfInt .f32 (x j) < 2139095040 := by rw [int_word (by omega)] at m1 ⊢; exact nw_fin m1
  have m2 := mag_quo32' (x := floatOfInt .f32 (x j)) (y := enM S n) m1 (big_m a1 a2) (by decide) (by decide)
  have e1 : uv 746586112 = 2 ^ (149 - 38) := by decide +kernel
  have u1 : uv (enM S n) ≤ 2 ^ (149 + 38) := by
    have := (ub_mag (k := 38) (by omega) a3).2.2
    rw [Nat.mod_eq_of_lt (by omega)] at this
    exact this
  have g := fquo_ge (x := floatOfInt .f32 (x j)) (y := enM S n) (z := 746586112) (s := 38) s2 (by omega) a2 (by omega) (by decide) (by decide) e1 (by
    refine Nat.le_trans u1 ?_
    rw [Nat.pow_add, ← uv_one]
    exact Nat.mul_le_mul_right _ (uv_le s1))
  exact ⟨by have := g.1; show 0 < fop .quo .f32 _ _; omega, fin_word g.2 (mag_fin m2), m2⟩
theorem enX_zero {x : Nat → Int} {S : Int} {n j : Nat} (h : enP x S n) (hx : x j = 0) : enX x S n j = 0 := by
  obtain ⟨a1, a2, _⟩ := enM_bd h
  unfold enX
  rw [hx]
  have : floatOfInt .f32 0 = 0 := by decide +kernel
  rw [this]
  exact fquo_zero a2 (by omega)
theorem narrow_eq {x : Nat} (h : fnan .f64 x = false) (hi : ∃ s m e, double.read x = .number s m e) : ∃ s m e, double.read x = .number s m e ∧ narrow x = single.write (.number s m e) := by
  obtain ⟨s, m, e, hr⟩ := hi
  exact ⟨s, m, e, hr, by unfold narrow; rw [hr]⟩
theorem log_mag {x : Nat} (h0 : 0 < x) (hx : x < 2139095040) : Mag 17 (single.read (flogn x)) := by
  rw [flogn_pos h0 hx]
  have hm := mle_flog (lgE_widen h0 hx)
  obtain ⟨s, m, e, hr⟩ := hm.number
  have h1 := hm.mag
  rw [hr] at h1
  have h2 : narrow (flog (widen x)) = single.write (.number s m e) := by unfold narrow; rw [hr]
  rw [h2]
  exact mag_write32 (k := 16) (mag_mono h1 (by decide)) (by decide) (by decide)
theorem fop_lt32 {op : BinOp} {x y : Nat} (h : ffin .f32 (fop op .f32 x y) = true) (hop : op = .add ∨ op = .sub ∨ op = .mul ∨ op = .quo) : fop op .f32 x y < 4294967296 := by
  have hl : flim .f32 = 4294967296 := by decide +kernel
  unfold fop at h ⊢
  rcases hop with rfl | rfl | rfl | rfl
  · cases hb : floatBits .add .f32 x y with
    | some r => exact single.add_lt (show single.add x y = some r from hb)
    | none => decide
  · cases hb : floatBits .sub .f32 x y with
    | some r => exact single.sub_lt (show single.sub x y = some r from hb)
    | none => decide
  · cases hb : floatBits .mul .f32 x y with
    | some r => exact single.mul_lt (show single.mul x y = some r from hb)
    | none => decide
  · cases hb : floatBits .quo .f32 x y with
    | some r => exact single.div_lt (show single.div x y = some r from hb)
    | none => decide
theorem enT_ub {x : Nat → Int} {S : Int} {n j : Nat} (h : enP x S n) (hj : j < n) : Ub (2 ^ 205) (enT x S n j) := by
  unfold enT
  by_cases hx : x j = 0
  · rw [if_pos hx]; exact Ub.zero.mono (Nat.zero_le _)
  · rw [if_neg hx]
    obtain ⟨a1, a2, a3⟩ := enX_bd h hj hx
    have m1 := mag_mul32 a3 (log_mag a1 a2) (by decide) (by decide)
    exact ub_mag (k := 56) (fop_lt32 (mag_fin m1) (.inr (.inr (.inl rfl)))) m1
theorem bigs : ∀ k : Nat, k < 65 → uv (floatOfInt .f32 ((k : Int) * 72057594037927936)) = k * 2 ^ 205 ∧ floatOfInt .f32 ((k : Int) * 72057594037927936) < 2139095040 := by decide +kernel
theorem enS_ub {x : Nat → Int} {S : Int} {n : Nat} (h : enP x S n) : ∀ k, k ≤ n → Ub (k * 2 ^ 205) (enS x S n k) ∧ enS x S n k ≠ 2147483648
  | 0, _ => ⟨Ub.zero.mono (Nat.zero_le _), by show (0 : Nat) ≠ _; decide⟩
  | k + 1, hk => by
    obtain ⟨h1, h2⟩ := enS_ub h k (by omega)
    have h3 := enT_ub h (j := k) (by omega)
    obtain ⟨z1, z2⟩ := bigs (k + 1) (by have := h.1.2; omega)
    refine ⟨?_, add_no_neg h1 h3 h2⟩
    have := ub_add (floatOfInt .f32 (((k + 1 : Nat) : Int) * 72057594037927936)) h1 h3 z2 (by rw [z1, Nat.succ_mul]; exact Nat.le_refl _)
    rw [z1] at this
    exact this
theorem enS_skip {x : Nat → Int} {S : Int} {n k : Nat} (h : enP x S n) (hk : k ≤ n) (hx : x k = 0) : enS x S n (k + 1) = enS x S n k := by
  obtain ⟨h1, h2⟩ := enS_ub h k hk
  show fop .add .f32 (enS x S n k) (enT x S n k) = _
  unfold enT
  rw [if_pos hx]
  exact add_zero_sg h1 h2
theorem enV_fin {x : Nat → Int} {S : Int} {n : Nat} (h : enP x S n) : ffin .f32 (enV x S n) = true := by
  have h1 := h.1.1
  have h2 := h.1.2
  obtain ⟨c1, c2⟩ := enC_bd h1 h2
  have h3 := (enS_ub h n (Nat.le_refl _)).1
  have h4 : Ub (2 ^ 211) (enS x S n n) := h3.mono (by
    have : n * 2 ^ 205 ≤ 64 * 2 ^ 205 := Nat.mul_le_mul_right _ h2
    rw [show (64 : Nat) = 2 ^ 6 from rfl, ← Nat.pow_add] at this
    exact this)
  have m1 := mag_ub h4
  exact mag_fin (mag_quo32 (x := enS x S n n) (y := enC n) m1 (big_one c1 (by omega)) (by decide) (by decide))
end Go.Proofs.Ytjebkagbknmdoaa

/- Rows of the call's own: copies of lists, stores, lower bounds. -/
namespace Go.Proofs.Ytjebkagbknmdoaa
open Go.RowKit Go.Dues
theorem own_other7 {w : World} {B e size g c n : Nat} {xs : List Value} {p : Addr} {v : Value} (h : w.ownsRow B e size (.slice (some ⟨g, 0, none⟩) n c) n xs) (hne : p.block ≠ g) : (w.setCell p v).ownsRow B e size (.slice (some ⟨g, 0, none⟩) n c) n xs := by
  refine ⟨h.1, ?_⟩
  rcases h.2 with ⟨h0, _⟩ | ⟨g', cap, cur, h1, h2, h3, h4⟩
  · cases h0
  · simp only [Value.slice.injEq, Option.some.injEq, Addr.mk.injEq, and_true, true_and] at h1
    obtain ⟨rfl, rfl⟩ := h1
    exact .inr ⟨g, c, cur, rfl, h2, blk_set hne h3, h4⟩
theorem own_lower7 {w : World} {B B' e size n : Nat} {v : Value} {xs : List Value} (h : w.ownsRow B e size v n xs) (hB : B' ≤ B) : w.ownsRow B' e size v n xs := by
  refine ⟨h.1, ?_⟩
  rcases h.2 with h0 | ⟨g, cap, cur, h1, h2, h3⟩
  · exact .inl h0
  · exact .inr ⟨g, cap, cur, h1, Nat.le_trans hB h2, h3⟩
theorem set_row {xs : List Value} {n k : Nat} {f f' : Nat → Int} {v : Int} (hl : xs.length = n) (h : ∀ j, j < n → xs[j]? = some (.int .i64 (f j))) (hf : ∀ j, j < n → f' j = if j = k then v else f j) : ∀ j, j < n → (xs.set k (.int .i64 v))[j]? = some (.int .i64 (f' j)) := by
  intro j hj
  rw [hf j hj]
  by_cases hjk : j = k
  · subst hjk; rw [List.getElem?_set_self (by omega), if_pos rfl]
  · rw [List.getElem?_set_ne (by omega), if_neg hjk]; exact h j hj
theorem spread_c1 {w : World} {b off n : Nat} {x : Nat → Int} {o : Obj} (hb : b < w.heap.size) (HC : ∀ j, j < n → w.cell? ⟨b, off + j, none⟩ = some (.int .i64 (x j))) : ∀ (j : Nat) (u : Value), ((List.range n).map fun j => Value.int .i64 (x j))[j]? = some u → (w.alloc o).cell? ((⟨b, off, none⟩ : Addr).add j) = some u := by
  intro j u hj
  rw [List.getElem?_map] at hj
  have hjn : j < n := by
    rcases Nat.lt_or_ge j n with h | h
    · exact h
    · rw [List.getElem?_eq_none (by simpa using h)] at hj; cases hj
  rw [List.getElem?_range hjn] at hj
  simp at hj
  subst hj
  have ha : (⟨b, off, none⟩ : Addr).add j = ⟨b, off + j, none⟩ := by
    unfold Addr.add
    split
    · rename_i h; subst h; rfl
    · rfl
  rw [ha, World.cell?_alloc_lt w _ _ hb]
  exact HC j hjn
theorem spread_x {n : Nat} {x : Nat → Int} : ∀ j, j < n → ([] ++ (List.range n).map fun j => Value.int .i64 (x j))[j]? = some (.int .i64 (x j)) := by
  intro j hj
  rw [List.nil_append, List.getElem?_map, List.getElem?_range hj]; rfl
theorem lit_own (w : World) (t : TypeId) : (w.alloc (.cells #[] t)).ownsRow w.heap.size t 1 (.slice (some ⟨w.heap.size, 0, none⟩) 0 0) 0 [] :=
  ⟨by simp, .inr ⟨w.heap.size, 0, #[], rfl, Nat.le_refl _, blocks1 w _, Nat.le_refl 0, by unfold maxLen; omega, rfl, rfl⟩⟩
end Go.Proofs.Ytjebkagbknmdoaa

/- The laws' own helpers over lists of integers and scales: sizes, copies, comparisons. -/
namespace Go.Proofs.Ytjebkagbknmdoaa
open Go.RowKit
theorem Try.cellsI64 : Try.prog.cellsOf 2 = 1 := by kernel_rfl
theorem Try.infoI64 : (Try.prog.info? 2).map (fun i => (i.zero, i.size, i.bytes)) = some (some (.int .i64 0), 1, 8) := by kernel_rfl
theorem bel_drewN {B : Nat} {a w : World} (h : Below B a w) (n : Nat) : Below B a (w.drewN n) := ⟨h.os, h.tape, h.output, h.size, h.block⟩
theorem cells_one {A : Option Addr} {n : Nat} {f : Nat → Value} {w : World} (hs : SL w A n f) : Hid (∀ k, k < n → ∃ b off, A = some ⟨b, off, none⟩ ∧ b < w.heap.size ∧ w.cell? ⟨b, off + k, none⟩ = some (f k)) := by
  intro k hk
  obtain ⟨b, off, h1, h2, h3⟩ := hs.at_ (by omega)
  exact ⟨b, off, h1, h2, h3 k hk⟩
theorem cells_two {A A' : Option Addr} {n : Nat} {f f' : Nat → Value} {w : World} (hs : SL w A n f) (hs' : SL w A' n f') :
    Hid (∀ k, k < n → ∃ b off b' off', A = some ⟨b, off, none⟩ ∧ A' = some ⟨b', off', none⟩ ∧ w.cell? ⟨b, off + k, none⟩ = some (f k) ∧ w.cell? ⟨b', off' + k, none⟩ = some (f' k)) := by
  intro k hk
  obtain ⟨b, off, h1, h2, h3⟩ := hs.at_ (by omega)
  obtain ⟨b', off', h1', h2', h3'⟩ := hs'.at_ (by omega)
  exact ⟨b, off, b', off', h1, h1', h3 k hk, h3' k hk⟩

theorem toIsW_any (A : Option Addr) (n c : Nat) (x : Nat → Int) (w : World) (hn : n ≤ 1048576) (hs : SL w A n (fun j => .int .i64 (x j))) :
    Calls Try.prog 59 #[.slice A n c] w fun e w' => ∃ g, e = .returned (.slice (some ⟨g, 0, none⟩) n n) ∧ w.heap.size ≤ g ∧ g < w'.heap.size ∧ Below w.heap.size w w' ∧ OW w' w.heap.size w'.heap.size (some ⟨g, 0, none⟩) n (fun j => .int .i64 (x j)) := by
  obtain ⟨i0, hi, hz0, hz1, hz2⟩ := info_parts Try.infoI64
  have hmax : n ≤ maxLen := by unfold maxLen; omega
  have HC := cells_one hs
  clear hs
  go_enter Try.func59, Try.ntmps59
  go_wp2_with (at_make; refine wpList_make_full _ rfl _ _ 37 rfl w.heap.size 2 i0 (.int .i64 0) 1 Try.underlying37 hi hz0 hz1 _ _ _ _ n rfl rfl rfl rfl (by rw [hz2]; omega) hmax (Nat.le_refl _) ?_; intro w1 hown hgrow)
  have hbel : Below w.heap.size w w1 := (Below.refl _ _).grown hgrow (Nat.le_refl _) (fun k h => by cases h)
  go_loopw [4] (fun i wr => ∃ (k : Nat) (xs : List Value), k ≤ n ∧ i = .int .i64 k ∧ wr.ownsRow w.heap.size 2 1 (.slice (some ⟨w.heap.size, 0, none⟩) n n) n xs ∧ Hid (∀ j, j < k → xs[j]? = some (.int .i64 (x j))) ∧ Below w.heap.size w wr) (fun i _ => n - (intOf i).toNat)
  case atStart => exact ⟨0, _, Nat.zero_le _, rfl, hown, fun j hj => absurd hj (by omega), hbel⟩
  case round =>
    obtain ⟨k, xs, hk, rfl, hown, hxs, hbel⟩ := hrel
    by_cases hlt : k < n
    · obtain ⟨b, off, rfl, hb, hc⟩ := HC.out k hlt
      have hc2 : wr.cell? ⟨b, off + k, none⟩ = some (.int .i64 (x k)) := (hbel.cell (p := ⟨b, off + k, none⟩) hb).trans hc
      have hlen : xs.length = n := by have := hown.1; omega
      obtain ⟨u, hu⟩ : ∃ u, xs[k]? = some u := ⟨xs[k]'(by omega), List.getElem?_eq_getElem _⟩
      have hold : wr.cell? ⟨w.heap.size, k, none⟩ = some u := (hown.cellAt k (by omega)).trans hu
      have hfr := hown.frozenAt k
      have hst := hown.stored k (.int .i64 (x k))
      have HO := hide hst
      have HX := hide hlen
      clear hst hc hu hlen
      go_wp2
      go_roundw
      case rel =>
        refine ⟨k + 1, xs.set k (.int .i64 (x k)), by omega, by go_num, HO.out.1, ?_, hbel.trans ((Below.refl _ _).grown HO.out.2 (by have := hbel.size; omega) (fun j hj => by injection hj with hj; omega))⟩
        intro j hj
        by_cases hjk : j = k
        · subst hjk
          rw [List.getElem?_set_self (by rw [HX.out]; omega)]
        · rw [List.getElem?_set_ne (by omega)]
          exact hxs.out j (by omega)
      case measure => simp [intOf]; omega
    · go_wp2
      go_ret
      obtain rfl : k = n := by omega
      exact ⟨w.heap.size, rfl, Nat.le_refl _, own_lt hown, hbel, OW.of_owns hown hxs.out⟩
theorem toIs_any (A : Option Addr) (n c : Nat) (x : Nat → Int) (w : World) (hn : n ≤ 1048576) (hs : SL w A n (fun j => .int .i64 (x j))) :
    Calls Try.prog 59 #[.slice A n c] w fun e w' => ∃ g, e = .returned (.slice (some ⟨g, 0, none⟩) n n) ∧ w.heap.size ≤ g ∧ g < w'.heap.size ∧ Below w.heap.size w w' ∧ SL w' (some ⟨g, 0, none⟩) n (fun j => .int .i64 (x j)) :=
  (toIsW_any A n c x w hn hs).mono fun _ _ ⟨g, he, h1, h2, h3, h4⟩ => ⟨g, he, h1, h2, h3, h4.sl⟩

set_option maxHeartbeats 1000000 in
theorem eqIs_any (A A' : Option Addr) (n c c' : Nat) (x : Nat → Int) (w : World) (hn : n ≤ maxLen) (hs : SL w A n (fun j => .int .i64 (x j))) (hs' : SL w A' n (fun j => .int .i64 (x j))) :
    Calls Try.prog 61 #[.slice A n c, .slice A' n c'] w fun e w' => e = .returned (.bool true) ∧ ∃ q, w' = w.drewN q := by
  unfold maxLen at hn
  have HC := cells_two hs hs'
  clear hs hs'
  go_enter Try.func61, Try.ntmps61
  go_wp2
  go_loopw [5] (fun i wr => ∃ k q : Nat, k ≤ n ∧ i = .int .i64 k ∧ wr = w.drewN q) (fun i _ => n - (intOf i).toNat)
  case atStart => exact ⟨0, 0, Nat.zero_le _, rfl, rfl⟩
  case round =>
    obtain ⟨k, q, hk, rfl, rfl⟩ := hrel
    by_cases hlt : k < n
    · obtain ⟨b, off, b', off', rfl, rfl, hc, hc'⟩ := HC.out k hlt
      go_wp2
      go_region
      all_goals
        go_wp2
        go_roundw
        case rel => exact ⟨k + 1, _, by omega, by go_num, rfl⟩
        case measure => simp [intOf]; omega
    · go_wp2
      go_ret
      exact ⟨rfl, _, rfl⟩
end Go.Proofs.Ytjebkagbknmdoaa

/- What a valid scale is, by the reference. -/
namespace Go.Proofs.Ytjebkagbknmdoaa
open Go.RowKit Go.Dues

def Good (x y : Nat → Int) (j : Nat) : Prop := (0 ≤ x j ∧ x j ≤ 1000000000000) ∧ (∀ i, i + 1 = j → x i < x j) ∧ (0 ≤ y j ∧ y j ≤ 10000)
theorem val_of {x y : Nat → Int} {n : Nat} (h1 : 1 ≤ n) (h8 : n ≤ 8) (h0 : x 0 = 0) (h : ∀ j, j < n → Good x y j) : Val x y n n :=
  ⟨rfl, ⟨h1, h8, h0, fun j hj => (h j hj).1, fun j hj => (h (j + 1) hj).2.1 j rfl⟩, fun j hj => (h j hj).2.2⟩
theorem good_of {x y : Nat → Int} {n m : Nat} (h : Val x y n m) {k : Nat} (hk : k < n) : Good x y k :=
  ⟨h.amt k hk, fun i hi => by subst hi; exact h.up i hk, h.rate k hk⟩

set_option maxHeartbeats 2000000 in
theorem specIs_any (b : Nat) (A A' : Option Addr) (n c n' c' : Nat) (x y : Nat → Int) (w : World) (hn : n ≤ maxLen) (hn' : n' ≤ maxLen) (hc0 : w.cell? ⟨b, 0, none⟩ = some (.slice A n c)) (hc1 : w.cell? ⟨b, 1, none⟩ = some (.slice A' n' c'))
    (hs : SL w A n (fun j => .int .i64 (x j))) (hs' : SL w A' n' (fun j => .int .i64 (y j))) :
    Calls Try.prog 110 #[.pointer (some ⟨b, 0, none⟩)] w fun e w' => e = .returned (.bool (tru (Val x y n n'))) ∧ ∃ q, w' = w.drewN q := by
  unfold maxLen at hn hn'
  have HC := cells_one hs
  have HC' := cells_one hs'
  clear hs hs'
  by_cases h1 : n < 1
  · have HF := hide (tru_no (p := Val x y n n') (fun h => by have := h.n1; omega))
    go_enter Try.func110, Try.ntmps110
    go_wp2
    go_ret
    exact ⟨retb HF.out.symm, 0, rfl⟩
  by_cases h8 : 8 < n
  · have HF := hide (tru_no (p := Val x y n n') (fun h => by have := h.n8; omega))
    go_enter Try.func110, Try.ntmps110
    go_wp2
    go_ret
    exact ⟨retb HF.out.symm, 0, rfl⟩
  by_cases hm : n' = n
  · subst hm
    have hne : ((n' : Int) != (n' : Int)) = false := by simp
    obtain ⟨b1, off, hA, hb1, hx0⟩ := HC.out 0 (by omega)
    subst hA
    simp only [Nat.add_zero] at hx0
    by_cases h0 : x 0 = 0
    · have hx : (x 0 != 0) = false := by simp [h0]
      have H0 := hide h0
      clear h0
      go_enter Try.func110, Try.ntmps110
      go_wp2
      go_loopw [4] (fun i wr => ∃ k q : Nat, k ≤ n' ∧ i = .int .i64 k ∧ Hid (∀ j, j < k → Good x y j) ∧ wr = w.drewN q) (fun i _ => n' - (intOf i).toNat)
      case atStart => exact ⟨0, 0, Nat.zero_le _, rfl, fun j hj => absurd hj (by omega), rfl⟩
      case round =>
        obtain ⟨k, q, hk, rfl, hg, rfl⟩ := hrel
        by_cases hlt : k < n'
        · obtain ⟨b2, off2, hA2, hb2, hxk⟩ := HC.out k hlt
          injection hA2 with hA2
          injection hA2 with hA2 hA3
          subst hA2 hA3
          obtain ⟨b3, off3, rfl, hb3, hyk⟩ := HC'.out k hlt
          by_cases ha : 0 ≤ x k ∧ x k ≤ 1000000000000
          · have hab := amtB_yes ha
            have HA := hide ha
            clear ha
            by_cases hr : 0 ≤ y k ∧ y k ≤ 10000
            · have hrb := ratB_yes hr
              have HR := hide hr
              clear hr
              by_cases hk0 : k = 0
              · have hgt : decide ((0 : Int) < (k : Int)) = false := by simp; omega
                have hgt2 : decide (0 < k) = false := by simp; omega
                have HK := hide hk0
                clear hk0
                go_wp2
                go_quiet ((first | (go_at_call 122; exact quiet_add_left (specCents_any _ _)) | (go_at_call 166; exact quiet_add_left (specRate_any _ _))))
                go_wp2
                go_roundw
                case rel => exact ⟨k + 1, q + nq, by omega, by go_num, (by have hk0 := HK.out; intro j hj; obtain rfl : j = k := (by omega); exact ⟨HA.out, fun i hi => absurd hi (by omega), HR.out⟩), by first | rfl | exact World.drewN_drewN ..⟩
                case measure => simp [intOf]; omega
              · obtain ⟨p, hp⟩ : ∃ p, k = p + 1 := ⟨k - 1, by omega⟩
                obtain ⟨b4, off4, hA4, hb4, hxp⟩ := HC.out p (by omega)
                injection hA4 with hA4
                injection hA4 with hA4 hA5
                subst hA4 hA5
                have hgt : decide ((0 : Int) < (k : Int)) = true := by simp; omega
                have hgt2 : decide (0 < k) = true := by simp; omega
                have hpn : (p : Int) < n' := by omega
                have hw : IntKind.i64.wrap ((k : Int) - 1) = p := by rw [IntWalk.i64_in _ (by omega)]; omega
                have hw2 : (k : Int) - 1 = p := by omega
                have HP := hide hp
                clear hp hk0
                by_cases hu : x p < x k
                · have hle : decide (x k ≤ x p) = false := by simp; omega
                  have HU := hide hu
                  clear hu
                  go_wp2
                  go_quiet ((first | (go_at_call 122; exact quiet_add_left (specCents_any _ _)) | (go_at_call 166; exact quiet_add_left (specRate_any _ _))))
                  go_wp2
                  clear hw hw2
                  go_roundw
                  case rel => exact ⟨k + 1, q + nq, by omega, by go_num, (by
                    have hp := HP.out
                    intro j hj
                    by_cases hjk : j = k
                    · subst hjk; exact ⟨HA.out, fun i hi => by obtain rfl : i = p := (by omega); exact HU.out, HR.out⟩
                    · exact hg.out j (by omega)), by first | rfl | exact World.drewN_drewN ..⟩
                  case measure => simp [intOf]; omega
                · have hle : decide (x k ≤ x p) = true := by simp; omega
                  have HF := hide (tru_no (p := Val x y n' n') (fun h => hu (by have h1 := HP.out; have h2 := h.up p (by omega); rw [h1]; exact h2)))
                  clear hu
                  go_wp2
                  go_quiet ((first | (go_at_call 122; exact quiet_add_left (specCents_any _ _)) | (go_at_call 166; exact quiet_add_left (specRate_any _ _))))
                  go_wp2
                  go_ret
                  exact ⟨retb HF.out.symm, _, by first | rfl | exact World.drewN_drewN ..⟩
            · have hrb := ratB_no hr
              have HF := hide (tru_no (p := Val x y n' n') (fun h => hr (h.rate k hlt)))
              clear hr
              by_cases hk0 : k = 0
              · have hgt : decide ((0 : Int) < (k : Int)) = false := by simp; omega
                have hgt2 : decide (0 < k) = false := by simp; omega
                clear hk0
                go_wp2
                go_quiet ((first | (go_at_call 122; exact quiet_add_left (specCents_any _ _)) | (go_at_call 166; exact quiet_add_left (specRate_any _ _))))
                go_wp2
                go_ret
                exact ⟨retb HF.out.symm, _, by first | rfl | exact World.drewN_drewN ..⟩
              · obtain ⟨p, hp⟩ : ∃ p, k = p + 1 := ⟨k - 1, by omega⟩
                obtain ⟨b4, off4, hA4, hb4, hxp⟩ := HC.out p (by omega)
                injection hA4 with hA4
                injection hA4 with hA4 hA5
                subst hA4 hA5
                have hgt : decide ((0 : Int) < (k : Int)) = true := by simp; omega
                have hgt2 : decide (0 < k) = true := by simp; omega
                have hpn : (p : Int) < n' := by omega
                have hw : IntKind.i64.wrap ((k : Int) - 1) = p := by rw [IntWalk.i64_in _ (by omega)]; omega
                have hw2 : (k : Int) - 1 = p := by omega
                clear hp hk0
                by_cases hu : x p < x k
                · have hle : decide (x k ≤ x p) = false := by simp; omega
                  clear hu
                  go_wp2
                  go_quiet ((first | (go_at_call 122; exact quiet_add_left (specCents_any _ _)) | (go_at_call 166; exact quiet_add_left (specRate_any _ _))))
                  go_wp2
                  go_ret
                  exact ⟨retb HF.out.symm, _, by first | rfl | exact World.drewN_drewN ..⟩
                · have hle : decide (x k ≤ x p) = true := by simp; omega
                  clear hu
                  go_wp2
                  go_quiet ((first | (go_at_call 122; exact quiet_add_left (specCents_any _ _)) | (go_at_call 166; exact quiet_add_left (specRate_any _ _))))
                  go_wp2
                  go_ret
                  exact ⟨retb HF.out.symm, _, by first | rfl | exact World.drewN_drewN ..⟩
          · have hab := amtB_no ha
            have HF := hide (tru_no (p := Val x y n' n') (fun h => ha (h.amt k hlt)))
            clear ha
            go_wp2
            go_quiet ((first | (go_at_call 122; exact quiet_add_left (specCents_any _ _)) | (go_at_call 166; exact quiet_add_left (specRate_any _ _))))
            go_wp2
            go_ret
            exact ⟨retb HF.out.symm, _, World.drewN_drewN ..⟩
        · go_wp2
          go_ret
          obtain rfl : k = n' := by omega
          exact ⟨retb (tru_yes (val_of (by omega) (by omega) H0.out hg.out)).symm, _, rfl⟩
    · have hx : (x 0 != 0) = true := by simp [h0]
      have HF := hide (tru_no (p := Val x y n' n') (fun h => h0 h.x0))
      clear h0
      go_enter Try.func110, Try.ntmps110
      go_wp2
      go_ret
      exact ⟨retb HF.out.symm, 0, rfl⟩
  · have hne : ((n' : Int) != (n : Int)) = true := by simp; omega
    have HF := hide (tru_no (p := Val x y n n') (fun h => hm h.1))
    clear hm
    go_enter Try.func110, Try.ntmps110
    go_wp2
    go_ret
    exact ⟨retb HF.out.symm, 0, rfl⟩

end Go.Proofs.Ytjebkagbknmdoaa

/- What a valid scale is, by the program. -/
namespace Go.Proofs.Ytjebkagbknmdoaa
open Go.RowKit Go.Dues

theorem implBreaks_any (A : Option Addr) (n c : Nat) (x : Nat → Int) (w : World) (hn : n ≤ maxLen) (hs : SL w A n (fun j => .int .i64 (x j))) :
    Calls Try.prog 157 #[.slice A n c] w fun e w' => e = .returned (.bool (tru (Ups x n))) ∧ w = w' := by
  unfold maxLen at hn
  have HC := cells_one hs
  clear hs
  by_cases h1 : n < 1
  · have HF := hide (tru_no (p := Ups x n) (fun h => by have := h.1; omega))
    go_enter Try.func157, Try.ntmps157
    go_wp2
    go_ret
    exact ⟨retb HF.out.symm, rfl⟩
  by_cases h8 : 8 < n
  · have HF := hide (tru_no (p := Ups x n) (fun h => by have := h.2.1; omega))
    go_enter Try.func157, Try.ntmps157
    go_wp2
    go_ret
    exact ⟨retb HF.out.symm, rfl⟩
  obtain ⟨b1, off, hA, hb1, hx0⟩ := HC.out 0 (by omega)
  subst hA
  simp only [Nat.add_zero] at hx0
  by_cases h0 : x 0 = 0
  · have hx : (x 0 != 0) = false := by simp [h0]
    have H0 := hide h0
    clear h0
    go_enter Try.func157, Try.ntmps157
    go_wp2
    go_loop [3, 4, 21] (fun _ _ i => ∃ k : Nat, k ≤ n ∧ i = .int .i64 k ∧ Hid ((∀ j, j < k → 0 ≤ x j ∧ x j ≤ 1000000000000) ∧ (∀ j, j + 1 < k → x j < x (j + 1)))) (fun _ _ i => n - (intOf i).toNat)
    case atStart => exact ⟨0, Nat.zero_le _, rfl, fun j hj => absurd hj (by omega), fun j hj => absurd hj (by omega)⟩
    case round =>
      obtain ⟨k, hk, rfl, hg⟩ := hrel
      by_cases hlt : k < n
      · obtain ⟨b2, off2, hA2, hb2, hxk⟩ := HC.out k hlt
        injection hA2 with hA2
        injection hA2 with hA2 hA3
        subst hA2 hA3
        by_cases ha : 0 ≤ x k ∧ x k ≤ 1000000000000
        · have hab := amtB_yes ha
          have HA := hide ha
          clear ha
          by_cases hk0 : k = 0
          · have hgt : ¬ (0 : Int) < (k : Int) := by omega
            have HK := hide hk0
            clear hk0
            go_wp2_with (go_at_call 70; refine (implAmount_any _ _).mono ?_; rintro e w' ⟨rfl, rfl⟩)
            go_round
            case rel => exact ⟨k + 1, by omega, by go_num, by have hk0 := HK.out; intro j hj; obtain rfl : j = k := (by omega); exact HA.out, by have hk0 := HK.out; intro j hj; omega⟩
            case measure => simp [intOf]; omega
          · obtain ⟨p, hp⟩ : ∃ p, k = p + 1 := ⟨k - 1, by omega⟩
            obtain ⟨b4, off4, hA4, hb4, hxp⟩ := HC.out p (by omega)
            injection hA4 with hA4
            injection hA4 with hA4 hA5
            subst hA4 hA5
            have hgt : (0 : Int) < (k : Int) := by omega
            have hpn : (p : Int) < n := by omega
            have hw : IntKind.i64.wrap ((k : Int) - 1) = p := by rw [IntWalk.i64_in _ (by omega)]; omega
            have hw2 : (k : Int) - 1 = p := by omega
            have HP := hide hp
            clear hp hk0
            by_cases hu : x p < x k
            · have HU := hide hu
              go_wp2_with (go_at_call 70; refine (implAmount_any _ _).mono ?_; rintro e w' ⟨rfl, rfl⟩)
              clear hw hw2
              go_round
              case rel => exact ⟨k + 1, by omega, by go_num, by
                intro j hj
                by_cases hjk : j = k
                · subst hjk; exact HA.out
                · exact hg.out.1 j (by omega), by
                intro j hj
                by_cases hjk : j = p
                · subst hjk; rw [← HP.out]; exact HU.out
                · have := HP.out; exact hg.out.2 j (by omega)⟩
              case measure => simp [intOf]; omega
            · have HF := hide (tru_no (p := Ups x n) (fun h => hu (by have h1 := HP.out; have h2 := h.2.2.2.2 p (by omega); rw [h1]; exact h2)))
              go_wp2_with (go_at_call 70; refine (implAmount_any _ _).mono ?_; rintro e w' ⟨rfl, rfl⟩)
              go_ret
              exact ⟨retb HF.out.symm, rfl⟩
        · have hab := amtB_no ha
          have HF := hide (tru_no (p := Ups x n) (fun h => ha (h.2.2.2.1 k hlt)))
          clear ha
          go_wp2_with (go_at_call 70; refine (implAmount_any _ _).mono ?_; rintro e w' ⟨rfl, rfl⟩)
          go_ret
          exact ⟨retb HF.out.symm, rfl⟩
      · go_wp2
        go_ret
        obtain rfl : k = n := by omega
        exact ⟨retb (tru_yes ⟨by omega, by omega, H0.out, hg.out.1, hg.out.2⟩).symm, rfl⟩
  · have hx : (x 0 != 0) = true := by simp [h0]
    have HF := hide (tru_no (p := Ups x n) (fun h => h0 h.2.2.1))
    clear h0
    go_enter Try.func157, Try.ntmps157
    go_wp2
    go_ret
    exact ⟨retb HF.out.symm, rfl⟩

theorem implBadRate_any (n : Int) (w : World) : Calls Try.prog 158 #[.int .i64 n] w fun e w' => e = .returned (.bool (!ratB n)) ∧ w = w' := by
  go_enter Try.func158, Try.ntmps158
  go_wp2_with (go_at_call 75; refine (implRate_any _ _).mono ?_; rintro e w' ⟨rfl, rfl⟩)
  go_ret
  exact ⟨rfl, rfl⟩

theorem index_badRate (A : Option Addr) (n c : Nat) (x : Nat → Int) (w : World) (hn : n ≤ maxLen) (hs : SL w A n (fun j => .int .i64 (x j))) :
    Calls Try.prog 185 #[.slice A n c, .func (Fn.func 158) #[] #[]] w fun e w' => ∃ r : Int, e = .returned (.int .i64 r) ∧ ((0 ≤ r ∧ ∃ j, j < n ∧ ratB (x j) = false) ∨ (r = -1 ∧ ∀ j, j < n → ratB (x j) = true)) ∧ w = w' := by
  unfold maxLen at hn
  have HC := cells_one hs
  clear hs
  go_enter Try.func185, Try.ntmps185
  go_wp2
  go_loop [5, 8] (fun _ i => ∃ k : Nat, k ≤ n ∧ i = .int .i64 k ∧ Hid (∀ j, j < k → ratB (x j) = true)) (fun _ i => n - (intOf i).toNat)
  case atStart => exact ⟨0, Nat.zero_le _, rfl, fun j hj => absurd hj (by omega)⟩
  case round =>
    obtain ⟨k, hk, rfl, hg⟩ := hrel
    by_cases hlt : k < n
    · obtain ⟨b1, off, rfl, hb1, hxk⟩ := HC.out k hlt
      cases hp : ratB (x k)
      · have HP := hide hp
        go_wp2_with (go_at_call 158; refine (implBadRate_any _ _).mono ?_; rintro e w' ⟨rfl, rfl⟩)
        go_ret
        exact ⟨_, rfl, .inl ⟨by omega, k, hlt, HP.out⟩, rfl⟩
      · have HP := hide hp
        go_wp2_with (go_at_call 158; refine (implBadRate_any _ _).mono ?_; rintro e w' ⟨rfl, rfl⟩)
        clear hp
        go_round
        case rel => exact ⟨k + 1, by omega, by go_num, by
          intro j hj
          by_cases hjk : j = k
          · subst hjk; exact HP.out
          · exact hg.out j (by omega)⟩
        case measure => simp [intOf]; omega
    · go_wp2
      go_ret
      obtain rfl : k = n := by omega
      exact ⟨_, rfl, .inr ⟨rfl, hg.out⟩, rfl⟩
theorem contains_badRate (A : Option Addr) (n c : Nat) (x : Nat → Int) (w : World) (hn : n ≤ maxLen) (hs : SL w A n (fun j => .int .i64 (x j))) :
    Calls Try.prog 153 #[.slice A n c, .func (Fn.func 158) #[] #[]] w fun e w' => e = .returned (.bool (tru (∃ j, j < n ∧ ratB (x j) = false))) ∧ w = w' := by
  have HI := hide (index_badRate A n c x w hn hs)
  clear hs
  go_enter Try.func153, Try.ntmps153
  go_wp2_with fail
  refine HI.out.mono ?_
  rintro e w' ⟨r, rfl, hr, rfl⟩
  rcases hr with ⟨h0, h⟩ | ⟨rfl, h⟩
  · have HF := hide (tru_yes h)
    clear h
    go_wp2
    go_ret
    exact ⟨retb HF.out.symm, rfl⟩
  · have HF := hide (tru_no (p := ∃ j, j < n ∧ ratB (x j) = false) (fun ⟨j, hj, hh⟩ => by rw [h j hj] at hh; cases hh))
    clear h
    go_wp2
    go_ret
    exact ⟨retb HF.out.symm, rfl⟩

theorem implValid_any (A A' : Option Addr) (n c n' c' : Nat) (x y : Nat → Int) (w : World) (hn : n ≤ maxLen) (hn' : n' ≤ maxLen) (hs : SL w A n (fun j => .int .i64 (x j))) (hs' : SL w A' n' (fun j => .int .i64 (y j))) :
    Calls Try.prog 79 #[.agg #[.slice A n c, .slice A' n' c']] w fun e w' => e = .returned (.bool (tru (Val x y n n'))) ∧ Below w.heap.size w w' := by
  have HB := hide ((Below.refl w.heap.size w).alloc (Nat.le_refl _) (.cells #[.slice A n c, .slice A' n' c'] 39))
  by_cases hm : n' = n
  · subst hm
    have hne : ((n' : Int) != (n' : Int)) = false := by simp
    have H1 := hide (implBreaks_any A n' c x _ hn (hs.below HB.out))
    have H2 := hide (contains_badRate A' n' c' y _ hn' (hs'.below HB.out))
    clear hs hs'
    by_cases hu : Ups x n'
    · have hut := tru_yes hu
      by_cases hr : ∃ j, j < n' ∧ ratB (y j) = false
      · have hrt := tru_yes hr
        have HF := hide (tru_no (p := Val x y n' n') (fun h => by
          obtain ⟨j, hj, hjr⟩ := hr
          rw [ratB_yes (h.rate j hj)] at hjr
          cases hjr))
        clear hu hr
        go_enter Try.func79, Try.ntmps79
        go_wp2_with fail
        refine H1.out.mono ?_
        rintro e w' ⟨rfl, rfl⟩
        go_wp2_with fail
        refine H2.out.mono ?_
        rintro e w' ⟨rfl, rfl⟩
        go_wp2_with fail
        go_ret
        exact ⟨retb HF.out.symm, HB.out⟩
      · have hrt := tru_no hr
        have HF := hide (tru_yes (p := Val x y n' n') ⟨rfl, hu, fun j hj => by
          cases hh : ratB (y j)
          · exact absurd ⟨j, hj, hh⟩ hr
          · exact ratB_iff.1 hh⟩)
        clear hu hr
        go_enter Try.func79, Try.ntmps79
        go_wp2_with fail
        refine H1.out.mono ?_
        rintro e w' ⟨rfl, rfl⟩
        go_wp2_with fail
        refine H2.out.mono ?_
        rintro e w' ⟨rfl, rfl⟩
        go_wp2_with fail
        go_ret
        exact ⟨retb HF.out.symm, HB.out⟩
    · have hut := tru_no hu
      have HF := hide (tru_no (p := Val x y n' n') (fun h => hu h.2.1))
      clear hu
      go_enter Try.func79, Try.ntmps79
      go_wp2_with fail
      refine H1.out.mono ?_
      rintro e w' ⟨rfl, rfl⟩
      go_wp2_with fail
      go_ret
      exact ⟨retb HF.out.symm, HB.out⟩
  · have hne : ((n' : Int) != (n : Int)) = true := by simp; omega
    have HF := hide (tru_no (p := Val x y n n') (fun h => hm h.1))
    clear hs hs'
    go_enter Try.func79, Try.ntmps79
    go_wp2_with fail
    go_ret
    exact ⟨retb HF.out.symm, HB.out⟩
end Go.Proofs.Ytjebkagbknmdoaa

/- Amounts of a list, by the program. -/
namespace Go.Proofs.Ytjebkagbknmdoaa
open Go.RowKit Go.Dues
theorem implBadAmount_any (n : Int) (w : World) : Calls Try.prog 154 #[.int .i64 n] w fun e w' => e = .returned (.bool (!amtB n)) ∧ w = w' := by
  go_enter Try.func154, Try.ntmps154
  go_wp2_with (go_at_call 70; refine (implAmount_any _ _).mono ?_; rintro e w' ⟨rfl, rfl⟩)
  go_ret
  exact ⟨rfl, rfl⟩
theorem index_badAmount (A : Option Addr) (n c : Nat) (x : Nat → Int) (w : World) (hn : n ≤ maxLen) (hs : SL w A n (fun j => .int .i64 (x j))) :
    Calls Try.prog 185 #[.slice A n c, .func (Fn.func 154) #[] #[]] w fun e w' => ∃ r : Int, e = .returned (.int .i64 r) ∧ ((0 ≤ r ∧ ∃ j, j < n ∧ amtB (x j) = false) ∨ (r = -1 ∧ ∀ j, j < n → amtB (x j) = true)) ∧ w = w' := by
  unfold maxLen at hn
  have HC := cells_one hs
  clear hs
  go_enter Try.func185, Try.ntmps185
  go_wp2
  go_loop [5, 8] (fun _ i => ∃ k : Nat, k ≤ n ∧ i = .int .i64 k ∧ Hid (∀ j, j < k → amtB (x j) = true)) (fun _ i => n - (intOf i).toNat)
  case atStart => exact ⟨0, Nat.zero_le _, rfl, fun j hj => absurd hj (by omega)⟩
  case round =>
    obtain ⟨k, hk, rfl, hg⟩ := hrel
    by_cases hlt : k < n
    · obtain ⟨b1, off, rfl, hb1, hxk⟩ := HC.out k hlt
      cases hp : amtB (x k)
      · have HP := hide hp
        go_wp2_with (go_at_call 154; refine (implBadAmount_any _ _).mono ?_; rintro e w' ⟨rfl, rfl⟩)
        go_ret
        exact ⟨_, rfl, .inl ⟨by omega, k, hlt, HP.out⟩, rfl⟩
      · have HP := hide hp
        go_wp2_with (go_at_call 154; refine (implBadAmount_any _ _).mono ?_; rintro e w' ⟨rfl, rfl⟩)
        clear hp
        go_round
        case rel => exact ⟨k + 1, by omega, by go_num, by
          intro j hj
          by_cases hjk : j = k
          · subst hjk; exact HP.out
          · exact hg.out j (by omega)⟩
        case measure => simp [intOf]; omega
    · go_wp2
      go_ret
      obtain rfl : k = n := by omega
      exact ⟨_, rfl, .inr ⟨rfl, hg.out⟩, rfl⟩
theorem contains_badAmount (A : Option Addr) (n c : Nat) (x : Nat → Int) (w : World) (hn : n ≤ maxLen) (hs : SL w A n (fun j => .int .i64 (x j))) :
    Calls Try.prog 153 #[.slice A n c, .func (Fn.func 154) #[] #[]] w fun e w' => e = .returned (.bool (tru (∃ j, j < n ∧ amtB (x j) = false))) ∧ w = w' := by
  have HI := hide (index_badAmount A n c x w hn hs)
  clear hs
  go_enter Try.func153, Try.ntmps153
  go_wp2_with fail
  refine HI.out.mono ?_
  rintro e w' ⟨r, rfl, hr, rfl⟩
  rcases hr with ⟨h0, h⟩ | ⟨rfl, h⟩
  · have HF := hide (tru_yes h)
    clear h
    go_wp2
    go_ret
    exact ⟨retb HF.out.symm, rfl⟩
  · have HF := hide (tru_no (p := ∃ j, j < n ∧ amtB (x j) = false) (fun ⟨j, hj, hh⟩ => by rw [h j hj] at hh; cases hh))
    clear h
    go_wp2
    go_ret
    exact ⟨retb HF.out.symm, rfl⟩

theorem implAmounts_any (A : Option Addr) (n c : Nat) (x : Nat → Int) (w : World) (hn : n ≤ maxLen) (hs : SL w A n (fun j => .int .i64 (x j))) :
    Calls Try.prog 76 #[.slice A n c] w fun e w' => e = .returned (.bool (tru (∀ j, j < n → 0 ≤ x j ∧ x j ≤ 1000000000000))) ∧ w = w' := by
  have HI := hide (contains_badAmount A n c x w hn hs)
  clear hs
  by_cases h : ∃ j, j < n ∧ amtB (x j) = false
  · have ht := tru_yes h
    have HF := hide (tru_no (p := ∀ j, j < n → 0 ≤ x j ∧ x j ≤ 1000000000000) (fun hh => by
      obtain ⟨j, hj, hb⟩ := h
      rw [amtB_yes (hh j hj)] at hb
      cases hb))
    clear h
    go_enter Try.func76, Try.ntmps76
    go_wp2_with fail
    refine HI.out.mono ?_
    rintro e w' ⟨rfl, rfl⟩
    go_wp2
    go_ret
    exact ⟨retb HF.out.symm, rfl⟩
  · have ht := tru_no h
    have HF := hide (tru_yes (p := ∀ j, j < n → 0 ≤ x j ∧ x j ≤ 1000000000000) (fun j hj => by
      cases hb : amtB (x j)
      · exact absurd ⟨j, hj, hb⟩ h
      · exact amtB_iff.1 hb))
    clear h
    go_enter Try.func76, Try.ntmps76
    go_wp2_with fail
    refine HI.out.mono ?_
    rintro e w' ⟨rfl, rfl⟩
    go_wp2
    go_ret
    exact ⟨retb HF.out.symm, rfl⟩
/-- of two and of three numbers that are told one by one -/
theorem implAmounts2_any (g : Nat) (a b : Int) (w : World) (h : w.heap[g]? = some (.cells #[.int .i64 a, .int .i64 b] 2)) :
    Calls Try.prog 76 #[.slice (some ⟨g, 0, none⟩) 2 2] w fun e w' => e = .returned (.bool (amtB a && amtB b)) ∧ w = w' := by
  have h0 := Joins.cell_of_block h 0
  have h1 := Joins.cell_of_block h 1
  refine (implAmounts_any (some ⟨g, 0, none⟩) 2 2 (fun j => if j = 0 then a else b) w (by unfold maxLen; omega) (.inr ⟨g, 0, rfl, (Array.getElem?_eq_some_iff.1 h).1, fun j hj => ?_⟩)).mono fun e w' ⟨he, hw⟩ => ⟨?_, hw⟩
  · have : j = 0 ∨ j = 1 := by omega
    rcases this with rfl | rfl
    · simpa using h0
    · simpa using h1
  · rw [he]
    apply retb
    cases ha : amtB a
    · rw [Bool.false_and]; exact tru_no (fun hh => by have := amtB_yes (hh 0 (by omega)); simp at this; rw [this] at ha; cases ha)
    · cases hb : amtB b
      · exact tru_no (fun hh => by have := amtB_yes (hh 1 (by omega)); simp at this; rw [this] at hb; cases hb)
      · exact tru_yes (fun j hj => by
          have hj2 : j = 0 ∨ j = 1 := by omega
          rcases hj2 with rfl | rfl
          · simpa using amtB_iff.1 ha
          · simpa using amtB_iff.1 hb)
theorem implAmounts3_any (g : Nat) (a b c : Int) (w : World) (h : w.heap[g]? = some (.cells #[.int .i64 a, .int .i64 b, .int .i64 c] 2)) :
    Calls Try.prog 76 #[.slice (some ⟨g, 0, none⟩) 3 3] w fun e w' => e = .returned (.bool (amtB a && (amtB b && amtB c))) ∧ w = w' := by
  have h0 := Joins.cell_of_block h 0
  have h1 := Joins.cell_of_block h 1
  have h2 := Joins.cell_of_block h 2
  refine (implAmounts_any (some ⟨g, 0, none⟩) 3 3 (fun j => if j = 0 then a else if j = 1 then b else c) w (by unfold maxLen; omega) (.inr ⟨g, 0, rfl, (Array.getElem?_eq_some_iff.1 h).1, fun j hj => ?_⟩)).mono fun e w' ⟨he, hw⟩ => ⟨?_, hw⟩
  · have : j = 0 ∨ j = 1 ∨ j = 2 := by omega
    rcases this with rfl | rfl | rfl
    · simpa using h0
    · simpa using h1
    · simpa using h2
  · rw [he]
    apply retb
    cases ha : amtB a
    · rw [Bool.false_and]; exact tru_no (fun hh => by have := amtB_yes (hh 0 (by omega)); simp at this; rw [this] at ha; cases ha)
    · cases hb : amtB b
      · exact tru_no (fun hh => by have := amtB_yes (hh 1 (by omega)); simp at this; rw [this] at hb; cases hb)
      · cases hc : amtB c
        · exact tru_no (fun hh => by have := amtB_yes (hh 2 (by omega)); simp at this; rw [this] at hc; cases hc)
        · exact tru_yes (fun j hj => by
            have hj2 : j = 0 ∨ j = 1 ∨ j = 2 := by omega
            rcases hj2 with rfl | rfl | rfl
            · simpa using amtB_iff.1 ha
            · simpa using amtB_iff.1 hb
            · simpa using amtB_iff.1 hc)

end Go.Proofs.Ytjebkagbknmdoaa

/- Chapter 4: dues by rates, and the small functions, by both. -/
namespace Go.Proofs.Ytjebkagbknmdoaa
open Go.RowKit Go.Dues
def duV (c rate r : Int) : Int := rnd (c * rate) 10000 r
theorem duV_bd {c rate r : Int} (hc : 0 ≤ c) (h0 : 0 ≤ rate) (h1 : rate ≤ 10000) : 0 ≤ duV c rate r ∧ duV c rate r ≤ c := by
  have h2 := Int.mul_nonneg hc h0
  have h3 := Int.mul_le_mul_of_nonneg_left h1 hc
  unfold duV rnd
  split
  · omega
  · split
    · omega
    · split <;> omega
theorem mul_rate {c rate : Int} (hc : 0 ≤ c) (h1 : c ≤ 100000000000000) (r0 : 0 ≤ rate) (r1 : rate ≤ 10000) : 0 ≤ c * rate ∧ c * rate ≤ 1000000000000000000 := mul_bd hc h1 r0 r1
theorem bel_dN {B : Nat} {a w : World} (h : Below B a w) (n : Nat) : Below B a (w.drewN n) := ⟨h.os, h.tape, h.output, h.size, h.block⟩
theorem retbb {p q : Prop} {a b : Bool} (h : a = tru q) (h2 : b = tru p) : Ending.returned (.tuple #[.bool a, .bool b]) = .returned (.tuple #[.bool (tru q), .bool (tru p)]) := by rw [h, h2]
theorem implDue4_any (c rate r : Int) (w : World) (c0 : 0 ≤ c) (c1 : c ≤ 100000000000000) (r0 : 0 ≤ rate ∧ rate ≤ 10000) (hr : 0 ≤ r ∧ r ≤ 3) :
    Calls Try.prog 73 #[.int .i64 c, .int .i64 rate, .int .i64 r] w fun e w' => e = .returned (.int .i64 (duV c rate r)) ∧ ∃ q, w' = w.drewN q := by
  obtain ⟨p0, p1⟩ := mul_rate c0 c1 r0.1 r0.2
  have HR := hide (implRounded_any (c * rate) 10000 r w p0 (by omega) (by omega) (by omega) hr)
  clear r0 hr
  go_enter Try.func73, Try.ntmps73
  go_wp2_with fail
  refine HR.out.mono ?_
  rintro e w' ⟨rfl, q, rfl⟩
  go_wp2
  go_ret
  exact ⟨rfl, _, rfl⟩
theorem specMn_any (a b : Int) (w : World) : Calls Try.prog 111 #[.int .i64 a, .int .i64 b] w fun e w' => e = .returned (.int .i64 (min a b)) ∧ w = w' := by
  by_cases h : a < b
  · have HE := hide (show a = min a b by omega)
    go_enter Try.func111, Try.ntmps111
    go_wp2
    go_ret
    exact ⟨reti HE.out, rfl⟩
  · have HE := hide (show b = min a b by omega)
    go_enter Try.func111, Try.ntmps111
    go_wp2
    go_ret
    exact ⟨reti HE.out, rfl⟩
end Go.Proofs.Ytjebkagbknmdoaa

/- Chapter 4: the plain arithmetic of the first greatest and the first least, of quotients that go down, of traps and of units given one after another; no program is read here. -/
namespace Go.Dues
open Go.RowKit

/-! ### the first greatest -/
def bX (z : Nat → Int) : Nat → Nat
  | 0 => 0
  | k + 1 => if z (bX z k) < z k then k else bX z k
theorem bX_spec (z : Nat → Int) : ∀ n, (∀ j, j < n → z j ≤ z (bX z n)) ∧ (∀ j, j < bX z n → z j < z (bX z n)) ∧ (1 ≤ n → bX z n < n) ∧ (n = 0 → bX z n = 0)
  | 0 => ⟨fun j hj => absurd hj (by omega), fun j hj => absurd hj (by simp [bX]), fun h => absurd h (by omega), fun _ => rfl⟩
  | k + 1 => by
    obtain ⟨h1, h2, h3, h4⟩ := bX_spec z k
    have e : bX z (k + 1) = if z (bX z k) < z k then k else bX z k := rfl
    by_cases hz : z (bX z k) < z k
    · rw [if_pos hz] at e
      rw [e]
      refine ⟨fun j hj => ?_, fun j hj => ?_, fun _ => by omega, fun h => by omega⟩
      · by_cases hjk : j = k
        · rw [hjk]; exact Int.le_refl _
        · have := h1 j (by omega); omega
      · have := h1 j hj; omega
    · rw [if_neg hz] at e
      rw [e]
      refine ⟨fun j hj => ?_, h2, fun _ => ?_, fun h => by omega⟩
      · by_cases hjk : j = k
        · rw [hjk]; omega
        · exact h1 j (by omega)
      · by_cases hk : k = 0
        · rw [h4 hk]; omega
        · have := h3 (by omega); omega
theorem bX_max (z : Nat → Int) {n j : Nat} (hj : j < n) : z j ≤ z (bX z n) := (bX_spec z n).1 j hj
theorem bX_first (z : Nat → Int) {n j : Nat} (hj : j < bX z n) : z j < z (bX z n) := (bX_spec z n).2.1 j hj
theorem bX_lt (z : Nat → Int) {n : Nat} (h : 1 ≤ n) : bX z n < n := (bX_spec z n).2.2.1 h
theorem bX_le (z : Nat → Int) (n : Nat) : bX z n ≤ n := by
  by_cases h : n = 0
  · rw [(bX_spec z n).2.2.2 h]; omega
  · have := bX_lt z (n := n) (by omega); omega
theorem bX_yes {z : Nat → Int} {k : Nat} (h : z (bX z k) < z k) : bX z (k + 1) = k := if_pos h
theorem bX_no {z : Nat → Int} {k : Nat} (h : ¬ z (bX z k) < z k) : bX z (k + 1) = bX z k := if_neg h
theorem bX_unique {z : Nat → Int} {n i : Nat} (hi : i < n) (h1 : ∀ j, j < n → z j ≤ z i) (h2 : ∀ j, j < i → z j < z i) : bX z n = i := by
  have a := bX_max z hi
  have b := h1 _ (bX_lt z (n := n) (by omega))
  rcases Nat.lt_trichotomy (bX z n) i with h | h | h
  · have := h2 _ h; omega
  · exact h
  · have := bX_first z h; omega
theorem bX_congr {z y : Nat → Int} : ∀ {n : Nat}, (∀ j, j < n → z j = y j) → bX z n = bX y n
  | 0, _ => rfl
  | k + 1, h => by
    have ih := bX_congr (n := k) (fun j hj => h j (by omega))
    have hk := h k (by omega)
    have hb : z (bX z k) = y (bX y k) := by
      rw [ih]
      exact h _ (by have := bX_le y k; omega)
    show (if z (bX z k) < z k then k else bX z k) = (if y (bX y k) < y k then k else bX y k)
    rw [hb, hk, ih]
/-- the greatest of the first n -/
def mX (z : Nat → Int) : Nat → Int
  | 0 => z 0
  | k + 1 => max (mX z k) (z k)
theorem mX_eq (z : Nat → Int) : ∀ n, mX z n = z (bX z n)
  | 0 => rfl
  | k + 1 => by
    have ih := mX_eq z k
    show max (mX z k) (z k) = z (if z (bX z k) < z k then k else bX z k)
    split <;> omega
/-! ### the first least -/
def bN (z : Nat → Int) (n : Nat) : Nat := bX (fun j => -(z j)) n
theorem bN_min (z : Nat → Int) {n j : Nat} (hj : j < n) : z (bN z n) ≤ z j := by have := bX_max (fun j => -(z j)) hj; unfold bN; omega
theorem bN_first (z : Nat → Int) {n j : Nat} (hj : j < bN z n) : z (bN z n) < z j := by have := bX_first (fun j => -(z j)) hj; unfold bN; omega
theorem bN_lt (z : Nat → Int) {n : Nat} (h : 1 ≤ n) : bN z n < n := bX_lt _ h
theorem bN_le (z : Nat → Int) (n : Nat) : bN z n ≤ n := bX_le _ _
theorem bN_yes {z : Nat → Int} {k : Nat} (h : z k < z (bN z k)) : bN z (k + 1) = k := bX_yes (by unfold bN at h; omega)
theorem bN_no {z : Nat → Int} {k : Nat} (h : ¬ z k < z (bN z k)) : bN z (k + 1) = bN z k := bX_no (by unfold bN at h; omega)
def mN (z : Nat → Int) : Nat → Int
  | 0 => z 0
  | k + 1 => min (mN z k) (z k)
theorem mN_eq (z : Nat → Int) : ∀ n, mN z n = z (bN z n)
  | 0 => rfl
  | k + 1 => by
    have ih := mN_eq z k
    show min (mN z k) (z k) = _
    by_cases h : z k < z (bN z k)
    · rw [bN_yes h]; omega
    · rw [bN_no h]; omega

/-! ### quotients that go down -/
theorem down_spec {a s : Int} (hs : 1 ≤ s) : (a.tmod s + s).tmod s = a % s ∧ (a - a % s).tdiv s = a / s := by
  constructor
  · have h1 : -s < a.tmod s := Int.lt_tmod_of_pos a (by omega)
    rw [Int.tmod_eq_emod_of_nonneg (by omega)]
    have e : a.tmod s + s = a + s * (1 - a.tdiv s) := by
      rw [Int.tmod_def, Int.mul_sub, Int.mul_one]; omega
    rw [e, Int.add_mul_emod_self_left]
  · have e : a - a % s = s * (a / s) := by have := Int.mul_ediv_add_emod a s; omega
    rw [e, Int.mul_tdiv_cancel_left _ (by omega)]
theorem down_impl {a s : Int} (hs : 1 ≤ s) : a / s = -rnd (-a) s 3 := by
  have h1 := Int.mul_ediv_add_emod (-a) s
  have h2 : 0 ≤ -a % s := Int.emod_nonneg _ (by omega)
  have h3 : -a % s < s := Int.emod_lt_of_pos _ (by omega)
  unfold rnd
  by_cases h : 0 < -a % s
  · rw [if_pos ⟨rfl, h⟩]
    have : a / s = -(-a / s + 1) ∧ a % s = s - -a % s := (Int.ediv_emod_unique (by omega)).2 ⟨by rw [Int.mul_neg, Int.mul_add, Int.mul_one]; omega, by omega, by omega⟩
    exact this.1
  · have h0 : -a % s = 0 := by omega
    rw [if_neg (by omega), if_neg (by omega), if_neg (by omega)]
    have : a / s = -(-a / s) ∧ a % s = 0 := (Int.ediv_emod_unique (by omega)).2 ⟨by rw [Int.mul_neg]; omega, by omega, by omega⟩
    exact this.1

/-! ### traps -/
/-- how far behind i, of the first m places from i on, a net is at most that of i -/
def lnK (x : Nat → Int) (i : Nat) : Nat → Nat
  | 0 => 0
  | m + 1 => if x (i + m) ≤ x i then m else lnK x i m
theorem lnK_yes {x : Nat → Int} {i m : Nat} (h : x (i + m) ≤ x i) : lnK x i (m + 1) = m := if_pos h
theorem lnK_no {x : Nat → Int} {i m : Nat} (h : ¬ x (i + m) ≤ x i) : lnK x i (m + 1) = lnK x i m := if_neg h
theorem lnK_le (x : Nat → Int) (i : Nat) : ∀ m, lnK x i m ≤ m - 1
  | 0 => Nat.le_refl _
  | m + 1 => by
    have := lnK_le x i m
    by_cases h : x (i + m) ≤ x i
    · rw [lnK_yes h]; omega
    · rw [lnK_no h]; omega
/-- the length of the trap at i, of n nets -/
def trL (x : Nat → Int) (n i : Nat) : Int := (lnK x i (n - i) : Nat)
def trI (x : Nat → Int) (n : Nat) : Nat := bX (trL x n) n
def trM (x : Nat → Int) (n : Nat) : Int := trL x n (trI x n)
theorem trL_bd (x : Nat → Int) (n i : Nat) : 0 ≤ trL x n i ∧ trL x n i ≤ n := by
  have := lnK_le x i (n - i)
  unfold trL; omega
/-- the reference: the best place and the length, of the first i places -/
def trB (x : Nat → Int) (n i : Nat) : Nat := bX (trL x n) i
def trW (x : Nat → Int) (n i : Nat) : Int := if i = 0 then 0 else trL x n (trB x n i)
theorem trW_max (x : Nat → Int) (n i : Nat) : 0 ≤ trW x n i ∧ trW x n i ≤ n := by
  unfold trW
  split
  · omega
  · exact trL_bd x n _
theorem trW_succ (x : Nat → Int) (n i : Nat) : trW x n (i + 1) = max (trW x n i) (trL x n i) ∧ trB x n (i + 1) = if trW x n i < trL x n i then i else trB x n i := by
  have h0 := trL_bd x n 0
  by_cases hi : i = 0
  · subst hi
    have e0 : trB x n 0 = 0 := rfl
    have e1 : trB x n 1 = 0 := bX_no (z := trL x n) (k := 0) (Int.lt_irrefl _)
    refine ⟨?_, ?_⟩
    · have e2 : trW x n 1 = trL x n 0 := by unfold trW; rw [if_neg (by omega), e1]
      have e3 : trW x n 0 = 0 := by unfold trW; rw [if_pos rfl]
      show trW x n 1 = _
      rw [e2, e3]; omega
    · rw [e1, e0]; split <;> rfl
  · have e : trW x n i = trL x n (bX (trL x n) i) := by unfold trW trB; rw [if_neg hi]
    have e2 : trB x n (i + 1) = if trL x n (bX (trL x n) i) < trL x n i then i else bX (trL x n) i := rfl
    refine ⟨?_, ?_⟩
    · have e3 : trW x n (i + 1) = trL x n (trB x n (i + 1)) := by unfold trW; rw [if_neg (by omega)]
      rw [e3, e2, e]
      split <;> omega
    · rw [e2, e]; rfl

/-! ### units, one after another -/
/-- the next unit's place among the first k -/
def nxK (x s : Nat → Int) (t : Int) : Nat → Nat
  | 0 => 0
  | k + 1 => if x (nxK x s t k) * (t * s k + 1) < x k * (t * s (nxK x s t k) + 1) then k else nxK x s t k
theorem nxK_yes {x s : Nat → Int} {t : Int} {k : Nat} (h : x (nxK x s t k) * (t * s k + 1) < x k * (t * s (nxK x s t k) + 1)) : nxK x s t (k + 1) = k := if_pos h
theorem nxK_no {x s : Nat → Int} {t : Int} {k : Nat} (h : ¬ x (nxK x s t k) * (t * s k + 1) < x k * (t * s (nxK x s t k) + 1)) : nxK x s t (k + 1) = nxK x s t k := if_neg h
theorem nxK_lt (x s : Nat → Int) (t : Int) : ∀ k, nxK x s t (k + 1) < k + 1
  | 0 => by
    by_cases h : x (nxK x s t 0) * (t * s 0 + 1) < x 0 * (t * s (nxK x s t 0) + 1)
    · rw [nxK_yes h]; omega
    · rw [nxK_no h]; exact Nat.zero_lt_one
  | k + 1 => by
    have := nxK_lt x s t k
    by_cases h : x (nxK x s t (k + 1)) * (t * s (k + 1) + 1) < x (k + 1) * (t * s (nxK x s t (k + 1)) + 1)
    · rw [nxK_yes h]; omega
    · rw [nxK_no h]; omega
theorem nxK_one (x s : Nat → Int) (t : Int) : nxK x s t 1 = 0 := by have : nxK x s t 1 < 1 := nxK_lt x s t 0; omega
def dvS (x : Nat → Int) (n : Nat) (t : Int) : Nat → Nat → Int
  | 0 => fun _ => 0
  | u + 1 => fun j => if j = nxK x (dvS x n t u) t n then dvS x n t u j + 1 else dvS x n t u j
theorem dvS_bd (x : Nat → Int) (n : Nat) (t : Int) : ∀ u j, 0 ≤ dvS x n t u j ∧ dvS x n t u j ≤ u
  | 0, j => ⟨Int.le_refl _, Int.le_refl _⟩
  | u + 1, j => by
    have := dvS_bd x n t u j
    have e : dvS x n t (u + 1) j = if j = nxK x (dvS x n t u) t n then dvS x n t u j + 1 else dvS x n t u j := rfl
    rw [e]
    split <;> constructor <;> push_cast <;> omega
theorem dv_mul {a s t : Int} (a0 : 0 ≤ a) (a1 : a ≤ 1000000000) (s0 : 0 ≤ s) (s1 : s ≤ 1000) (ht : t = 1 ∨ t = 2) : (0 ≤ t * s ∧ t * s ≤ 2000) ∧ 0 ≤ a * (t * s + 1) ∧ a * (t * s + 1) ≤ 2001000000000 := by
  have h1 : 0 ≤ t * s ∧ t * s ≤ 2000 := by rcases ht with rfl | rfl <;> omega
  have h2 := mul_bd (N := 2001) a0 a1 (show 0 ≤ t * s + 1 by omega) (by omega)
  exact ⟨h1, h2.1, by omega⟩

/-! ### the greatest rests -/
def upd (z : Nat → Int) (i : Nat) (v : Int) : Nat → Int := fun j => if j = i then v else z j
theorem upd_same (z : Nat → Int) (i : Nat) (v : Int) : upd z i v i = v := if_pos rfl
theorem upd_ne (z : Nat → Int) {i j : Nat} (v : Int) (h : j ≠ i) : upd z i v j = z j := if_neg h
/-- the rests when t of them have been taken: taken ones are -1 -/
def rsT (z : Nat → Int) (n : Nat) : Nat → Nat → Int
  | 0 => z
  | t + 1 => upd (rsT z n t) (bX (rsT z n t) n) (-1)
/-- what has been given besides when t rests have been taken -/
def gvT (z : Nat → Int) (n : Nat) : Nat → Nat → Int
  | 0 => fun _ => 0
  | t + 1 => upd (gvT z n t) (bX (rsT z n t) n) (gvT z n t (bX (rsT z n t) n) + 1)
/-- how many of the first k are less than 0 -/
def ngK (z : Nat → Int) : Nat → Nat
  | 0 => 0
  | k + 1 => ngK z k + if z k < 0 then 1 else 0
theorem ngK_zero {z : Nat → Int} : ∀ {k : Nat}, (∀ j, j < k → 0 ≤ z j) → ngK z k = 0
  | 0, _ => rfl
  | k + 1, h => by
    have h1 := ngK_zero (k := k) (fun j hj => h j (by omega))
    have h2 := h k (by omega)
    show ngK z k + _ = 0
    rw [if_neg (by omega), h1]
theorem ngK_upd (z : Nat → Int) (i : Nat) (v : Int) : ∀ k, ngK (upd z i v) k ≤ ngK z k + if i < k then 1 else 0
  | 0 => Nat.zero_le _
  | k + 1 => by
    have h1 := ngK_upd z i v k
    show ngK (upd z i v) k + _ ≤ ngK z k + _ + _
    by_cases hi : i = k
    · subst hi
      rw [if_neg (by omega)] at h1
      rw [if_pos (show i < i + 1 by omega)]
      split <;> split <;> omega
    · rw [upd_ne z v (show k ≠ i from fun h => hi h.symm)]
      by_cases hik : i < k
      · rw [if_pos hik] at h1; rw [if_pos (show i < k + 1 by omega)]; omega
      · rw [if_neg hik] at h1; rw [if_neg (show ¬ i < k + 1 by omega)]; omega
theorem ngK_all {z : Nat → Int} : ∀ {k : Nat}, (∀ j, j < k → z j < 0) → ngK z k = k
  | 0, _ => rfl
  | k + 1, h => by
    have h1 := ngK_all (k := k) (fun j hj => h j (by omega))
    show ngK z k + _ = _
    rw [if_pos (h k (by omega)), h1]
theorem rsT_ng {z : Nat → Int} {n : Nat} (h : ∀ j, j < n → 0 ≤ z j) : ∀ t, ngK (rsT z n t) n ≤ t
  | 0 => by rw [show rsT z n 0 = z from rfl, ngK_zero h]; omega
  | t + 1 => by
    have h1 := rsT_ng h t
    have h2 := ngK_upd (rsT z n t) (bX (rsT z n t) n) (-1) n
    have h3 : (if bX (rsT z n t) n < n then 1 else 0) ≤ 1 := by split <;> omega
    show ngK (upd _ _ _) n ≤ _
    omega
/-- as long as fewer than n have been taken, one is left -/
theorem rsT_left {z : Nat → Int} {n t : Nat} (h : ∀ j, j < n → 0 ≤ z j) (ht : t < n) : 0 ≤ rsT z n t (bX (rsT z n t) n) := by
  have h1 := rsT_ng h t
  rcases Int.lt_or_le (rsT z n t (bX (rsT z n t) n)) 0 with hl | hl
  · have := ngK_all (z := rsT z n t) (k := n) (fun j hj => by have := bX_max (rsT z n t) hj; omega)
    omega
  · exact hl
theorem rsT_bd {z : Nat → Int} {n : Nat} {M : Int} (hM : 0 ≤ M) (h : ∀ j, 0 ≤ z j ∧ z j ≤ M) : ∀ t j, -1 ≤ rsT z n t j ∧ rsT z n t j ≤ M
  | 0, j => by have := h j; show -1 ≤ z j ∧ z j ≤ M; omega
  | t + 1, j => by
    have := rsT_bd (n := n) hM h t j
    show -1 ≤ upd _ _ _ j ∧ upd _ _ _ j ≤ M
    unfold upd
    split <;> omega
theorem gvT_bd (z : Nat → Int) (n : Nat) : ∀ t j, 0 ≤ gvT z n t j ∧ gvT z n t j ≤ t
  | 0, j => ⟨Int.le_refl _, Int.le_refl _⟩
  | t + 1, j => by
    have h1 := gvT_bd z n t j
    have h2 := gvT_bd z n t (bX (rsT z n t) n)
    show 0 ≤ upd _ _ _ j ∧ upd _ _ _ j ≤ _
    unfold upd
    split <;> constructor <;> push_cast <;> omega
/-- the reference's search: the first greatest of those that are not less than 0; none is told by b = k0 .. -/
def sbK (z : Nat → Int) : Nat → Int
  | 0 => -1
  | k + 1 => if 0 ≤ z k ∧ (sbK z k < 0 ∨ z (sbK z k).toNat < z k) then k else sbK z k
theorem sbK_yes {z : Nat → Int} {k : Nat} (h : 0 ≤ z k ∧ (sbK z k < 0 ∨ z (sbK z k).toNat < z k)) : sbK z (k + 1) = k := if_pos h
theorem sbK_no {z : Nat → Int} {k : Nat} (h : ¬ (0 ≤ z k ∧ (sbK z k < 0 ∨ z (sbK z k).toNat < z k))) : sbK z (k + 1) = sbK z k := if_neg h
theorem sbK_spec (z : Nat → Int) : ∀ k, (sbK z k = -1 ∧ ∀ j, j < k → z j < 0) ∨ (0 ≤ sbK z k ∧ sbK z k < k ∧ sbK z k = (bX z k : Nat) ∧ 0 ≤ z (bX z k))
  | 0 => .inl ⟨rfl, fun j hj => absurd hj (by omega)⟩
  | k + 1 => by
    rcases sbK_spec z k with ⟨h1, h2⟩ | ⟨h1, h2, h3, h4⟩
    · by_cases hz : 0 ≤ z k
      · rw [sbK_yes ⟨hz, .inl (by omega)⟩]
        have : bX z (k + 1) = k := bX_unique (by omega) (fun j hj => by
          by_cases hjk : j = k
          · rw [hjk]; exact Int.le_refl _
          · have := h2 j (by omega); omega) (fun j hj => by have := h2 j hj; omega)
        exact .inr ⟨by omega, by push_cast; omega, by rw [this], by rw [this]; exact hz⟩
      · rw [sbK_no (fun h => hz h.1)]
        exact .inl ⟨h1, fun j hj => by
          by_cases hjk : j = k
          · rw [hjk]; omega
          · exact h2 j (by omega)⟩
    · have e : (sbK z k).toNat = bX z k := by omega
      by_cases hz : z (bX z k) < z k
      · rw [sbK_yes ⟨by omega, .inr (by rw [e]; exact hz)⟩, bX_yes hz]
        exact .inr ⟨by omega, by push_cast; omega, rfl, by omega⟩
      · rw [sbK_no (fun h => by rcases h.2 with h | h
                                · omega
                                · rw [e] at h; exact hz h), bX_no hz]
        exact .inr ⟨h1, by push_cast; omega, h3, h4⟩
theorem sbK_end {z : Nat → Int} {n : Nat} (h : 0 ≤ z (bX z n)) (hn : 1 ≤ n) : sbK z n = (bX z n : Nat) := by
  rcases sbK_spec z n with ⟨_, h2⟩ | ⟨_, _, h3, _⟩
  · have := h2 _ (bX_lt z hn); omega
  · exact h3
/-- what is left when all parts have been rounded down is less than how many there are -/
theorem left_lt {x : Nat → Int} {n : Nat} {c S : Int} (hn : 1 ≤ n) (hS : psum x n = S) (S0 : 0 < S) :
    0 ≤ c - psum (fun j => c * x j / S) n ∧ c - psum (fun j => c * x j / S) n < n := by
  have key : ∀ k, k ≤ n → S * psum (fun j => c * x j / S) k ≤ c * psum x k ∧ c * psum x k ≤ S * psum (fun j => c * x j / S) k + (S - 1) * k := by
    intro k
    induction k with
    | zero => intro _; simp [psum]
    | succ k ih =>
      intro hk
      obtain ⟨i1, i2⟩ := ih (by omega)
      have e := Int.mul_ediv_add_emod (c * x k) S
      have m0 : 0 ≤ c * x k % S := Int.emod_nonneg _ (by omega)
      have m1 : c * x k % S < S := Int.emod_lt_of_pos _ S0
      rw [psum_succ, psum_succ, Int.mul_add, Int.mul_add]
      have e2 : (S - 1) * ((k + 1 : Nat) : Int) = (S - 1) * k + (S - 1) := by push_cast; rw [Int.mul_add, Int.mul_one]
      rw [e2]
      omega
  obtain ⟨k1, k2⟩ := key n (Nat.le_refl _)
  rw [hS] at k1 k2
  have e3 : c * S = S * c := Int.mul_comm _ _
  rw [e3] at k1 k2
  have hle : psum (fun j => c * x j / S) n ≤ c := Int.le_of_mul_le_mul_left k1 S0
  refine ⟨by omega, ?_⟩
  have e4 : S * (c - psum (fun j => c * x j / S) n) ≤ (S - 1) * n := by rw [Int.mul_sub]; omega
  have e5 : (S - 1) * (n : Int) < S * n := by rw [Int.sub_mul]; omega
  have e6 : S * (c - psum (fun j => c * x j / S) n) < S * n := by omega
  exact Int.lt_of_mul_lt_mul_left e6 (by omega)
end Go.Dues

/- Lists of amounts, by the reference; RefundShare, by both. -/
namespace Go.Proofs.Ytjebkagbknmdoaa
open Go.RowKit Go.Dues
def rfP (x : Nat → Int) (n : Nat) (a b : Int) : Prop := allP x n 1 32 0 1000000000000 ∧ (1 ≤ b ∧ b ≤ 10000) ∧ (0 ≤ a ∧ a ≤ b) ∧ psum x n * a / b ≤ 1000000000000
theorem rf_bd {x : Nat → Int} {n : Nat} {a b : Int} (h : allP x n 1 32 0 1000000000000) (hb : 1 ≤ b ∧ b ≤ 10000) (ha : 0 ≤ a ∧ a ≤ b) : (0 ≤ psum x n ∧ psum x n ≤ 32000000000000) ∧ (0 ≤ psum x n * a ∧ psum x n * a ≤ 320000000000000000) ∧ 0 ≤ psum x n * a / b ∧ psum x n * a / b ≤ psum x n * a := by
  have h1 := psum_top h.2 (Nat.le_refl n)
  have h2 := h.1.2
  have h3 := mul_bd (M := 32000000000000) (N := 10000) h1.1 (by omega) ha.1 (by omega)
  exact ⟨⟨h1.1, by omega⟩, ⟨h3.1, by omega⟩, Int.ediv_nonneg h3.1 (by omega), Int.ediv_le_self _ h3.1⟩
end Go.Proofs.Ytjebkagbknmdoaa

/- Pensions: the plain arithmetic of careers, of the best span, of funds and of draws; no program is read here. -/
namespace Go.Dues
open Go.RowKit
theorem psum_capM {x : Nat → Int} {n : Nat} {M : Int} (h : ∀ j, j < n → 0 ≤ x j ∧ x j ≤ M) : 0 ≤ psum x n ∧ psum x n ≤ M * n := by
  refine ⟨(psum_bd (fun j hj => (h j hj).1) (Nat.le_refl n)).1, ?_⟩
  have h1 : ∀ k, k ≤ n → psum x k ≤ M * k := by
    intro k
    induction k with
    | zero => intro _; simp [psum]
    | succ k ih =>
      intro hk
      have := ih (by omega)
      have := (h k (by omega)).2
      rw [psum_succ]; push_cast; rw [Int.mul_add]; omega
  exact h1 n (Nat.le_refl _)

/-! ### points that are split -/
def hfV (a b : Int) : Int := (a - b).tdiv 2
theorem hf_pos {a b : Int} (h : b ≤ a) : hfV a b = (a - b) / 2 := by
  unfold hfV
  rw [Int.tdiv_eq_ediv_of_nonneg (by omega)]
theorem hf_neg {a b : Int} (h : a ≤ b) : hfV a b = -((b - a) / 2) := by
  unfold hfV
  rw [show a - b = -(b - a) by omega, Int.neg_tdiv, Int.tdiv_eq_ediv_of_nonneg (by omega)]
theorem hf_bd {a b M : Int} (ha : 0 ≤ a ∧ a ≤ M) (hb : 0 ≤ b ∧ b ≤ M) : (0 ≤ a - hfV a b ∧ a - hfV a b ≤ M) ∧ (0 ≤ b + hfV a b ∧ b + hfV a b ≤ M) ∧ -M ≤ hfV a b ∧ hfV a b ≤ M := by
  rcases Int.le_total b a with h | h
  · rw [hf_pos h]; omega
  · rw [hf_neg h]; omega
/-- points of one, and of two, behind the years from f on, before t -/
def spA (x y : Nat → Int) (f t : Int) (j : Nat) : Int := if f ≤ j ∧ (j : Int) < t then x j - hfV (x j) (y j) else x j
def spB (x y : Nat → Int) (f t : Int) (j : Nat) : Int := if f ≤ j ∧ (j : Int) < t then y j + hfV (x j) (y j) else y j
theorem spA_start (x y : Nat → Int) (f : Int) (j : Nat) : spA x y f f j = x j := if_neg (by omega)
theorem spB_start (x y : Nat → Int) (f : Int) (j : Nat) : spB x y f f j = y j := if_neg (by omega)
theorem spA_step (x y : Nat → Int) {f : Int} {t : Nat} (h : f ≤ t) (j : Nat) : spA x y f ((t : Int) + 1) j = if j = t then x t - hfV (x t) (y t) else spA x y f t j := by
  unfold spA
  by_cases hj : j = t
  · subst hj; rw [if_pos (by omega), if_pos rfl]
  · rw [if_neg hj]
    by_cases hc : f ≤ j ∧ (j : Int) < t
    · rw [if_pos hc, if_pos (by omega)]
    · rw [if_neg hc, if_neg (by omega)]
theorem spB_step (x y : Nat → Int) {f : Int} {t : Nat} (h : f ≤ t) (j : Nat) : spB x y f ((t : Int) + 1) j = if j = t then y t + hfV (x t) (y t) else spB x y f t j := by
  unfold spB
  by_cases hj : j = t
  · subst hj; rw [if_pos (by omega), if_pos rfl]
  · rw [if_neg hj]
    by_cases hc : f ≤ j ∧ (j : Int) < t
    · rw [if_pos hc, if_pos (by omega)]
    · rw [if_neg hc, if_neg (by omega)]
theorem spA_at (x y : Nat → Int) (f : Int) (t : Nat) : spA x y f t t = x t := if_neg (by omega)
theorem spB_at (x y : Nat → Int) (f : Int) (t : Nat) : spB x y f t t = y t := if_neg (by omega)

/-! ### the best span -/
def bsS (x : Nat → Int) (c i : Nat) : Int := psum (fun j => x (i + j)) c
theorem bsS_bd {x : Nat → Int} {n c i : Nat} (h : ∀ j, j < n → 0 ≤ x j ∧ x j ≤ 1000000000000) (hc : i + c ≤ n) (hn : n ≤ 60) : 0 ≤ bsS x c i ∧ bsS x c i ≤ 60000000000000 := by
  have := psum_capM (x := fun j => x (i + j)) (n := c) (M := 1000000000000) (fun j hj => h (i + j) (by omega))
  unfold bsS
  omega
theorem bX_one (z : Nat → Int) : bX z 1 = 0 := by
  have := bX_lt z (n := 1) (by omega)
  omega

/-! ### funds -/
def grV (c r d : Int) : Int := rnd (c * (10000 + r)) 10000 d
theorem gr_mul {c r M : Int} (h0 : 0 ≤ c) (h1 : c ≤ M) (r0 : -9999 ≤ r) (r1 : r ≤ 10000) : 0 ≤ c * (10000 + r) ∧ c * (10000 + r) ≤ M * 20000 := mul_bd h0 h1 (by omega) (by omega)
theorem gr_bd {c r d M : Int} (h0 : 0 ≤ c) (h1 : c ≤ M) (r0 : -9999 ≤ r) (r1 : r ≤ 10000) : 0 ≤ grV c r d ∧ grV c r d ≤ 2 * M + 1 := by
  have h := gr_mul h0 h1 r0 r1
  have h2 := rnd_bounds (a := c * (10000 + r)) (b := 10000) (r := d)
  unfold grV
  omega
def frG (x r : Nat → Int) (k : Nat) (c : Int) : Int := grV (c + x k) (r k) 2
def frN (x r : Nat → Int) (f : Int) (k : Nat) (c : Int) : Int := frG x r k c - frG x r k c * f / 10000
def frV (s : Int) (x r : Nat → Int) (f : Int) : Nat → Int
  | 0 => s
  | k + 1 => frN x r f k (frV s x r f k)
theorem frV_succ (s : Int) (x r : Nat → Int) (f : Int) (k : Nat) : frV s x r f (k + 1) = frN x r f k (frV s x r f k) := rfl
theorem fr_bd {x r : Nat → Int} {f c : Int} {k : Nat} (hc : 0 ≤ c ∧ c ≤ 1000000000000) (hx : 0 ≤ x k ∧ x k ≤ 1000000000000) (hr : -9999 ≤ r k ∧ r k ≤ 10000) (hf : 0 ≤ f ∧ f ≤ 10000) :
    (0 ≤ (c + x k) * (10000 + r k) ∧ (c + x k) * (10000 + r k) ≤ 40000000000000000) ∧ (0 ≤ frG x r k c ∧ frG x r k c ≤ 4000000000001) ∧ (0 ≤ frG x r k c * f ∧ frG x r k c * f ≤ 40000000000010000) ∧ (0 ≤ frG x r k c * f / 10000 ∧ frG x r k c * f / 10000 ≤ frG x r k c) ∧ 0 ≤ frN x r f k c ∧ frN x r f k c ≤ 4000000000001 := by
  have a := gr_mul (c := c + x k) (M := 2000000000000) (by omega) (by omega) hr.1 hr.2
  have b := gr_bd (c := c + x k) (M := 2000000000000) (d := 2) (by omega) (by omega) hr.1 hr.2
  have g0 : 0 ≤ frG x r k c ∧ frG x r k c ≤ 4000000000001 := by unfold frG; omega
  have m := mul_bd (a := frG x r k c) (M := 4000000000001) (N := 10000) g0.1 g0.2 hf.1 hf.2
  have m2 := mul_bd (a := frG x r k c) (M := frG x r k c) (N := 10000) g0.1 (Int.le_refl _) hf.1 hf.2
  refine ⟨⟨a.1, by omega⟩, g0, ⟨m.1, by omega⟩, ⟨by omega, by omega⟩, ?_⟩
  unfold frN
  omega
def frOk (s : Int) (x r : Nat → Int) (f : Int) (n : Nat) : Prop := ∀ k, k < n → frV s x r f (k + 1) ≤ 1000000000000
/-! ### draws -/
def dwN (r : Nat → Int) (d : Int) (k : Nat) (c : Int) : Int := max 0 (c - d) * (10000 + r k) / 10000
def dwV (s : Int) (r : Nat → Int) (d : Int) : Nat → Int
  | 0 => s
  | k + 1 => dwN r d k (dwV s r d k)
theorem dwV_succ (s : Int) (r : Nat → Int) (d : Int) (k : Nat) : dwV s r d (k + 1) = dwN r d k (dwV s r d k) := rfl
def dwC (s : Int) (r : Nat → Int) (d : Int) : Nat → Int
  | 0 => 0
  | k + 1 => dwC s r d k + if d ≤ dwV s r d k then 1 else 0
theorem dwC_succ (s : Int) (r : Nat → Int) (d : Int) (k : Nat) : dwC s r d (k + 1) = dwC s r d k + if d ≤ dwV s r d k then 1 else 0 := rfl
theorem dw_bd {r : Nat → Int} {d c : Int} {k : Nat} (hc : 0 ≤ c ∧ c ≤ 1000000000000) (hd : 0 ≤ d) (hr : -9999 ≤ r k ∧ r k ≤ 10000) : (0 ≤ max 0 (c - d) * (10000 + r k) ∧ max 0 (c - d) * (10000 + r k) ≤ 20000000000000000) ∧ 0 ≤ dwN r d k c ∧ dwN r d k c ≤ 2000000000000 := by
  have a := gr_mul (c := max 0 (c - d)) (M := 1000000000000) (by omega) (by omega) hr.1 hr.2
  unfold dwN
  exact ⟨⟨a.1, by omega⟩, by omega⟩
def dwOk (s : Int) (r : Nat → Int) (d : Int) (n : Nat) : Prop := ∀ k, k < n → dwV s r d (k + 1) ≤ 1000000000000
theorem dwC_bd (s : Int) (r : Nat → Int) (d : Int) : ∀ k, 0 ≤ dwC s r d k ∧ dwC s r d k ≤ k
  | 0 => ⟨Int.le_refl _, Int.le_refl _⟩
  | k + 1 => by
    have := dwC_bd s r d k
    rw [dwC_succ]
    split <;> omega
theorem dw_low {r : Nat → Int} {d c : Int} {k : Nat} (h : c < d) : dwN r d k c = 0 := by
  unfold dwN
  rw [show max 0 (c - d) = 0 by omega]
  simp
theorem dwN_nn {r : Nat → Int} {d c : Int} {k : Nat} (hr : -9999 ≤ r k) : 0 ≤ dwN r d k c := by
  unfold dwN
  have := Int.mul_nonneg (show 0 ≤ max 0 (c - d) by omega) (show 0 ≤ 10000 + r k by omega)
  omega
theorem dwV_nn {s : Int} {r : Nat → Int} {d : Int} {n : Nat} (hs : 0 ≤ s) (hr : ∀ j, j < n → -9999 ≤ r j) : ∀ k, k ≤ n → 0 ≤ dwV s r d k
  | 0, _ => hs
  | k + 1, hk => by rw [dwV_succ]; exact dwN_nn (hr k (by omega))
/-- as long as all draws were taken whole the years are all; behind the first that was not, nothing is left -/
theorem dwC_first {s : Int} {r : Nat → Int} {d : Int} {n : Nat} (hs : 0 ≤ s) (hr : ∀ j, j < n → -9999 ≤ r j) : ∀ k, k ≤ n → (dwC s r d k = k) ∨ (dwC s r d k < k ∧ 0 < d ∧ dwV s r d k = 0)
  | 0, _ => .inl rfl
  | k + 1, hk => by
    rw [dwC_succ]
    rcases dwC_first hs hr k (by omega) (d := d) with h1 | ⟨h1, h2, h3⟩
    · by_cases h : d ≤ dwV s r d k
      · left
        rw [if_pos h]
        push_cast; omega
      · right
        rw [if_neg h]
        have := dwV_nn (d := d) hs hr k (by omega)
        refine ⟨by push_cast; omega, by omega, ?_⟩
        rw [dwV_succ, dw_low (by omega)]
    · right
      rw [if_neg (by omega)]
      refine ⟨by push_cast; omega, h2, ?_⟩
      rw [dwV_succ, dw_low (by omega)]

/-! ### safe draws -/
def sfL (s : Int) (r : Nat → Int) (d : Int) : Nat → Int
  | 0 => s
  | k + 1 => min 1000000000000 (dwN r d k (sfL s r d k))
theorem sfL_succ (s : Int) (r : Nat → Int) (d : Int) (k : Nat) : sfL s r d (k + 1) = min 1000000000000 (dwN r d k (sfL s r d k)) := rfl
def sfP (s : Int) (r : Nat → Int) (n : Nat) (d : Int) : Prop := ∀ k, k < n → d ≤ sfL s r d k
theorem sfL_bd {s : Int} {r : Nat → Int} {d : Int} {n : Nat} (hs : 0 ≤ s ∧ s ≤ 1000000000000) (hr : ∀ j, j < n → -9999 ≤ r j ∧ r j ≤ 10000) : ∀ k, k ≤ n → 0 ≤ sfL s r d k ∧ sfL s r d k ≤ 1000000000000
  | 0, _ => hs
  | k + 1, hk => by
    have := dwN_nn (r := r) (d := d) (c := sfL s r d k) (k := k) (hr k (by omega)).1
    rw [sfL_succ]; omega
theorem dwN_mono {r : Nat → Int} {d d' c c' : Int} {k : Nat} (hr : -9999 ≤ r k) (hd : d ≤ d') (hc : c' ≤ c) : dwN r d' k c' ≤ dwN r d k c := by
  have := Int.mul_le_mul_of_nonneg_right (show max 0 (c' - d') ≤ max 0 (c - d) by omega) (show 0 ≤ 10000 + r k by omega)
  unfold dwN
  omega
theorem sfL_mono {s : Int} {r : Nat → Int} {d d' : Int} {n : Nat} (hr : ∀ j, j < n → -9999 ≤ r j ∧ r j ≤ 10000) (hd : d ≤ d') : ∀ k, k ≤ n → sfL s r d' k ≤ sfL s r d k
  | 0, _ => Int.le_refl _
  | k + 1, hk => by
    have h1 := sfL_mono (s := s) hr hd k (by omega)
    have h2 := dwN_mono (hr k (by omega)).1 hd h1
    rw [sfL_succ, sfL_succ]; omega
theorem sfP_mono {s : Int} {r : Nat → Int} {d d' : Int} {n : Nat} (hr : ∀ j, j < n → -9999 ≤ r j ∧ r j ≤ 10000) (hd : d ≤ d') (h : sfP s r n d') : sfP s r n d := fun k hk => by
  have := sfL_mono (s := s) hr hd k (by omega)
  have := h k hk
  omega
theorem sfP_zero {s : Int} {r : Nat → Int} {n : Nat} (hs : 0 ≤ s ∧ s ≤ 1000000000000) (hr : ∀ j, j < n → -9999 ≤ r j ∧ r j ≤ 10000) : sfP s r n 0 := fun k hk => (sfL_bd hs hr k (by omega)).1
noncomputable def sfG (s : Int) (r : Nat → Int) (n : Nat) : Nat → Nat
  | 0 => 0
  | k + 1 => @ite _ (sfP s r n ((k + 1 : Nat) : Int)) (Classical.propDecidable _) (k + 1) (sfG s r n k)
theorem sfG_eq {s : Int} {r : Nat → Int} {n m v : Nat} (hv : v ≤ m) (h1 : sfP s r n v) (h2 : ∀ d : Nat, v < d → d ≤ m → ¬ sfP s r n d) : sfG s r n m = v := by
  induction m with
  | zero => obtain rfl : v = 0 := by omega
            rfl
  | succ m ih =>
    unfold sfG
    by_cases h : v = m + 1
    · subst h; exact if_pos h1
    · rw [if_neg (h2 (m + 1) (by omega) (Nat.le_refl _))]
      exact ih (by omega) (fun d hd hm => h2 d hd (by omega))

/-! ### pays that are indexed -/
def ipV (x g : Nat → Int) (i : Nat) : Nat → Int
  | 0 => x i
  | k + 1 => grV (ipV x g i k) (g (i + k)) 1
theorem ipV_succ (x g : Nat → Int) (i k : Nat) : ipV x g i (k + 1) = grV (ipV x g i k) (g (i + k)) 1 := rfl
def ipOk (x g : Nat → Int) (n : Nat) : Prop := ∀ i k, i + k < n → ipV x g i k ≤ 1000000000000
theorem ipV_nn {x g : Nat → Int} {n i : Nat} (hx : ∀ j, j < n → 0 ≤ x j ∧ x j ≤ 1000000000000) (hg : ∀ j, j + 1 < n → 0 ≤ g j ∧ g j ≤ 10000) : ∀ k, i + k < n → 0 ≤ ipV x g i k
  | 0, hk => (hx i hk).1
  | k + 1, hk => by
    have h1 := ipV_nn hx hg k (i := i) (by omega)
    have h2 := hg (i + k) (by omega)
    rw [ipV_succ]
    exact (gr_bd (M := ipV x g i k) h1 (Int.le_refl _) (by omega) (by omega)).1
/-- the list in year y, when t of its pays have been brought to the next one -/
def ipS (x g : Nat → Int) (y t j : Nat) : Int := if j < t then ipV x g j (y + 1 - j) else ipV x g j (y - j)
theorem ipS_at (x g : Nat → Int) (y t : Nat) : ipS x g y t t = ipV x g t (y - t) := if_neg (by omega)
theorem ipS_step (x g : Nat → Int) (y t j : Nat) : ipS x g y (t + 1) j = if j = t then ipV x g t (y + 1 - t) else ipS x g y t j := by
  unfold ipS
  by_cases h : j = t
  · subst h; rw [if_pos (by omega), if_pos rfl]
  · rw [if_neg h]
    by_cases h2 : j < t
    · rw [if_pos h2, if_pos (by omega)]
    · rw [if_neg h2, if_neg (by omega)]
theorem ipS_next (x g : Nat → Int) (y j : Nat) : ipS x g y (y + 1) j = ipS x g (y + 1) 0 j := by
  unfold ipS
  rw [if_neg (by omega : ¬ j < 0)]
  by_cases h : j < y + 1
  · rw [if_pos h]
  · rw [if_neg h, show y - j = 0 by omega, show y + 1 - j = 0 by omega]
theorem ipS_start (x g : Nat → Int) (j : Nat) : ipS x g 0 0 j = x j := by
  unfold ipS
  rw [if_neg (by omega : ¬ j < 0), show 0 - j = 0 by omega]
  rfl
end Go.Dues

/- Lists that are sorted: the best ones, plain; no program is read here. -/
namespace Go.Dues
open Go.RowKit
def vlL (x : Nat → Int) (n : Nat) : List Int := (List.range n).map x
def ascL (x : Nat → Int) (n : Nat) : List Int := (vlL x n).mergeSort (fun a b => decide (a ≤ b))
theorem vlL_len (x : Nat → Int) (n : Nat) : (vlL x n).length = n := by unfold vlL; simp
theorem ascL_perm (x : Nat → Int) (n : Nat) : (ascL x n).Perm (vlL x n) := List.mergeSort_perm _ _
theorem ascL_len (x : Nat → Int) (n : Nat) : (ascL x n).length = n := (ascL_perm x n).length_eq.trans (vlL_len x n)
theorem ascL_up (x : Nat → Int) (n : Nat) : (ascL x n).Pairwise (fun a b => a ≤ b) := by
  have h := List.pairwise_mergeSort (le := fun (a b : Int) => decide (a ≤ b)) (fun a b c h1 h2 => by simp at *; omega) (fun a b => by simp; omega) (vlL x n)
  exact h.imp (fun h => by simpa using h)
/-- the sum of the greatest c -/
def byS (x : Nat → Int) (n c : Nat) : Int := ((ascL x n).drop (n - c)).sum
/-- a list that falls, of the same numbers, is the one that rises, backwards -/
theorem desc_eq {x : Nat → Int} {n : Nat} {ys : List Int} (hp : ys.Perm (vlL x n)) (hd : ys.Pairwise (fun a b => b ≤ a)) : ys = (ascL x n).reverse := by
  refine List.Perm.eq_of_pairwise (le := fun a b => b ≤ a) (fun a b _ _ h1 h2 => by omega) hd ?_ (hp.trans ((ascL_perm x n).symm.trans (List.reverse_perm _).symm))
  rw [List.pairwise_reverse]
  exact ascL_up x n
theorem sum_take {ys : List Int} {f : Nat → Int} : ∀ {c : Nat}, c ≤ ys.length → (∀ j, j < c → ys[j]? = some (f j)) → psum f c = (ys.take c).sum
  | 0, _, _ => by simp [psum]
  | c + 1, hc, h => by
    have ih := sum_take (ys := ys) (f := f) (c := c) (by omega) (fun j hj => h j (by omega))
    have h1 := h c (by omega)
    rw [psum_succ, ih, List.take_add_one, h1]
    simp
theorem sum_desc {x : Nat → Int} {n c : Nat} {f : Nat → Int} {ys : List Int} (hc : c ≤ n) (hp : ys.Perm (vlL x n)) (hd : ys.Pairwise (fun a b => b ≤ a)) (hf : ∀ j, j < c → ys[j]? = some (f j)) : psum f c = byS x n c := by
  have hl : ys.length = n := hp.length_eq.trans (vlL_len x n)
  rw [sum_take (by omega) hf, desc_eq hp hd, List.take_reverse, List.sum_reverse, ascL_len]
  rfl
theorem sum_asc {x : Nat → Int} {n c : Nat} {f : Nat → Int} (hc : c ≤ n) (hf : ∀ j, j < c → (ascL x n)[n - c + j]? = some (f j)) : psum f c = byS x n c := by
  have h := sum_take (ys := (ascL x n).drop (n - c)) (f := f) (c := c) (by rw [List.length_drop, ascL_len]; omega) (fun j hj => by rw [List.getElem?_drop]; exact hf j hj)
  rw [h, List.take_of_length_le (by rw [List.length_drop, ascL_len]; omega)]
  rfl
theorem byS_bd {x : Nat → Int} {n c : Nat} (hx : ∀ j, j < n → 0 ≤ x j ∧ x j ≤ 1000000000000) (hc : c ≤ n) : 0 ≤ byS x n c ∧ byS x n c ≤ 1000000000000 * c := by
  have hm : ∀ v, v ∈ ascL x n → 0 ≤ v ∧ v ≤ 1000000000000 := by
    intro v hv
    have := (ascL_perm x n).mem_iff.1 hv
    unfold vlL at this
    rw [List.mem_map] at this
    obtain ⟨j, hj, rfl⟩ := this
    exact hx j (List.mem_range.1 hj)
  have hs : ∀ l : List Int, (∀ v, v ∈ l → 0 ≤ v ∧ v ≤ 1000000000000) → 0 ≤ l.sum ∧ l.sum ≤ 1000000000000 * l.length := by
    intro l
    induction l with
    | nil => intro _; simp
    | cons a l ih =>
      intro h
      have h1 := ih (fun v hv => h v (List.mem_cons_of_mem _ hv))
      have h2 := h a (List.mem_cons_self ..)
      rw [List.sum_cons, List.length_cons]
      push_cast
      omega
  have h := hs ((ascL x n).drop (n - c)) (fun v hv => hm v (List.mem_of_mem_drop hv))
  rw [List.length_drop, ascL_len, show n - (n - c) = c by omega] at h
  exact h
/-- v stands at place k of a list that falls but for it, and is greater than all behind it -/
def insP (zs : List Int) (k : Nat) (v : Int) : Prop := ∃ a b, zs = a ++ v :: b ∧ a.length = k ∧ (a ++ b).Pairwise (fun p q => q ≤ p) ∧ ∀ q, q ∈ b → q ≤ v
theorem ins_start {ys : List Int} {v : Int} (h : ys.Pairwise (fun p q => q ≤ p)) : insP (ys ++ [v]) ys.length v := ⟨ys, [], rfl, rfl, by simpa using h, by simp⟩
theorem ins_at {zs : List Int} {k : Nat} {v : Int} (h : insP zs k v) : zs[k]? = some v := by
  obtain ⟨a, b, rfl, rfl, _, _⟩ := h
  simp
theorem ins_end {zs : List Int} {k : Nat} {v : Int} (h : insP zs k v) (he : k = 0 ∨ ∃ u, zs[k - 1]? = some u ∧ v ≤ u) : zs.Pairwise (fun p q => q ≤ p) := by
  obtain ⟨a, b, rfl, rfl, hp, hb⟩ := h
  rw [List.pairwise_append] at hp ⊢
  obtain ⟨h1, h2, h3⟩ := hp
  refine ⟨h1, List.pairwise_cons.2 ⟨hb, h2⟩, ?_⟩
  intro p hpa q hq
  rcases List.mem_cons.1 hq with rfl | hq
  · rcases he with h0 | ⟨u, hu, hvu⟩
    · have : a = [] := List.eq_nil_of_length_eq_zero h0
      subst this
      cases hpa
    · have hne : 0 < a.length := List.length_pos_of_mem hpa
      rw [List.getElem?_append_left (by omega)] at hu
      have : u ≤ p := by
        obtain ⟨i, hi, rfl⟩ := List.getElem_of_mem hpa
        rw [List.getElem?_eq_getElem (by omega)] at hu
        injection hu with hu
        rw [← hu]
        by_cases hil : i = a.length - 1
        · subst hil; exact Int.le_refl _
        · exact List.pairwise_iff_getElem.1 h1 i (a.length - 1) (by omega) (by omega) (by omega)
      omega
  · exact h3 p hpa q hq
theorem ins_step {zs : List Int} {k : Nat} {u v : Int} (h : insP zs (k + 1) v) (hu : zs[k]? = some u) (hlt : u < v) : insP ((zs.set (k + 1) u).set k v) k v ∧ ((zs.set (k + 1) u).set k v).Perm zs := by
  obtain ⟨a, b, rfl, hl, hp, hb⟩ := h
  obtain ⟨a', w, rfl⟩ : ∃ a' w, a = a' ++ [w] := ⟨a.dropLast, a.getLast (by intro e; subst e; cases hl), (List.dropLast_concat_getLast _).symm⟩
  have hk : a'.length = k := by simpa using hl
  subst hk
  have hw : w = u := by
    rw [List.append_assoc, List.getElem?_append_right (by omega)] at hu
    simpa using hu
  subst hw
  have e : (((a' ++ [w]) ++ v :: b).set (a'.length + 1) w).set a'.length v = a' ++ v :: (w :: b) := by
    simp [List.set_append]
  rw [e]
  refine ⟨⟨a', w :: b, rfl, rfl, by simpa using hp, ?_⟩, ?_⟩
  · intro q hq
    rcases List.mem_cons.1 hq with rfl | hq
    · omega
    · have h2 := hp
      rw [List.pairwise_append] at h2
      have := h2.2.2 w (by simp) q hq
      omega
  · rw [List.append_assoc]
    exact List.Perm.append_left _ (List.Perm.swap _ _ _)
end Go.Dues

/- Incomes: lists in ascending order and their sums, unevenness, ranks; no program is read here. -/
namespace Go.Dues
open Go.RowKit
theorem pc_congr {x y : Nat → Int} : ∀ {n : Nat}, (∀ j, j < n → x j = y j) → psum x n = psum y n
  | 0, _ => rfl
  | n + 1, h => by rw [psum_succ, psum_succ, pc_congr (fun j hj => h j (by omega)), h n (by omega)]
theorem pc_add (x y : Nat → Int) : ∀ n : Nat, psum (fun j => x j + y j) n = psum x n + psum y n
  | 0 => by simp [psum]
  | n + 1 => by rw [psum_succ, psum_succ, psum_succ, pc_add x y n]; omega
/-- v stands at place k of the first m + 1 of a list, which rise but for it, and is not greater than those between it and their end -/
def inaP (zs : List Int) (k m : Nat) (v : Int) : Prop := ∃ a b r, zs = a ++ v :: (b ++ r) ∧ a.length = k ∧ a.length + b.length = m ∧ (a ++ b).Pairwise (fun p q => p ≤ q) ∧ ∀ q, q ∈ b → v ≤ q
theorem ina_start {zs : List Int} {i : Nat} {v : Int} (h : (zs.take i).Pairwise (fun p q => p ≤ q)) (hv : zs[i]? = some v) : inaP zs i i v := by
  have hl : i < zs.length := by
    rcases Nat.lt_or_ge i zs.length with h | h
    · exact h
    · rw [List.getElem?_eq_none h] at hv; cases hv
  refine ⟨zs.take i, [], zs.drop (i + 1), ?_, by rw [List.length_take]; omega, by rw [List.length_take]; simp; omega, by simpa using h, by simp⟩
  rw [List.getElem?_eq_getElem hl] at hv
  injection hv with hv
  rw [List.nil_append, ← hv, List.getElem_cons_drop, List.take_append_drop]
theorem ina_at {zs : List Int} {k m : Nat} {v : Int} (h : inaP zs k m v) : zs[k]? = some v := by
  obtain ⟨a, b, r, rfl, rfl, _⟩ := h
  simp
theorem ina_end {zs : List Int} {k m : Nat} {v : Int} (h : inaP zs k m v) (he : k = 0 ∨ ∃ u, zs[k - 1]? = some u ∧ u ≤ v) : (zs.take (m + 1)).Pairwise (fun p q => p ≤ q) := by
  obtain ⟨a, b, r, rfl, rfl, rfl, hp, hb⟩ := h
  have e : (a ++ v :: (b ++ r)).take (a.length + b.length + 1) = a ++ v :: b := by
    rw [show a ++ v :: (b ++ r) = (a ++ v :: b) ++ r by simp, List.take_append_of_le_length (by simp; omega)]
    exact List.take_of_length_le (by simp; omega)
  rw [e]
  rw [List.pairwise_append] at hp ⊢
  obtain ⟨h1, h2, h3⟩ := hp
  refine ⟨h1, List.pairwise_cons.2 ⟨hb, h2⟩, ?_⟩
  intro p hpa q hq
  rcases List.mem_cons.1 hq with rfl | hq
  · rcases he with h0 | ⟨u, hu, hvu⟩
    · have : a = [] := List.eq_nil_of_length_eq_zero h0
      subst this
      cases hpa
    · have hne : 0 < a.length := List.length_pos_of_mem hpa
      rw [List.getElem?_append_left (by omega)] at hu
      have : p ≤ u := by
        obtain ⟨i, hi, rfl⟩ := List.getElem_of_mem hpa
        rw [List.getElem?_eq_getElem (by omega)] at hu
        injection hu with hu
        rw [← hu]
        by_cases hil : i = a.length - 1
        · subst hil; exact Int.le_refl _
        · exact List.pairwise_iff_getElem.1 h1 i (a.length - 1) (by omega) (by omega) (by omega)
      omega
  · exact h3 p hpa q hq
theorem ina_step {zs : List Int} {k m : Nat} {u v : Int} (h : inaP zs (k + 1) m v) (hu : zs[k]? = some u) (hlt : v < u) : inaP ((zs.set (k + 1) u).set k v) k m v ∧ ((zs.set (k + 1) u).set k v).Perm zs := by
  obtain ⟨a, b, r, rfl, hl, rfl, hp, hb⟩ := h
  obtain ⟨a', w, rfl⟩ : ∃ a' w, a = a' ++ [w] := ⟨a.dropLast, a.getLast (by intro e; subst e; cases hl), (List.dropLast_concat_getLast _).symm⟩
  have hk : a'.length = k := by simpa using hl
  subst hk
  have hw : w = u := by
    rw [List.append_assoc, List.getElem?_append_right (by omega)] at hu
    simpa using hu
  subst hw
  have e : (((a' ++ [w]) ++ v :: (b ++ r)).set (a'.length + 1) w).set a'.length v = a' ++ v :: ((w :: b) ++ r) := by
    simp [List.set_append]
  rw [e]
  refine ⟨⟨a', w :: b, r, rfl, rfl, by simp; omega, by simpa using hp, ?_⟩, ?_⟩
  · intro q hq
    rcases List.mem_cons.1 hq with rfl | hq
    · omega
    · exact hb q hq
  · rw [List.append_assoc]
    exact List.Perm.append_left _ (List.Perm.swap _ _ _)
theorem asc_eq {x : Nat → Int} {n : Nat} {ys : List Int} (hp : ys.Perm (vlL x n)) (hd : ys.Pairwise (fun a b => a ≤ b)) : ys = ascL x n :=
  List.Perm.eq_of_pairwise (le := fun a b => a ≤ b) (fun a b _ _ h1 h2 => by omega) hd (ascL_up x n) (hp.trans (ascL_perm x n).symm)
/-- the number with an index in ascending order -/
def ascF (x : Nat → Int) (n j : Nat) : Int := (ascL x n)[j]?.getD 0
theorem ascF_at {x : Nat → Int} {n j : Nat} (h : j < n) : (ascL x n)[j]? = some (ascF x n j) := by
  unfold ascF
  rw [List.getElem?_eq_getElem (by rw [ascL_len]; exact h)]
  rfl
theorem ascF_bd {x : Nat → Int} {n j : Nat} {lo hi : Int} (h : ∀ j, j < n → lo ≤ x j ∧ x j ≤ hi) (hj : j < n) : lo ≤ ascF x n j ∧ ascF x n j ≤ hi := by
  have hm := (ascL_perm x n).mem_iff.1 (List.mem_of_getElem? (ascF_at (x := x) hj))
  unfold vlL at hm
  rw [List.mem_map] at hm
  obtain ⟨i, hi, he⟩ := hm
  rw [← he]
  exact h i (List.mem_range.1 hi)
theorem psum_list (x : Nat → Int) (n : Nat) : psum x n = (vlL x n).sum := by
  have h := sum_take (ys := vlL x n) (f := x) (c := n) (by rw [vlL_len]; exact Nat.le_refl _) (fun j hj => by unfold vlL; rw [List.getElem?_map, List.getElem?_range hj]; rfl)
  rw [h, List.take_of_length_le (by rw [vlL_len]; exact Nat.le_refl _)]
theorem perm_sum {a b : List Int} (h : a.Perm b) : a.sum = b.sum := by
  induction h with
  | nil => rfl
  | cons v _ ih => rw [List.sum_cons, List.sum_cons, ih]
  | swap u v l => simp only [List.sum_cons]; omega
  | trans _ _ h1 h2 => exact h1.trans h2
theorem psum_asc (x : Nat → Int) (n : Nat) : psum (ascF x n) n = psum x n := by
  have h := sum_take (ys := ascL x n) (f := ascF x n) (c := n) (by rw [ascL_len]; exact Nat.le_refl _) (fun j hj => ascF_at hj)
  rw [h, List.take_of_length_le (by rw [ascL_len]; exact Nat.le_refl _), psum_list]
  exact perm_sum (ascL_perm x n)
/-- how far apart two numbers are -/
def difI (a b : Int) : Int := max (a - b) (b - a)
theorem dif_bd {a b : Int} (ha : 0 ≤ a ∧ a ≤ 1000000000) (hb : 0 ≤ b ∧ b ≤ 1000000000) : 0 ≤ difI a b ∧ difI a b ≤ 1000000000 := by unfold difI; omega
theorem dif_comm (a b : Int) : difI a b = difI b a := by unfold difI; omega
def unS (x : Nat → Int) (n : Nat) : Int := psum (fun i => psum (fun k => difI (x i) (x k)) i) n
def unT (x : Nat → Int) (n : Nat) : Int := psum (fun i => psum (fun k => difI (x i) (x (i + 1 + k))) (n - 1 - i)) n
theorem un_eq (x : Nat → Int) : ∀ n, unT x n = unS x n
  | 0 => rfl
  | n + 1 => by
    have ih := un_eq x n
    have h1 : unT x (n + 1) = psum (fun i => psum (fun k => difI (x i) (x (i + 1 + k))) (n - 1 - i) + difI (x i) (x n)) n := by
      unfold unT
      rw [psum_succ]
      have h0 : psum (fun k => difI (x n) (x (n + 1 + k))) (n + 1 - 1 - n) = 0 := by rw [show n + 1 - 1 - n = 0 by omega]; rfl
      rw [h0, Int.add_zero]
      refine pc_congr (fun j hj => ?_)
      show psum (fun k => difI (x j) (x (j + 1 + k))) (n + 1 - 1 - j) = _
      rw [show n + 1 - 1 - j = (n - 1 - j) + 1 by omega, psum_succ, show j + 1 + (n - 1 - j) = n by omega]
    have h2 : unS x (n + 1) = unS x n + psum (fun k => difI (x n) (x k)) n := rfl
    rw [h1, h2, pc_add, ← ih]
    congr 1
    exact pc_congr (fun j _ => dif_comm _ _)
theorem row_bd {x : Nat → Int} {n : Nat} (hx : ∀ j, j < n → 0 ≤ x j ∧ x j ≤ 1000000000) {v : Int} (hv : 0 ≤ v ∧ v ≤ 1000000000) {m : Nat} (hm : m ≤ n) : 0 ≤ psum (fun k => difI v (x k)) m ∧ psum (fun k => difI v (x k)) m ≤ 1000000000 * m :=
  psum_capM (fun j hj => dif_bd hv (hx j (by omega)))
theorem unS_bd {x : Nat → Int} {n : Nat} (hn : n ≤ 64) (hx : ∀ j, j < n → 0 ≤ x j ∧ x j ≤ 1000000000) : ∀ {p : Nat}, p ≤ n → 0 ≤ unS x p ∧ unS x p ≤ 64000000000 * p := fun {p} hp =>
  psum_capM (x := fun i => psum (fun k => difI (x i) (x k)) i) (n := p) (M := 64000000000) (fun i hi => by
    have := row_bd hx (hx i (by omega)) (m := i) (by omega)
    show 0 ≤ psum (fun k => difI (x i) (x k)) i ∧ psum (fun k => difI (x i) (x k)) i ≤ 64000000000
    omega)
theorem unT_bd {x : Nat → Int} {n : Nat} (hn : n ≤ 64) (hx : ∀ j, j < n → 0 ≤ x j ∧ x j ≤ 1000000000) {p : Nat} (hp : p ≤ n) : 0 ≤ psum (fun i => psum (fun k => difI (x i) (x (i + 1 + k))) (n - 1 - i)) p ∧ psum (fun i => psum (fun k => difI (x i) (x (i + 1 + k))) (n - 1 - i)) p ≤ 64000000000 * p :=
  psum_capM (x := fun i => psum (fun k => difI (x i) (x (i + 1 + k))) (n - 1 - i)) (n := p) (M := 64000000000) (fun i hi => by
    have := psum_capM (x := fun k => difI (x i) (x (i + 1 + k))) (n := n - 1 - i) (M := 1000000000) (fun j hj => dif_bd (hx i (by omega)) (hx _ (by omega)))
    show 0 ≤ psum (fun k => difI (x i) (x (i + 1 + k))) (n - 1 - i) ∧ psum (fun k => difI (x i) (x (i + 1 + k))) (n - 1 - i) ≤ 64000000000
    omega)
/-! ### fractions -/
def gcd9 (a b : Int) : Int := (Nat.gcd a.toNat b.toNat : Nat)
theorem gcd9_bd {a b : Int} (h : 1 ≤ b) : 1 ≤ gcd9 a b ∧ gcd9 a b ≤ b := by
  unfold gcd9
  have h1 : 0 < Nat.gcd a.toNat b.toNat := Nat.gcd_pos_of_pos_right _ (by omega)
  have h2 : Nat.gcd a.toNat b.toNat ≤ b.toNat := Nat.gcd_le_right _ (by omega)
  omega
theorem gcd9_sym (a b : Int) : gcd9 a b = gcd9 b a := by unfold gcd9; rw [Nat.gcd_comm]
/-! ### the poor, and ranks -/
def poN (x : Nat → Int) (l : Int) (n : Nat) : Int := psum (fun j => if x j < l then 1 else 0) n
def poG (x : Nat → Int) (l : Int) (n : Nat) : Int := psum (fun j => if x j < l then l - x j else 0) n
theorem poN_bd (x : Nat → Int) (l : Int) (n : Nat) : 0 ≤ poN x l n ∧ poN x l n ≤ n := by
  have h := psum_capM (x := fun j => if x j < l then (1 : Int) else 0) (n := n) (M := 1) (fun j _ => by split <;> omega)
  unfold poN
  omega
theorem poG_bd {x : Nat → Int} {l : Int} {n : Nat} (hl : 0 ≤ l ∧ l ≤ 1000000000) (hx : ∀ j, j < n → 0 ≤ x j ∧ x j ≤ 1000000000) {k : Nat} (hk : k ≤ n) : 0 ≤ poG x l k ∧ poG x l k ≤ 1000000000 * k :=
  psum_capM (fun j hj => by have := hx j (by omega); split <;> omega)
theorem poN_yes {x : Nat → Int} {l : Int} {k : Nat} (h : x k < l) : poN x l (k + 1) = poN x l k + 1 := by unfold poN; rw [psum_succ, if_pos h]
theorem poN_no {x : Nat → Int} {l : Int} {k : Nat} (h : ¬ x k < l) : poN x l (k + 1) = poN x l k := by unfold poN; rw [psum_succ, if_neg h, Int.add_zero]
theorem poG_yes {x : Nat → Int} {l : Int} {k : Nat} (h : x k < l) : poG x l (k + 1) = poG x l k + (l - x k) := by unfold poG; rw [psum_succ, if_pos h]
theorem poG_no {x : Nat → Int} {l : Int} {k : Nat} (h : ¬ x k < l) : poG x l (k + 1) = poG x l k := by unfold poG; rw [psum_succ, if_neg h, Int.add_zero]
def crI (a b c d : Int) : Int := if (a < b ∧ d < c) ∨ (b < a ∧ c < d) then 1 else 0
def crS (x y : Nat → Int) (n : Nat) : Int := psum (fun i => psum (fun k => crI (x i) (x k) (y i) (y k)) i) n
theorem cr_row (x y : Nat → Int) (i m : Nat) : 0 ≤ psum (fun k => crI (x i) (x k) (y i) (y k)) m ∧ psum (fun k => crI (x i) (x k) (y i) (y k)) m ≤ m := by
  have h := psum_capM (x := fun k => crI (x i) (x k) (y i) (y k)) (n := m) (M := 1) (fun j _ => by unfold crI; split <;> omega)
  omega
theorem crS_bd (x y : Nat → Int) {p : Nat} (hp : p ≤ 64) : 0 ≤ crS x y p ∧ crS x y p ≤ 64 * p :=
  psum_capM (fun i hi => by have := cr_row x y i i; omega)
theorem cr_mul {a b c d : Int} : (a - b) * (c - d) < 0 ↔ (a < b ∧ d < c) ∨ (b < a ∧ c < d) := by
  constructor
  · intro h
    rcases Int.lt_trichotomy a b with h1 | h1 | h1
    · rcases Int.lt_trichotomy d c with h2 | h2 | h2
      · exact .inl ⟨h1, h2⟩
      · subst h2; simp at h
      · have := Int.mul_nonneg_of_nonpos_of_nonpos (a := a - b) (b := c - d) (by omega) (by omega); omega
    · subst h1; simp at h
    · rcases Int.lt_trichotomy c d with h2 | h2 | h2
      · exact .inr ⟨h1, h2⟩
      · subst h2; simp at h
      · have := Int.mul_nonneg (a := a - b) (b := c - d) (by omega) (by omega); omega
  · rintro (⟨h1, h2⟩ | ⟨h1, h2⟩)
    · exact Int.mul_neg_of_neg_of_pos (by omega) (by omega)
    · exact Int.mul_neg_of_pos_of_neg (by omega) (by omega)
theorem cr_prod {a b c d : Int} (ha : 0 ≤ a ∧ a ≤ 1000000000) (hb : 0 ≤ b ∧ b ≤ 1000000000) (hc : 0 ≤ c ∧ c ≤ 1000000000) (hd : 0 ≤ d ∧ d ≤ 1000000000) : -1000000000000000000 ≤ (a - b) * (c - d) ∧ (a - b) * (c - d) ≤ 1000000000000000000 := by
  rcases Int.le_total b a with h1 | h1 <;> rcases Int.le_total d c with h2 | h2
  · have := mul_bd (a := a - b) (b := c - d) (M := 1000000000) (N := 1000000000) (by omega) (by omega) (by omega) (by omega); omega
  · have := mul_bd (a := a - b) (b := d - c) (M := 1000000000) (N := 1000000000) (by omega) (by omega) (by omega) (by omega)
    have e : (a - b) * (c - d) = -((a - b) * (d - c)) := by rw [← Int.mul_neg]; congr 1; omega
    omega
  · have := mul_bd (a := b - a) (b := c - d) (M := 1000000000) (N := 1000000000) (by omega) (by omega) (by omega) (by omega)
    have e : (a - b) * (c - d) = -((b - a) * (c - d)) := by rw [← Int.neg_mul]; congr 1; omega
    omega
  · have := mul_bd (a := b - a) (b := d - c) (M := 1000000000) (N := 1000000000) (by omega) (by omega) (by omega) (by omega)
    have e : (a - b) * (c - d) = (b - a) * (d - c) := by rw [← Int.neg_mul_neg]; congr 1 <;> omega
    omega
end Go.Dues

/- slices.Sort at this program, laid by the kit's command. -/
namespace Go.Proofs
open Go.Shelf
def Try.laysSlM5_fX_ren : Go.Shelf.Ren := ⟨fun | 5 => 115 | 8 => 169 | 7 => 168 | 19 => 200 | 20 => 201 | 10 => 191 | 11 => 192 | 12 => 193 | 13 => 194 | 14 => 195 | 15 => 196 | 16 => 197 | 17 => 198 | 18 => 199 | 30 => 215 | 31 => 216 | 32 => 217 | 33 => 218 | 34 => 219 | 35 => 220 | 40 => 225 | n => n, fun | 23 => 37 | 25 => 2 | 3 => 3 | 32 => 178 | 22 => 37 | 0 => 0 | 44 => 200 | 46 => 166 | 4 => 4 | 36 => 192 | 35 => 191 | 41 => 197 | 5 => 5 | 9 => 9 | 53 => 209 | 57 => 213 | 63 => 219 | 64 => 220 | n => n, fun | n => n⟩
theorem Try.laysSlM5_fX : Go.Proofs.SlLaysM.n5 Try.prog Try.laysSlM5_fX_ren := {
  mixed := by kernel_rfl
  f5 := ⟨Try.f115.name, by decide, Try.func115.trans (congrArg some (by kernel_rfl))⟩
  f7 := ⟨Try.f168.name, by decide, Try.func168.trans (congrArg some (by kernel_rfl))⟩
  f8 := Try.func169.trans (congrArg some (by kernel_rfl))
  f10 := ⟨Try.f191.name, by decide, Try.func191.trans (congrArg some (by kernel_rfl))⟩
  f11 := ⟨Try.f192.name, by decide, Try.func192.trans (congrArg some (by kernel_rfl))⟩
  f12 := ⟨Try.f193.name, by decide, Try.func193.trans (congrArg some (by kernel_rfl))⟩
  f13 := ⟨Try.f194.name, by decide, Try.func194.trans (congrArg some (by kernel_rfl))⟩
  f14 := ⟨Try.f195.name, by decide, Try.func195.trans (congrArg some (by kernel_rfl))⟩
  f15 := ⟨Try.f196.name, by decide, Try.func196.trans (congrArg some (by kernel_rfl))⟩
  f16 := ⟨Try.f197.name, by decide, Try.func197.trans (congrArg some (by kernel_rfl))⟩
  f17 := ⟨Try.f198.name, by decide, Try.func198.trans (congrArg some (by kernel_rfl))⟩
  f18 := ⟨Try.f199.name, by decide, Try.func199.trans (congrArg some (by kernel_rfl))⟩
  f19 := Try.func200.trans (congrArg some (by kernel_rfl))
  f20 := Try.func201.trans (congrArg some (by kernel_rfl))
  f30 := ⟨Try.f215.name, by decide, Try.func215.trans (congrArg some (by kernel_rfl))⟩
  f31 := Try.func216.trans (congrArg some (by kernel_rfl))
  f32 := Try.func217.trans (congrArg some (by kernel_rfl))
  f33 := ⟨Try.f218.name, by decide, Try.func218.trans (congrArg some (by kernel_rfl))⟩
  f34 := ⟨Try.f219.name, by decide, Try.func219.trans (congrArg some (by kernel_rfl))⟩
  f35 := ⟨Try.f220.name, by decide, Try.func220.trans (congrArg some (by kernel_rfl))⟩
  f40 := ⟨Try.f225.name, by decide, Try.func225.trans (congrArg some (by kernel_rfl))⟩
  t0 := Try.underlying0
  a0 := Try.isAgg0
  z0 := Try.sizeOf0
  v0 := Try.zeroValue0
  t3 := Try.underlying3
  a3 := Try.isAgg3
  z3 := Try.sizeOf3
  v3 := Try.zeroValue3
  t4 := Try.underlying4
  a4 := Try.isAgg4
  z4 := Try.sizeOf4
  v4 := Try.zeroValue4
  t5 := Try.underlying5
  a5 := Try.isAgg5
  z5 := Try.sizeOf5
  v5 := Try.zeroValue5
  t9 := Try.underlying9
  a9 := Try.isAgg9
  z9 := Try.sizeOf9
  v9 := Try.zeroValue9
  t22 := Try.underlying37
  a22 := Try.isAgg37
  z22 := Try.sizeOf37
  v22 := Try.zeroValue37
  t23 := Try.underlying37
  a23 := Try.isAgg37
  z23 := Try.sizeOf37
  v23 := Try.zeroValue37
  t25 := Try.underlying2
  a25 := Try.isAgg2
  z25 := Try.sizeOf2
  v25 := Try.zeroValue2
  t32 := Try.underlying178
  a32 := Try.isAgg178
  z32 := Try.sizeOf178
  v32 := Try.zeroValue178
  t35 := Try.underlying191
  a35 := Try.isAgg191
  z35 := Try.sizeOf191
  v35 := Try.zeroValue191
  t36 := Try.underlying192
  a36 := Try.isAgg192
  z36 := Try.sizeOf192
  v36 := Try.zeroValue192
  t41 := Try.underlying197
  a41 := Try.isAgg197
  z41 := Try.sizeOf197
  v41 := Try.zeroValue197
  t44 := Try.underlying200
  a44 := Try.isAgg200
  z44 := Try.sizeOf200
  v44 := Try.zeroValue200
  t46 := Try.underlying166
  a46 := Try.isAgg166
  z46 := Try.sizeOf166
  v46 := Try.zeroValue166
  t53 := Try.underlying209
  a53 := Try.isAgg209
  z53 := Try.sizeOf209
  v53 := Try.zeroValue209
  t57 := Try.underlying213
  a57 := Try.isAgg213
  z57 := Try.sizeOf213
  v57 := Try.zeroValue213
  t63 := Try.underlying219
  a63 := Try.isAgg219
  z63 := Try.sizeOf219
  v63 := Try.zeroValue219
  t64 := Try.underlying220
  a64 := Try.isAgg220
  z64 := Try.sizeOf220
  v64 := Try.zeroValue220 }
open Go.Sort Go.RowKit in
theorem Try.slices_Sort_int (blk off cap : Nat) (zs : List Int) (w : World) (hH : Holds (Value.int .i64) w blk off zs.toArray) (hblk : blk < w.heap.size) (hsz : zs.length < 4611686018427387904) :
    Calls Try.prog 115 #[.slice (some ⟨blk, off, none⟩) zs.length cap] w fun e w' =>
      e = .returned (.tuple #[]) ∧ ∃ n os, w' = grow (putRow (Value.int .i64) (Sort.ahead w n) blk off (zs.mergeSort fun x y => decide (x ≤ y)).toArray) os := AnyM.slices_Sort_int Try.laysSlM5_fX blk off cap zs w hH hblk hsz
end Go.Proofs

/- Incomes: lists within bounds, sums, lists in ascending order, fractions, by both. -/
namespace Go.Proofs.Ytjebkagbknmdoaa
open Go.RowKit Go.Dues
def vI9 (z : Int) : Value := .int .i64 z
theorem map_at9 {zs : List Int} {k : Nat} {v : Int} (h : zs[k]? = some v) : (zs.map vI9)[k]? = some (.int .i64 v) := by rw [List.getElem?_map, h]; rfl
theorem map_set9 (zs : List Int) (k : Nat) (v : Int) : (zs.map vI9).set k (.int .i64 v) = (zs.set k v).map vI9 := by rw [List.map_set]; rfl
theorem own_cap9 {w : World} {B n d : Nat} {e : TypeId} {G : Option Addr} {xs : List Value} (h : w.ownsRow B e 1 (.slice G n d) n xs) : n ≤ d := by
  rcases h.2 with ⟨_, h0⟩ | ⟨g, cap, cur, h1, h2, h3, h4, _⟩
  · omega
  · injection h1 with _ _ h1
    omega
theorem row_eq9 {xs : List Value} {n : Nat} {x : Nat → Int} (hl : xs.length = n) (h : ∀ j, j < n → xs[j]? = some (.int .i64 (x j))) : xs = (vlL x n).map vI9 := by
  apply List.ext_getElem?
  intro j
  by_cases hj : j < n
  · rw [h j hj, List.getElem?_map]
    unfold vlL
    rw [List.getElem?_map, List.getElem?_range hj]
    rfl
  · rw [List.getElem?_eq_none (by omega), List.getElem?_eq_none (by rw [List.length_map, vlL_len]; omega)]
theorem map_range9 (x : Nat → Int) (n : Nat) : ((List.range n).map fun j => Value.int .i64 (x j)) = (vlL x n).map vI9 := by unfold vlL; rw [List.map_map]; rfl
theorem asc_at9 {x : Nat → Int} {n j : Nat} (h : j < n) : ((ascL x n).map vI9)[j]? = some (.int .i64 (ascF x n j)) := map_at9 (ascF_at h)
/-- a row that the call made, with the list in ascending order -/
def Asc9 (w w' : World) (e : Ending) (x : Nat → Int) (n : Nat) : Prop :=
  ∃ g d, e = .returned (.slice (some ⟨g, 0, none⟩) n d) ∧ n ≤ d ∧ OW w' w.heap.size w'.heap.size (some ⟨g, 0, none⟩) n (fun j => .int .i64 (ascF x n j)) ∧ Below w.heap.size w w'
theorem asc9_of {w w' : World} {x : Nat → Int} {n g d : Nat} (h : w'.ownsRow w.heap.size 2 1 (.slice (some ⟨g, 0, none⟩) n d) n ((ascL x n).map vI9)) (hb : Below w.heap.size w w') : Asc9 w w' (.returned (.slice (some ⟨g, 0, none⟩) n d)) x n :=
  ⟨g, d, rfl, own_cap9 h, OW.of_owns h (fun j hj => asc_at9 hj), hb⟩
/-- the last ones of a row -/
theorem SL.last {w : World} {g n D c : Nat} {f : Nat → Value} (h : SL w (some ⟨g, 0, none⟩) n f) (hD : D + c = n) : SL w (some ⟨g, D, none⟩) c (fun j => f (D + j)) := by
  rcases h with h | ⟨b, off, h1, h2, h3⟩
  · exact .inl (by omega)
  · injection h1 with h1
    injection h1 with h1 h4
    subst h1 h4
    exact .inr ⟨g, D, rfl, h2, fun j hj => by have := h3 (D + j) (by omega); rwa [Nat.zero_add] at this⟩
set_option maxRecDepth 100000 in
set_option maxHeartbeats 4000000 in
theorem specIncomes_any (A : Option Addr) (n c : Nat) (x : Nat → Int) (w : World) (hn : n ≤ maxLen) (hs : SL w A n (fun j => .int .i64 (x j))) :
    Calls Try.prog 132 #[.slice A n c] w fun e w' => e = .returned (.bool (tru (allP x n 1 64 (0) 1000000000))) ∧ w = w' := by
  unfold maxLen at hn
  have HC := cells_a hs
  clear hs
  go_enter Try.func132, Try.ntmps132
  go_wp2
  go_loop [3, 6] (fun _ i => ∃ k : Nat, k ≤ n ∧ i = .int .i64 k ∧ Hid (∀ j, j < k → (0) ≤ x j ∧ x j ≤ 1000000000)) (fun _ i => n - (intOf i).toNat)
  case atStart => exact ⟨0, Nat.zero_le _, rfl, fun j hj => absurd hj (by omega)⟩
  case round =>
    obtain ⟨k, hk, rfl, hg⟩ := hrel
    by_cases hlt : k < n
    · obtain ⟨b1, off, rfl, hb1, hxk⟩ := HC.out k hlt
      cases hp : inB (x k) (0) 1000000000
      · have HT := hide (tru_no (show ¬ allP x n 1 64 (0) 1000000000 from fun h => by rw [inB_yes (h.2 k hlt)] at hp; cases hp))
        go_wp2_with (go_at_call 92; refine (specIn_any _ _ _ _ ).mono ?_; rintro e w' ⟨rfl, rfl⟩)
        go_ret
        exact ⟨retBa HT.out.symm, rfl⟩
      · have HE := hide (inB_iff.1 hp)
        go_wp2_with (go_at_call 92; refine (specIn_any _ _ _ _ ).mono ?_; rintro e w' ⟨rfl, rfl⟩)
        clear hp
        go_round
        case rel => exact ⟨k + 1, by omega, by go_num, by
          intro j hj
          by_cases hjk : j = k
          · subst hjk; exact HE.out
          · exact hg.out j (by omega)⟩
        case measure => simp [intOf]; omega
    · obtain rfl : k = n := by omega
      by_cases h1 : (1 : Int) ≤ (k : Int)
      · have h1d : decide ((1 : Int) ≤ (k : Int)) = true := decide_eq_true h1
        by_cases h2 : (k : Int) ≤ 64
        · have h2d : decide ((k : Int) ≤ 64) = true := decide_eq_true h2
          have HT := hide (tru_yes (show allP x k 1 64 (0) 1000000000 from ⟨⟨h1, h2⟩, hg.out⟩))
          go_wp2
          go_ret
          exact ⟨retBa HT.out.symm, rfl⟩
        · have h2d : decide ((k : Int) ≤ 64) = false := decide_eq_false h2
          have HT := hide (tru_no (show ¬ allP x k 1 64 (0) 1000000000 from fun h => h2 h.1.2))
          go_wp2
          go_ret
          exact ⟨retBa HT.out.symm, rfl⟩
      · have h1d : decide ((1 : Int) ≤ (k : Int)) = false := decide_eq_false h1
        have HT := hide (tru_no (show ¬ allP x k 1 64 (0) 1000000000 from fun h => h1 h.1.1))
        go_wp2
        go_ret
        exact ⟨retBa HT.out.symm, rfl⟩
set_option maxHeartbeats 4000000 in
theorem specAll9_any (A : Option Addr) (n c : Nat) (x : Nat → Int) (w : World) (hn : n ≤ 1048576) (hx : ∀ j, j < n → -1000000000000 ≤ x j ∧ x j ≤ 1000000000000) (hs : SL w A n (fun j => .int .i64 (x j))) :
    Calls Try.prog 133 #[.slice A n c] w fun e w' => e = .returned (.int .i64 (psum x n)) ∧ w = w' := by
  have HC := cells_a hs
  have HX := hide hx
  clear hs hx
  go_enter Try.func133, Try.ntmps133
  go_wp2
  go_loop [3, 4, 7] (fun s _ i => ∃ (k : Nat) (S : Int), k ≤ n ∧ i = .int .i64 k ∧ s = .int .i64 S ∧ Hid (S = psum x k)) (fun _ _ i => n - (intOf i).toNat)
  case atStart => exact ⟨0, 0, Nat.zero_le _, rfl, rfl, rfl⟩
  case round =>
    obtain ⟨k, S, hk, rfl, rfl, hS⟩ := hrel
    by_cases hlt : k < n
    · obtain ⟨b1, off, rfl, hb1, hxk⟩ := HC.out k hlt
      obtain ⟨x0, x1⟩ := HX.out k hlt
      obtain ⟨s0, s1⟩ := psum_abs HX.out k hk
      rw [← hS.out] at s0 s1
      have s2 : -1048576000000000000 ≤ S := by omega
      have s3 : S ≤ 1048576000000000000 := by omega
      clear s0 s1
      go_wp2
      go_round
      case rel => exact ⟨k + 1, _, by omega, by go_num, rfl, by show S + x k = psum x (k + 1); rw [psum_succ, hS.out]⟩
      case measure => simp [intOf]; omega
    · have HE := hide (show S = psum x n by rw [hS.out]; rw [show k = n by omega])
      go_wp2
      go_ret
      exact ⟨reti HE.out, rfl⟩
end Go.Proofs.Ytjebkagbknmdoaa

/- EvennessCurve, ShareOfTop, TenParts, by both. -/
namespace Go.Proofs.Ytjebkagbknmdoaa
open Go.RowKit Go.Dues
theorem SL.far9 {w w' : World} {row : Option Nat} {g off n : Nat} {f : Nat → Value} (h : SL w (some ⟨g, off, none⟩) n f) (hg : w.grownBy w' row) (hne : some g ≠ row) : SL w' (some ⟨g, off, none⟩) n f := by
  rcases h with h | ⟨b, o, h1, h2, h3⟩
  · exact .inl h
  · injection h1 with h1
    injection h1 with h1 h4
    subst h1 h4
    exact .inr ⟨g, off, rfl, Nat.lt_of_lt_of_le h2 hg.size, fun j hj => hg.cell (a := ⟨g, off + j, none⟩) (h3 j hj) hne⟩
theorem ow_lo9 {w : World} {lo hi g n : Nat} {f : Nat → Value} (h : OW w lo hi (some ⟨g, 0, none⟩) n f) (hn : n ≠ 0) : lo ≤ g ∧ g < hi := by
  rcases h with h | ⟨g', cs, t, h1, h2, h3, _⟩
  · exact absurd h hn
  · injection h1 with h1
    injection h1 with h1
    omega
theorem ret_no9 {p : Prop} {u v : Int} (h : ¬ p) : Ending.returned (.tuple #[.int .i64 0, .int .i64 0, .bool false]) = .returned (.tuple #[.int .i64 (ifV p u), .int .i64 (ifV p v), .bool (tru p)]) := by rw [ifV_no h, ifV_no h, tru_no h]
theorem ret_yes9 {p : Prop} {u v a b : Int} (h : p) (ha : a = u) (hb : b = v) : Ending.returned (.tuple #[.int .i64 a, .int .i64 b, .bool true]) = .returned (.tuple #[.int .i64 (ifV p u), .int .i64 (ifV p v), .bool (tru p)]) := by rw [ifV_yes h, ifV_yes h, tru_yes h, ha, hb]
def ecV (x : Nat → Int) (n k : Nat) : Int := psum (ascF x n) (k + 1)
def tpV (x : Nat → Int) (n k : Nat) : Int := ascF x n ((k + 1) * n / 10)
end Go.Proofs.Ytjebkagbknmdoaa

/- Incomes that are not all 0; ShareOfTop, by both. -/
namespace Go.Proofs.Ytjebkagbknmdoaa
open Go.RowKit Go.Dues
def haP (x : Nat → Int) (n : Nat) : Prop := allP x n 1 64 0 1000000000 ∧ ¬ psum x n = 0
theorem ha_bd {x : Nat → Int} {n : Nat} (h : allP x n 1 64 0 1000000000) : 0 ≤ psum x n ∧ psum x n ≤ 64000000000 := by
  have h1 := psum_capM h.2
  have h2 := h.1.2
  omega
theorem inc_wide {x : Nat → Int} {n : Nat} (h : allP x n 1 64 0 1000000000) : ∀ j, j < n → -1000000000000 ≤ x j ∧ x j ≤ 1000000000000 := fun j hj => by have := h.2 j hj; omega
set_option maxHeartbeats 2000000 in
theorem implHave_any (A : Option Addr) (n c : Nat) (x : Nat → Int) (w : World) (hn : n ≤ maxLen) (hs : SL w A n (fun j => .int .i64 (x j))) :
    Calls Try.prog 136 #[.slice A n c] w fun e w' => e = .returned (.bool (tru (haP x n))) ∧ Below w.heap.size w w' := by
  have HA := hide (areAll_isIncome A n c x 1 64 w hn hs)
  have HS := hide hs
  unfold maxLen at hn
  clear hs
  by_cases hall : allP x n 1 64 0 1000000000
  rotate_left
  · have HT := hide (tru_no (show ¬ haP x n from fun h => hall h.1))
    have HAT := hide (tru_no hall)
    go_enter Try.func136, Try.ntmps136
    go_wp2_with (go_at_call 177; go_in)
    refine HA.out.mono ?_
    rw [HAT.out]
    rintro e w1 ⟨rfl, hb⟩
    have HB := hide hb
    clear hb
    go_wp2
    go_ret
    exact ⟨retBa HT.out.symm, HB.out⟩
  have HAT := hide (tru_yes hall)
  have HAL := hide hall
  have n64 := hall.1.2
  obtain ⟨s0, s1⟩ := ha_bd hall
  clear hall
  obtain ⟨S, hS⟩ : ∃ S, psum x n = S := ⟨_, rfl⟩
  have HT := hide (show decide (0 < S) = tru (haP x n) by
    by_cases h0 : S = 0
    · rw [tru_no (show ¬ haP x n from fun h => h.2 (by rw [hS, h0]))]; simp; omega
    · rw [tru_yes (show haP x n from ⟨HAL.out, by rw [hS]; exact h0⟩)]; simp; omega)
  have HSM := fun w hs => hide (sumBy_itself A n c x w (by omega) (inc_wide HAL.out) hs)
  rw [hS] at HSM s0 s1
  clear hS
  go_enter Try.func136, Try.ntmps136
  go_wp2_with (go_at_call 177; go_in)
  refine HA.out.mono ?_
  rw [HAT.out]
  rintro e w1 ⟨rfl, hb⟩
  have HB := hide hb
  clear hb
  go_wp2_with fail
  refine (HSM _ (HS.out.below HB.out)).out.mono ?_
  rintro e w2 ⟨rfl, rfl⟩
  go_wp2
  go_ret
  exact ⟨retBa HT.out, HB.out⟩
def stP (x : Nat → Int) (n : Nat) (c : Int) : Prop := haP x n ∧ (0 ≤ c ∧ c ≤ n)
def stT (x : Nat → Int) (n c : Nat) : Int := psum (fun j => ascF x n (n - c + j)) c
def stA (x : Nat → Int) (n : Nat) (c : Int) : Int := stT x n c.toNat / gcd9 (stT x n c.toNat) (psum x n)
def stB (x : Nat → Int) (n : Nat) (c : Int) : Int := psum x n / gcd9 (stT x n c.toNat) (psum x n)
theorem stT_bd {x : Nat → Int} {n c : Nat} (h : allP x n 1 64 0 1000000000) (hc : c ≤ n) : 0 ≤ stT x n c ∧ stT x n c ≤ 64000000000 := by
  have h1 := psum_capM (x := fun j => ascF x n (n - c + j)) (n := c) (M := 1000000000) (fun j hj => ascF_bd (lo := 0) h.2 (by omega))
  have h2 := h.1.2
  unfold stT
  omega
end Go.Proofs.Ytjebkagbknmdoaa

/- EntropyOf, by the reference. -/
namespace Go.Proofs.Ytjebkagbknmdoaa
open Go.RowKit Go.Dues
set_option maxRecDepth 100000 in
theorem specL01Log_any (x : Nat) (w : World) (hx : x < 4294967296) :
    Calls Try.prog 134 #[.float .f32 x] w fun e w' => ∃ r, e = .returned (.float .f32 r) ∧ FR .f32 r (flogn x) ∧ ∃ n, w' = w.drewN n := by
  have HC := hide (fun y w hy => specLogWide_any x y w hx hy)
  have HF : Hid (∀ r, FR .f64 r (flogw x) → Fits r) := fun r hr => fits_same hr.same (flogw_fits x hx).1
  have HV := hide (flogw_fits x hx).2
  go_enter Try.func134, Try.ntmps134
  go_wp2_with (first | (refine wpList_widen _ rfl _ _ _ rfl _ rfl (by rw [Try.underlying62]; rfl) Try.underlying67 ?_; intro _ _ _) | (go_at_call 176; refine (HC.out _ _ (by assumption)).mono ?_; rintro e w' ⟨r, rfl, hr, n, rfl⟩) | (refine wpList_narrow _ rfl _ _ _ rfl _ rfl (by rw [Try.underlying67]; rfl) Try.underlying62 (HF.out _ (by assumption)) ?_; intro _ _ _) | go_in)
  go_ret
  exact ⟨_, rfl, narrow_chain2 HV.out (by assumption) (by assumption), _, rfl⟩
set_option maxRecDepth 100000 in
set_option maxHeartbeats 8000000 in
theorem specEntropy_any (A : Option Addr) (n c : Nat) (x : Nat → Int) (w : World) (hn : n ≤ maxLen) (hs : SL w A n (fun j => .int .i64 (x j))) :
    Calls Try.prog 65 #[.slice A n c] w fun e w' => GaveV w w' e (haP x n) (enV x (psum x n) n) := by
  have HI := hide (specIncomes_any A n c x w hn hs)
  have HC := cells_a hs
  have HS := hide hs
  clear hs
  have hn' := hn
  unfold maxLen at hn
  by_cases hall : allP x n 1 64 0 1000000000
  rotate_left
  · have HT := hide (tru_no hall)
    have HH := hide (show ¬ haP x n from fun h => hall h.1)
    clear hall
    go_enter Try.func65, Try.ntmps65
    go_wp2_with fail
    refine HI.out.mono ?_
    rw [HT.out]
    rintro e w1 ⟨rfl, hbe⟩
    have HB : Hid (Below w.heap.size w w1) := by rw [← hbe]; exact Below.refl _ _
    clear hbe
    go_wp2
    go_ret2
    exact gavev_no HH.out HB.out
  have HT := hide (tru_yes hall)
  by_cases h0 : psum x n = 0
  · have HH := hide (show ¬ haP x n from fun h => h.2 h0)
    have HSM := fun w hs => hide (specAll9_any A n c x w (by have := hall.1.2; omega) (inc_wide hall) hs)
    rw [h0] at HSM
    clear hall h0
    go_enter Try.func65, Try.ntmps65
    go_wp2_with fail
    refine HI.out.mono ?_
    rw [HT.out]
    rintro e w1 ⟨rfl, hbe⟩
    have HB : Hid (Below w.heap.size w w1) := by rw [← hbe]; exact Below.refl _ _
    have HS1 : Hid (SL w1 A n (fun j => .int .i64 (x j))) := by rw [← hbe]; exact HS.out
    clear hbe
    go_wp2_with fail
    refine (HSM _ HS1.out).out.mono ?_
    rintro e w2 ⟨rfl, rfl⟩
    go_wp2
    go_ret2
    exact gavev_no HH.out HB.out
  have hp : haP x n := ⟨hall, h0⟩
  clear hall h0
  have HP := hide hp
  have HAL := hide hp.1
  have n1 := hp.1.1.1
  have n64 := hp.1.1.2
  obtain ⟨s0, s1⟩ := ha_bd hp.1
  have hS0 := hp.2
  have HSM := fun w hs => hide (specAll9_any A n c x w (by have := hp.1.1.2; omega) (inc_wide hp.1) hs)
  obtain ⟨S, hS⟩ : ∃ S, psum x n = S := ⟨_, rfl⟩
  rw [hS] at HSM s0 s1 hS0 ⊢
  have HEN := hide (show enP x S n from ⟨⟨by omega, by omega⟩, fun j hj => HAL.out.2 j hj, by omega, s1⟩)
  clear hp hS
  have hcn := fun w : World => run_convert_int_float (P := Try.prog) w 3 62 .i64 .f32 (n : Int) (by rw [Try.underlying3]; rfl) Try.underlying62
  have hcs := fun (w : World) (m : Int) => run_convert_int_float (P := Try.prog) w 2 62 .i64 .f32 m (by rw [Try.underlying2]; rfl) Try.underlying62
  obtain ⟨C, hC⟩ : ∃ C, floatOfInt .f32 (n : Int) = C := ⟨_, rfl⟩
  obtain ⟨FS0, hFS⟩ : ∃ F, floatOfInt .f32 S = F := ⟨_, rfl⟩
  have HCC := hide (show enC n = C from hC)
  obtain ⟨M, hM⟩ : ∃ M, enM S n = M := ⟨_, rfl⟩
  have HM := hide (show ∀ b, FR .f32 b (fop .quo .f32 FS0 C) → M = b from fun b hb => by
    obtain ⟨m1, m2, m3⟩ := enM_bd HEN.out
    rw [← hM]
    refine (FS.eq (hb.same.trans (.inl ?_)) (ffin_nan (mag_fin m3))).symm
    rw [← hFS, ← hC]; rfl)
  have HMM := hide hM
  have hcs1 := fun w : World => hcs w S
  have HCS := hide hcs
  clear hcs
  rw [hC] at hcn
  rw [hFS] at hcs1
  clear hC hFS hM
  have hS1 : (S == 0) = false := by simp; omega
  go_enter Try.func65, Try.ntmps65
  go_wp2_with fail
  refine HI.out.mono ?_
  rw [HT.out]
  rintro e w1 ⟨rfl, hbe⟩
  have HB : Hid (Below w.heap.size w w1) := by rw [← hbe]; exact Below.refl _ _
  have HS1 : Hid (SL w1 A n (fun j => .int .i64 (x j))) := by rw [← hbe]; exact HS.out
  clear hbe HC
  have HC := cells_a HS1.out
  go_wp2_with fail
  refine (HSM _ HS1.out).out.mono ?_
  rintro e w2 ⟨rfl, rfl⟩
  go_wp2_with fail
  refine (HSM _ HS1.out).out.mono ?_
  rintro e w2 ⟨rfl, rfl⟩
  go_wp2_with (refine wpList_far _ rfl _ _ _ _ _ rfl (by decide) _ _ _ rfl rfl ?_; intro _ _ _)
  have f1 := ‹FR .f32 _ (fop .quo .f32 FS0 C)›
  have e1 := HM.out _ f1
  clear f1 HM hcs1
  subst e1
  go_loopw [6, 7, 8, 27] (fun s _ _ i wr => ∃ (k : Nat) (q : Nat) (r : Nat), k ≤ n ∧ i = .int .i64 k ∧ s = .float .f32 r ∧ Hid (FS .f32 r (enS x S n k)) ∧ wr = w1.drewN q) (fun _ _ _ i _ => n - (intOf i).toNat)
  case atStart => exact ⟨0, _, 0, Nat.zero_le _, rfl, rfl, .inl rfl, rfl⟩
  case round =>
    obtain ⟨k, q, r, hk, rfl, rfl, hr, rfl⟩ := hrel
    by_cases hlt : k < n
    · obtain ⟨b, off, rfl, hb, hck⟩ := HC.out k hlt
      have hki : (k : Int) < (n : Int) := by omega
      have hcx := fun w : World => HCS.out w (x k)
      obtain ⟨FX, hFX⟩ : ∃ F, floatOfInt .f32 (x k) = F := ⟨_, rfl⟩
      rw [hFX] at hcx
      have HFX := hide hFX
      obtain ⟨X, hX⟩ : ∃ X, enX x S n k = X := ⟨_, rfl⟩
      have HXW := hide (show ∀ b, FR .f32 b (fop .quo .f32 FX M) → fnan .f32 (enX x S n k) = false → X = b from fun b hb hn => by
        rw [← hX]
        refine (FS.eq (hb.same.trans (.inl ?_)) hn).symm
        rw [← HFX.out, ← HMM.out]; rfl)
      have HX := hide hX
      clear hFX hX
      by_cases hx : x k = 0
      · have HN := hide (show fnan .f32 (enX x S n k) = false by rw [enX_zero HEN.out hx]; decide +kernel)
        have HX0 := hide (show X = 0 by rw [← HX.out]; exact enX_zero HEN.out hx)
        have HSK := hide (enS_skip HEN.out (Nat.le_of_lt hlt) hx)
        have g : (FloatKind.f32.format.order X 0 == some .gt) = false := by rw [HX0.out]; decide +kernel
        clear hx
        go_wp2_with (first | (refine wpList_far (op := .quo) _ rfl _ _ _ _ rfl (by decide) _ _ _ rfl rfl ?_; intro b nq hb; obtain rfl := HXW.out b hb HN.out))
        go_roundw
        case rel => exact ⟨k + 1, _, r, by omega, by go_num, rfl, by rw [HSK.out]; exact hr.out, rfl⟩
        case measure => simp [intOf]; omega
      · have HN := hide (show fnan .f32 (enX x S n k) = false from ffin_nan (ffin_low (enX_bd HEN.out hlt hx).2.1))
        obtain ⟨x0, x1, _⟩ := enX_bd HEN.out hlt hx
        rw [HX.out] at x0 x1
        have HTK := hide (show enT x S n k = fop .mul .f32 X (flogn X) by unfold enT; rw [if_neg hx, HX.out])
        have g : (FloatKind.f32.format.order X 0 == some .gt) = true := by rw [order32 x0 (by omega)]; rfl
        have HLG := hide (fun w => specL01Log_any X w (by omega))
        clear hx x0 x1
        go_wp2_with (first | (refine wpList_far (op := .quo) _ rfl _ _ _ _ rfl (by decide) _ _ _ rfl rfl ?_; intro b nq hb; obtain rfl := HXW.out b hb HN.out) | (go_at_call 134; refine (HLG.out _).mono ?_; rintro e w' ⟨lg, rfl, hlg, nl, rfl⟩) | (refine wpList_far _ rfl _ _ _ _ _ rfl (by decide) _ _ _ rfl rfl ?_; intro _ _ _))
        have f2 := ‹FR .f32 _ (fop .mul .f32 X lg)›
        have f3 := ‹FR .f32 _ (fop .add .f32 r _)›
        have HNX := hide (show FS .f32 _ (enS x S n (k + 1)) from f3.same.trans (.inl (show _ = fop .add .f32 (enS x S n k) (enT x S n k) from fop_same hr.out (f2.same.trans (.inl (by rw [HTK.out]; exact fop_same (FS.refl _ _) hlg.same))))))
        clear f2 f3 hlg
        go_roundw
        case rel => exact ⟨k + 1, _, _, by omega, by go_num, rfl, HNX.out, rfl⟩
        case measure => simp [intOf]; omega
    · have hki : ¬ (k : Int) < (n : Int) := by omega
      obtain rfl : k = n := by omega
      go_wp2_with (first | (refine wpList_far _ rfl _ _ _ _ _ rfl (by decide) _ _ _ rfl rfl ?_; intro _ _ _))
      have f2 := ‹FR .f32 _ (fop .quo .f32 r C)›
      have HV := hide (show FS .f32 _ (enV x S k) from f2.same.trans (.inl (by unfold enV; rw [HCC.out]; exact fop_same hr.out (FS.refl _ _))))
      clear f2
      refine (specNum_any _ _).mono ?_
      rintro e w' ⟨rfl, q2, rfl⟩
      go_wp2
      go_ret2
      exact gavev_num HV.out ⟨fun _ => enV_fin HEN.out, fun _ => HP.out⟩ (by first | exact bel_q HB.out _ | exact bel_q (bel_q HB.out _) _ | exact bel_q (bel_q (bel_q HB.out _) _) _)
end Go.Proofs.Ytjebkagbknmdoaa

