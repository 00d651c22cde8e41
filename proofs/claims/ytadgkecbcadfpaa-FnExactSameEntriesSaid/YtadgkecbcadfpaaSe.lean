/- SameEntries, by both. -/
import Derived.Test.YtadgkecbcadfpaaEs
import Derived.Laws.StructEq
namespace Go.Proofs.Ytadgkecbcadfpaa
open Go.RowKit Go.Dues
theorem retBs {a b : Bool} (h : a = b) : Ending.returned (.bool a) = .returned (.bool b) := by rw [h]
theorem bel_s {B : Nat} {a w : World} (h : Below B a w) (n : Nat) : Below B a (w.drewN n) := ⟨h.os, h.tape, h.output, h.size, h.block⟩
theorem neqEntry (a0 a1 a2 a3 b0 b1 b2 b3 : Int) (w : World) : (binOp .neq 52 (.agg #[.int .i64 a0, .int .i64 a1, .int .i64 a2, .int .i64 a3]) (.agg #[.int .i64 b0, .int .i64 b1, .int .i64 b2, .int .i64 b3])).run Try.prog w = .ok (.bool (!(a0 == b0 && (a1 == b1 && (a2 == b2 && a3 == b3))))) w := by
  have u3 := Try.underlying2
  have a3' := Try.isAgg2
  have z3 := Try.sizeOf2
  have hS : Try.prog.underlying 52 = some (.struct (Try.prog.fieldsOf 52)) := by kernel_rfl
  have hp : Try.prog.stoodInHeld 52 = false := by kernel_rfl
  rw [run_neq_struct, show (10000 : Nat) = 9999 + 1 from rfl, run_equalIn_agg w 9999 52 _ _ hS hp]
  simp only [Program.fieldsOf, Try.underlying52]
  go_simp
  by_cases h0 : a0 = b0 <;> by_cases h1 : a1 = b1 <;> by_cases h2 : a2 = b2 <;> by_cases h3 : a3 = b3 <;> simp [h0, h1, h2, h3]
def sameP (x y : Nat → Int) (n m : Nat) : Prop := n = m ∧ ∀ j, j < n → x (j * 4) = y (j * 4) ∧ x (j * 4 + 1) = y (j * 4 + 1) ∧ x (j * 4 + 2) = y (j * 4 + 2) ∧ x (j * 4 + 3) = y (j * 4 + 3)
set_option maxRecDepth 100000 in
set_option maxHeartbeats 4000000 in
theorem specSame_any (A : Option Addr) (n c : Nat) (x : Nat → Int) (A' : Option Addr) (m d : Nat) (y : Nat → Int) (w : World) (hn : n ≤ maxLen) (hs : SL w A (n * 4) (fun j => .int .i64 (x j))) (hm : m ≤ maxLen) (hs' : SL w A' (m * 4) (fun j => .int .i64 (y j))) :
    Calls Try.prog 20 #[.slice A n c, .slice A' m d] w fun e w' => e = .returned (.bool (tru (sameP x y n m))) ∧ Below w.heap.size w w' := by
  unfold maxLen at hn hm
  have HC := cells4_entry hs
  have HC' := cells4_entry hs'
  have hg : Try.prog.eqGuardType Try.prog.depth 52 = false := by kernel_rfl
  clear hs hs'
  by_cases hl : n = m
  · subst hl
    have hne : ((n : Int) != (n : Int)) = false := by simp
    go_enter Try.func20, Try.ntmps20
    go_wp2
    go_loopw [5, 13] (fun _ i wr => ∃ k : Nat, k ≤ n ∧ i = .int .i64 k ∧ Hid (∀ j, j < k → x (j * 4) = y (j * 4) ∧ x (j * 4 + 1) = y (j * 4 + 1) ∧ x (j * 4 + 2) = y (j * 4 + 2) ∧ x (j * 4 + 3) = y (j * 4 + 3)) ∧ Below w.heap.size w wr) (fun _ i _ => n - (intOf i).toNat)
    case atStart => exact ⟨0, Nat.zero_le _, rfl, fun j hj => absurd hj (by omega), Below.refl _ _⟩
    case round =>
      obtain ⟨k, hk, rfl, hgood, hbel⟩ := hrel
      by_cases hlt : k < n
      · obtain ⟨b, off, rfl, hb, c0, c1, c2, c3⟩ := HC.out k hlt
        obtain ⟨b', off', rfl, hb', c0', c1', c2', c3'⟩ := HC'.out k hlt
        have d0 := (hbel.cell (p := ⟨b, off + k * 4, none⟩) hb).trans c0
        have d0' := (hbel.cell (p := ⟨b', off' + k * 4, none⟩) hb').trans c0'
        have d1 := (hbel.cell (p := ⟨b, off + k * 4 + 1, none⟩) hb).trans c1
        have d1' := (hbel.cell (p := ⟨b', off' + k * 4 + 1, none⟩) hb').trans c1'
        have d2 := (hbel.cell (p := ⟨b, off + k * 4 + 2, none⟩) hb).trans c2
        have d2' := (hbel.cell (p := ⟨b', off' + k * 4 + 2, none⟩) hb').trans c2'
        have d3 := (hbel.cell (p := ⟨b, off + k * 4 + 3, none⟩) hb).trans c3
        have d3' := (hbel.cell (p := ⟨b', off' + k * 4 + 3, none⟩) hb').trans c3'
        have HBEL := hide hbel
        clear hbel c0 c1 c2 c3 c0' c1' c2' c3'
        have NE := neqEntry (x (k * 4)) (x (k * 4 + 1)) (x (k * 4 + 2)) (x (k * 4 + 3)) (y (k * 4)) (y (k * 4 + 1)) (y (k * 4 + 2)) (y (k * 4 + 3))
        by_cases he : x (k * 4) = y (k * 4) ∧ x (k * 4 + 1) = y (k * 4 + 1) ∧ x (k * 4 + 2) = y (k * 4 + 2) ∧ x (k * 4 + 3) = y (k * 4 + 3)
        · have NE2 : ∀ w, (binOp .neq 52 (.agg #[.int .i64 (x (k * 4)), .int .i64 (x (k * 4 + 1)), .int .i64 (x (k * 4 + 2)), .int .i64 (x (k * 4 + 3))]) (.agg #[.int .i64 (y (k * 4)), .int .i64 (y (k * 4 + 1)), .int .i64 (y (k * 4 + 2)), .int .i64 (y (k * 4 + 3))])).run Try.prog w = .ok (.bool false) w := by
            intro w; rw [NE w, he.1, he.2.1, he.2.2.1, he.2.2.2]; simp
          have HE := hide he
          clear he NE
          go_wp2_with fail
          go_quiet (fail)
          go_wp2
          clear NE2
          go_roundw
          case rel => exact ⟨k + 1, by omega, by go_num, (fun j hj => by
            by_cases hjk : j = k
            · subst hjk; exact HE.out
            · exact hgood.out j (by omega)), bel_s HBEL.out _⟩
          case measure => simp [intOf]; omega
        · have NE2 : ∀ w, (binOp .neq 52 (.agg #[.int .i64 (x (k * 4)), .int .i64 (x (k * 4 + 1)), .int .i64 (x (k * 4 + 2)), .int .i64 (x (k * 4 + 3))]) (.agg #[.int .i64 (y (k * 4)), .int .i64 (y (k * 4 + 1)), .int .i64 (y (k * 4 + 2)), .int .i64 (y (k * 4 + 3))])).run Try.prog w = .ok (.bool true) w := by
            intro w; rw [NE w]
            have : (x (k * 4) == y (k * 4) && (x (k * 4 + 1) == y (k * 4 + 1) && (x (k * 4 + 2) == y (k * 4 + 2) && x (k * 4 + 3) == y (k * 4 + 3)))) = false := by
              rw [Bool.eq_false_iff]; intro h; simp only [Bool.and_eq_true, beq_iff_eq] at h; exact he h
            rw [this]; rfl
          have HT := hide (tru_no (show ¬ sameP x y n n from fun h => he (h.2 k hlt)))
          clear he NE
          go_wp2_with fail
          go_quiet (fail)
          go_wp2
          go_ret
          exact ⟨retBs HT.out.symm, bel_s HBEL.out _⟩
      · obtain rfl : k = n := by omega
        have HBEL := hide hbel
        clear hbel
        have HT := hide (tru_yes (show sameP x y k k from ⟨rfl, hgood.out⟩))
        go_wp2
        go_ret
        exact ⟨retBs HT.out.symm, HBEL.out⟩
  · have HT := hide (tru_no (show ¬ sameP x y n m from fun h => hl h.1))
    have hne : ((n : Int) != (m : Int)) = true := by rw [bne_iff_ne]; omega
    have hne2 : ((n : Int) == (m : Int)) = false := by rw [beq_eq_false_iff_ne]; omega
    clear hl
    go_enter Try.func20, Try.ntmps20
    go_wp2
    go_ret
    exact ⟨retBs HT.out.symm, Below.refl _ _⟩
set_option maxRecDepth 100000 in
set_option maxHeartbeats 4000000 in
theorem equalEntries_any (A : Option Addr) (n c : Nat) (x : Nat → Int) (A' : Option Addr) (m d : Nat) (y : Nat → Int) (w : World) (hn : n ≤ maxLen) (hs : SL w A (n * 4) (fun j => .int .i64 (x j))) (hm : m ≤ maxLen) (hs' : SL w A' (m * 4) (fun j => .int .i64 (y j))) :
    Calls Try.prog 49 #[.slice A n c, .slice A' m d] w fun e w' => e = .returned (.bool (tru (sameP x y n m))) ∧ Below w.heap.size w w' := by
  unfold maxLen at hn hm
  have HC := cells4_entry hs
  have HC' := cells4_entry hs'
  have hg : Try.prog.eqGuardType Try.prog.depth 52 = false := by kernel_rfl
  clear hs hs'
  by_cases hl : n = m
  · subst hl
    have hne : ((n : Int) != (n : Int)) = false := by simp
    go_enter Try.func49, Try.ntmps49
    go_wp2
    go_loopw [5, 13] (fun _ i wr => ∃ k : Nat, k ≤ n ∧ i = .int .i64 k ∧ Hid (∀ j, j < k → x (j * 4) = y (j * 4) ∧ x (j * 4 + 1) = y (j * 4 + 1) ∧ x (j * 4 + 2) = y (j * 4 + 2) ∧ x (j * 4 + 3) = y (j * 4 + 3)) ∧ Below w.heap.size w wr) (fun _ i _ => n - (intOf i).toNat)
    case atStart => exact ⟨0, Nat.zero_le _, rfl, fun j hj => absurd hj (by omega), Below.refl _ _⟩
    case round =>
      obtain ⟨k, hk, rfl, hgood, hbel⟩ := hrel
      by_cases hlt : k < n
      · obtain ⟨b, off, rfl, hb, c0, c1, c2, c3⟩ := HC.out k hlt
        obtain ⟨b', off', rfl, hb', c0', c1', c2', c3'⟩ := HC'.out k hlt
        have d0 := (hbel.cell (p := ⟨b, off + k * 4, none⟩) hb).trans c0
        have d0' := (hbel.cell (p := ⟨b', off' + k * 4, none⟩) hb').trans c0'
        have d1 := (hbel.cell (p := ⟨b, off + k * 4 + 1, none⟩) hb).trans c1
        have d1' := (hbel.cell (p := ⟨b', off' + k * 4 + 1, none⟩) hb').trans c1'
        have d2 := (hbel.cell (p := ⟨b, off + k * 4 + 2, none⟩) hb).trans c2
        have d2' := (hbel.cell (p := ⟨b', off' + k * 4 + 2, none⟩) hb').trans c2'
        have d3 := (hbel.cell (p := ⟨b, off + k * 4 + 3, none⟩) hb).trans c3
        have d3' := (hbel.cell (p := ⟨b', off' + k * 4 + 3, none⟩) hb').trans c3'
        have HBEL := hide hbel
        clear hbel c0 c1 c2 c3 c0' c1' c2' c3'
        have NE := neqEntry (x (k * 4)) (x (k * 4 + 1)) (x (k * 4 + 2)) (x (k * 4 + 3)) (y (k * 4)) (y (k * 4 + 1)) (y (k * 4 + 2)) (y (k * 4 + 3))
        by_cases he : x (k * 4) = y (k * 4) ∧ x (k * 4 + 1) = y (k * 4 + 1) ∧ x (k * 4 + 2) = y (k * 4 + 2) ∧ x (k * 4 + 3) = y (k * 4 + 3)
        · have NE2 : ∀ w, (binOp .neq 52 (.agg #[.int .i64 (x (k * 4)), .int .i64 (x (k * 4 + 1)), .int .i64 (x (k * 4 + 2)), .int .i64 (x (k * 4 + 3))]) (.agg #[.int .i64 (y (k * 4)), .int .i64 (y (k * 4 + 1)), .int .i64 (y (k * 4 + 2)), .int .i64 (y (k * 4 + 3))])).run Try.prog w = .ok (.bool false) w := by
            intro w; rw [NE w, he.1, he.2.1, he.2.2.1, he.2.2.2]; simp
          have HE := hide he
          clear he NE
          go_wp2_with fail
          go_quiet (fail)
          go_wp2
          clear NE2
          go_roundw
          case rel => exact ⟨k + 1, by omega, by go_num, (fun j hj => by
            by_cases hjk : j = k
            · subst hjk; exact HE.out
            · exact hgood.out j (by omega)), bel_s HBEL.out _⟩
          case measure => simp [intOf]; omega
        · have NE2 : ∀ w, (binOp .neq 52 (.agg #[.int .i64 (x (k * 4)), .int .i64 (x (k * 4 + 1)), .int .i64 (x (k * 4 + 2)), .int .i64 (x (k * 4 + 3))]) (.agg #[.int .i64 (y (k * 4)), .int .i64 (y (k * 4 + 1)), .int .i64 (y (k * 4 + 2)), .int .i64 (y (k * 4 + 3))])).run Try.prog w = .ok (.bool true) w := by
            intro w; rw [NE w]
            have : (x (k * 4) == y (k * 4) && (x (k * 4 + 1) == y (k * 4 + 1) && (x (k * 4 + 2) == y (k * 4 + 2) && x (k * 4 + 3) == y (k * 4 + 3)))) = false := by
              rw [Bool.eq_false_iff]; intro h; simp only [Bool.and_eq_true, beq_iff_eq] at h; exact he h
            rw [this]; rfl
          have HT := hide (tru_no (show ¬ sameP x y n n from fun h => he (h.2 k hlt)))
          clear he NE
          go_wp2_with fail
          go_quiet (fail)
          go_wp2
          go_ret
          exact ⟨retBs HT.out.symm, bel_s HBEL.out _⟩
      · obtain rfl : k = n := by omega
        have HBEL := hide hbel
        clear hbel
        have HT := hide (tru_yes (show sameP x y k k from ⟨rfl, hgood.out⟩))
        go_wp2
        go_ret
        exact ⟨retBs HT.out.symm, HBEL.out⟩
  · have HT := hide (tru_no (show ¬ sameP x y n m from fun h => hl h.1))
    have hne : ((n : Int) != (m : Int)) = true := by rw [bne_iff_ne]; omega
    have hne2 : ((n : Int) == (m : Int)) = false := by rw [beq_eq_false_iff_ne]; omega
    clear hl
    go_enter Try.func49, Try.ntmps49
    go_wp2
    go_ret
    exact ⟨retBs HT.out.symm, Below.refl _ _⟩
theorem implSame_any (A : Option Addr) (n c : Nat) (x : Nat → Int) (A' : Option Addr) (m d : Nat) (y : Nat → Int) (w : World) (hn : n ≤ maxLen) (hs : SL w A (n * 4) (fun j => .int .i64 (x j))) (hm : m ≤ maxLen) (hs' : SL w A' (m * 4) (fun j => .int .i64 (y j))) :
    Calls Try.prog 21 #[.slice A n c, .slice A' m d] w fun e w' => e = .returned (.bool (tru (sameP x y n m))) ∧ Below w.heap.size w w' := by
  have HI := hide (equalEntries_any A n c x A' m d y w hn hs hm hs')
  clear hs hs'
  go_enter Try.func21, Try.ntmps21
  go_wp2_with fail
  refine HI.out.mono ?_
  rintro e w1 ⟨rfl, hb⟩
  have HB := hide hb
  clear hb
  go_wp2
  go_ret
  exact ⟨rfl, HB.out⟩
end Go.Proofs.Ytadgkecbcadfpaa
