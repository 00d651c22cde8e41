/- FirstShort, by both. -/
import Derived.Test.YtadgkecbcadfpaaEi
namespace Go.Proofs.Ytadgkecbcadfpaa
open Go.RowKit Go.Dues
theorem vi1 {a b : Int} (h : a = b) : Value.int .i64 a = .int .i64 b := by rw [h]
/-- the balance of account a behind the first k entries -/
def balN (x : Nat → Int) (a : Int) : Nat → Int
  | 0 => 0
  | k + 1 => balN x a k + (if x (k * 4 + 1) = a then x (k * 4 + 3) else if x (k * 4 + 2) = a then -x (k * 4 + 3) else 0)
theorem balN_succ (x : Nat → Int) (a : Int) (k : Nat) : balN x a (k + 1) = balN x a k + (if x (k * 4 + 1) = a then x (k * 4 + 3) else if x (k * 4 + 2) = a then -x (k * 4 + 3) else 0) := rfl
def FS (x : Nat → Int) (a : Int) (n : Nat) (v : Int) : Prop := (∃ k : Nat, v = k ∧ k < n ∧ balN x a (k + 1) < 0 ∧ ∀ j, j < k → 0 ≤ balN x a (j + 1)) ∨ (v = -1 ∧ ∀ j, j < n → 0 ≤ balN x a (j + 1))
theorem FS_uniq {x : Nat → Int} {a : Int} {n : Nat} {u v : Int} (hu : FS x a n u) (hv : FS x a n v) : u = v := by
  rcases hu with ⟨k, rfl, hk, hk1, hk2⟩ | ⟨rfl, hu⟩ <;> rcases hv with ⟨i, rfl, hi, hi1, hi2⟩ | ⟨rfl, hv⟩
  · rcases Nat.lt_trichotomy k i with h | h | h
    · have := hi2 k h; omega
    · rw [h]
    · have := hk2 i h; omega
  · have := hv k hk; omega
  · have := hu i hi; omega
  · rfl
noncomputable def fsV (x : Nat → Int) (a : Int) (n : Nat) : Int := @Classical.epsilon Int ⟨0⟩ (fun v => FS x a n v)
theorem fsV_eq {x : Nat → Int} {a : Int} {n : Nat} {v : Int} (h : FS x a n v) : v = fsV x a n := FS_uniq h (@Classical.epsilon_spec_aux Int ⟨0⟩ (fun v => FS x a n v) ⟨v, h⟩)
def fsP (x : Nat → Int) (n : Nat) (a : Int) : Prop := ledP x n ∧ (0 ≤ a ∧ a ≤ 11)
set_option maxRecDepth 100000 in
set_option maxHeartbeats 8000000 in
theorem specFirstShort_any (A : Option Addr) (n c : Nat) (x : Nat → Int) (a : Int) (w : World) (hn : n ≤ maxLen) (hs : SL w A (n * 4) (fun j => .int .i64 (x j))) :
    Calls Try.prog 22 #[.slice A n c, .int .i64 a] w fun e w' => e = .returned (.tuple #[.int .i64 (ifV (fsP x n a) (fsV x a n)), .bool (tru (fsP x n a))]) ∧ Below w.heap.size w w' := by
  have HL := hide (specLedger_any A n c x w hn hs)
  have HSL := hide hs
  unfold maxLen at hn
  clear hs
  by_cases hp : ledP x n
  · have HP := hide hp
    clear hp
    cases ga : inB a 0 11
    · have HH := hide (show ¬ fsP x n a from fun h => by rw [inB_yes h.2] at ga; cases ga)
      go_enter Try.func22, Try.ntmps22
      go_wp2_with fail
      refine HL.out.mono ?_
      rw [tru_yes HP.out]
      rintro e w1 ⟨rfl, hb⟩
      have HB1 := hide hb
      clear hb
      go_wp2_with (go_at_call 50; refine (specAcc_any _ _).mono ?_; rintro e w' ⟨rfl, rfl⟩)
      go_ret2
      exact ⟨ret_no HH.out, HB1.out⟩
    have HH := hide (show fsP x n a from ⟨HP.out, inB_iff.1 ga⟩)
    go_enter Try.func22, Try.ntmps22
    go_wp2_with fail
    refine HL.out.mono ?_
    rw [tru_yes HP.out]
    rintro e w1 ⟨rfl, hb⟩
    have HB1 := hide hb
    have HC := cells4_entry (HSL.out.below hb)
    clear hb
    go_wp2_with (go_at_call 50; refine (specAcc_any _ _).mono ?_; rintro e w' ⟨rfl, rfl⟩)
    clear ga
    go_loopw [6, 7, 18] (fun bb _ i wr => ∃ (k : Nat) (B : Int), k ≤ n ∧ i = .int .i64 k ∧ bb = .int .i64 B ∧ -1000000000 * (k : Int) ≤ B ∧ B ≤ 1000000000 * (k : Int) ∧ Hid (B = balN x a k) ∧ Hid (∀ j, j < k → 0 ≤ balN x a (j + 1)) ∧ Below w1.heap.size w1 wr) (fun _ _ i _ => n - (intOf i).toNat)
    case atStart => exact ⟨0, 0, Nat.zero_le _, rfl, rfl, by simp, by simp, rfl, fun j hj => absurd hj (by omega), Below.refl _ _⟩
    case round =>
      obtain ⟨k, B, hk, rfl, rfl, B0, B1, hB, hgood, hbel⟩ := hrel
      by_cases hlt : k < n
      · obtain ⟨b, off, rfl, hb, c0, c1, c2, c3⟩ := HC.out k hlt
        have hk64 : (k : Int) ≤ 64 := by have := HP.out.1; omega
        obtain ⟨_, _, _, hne, m0, m1⟩ := (HP.out.2 k hlt).1
        have d0 := (hbel.cell (p := ⟨b, off + k * 4, none⟩) hb).trans c0
        have d1 := (hbel.cell (p := ⟨b, off + k * 4 + 1, none⟩) hb).trans c1
        have d2 := (hbel.cell (p := ⟨b, off + k * 4 + 2, none⟩) hb).trans c2
        have d3 := (hbel.cell (p := ⟨b, off + k * 4 + 3, none⟩) hb).trans c3
        have HBEL := hide hbel
        have HS := hide (balN_succ x a k)
        clear hbel c0 c1 c2 c3
        have hB0 : -64000000000 ≤ B := by omega
        have hB1 : B ≤ 64000000000 := by omega
        by_cases h1 : x (k * 4 + 1) = a
        · have h2 : ¬ x (k * 4 + 2) = a := fun h => hne (h1.trans h.symm)
          have G1 : (x (k * 4 + 1) == a) = true := by rw [beq_iff_eq]; omega
          have G2 : (x (k * 4 + 2) == a) = false := by rw [beq_eq_false_iff_ne]; omega
          have HX1 := hide h1
          clear h1 h2
          have HE := hide (show B + x (k * 4 + 3) = balN x a (k + 1) by rw [HS.out, ← hB.out]; rw [if_pos HX1.out])
          by_cases hneg : B + x (k * 4 + 3) < 0
          · have HV := hide (fsV_eq (show FS x a n k from .inl ⟨k, rfl, hlt, by rw [← HE.out]; exact hneg, hgood.out⟩))
            clear hne
            go_wp2
            go_ret2
            exact ⟨ret_val HH.out HV.out, HB1.out.trans ((HBEL.out).mono HB1.out.size)⟩
          · have HNN := hide (show 0 ≤ balN x a (k + 1) by rw [← HE.out]; omega)
            clear hne
            go_wp2
            clear G1 G2
            go_roundw
            case rel => exact ⟨k + 1, _, by omega, by go_num, rfl, by push_cast; omega, by push_cast; omega, HE.out, (fun j hj => by
              by_cases hjk : j = k
              · subst hjk; exact HNN.out
              · exact hgood.out j (by omega)), HBEL.out⟩
            case measure => simp [intOf]; omega
        · have HX1 := hide h1
          have G1 : (x (k * 4 + 1) == a) = false := by rw [beq_eq_false_iff_ne]; omega
          by_cases h2 : x (k * 4 + 2) = a
          · have G2 : (x (k * 4 + 2) == a) = true := by rw [beq_iff_eq]; omega
            have HX2 := hide h2
            clear h1 h2
            have HE := hide (show B - x (k * 4 + 3) = balN x a (k + 1) by rw [HS.out, ← hB.out]; rw [if_neg HX1.out, if_pos HX2.out]; omega)
            by_cases hneg : B - x (k * 4 + 3) < 0
            · have HV := hide (fsV_eq (show FS x a n k from .inl ⟨k, rfl, hlt, by rw [← HE.out]; exact hneg, hgood.out⟩))
              clear hne
              go_wp2
              go_ret2
              exact ⟨ret_val HH.out HV.out, HB1.out.trans ((HBEL.out).mono HB1.out.size)⟩
            · have HNN := hide (show 0 ≤ balN x a (k + 1) by rw [← HE.out]; omega)
              clear hne
              go_wp2
              clear G1 G2
              go_roundw
              case rel => exact ⟨k + 1, _, by omega, by go_num, rfl, by push_cast; omega, by push_cast; omega, HE.out, (fun j hj => by
                by_cases hjk : j = k
                · subst hjk; exact HNN.out
                · exact hgood.out j (by omega)), HBEL.out⟩
              case measure => simp [intOf]; omega
          · have G2 : (x (k * 4 + 2) == a) = false := by rw [beq_eq_false_iff_ne]; omega
            have HX2 := hide h2
            clear h1 h2
            have HE := hide (show B = balN x a (k + 1) by rw [HS.out, ← hB.out]; rw [if_neg HX1.out, if_neg HX2.out]; omega)
            by_cases hneg : B < 0
            · have HV := hide (fsV_eq (show FS x a n k from .inl ⟨k, rfl, hlt, by rw [← HE.out]; exact hneg, hgood.out⟩))
              clear hne
              go_wp2
              go_ret2
              exact ⟨ret_val HH.out HV.out, HB1.out.trans ((HBEL.out).mono HB1.out.size)⟩
            · have HNN := hide (show 0 ≤ balN x a (k + 1) by rw [← HE.out]; omega)
              clear hne
              go_wp2
              clear G1 G2
              go_roundw
              case rel => exact ⟨k + 1, _, by omega, by go_num, rfl, by push_cast; omega, by push_cast; omega, HE.out, (fun j hj => by
                by_cases hjk : j = k
                · subst hjk; exact HNN.out
                · exact hgood.out j (by omega)), HBEL.out⟩
              case measure => simp [intOf]; omega
      · obtain rfl : k = n := by omega
        have HV := hide (fsV_eq (show FS x a k (-1) from .inr ⟨rfl, hgood.out⟩))
        have HBEL := hide hbel
        clear hbel
        go_wp2
        go_ret2
        exact ⟨ret_val HH.out HV.out, HB1.out.trans (HBEL.out.mono HB1.out.size)⟩
  · have HH := hide (show ¬ fsP x n a from fun h => hp h.1)
    have HP := hide hp
    clear hp
    go_enter Try.func22, Try.ntmps22
    go_wp2_with fail
    refine HL.out.mono ?_
    rw [tru_no HP.out]
    rintro e w1 ⟨rfl, hb⟩
    have HB1 := hide hb
    clear hb
    go_wp2_with (go_at_call 50; refine (specAcc_any _ _).mono ?_; rintro e w' ⟨rfl, rfl⟩)
    go_ret2
    exact ⟨ret_no HH.out, HB1.out⟩
set_option maxRecDepth 100000 in
set_option maxHeartbeats 8000000 in
theorem implFirstShort_any (A : Option Addr) (n c : Nat) (x : Nat → Int) (a : Int) (w : World) (hn : n ≤ maxLen) (hs : SL w A (n * 4) (fun j => .int .i64 (x j))) :
    Calls Try.prog 23 #[.slice A n c, .int .i64 a] w fun e w' => e = .returned (.tuple #[.int .i64 (ifV (fsP x n a) (fsV x a n)), .bool (tru (fsP x n a))]) ∧ Below w.heap.size w w' := by
  have HL := hide (implAreEntries_any A n c x w hn hs)
  have HSL := hide hs
  unfold maxLen at hn
  clear hs
  by_cases hp : ledP x n
  · have HP := hide hp
    clear hp
    cases ga : inB a 0 11
    · have HH := hide (show ¬ fsP x n a from fun h => by rw [inB_yes h.2] at ga; cases ga)
      go_enter Try.func23, Try.ntmps23
      go_wp2_with fail
      refine HL.out.mono ?_
      rw [tru_yes HP.out]
      rintro e w1 ⟨rfl, hb⟩
      have HB1 := hide hb
      clear hb
      go_wp2_with (go_at_call 51; refine (implAcc_any _ _).mono ?_; rintro e w' ⟨rfl, rfl⟩)
      go_ret2
      exact ⟨ret_no HH.out, HB1.out⟩
    have HH := hide (show fsP x n a from ⟨HP.out, inB_iff.1 ga⟩)
    go_enter Try.func23, Try.ntmps23
    go_wp2_with fail
    refine HL.out.mono ?_
    rw [tru_yes HP.out]
    rintro e w1 ⟨rfl, hb⟩
    have HB1 := hide hb
    have HC := cells4_entry (HSL.out.below hb)
    clear hb
    go_wp2_with (go_at_call 51; refine (implAcc_any _ _).mono ?_; rintro e w' ⟨rfl, rfl⟩)
    clear ga
    go_loopw [6, 7, 8, 19] (fun bb _ _ i wr => ∃ (k : Nat) (B : Int), k ≤ n ∧ i = .int .i64 k ∧ bb = .int .i64 B ∧ -1000000000 * (k : Int) ≤ B ∧ B ≤ 1000000000 * (k : Int) ∧ Hid (B = balN x a k) ∧ Hid (∀ j, j < k → 0 ≤ balN x a (j + 1)) ∧ Below w1.heap.size w1 wr) (fun _ _ _ i _ => n - (intOf i).toNat)
    case atStart => exact ⟨0, 0, Nat.zero_le _, rfl, rfl, by simp, by simp, rfl, fun j hj => absurd hj (by omega), Below.refl _ _⟩
    case round =>
      obtain ⟨k, B, hk, rfl, rfl, B0, B1, hB, hgood, hbel⟩ := hrel
      by_cases hlt : k < n
      · obtain ⟨b, off, rfl, hb, c0, c1, c2, c3⟩ := HC.out k hlt
        have hk64 : (k : Int) ≤ 64 := by have := HP.out.1; omega
        obtain ⟨_, _, _, hne, m0, m1⟩ := (HP.out.2 k hlt).1
        have d0 := (hbel.cell (p := ⟨b, off + k * 4, none⟩) hb).trans c0
        have d1 := (hbel.cell (p := ⟨b, off + k * 4 + 1, none⟩) hb).trans c1
        have d2 := (hbel.cell (p := ⟨b, off + k * 4 + 2, none⟩) hb).trans c2
        have d3 := (hbel.cell (p := ⟨b, off + k * 4 + 3, none⟩) hb).trans c3
        have HBEL := hide hbel
        have HS := hide (balN_succ x a k)
        clear hbel c0 c1 c2 c3
        have hB0 : -64000000000 ≤ B := by omega
        have hB1 : B ≤ 64000000000 := by omega
        by_cases h1 : x (k * 4 + 1) = a
        · have h2 : ¬ x (k * 4 + 2) = a := fun h => hne (h1.trans h.symm)
          have G1 : (a == x (k * 4 + 1)) = true := by rw [beq_iff_eq]; omega
          have G2 : (a == x (k * 4 + 2)) = false := by rw [beq_eq_false_iff_ne]; omega
          have HX1 := hide h1
          clear h1 h2
          have HE := hide (show B + x (k * 4 + 3) = balN x a (k + 1) by rw [HS.out, ← hB.out]; rw [if_pos HX1.out])
          by_cases hneg : B + x (k * 4 + 3) < 0
          · have HV := hide (fsV_eq (show FS x a n k from .inl ⟨k, rfl, hlt, by rw [← HE.out]; exact hneg, hgood.out⟩))
            clear hne
            go_wp2
            go_ret2
            exact ⟨ret_val HH.out HV.out, HB1.out.trans ((HBEL.out.alloc HBEL.out.size _).mono HB1.out.size)⟩
          · have HNN := hide (show 0 ≤ balN x a (k + 1) by rw [← HE.out]; omega)
            clear hne
            go_wp2
            clear G1 G2
            go_roundw
            case rel => exact ⟨k + 1, _, by omega, by go_num, rfl, by push_cast; omega, by push_cast; omega, HE.out, (fun j hj => by
              by_cases hjk : j = k
              · subst hjk; exact HNN.out
              · exact hgood.out j (by omega)), HBEL.out.alloc HBEL.out.size _⟩
            case measure => simp [intOf]; omega
        · have HX1 := hide h1
          have G1 : (a == x (k * 4 + 1)) = false := by rw [beq_eq_false_iff_ne]; omega
          by_cases h2 : x (k * 4 + 2) = a
          · have G2 : (a == x (k * 4 + 2)) = true := by rw [beq_iff_eq]; omega
            have HX2 := hide h2
            clear h1 h2
            have HE := hide (show B - x (k * 4 + 3) = balN x a (k + 1) by rw [HS.out, ← hB.out]; rw [if_neg HX1.out, if_pos HX2.out]; omega)
            by_cases hneg : B - x (k * 4 + 3) < 0
            · have HV := hide (fsV_eq (show FS x a n k from .inl ⟨k, rfl, hlt, by rw [← HE.out]; exact hneg, hgood.out⟩))
              clear hne
              go_wp2
              go_ret2
              exact ⟨ret_val HH.out HV.out, HB1.out.trans ((HBEL.out.alloc HBEL.out.size _).mono HB1.out.size)⟩
            · have HNN := hide (show 0 ≤ balN x a (k + 1) by rw [← HE.out]; omega)
              clear hne
              go_wp2
              clear G1 G2
              go_roundw
              case rel => exact ⟨k + 1, _, by omega, by go_num, rfl, by push_cast; omega, by push_cast; omega, HE.out, (fun j hj => by
                by_cases hjk : j = k
                · subst hjk; exact HNN.out
                · exact hgood.out j (by omega)), HBEL.out.alloc HBEL.out.size _⟩
              case measure => simp [intOf]; omega
          · have G2 : (a == x (k * 4 + 2)) = false := by rw [beq_eq_false_iff_ne]; omega
            have HX2 := hide h2
            clear h1 h2
            have HE := hide (show B = balN x a (k + 1) by rw [HS.out, ← hB.out]; rw [if_neg HX1.out, if_neg HX2.out]; omega)
            by_cases hneg : B < 0
            · have HV := hide (fsV_eq (show FS x a n k from .inl ⟨k, rfl, hlt, by rw [← HE.out]; exact hneg, hgood.out⟩))
              clear hne
              go_wp2
              go_ret2
              exact ⟨ret_val HH.out HV.out, HB1.out.trans ((HBEL.out.alloc HBEL.out.size _).mono HB1.out.size)⟩
            · have HNN := hide (show 0 ≤ balN x a (k + 1) by rw [← HE.out]; omega)
              clear hne
              go_wp2
              clear G1 G2
              go_roundw
              case rel => exact ⟨k + 1, _, by omega, by go_num, rfl, by push_cast; omega, by push_cast; omega, HE.out, (fun j hj => by
                by_cases hjk : j = k
                · subst hjk; exact HNN.out
                · exact hgood.out j (by omega)), HBEL.out.alloc HBEL.out.size _⟩
              case measure => simp [intOf]; omega
      · obtain rfl : k = n := by omega
        have HV := hide (fsV_eq (show FS x a k (-1) from .inr ⟨rfl, hgood.out⟩))
        have HBEL := hide hbel
        clear hbel
        go_wp2
        go_ret2
        exact ⟨ret_val HH.out HV.out, HB1.out.trans (HBEL.out.mono HB1.out.size)⟩
  · have HH := hide (show ¬ fsP x n a from fun h => hp h.1)
    have HP := hide hp
    clear hp
    go_enter Try.func23, Try.ntmps23
    go_wp2_with fail
    refine HL.out.mono ?_
    rw [tru_no HP.out]
    rintro e w1 ⟨rfl, hb⟩
    have HB1 := hide hb
    clear hb
    go_wp2_with (go_at_call 51; refine (implAcc_any _ _).mono ?_; rintro e w' ⟨rfl, rfl⟩)
    go_ret2
    exact ⟨ret_no HH.out, HB1.out⟩
end Go.Proofs.Ytadgkecbcadfpaa
