/- Which rules clash, by both. -/
import Derived.Test.YtpbbedelapnnnaaAi
namespace Go.Proofs.Ytpbbedelapnnnaa
open Go.RowKit Go.Dues
def hasP (x : Nat → Int) (n : Nat) (v : Int) : Prop := ∃ j, j < n ∧ x j = v
def clashR (r s : RV) : Prop := r.h = -s.h ∧ r.k = s.k ∧ ∀ j, j < r.n → ¬ hasP s.x s.n (-(r.x j))
theorem beqY {a b : Int} (h : a = b) : (a == b) = true := by rw [h]; simp
theorem beqN {a b : Int} (h : ¬ a = b) : (a == b) = false := by rw [beq_eq_false_iff_ne]; exact h
theorem neY' {a b : Int} (h : a = b) : (a != b) = false := by rw [h]; simp
theorem neN' {a b : Int} (h : ¬ a = b) : (a != b) = true := by rw [bne_iff_ne]; exact h
set_option maxHeartbeats 2000000 in
theorem specHas_any (A : Option Addr) (n c : Nat) (x : Nat → Int) (v : Int) (w : World) (hn : n ≤ maxLen) (hs : SL w A n (fun j => .int .i64 (x j))) :
    Calls Try.prog 151 #[.slice A n c, .int .i64 v] w fun e w' => e = .returned (.bool (tru (hasP x n v))) ∧ w = w' := by
  unfold maxLen at hn
  have HC := cells_one hs
  clear hs
  go_enter Try.func151, Try.ntmps151
  go_wp2
  go_loop [5] (fun i => ∃ k : Nat, k ≤ n ∧ i = .int .i64 k ∧ Hid (∀ j, j < k → x j ≠ v)) (fun i => n - (intOf i).toNat)
  case atStart => exact ⟨0, Nat.zero_le _, rfl, fun j hj => absurd hj (by omega)⟩
  case round =>
    obtain ⟨k, hk, rfl, hgood⟩ := hrel
    by_cases hlt : k < n
    · have hki : (k : Int) < (n : Int) := by omega
      obtain ⟨b, off, rfl, hb, d0⟩ := HC.out k hlt
      by_cases he : x k = v
      · have hd := beqY he
        have hd2 := beqY he.symm
        have HT := hide (tru_yes (show hasP x n v from ⟨k, hlt, he⟩))
        clear he
        go_wp2
        go_ret
        exact ⟨retBr HT.out.symm, rfl⟩
      · have hd := beqN he
        have hd2 := beqN (fun h => he h.symm)
        have HE := hide he
        clear he
        go_wp2
        clear d0 hd hd2
        go_round
        case rel => exact ⟨k + 1, by omega, by go_num, fun j hj => by
          by_cases hjk : j = k
          · subst hjk; exact HE.out
          · exact hgood.out j (by omega)⟩
        case measure => simp [intOf]; omega
    · obtain rfl : k = n := by omega
      have hki : ¬ (k : Int) < (k : Int) := by omega
      have HT := hide (tru_no (show ¬ hasP x k v from fun ⟨j, hj, e⟩ => hgood.out j hj e))
      go_wp2
      go_ret
      exact ⟨retBr HT.out.symm, rfl⟩
set_option maxHeartbeats 2000000 in
theorem implIdx_any (A : Option Addr) (n c : Nat) (x : Nat → Int) (v : Int) (w : World) (hn : n ≤ maxLen) (hs : SL w A n (fun j => .int .i64 (x j))) :
    Calls Try.prog 247 #[.slice A n c, .int .i64 v] w fun e w' => ∃ r : Int, e = .returned (.int .i64 r) ∧ ((0 ≤ r ∧ hasP x n v) ∨ (r = -1 ∧ ¬ hasP x n v)) ∧ w = w' := by
  unfold maxLen at hn
  have HC := cells_one hs
  clear hs
  go_enter Try.func247, Try.ntmps247
  go_wp2
  go_loop [5, 8] (fun _ i => ∃ k : Nat, k ≤ n ∧ i = .int .i64 k ∧ Hid (∀ j, j < k → x j ≠ v)) (fun _ i => n - (intOf i).toNat)
  case atStart => exact ⟨0, Nat.zero_le _, rfl, fun j hj => absurd hj (by omega)⟩
  case round =>
    obtain ⟨k, hk, rfl, hgood⟩ := hrel
    by_cases hlt : k < n
    · have hki : (k : Int) < (n : Int) := by omega
      obtain ⟨b, off, rfl, hb, d0⟩ := HC.out k hlt
      by_cases he : x k = v
      · have hd := beqY he
        have hd2 := beqY he.symm
        have HT := hide (show hasP x n v from ⟨k, hlt, he⟩)
        clear he
        go_wp2
        go_ret
        exact ⟨_, rfl, .inl ⟨by omega, HT.out⟩, rfl⟩
      · have hd := beqN he
        have hd2 := beqN (fun h => he h.symm)
        have HE := hide he
        clear he
        go_wp2
        clear d0 hd hd2
        go_round
        case rel => exact ⟨k + 1, by omega, by go_num, fun j hj => by
          by_cases hjk : j = k
          · subst hjk; exact HE.out
          · exact hgood.out j (by omega)⟩
        case measure => simp [intOf]; omega
    · obtain rfl : k = n := by omega
      have hki : ¬ (k : Int) < (k : Int) := by omega
      have HT := hide (show ¬ hasP x k v from fun ⟨j, hj, e⟩ => hgood.out j hj e)
      go_wp2
      go_ret
      exact ⟨_, rfl, .inr ⟨rfl, HT.out⟩, rfl⟩
theorem implHas_any (A : Option Addr) (n c : Nat) (x : Nat → Int) (v : Int) (w : World) (hn : n ≤ maxLen) (hs : SL w A n (fun j => .int .i64 (x j))) :
    Calls Try.prog 207 #[.slice A n c, .int .i64 v] w fun e w' => e = .returned (.bool (tru (hasP x n v))) ∧ w = w' := by
  have HI := hide (implIdx_any A n c x v w hn hs)
  clear hs
  go_enter Try.func207, Try.ntmps207
  go_wp2_with fail
  refine HI.out.mono ?_
  rintro e w1 ⟨r, rfl, hr, rfl⟩
  rcases hr with ⟨h0, h⟩ | ⟨rfl, h⟩
  · have HT := hide (tru_yes h)
    have hd : decide (0 ≤ r) = true := decide_eq_true h0
    clear h
    go_wp2
    go_ret
    exact ⟨retBr HT.out.symm, rfl⟩
  · have HT := hide (tru_no h)
    clear h
    go_wp2
    go_ret
    exact ⟨retBr HT.out.symm, rfl⟩
/-- the closure: is the opposite of a word among the Ifs of the other rule -/
theorem fnOpp_any (PB : Nat) (s : RV) (J : Option Addr) (cj : Nat) (v : Int) (w : World) (hn : s.n ≤ maxLen) (hv : -9223372036854775808 < v ∧ v ≤ 9223372036854775807) (hb : w.heap[PB]? = some (.cells #[.int .i64 s.h, .slice J s.n cj, .int .i64 s.f, .int .i64 s.t, .int .i64 s.k] 178)) (hJ : SL w J s.n (fun j => .int .i64 (s.x j))) :
    Calls Try.prog 212 #[.int .i64 v, .pointer (some ⟨PB, 0, none⟩)] w fun e w' => e = .returned (.bool (tru (hasP s.x s.n (-v)))) ∧ w = w' := by
  have HH := hide (implHas_any J s.n cj s.x (-v) w hn hJ)
  have k1 := Joins.cell_of_block hb 1
  simp at k1
  obtain ⟨v0, v1⟩ := hv
  clear hb hJ
  go_enter Try.func212, Try.ntmps212
  go_wp2_with fail
  refine HH.out.mono ?_
  rintro e w1 ⟨rfl, rfl⟩
  go_wp2
  go_ret
  exact ⟨rfl, rfl⟩
set_option maxHeartbeats 2000000 in
theorem idxOpp_any (A : Option Addr) (n c : Nat) (x : Nat → Int) (PB : Nat) (s : RV) (J : Option Addr) (cj : Nat) (w : World) (hn : n ≤ maxLen) (hm : s.n ≤ maxLen) (hx : ∀ j, j < n → -9223372036854775808 < x j ∧ x j ≤ 9223372036854775807) (hs : SL w A n (fun j => .int .i64 (x j))) (hb : w.heap[PB]? = some (.cells #[.int .i64 s.h, .slice J s.n cj, .int .i64 s.f, .int .i64 s.t, .int .i64 s.k] 178)) (hJ : SL w J s.n (fun j => .int .i64 (s.x j))) :
    Calls Try.prog 231 #[.slice A n c, .func (Fn.func 212) #[] #[.pointer (some ⟨PB, 0, none⟩)]] w fun e w' => ∃ r : Int, e = .returned (.int .i64 r) ∧ ((0 ≤ r ∧ ¬ ∀ j, j < n → ¬ hasP s.x s.n (-(x j))) ∨ (r = -1 ∧ ∀ j, j < n → ¬ hasP s.x s.n (-(x j)))) ∧ w = w' := by
  unfold maxLen at hn
  have HC := cells_one hs
  have HF := fun v hv => hide (fnOpp_any PB s J cj v w hm hv hb hJ)
  have HX := hide hx
  clear hs hb hJ hx
  go_enter Try.func231, Try.ntmps231
  go_wp2
  go_loop [5, 8] (fun _ i => ∃ k : Nat, k ≤ n ∧ i = .int .i64 k ∧ Hid (∀ j, j < k → ¬ hasP s.x s.n (-(x j)))) (fun _ i => n - (intOf i).toNat)
  case atStart => exact ⟨0, Nat.zero_le _, rfl, fun j hj => absurd hj (by omega)⟩
  case round =>
    obtain ⟨k, hk, rfl, hgood⟩ := hrel
    by_cases hlt : k < n
    · have hki : (k : Int) < (n : Int) := by omega
      obtain ⟨b, off, rfl, hb, d0⟩ := HC.out k hlt
      have HFK := HF (x k) (HX.out k hlt)
      cases hp : tru (hasP s.x s.n (-(x k)))
      · have HE := hide (truN hp)
        rw [hp] at HFK
        clear hp
        go_wp2_with fail
        refine HFK.out.mono ?_
        rintro e w' ⟨rfl, rfl⟩
        go_wp2
        clear d0 HFK
        go_round
        case rel => exact ⟨k + 1, by omega, by go_num, fun j hj => by
          by_cases hjk : j = k
          · subst hjk; exact HE.out
          · exact hgood.out j (by omega)⟩
        case measure => simp [intOf]; omega
      · have HE := hide (truV hp)
        rw [hp] at HFK
        clear hp
        go_wp2_with fail
        refine HFK.out.mono ?_
        rintro e w' ⟨rfl, rfl⟩
        go_wp2
        go_ret
        exact ⟨_, rfl, .inl ⟨by omega, fun h => h k hlt HE.out⟩, rfl⟩
    · obtain rfl : k = n := by omega
      have hki : ¬ (k : Int) < (k : Int) := by omega
      go_wp2
      go_ret
      exact ⟨_, rfl, .inr ⟨rfl, hgood.out⟩, rfl⟩
set_option maxRecDepth 100000 in
set_option maxHeartbeats 4000000 in
theorem implClash_any (r s : RV) (I J : Option Addr) (ci cj : Nat) (w : World) (hr : ruleP r) (hs : ruleP s) (hI : SL w I r.n (fun j => .int .i64 (r.x j))) (hJ : SL w J s.n (fun j => .int .i64 (s.x j))) :
    Calls Try.prog 154 #[.agg #[.int .i64 r.h, .slice I r.n ci, .int .i64 r.f, .int .i64 r.t, .int .i64 r.k], .agg #[.int .i64 s.h, .slice J s.n cj, .int .i64 s.f, .int .i64 s.t, .int .i64 s.k]] w fun e w' => e = .returned (.bool (tru (clashR r s))) ∧ Below w.heap.size w w' := by
  obtain ⟨W, hW⟩ : ∃ u, u = (w.alloc (.cells #[.int .i64 r.h, .slice I r.n ci, .int .i64 r.f, .int .i64 r.t, .int .i64 r.k] 178)).alloc (.cells #[.int .i64 s.h, .slice J s.n cj, .int .i64 s.f, .int .i64 s.t, .int .i64 s.k] 178) := ⟨_, rfl⟩
  have HBW : Hid (Below w.heap.size w W) := by rw [hW]; exact ((Below.refl w.heap.size w).alloc (Nat.le_refl _) _).alloc (by simp) _
  have PP := hide (show _ ∧ _ by have := blocks2 w (.cells #[.int .i64 r.h, .slice I r.n ci, .int .i64 r.f, .int .i64 r.t, .int .i64 r.k] 178) (.cells #[.int .i64 s.h, .slice J s.n cj, .int .i64 s.f, .int .i64 s.t, .int .i64 s.k] 178); rw [← hW] at this; exact this)
  have r6 := hr.2.1
  have s6 := hs.2.1
  obtain ⟨_, b0, b1⟩ := hs.1
  have HI := hide (idxOpp_any I r.n ci r.x (w.heap.size + 1) s J cj W (by unfold maxLen; omega) (by unfold maxLen; omega) (fun j hj => by have := (hr.2.2.1 j hj).1.2; omega) (hI.below HBW.out) PP.out.2 (hJ.below HBW.out))
  have k0 := Joins.cell_of_block PP.out.1 0
  have q0 := Joins.cell_of_block PP.out.2 0
  have k1 := Joins.cell_of_block PP.out.1 1
  have q1 := Joins.cell_of_block PP.out.2 1
  have k2 := Joins.cell_of_block PP.out.1 2
  have q2 := Joins.cell_of_block PP.out.2 2
  have k3 := Joins.cell_of_block PP.out.1 3
  have q3 := Joins.cell_of_block PP.out.2 3
  have k4 := Joins.cell_of_block PP.out.1 4
  have q4 := Joins.cell_of_block PP.out.2 4
  simp at k0 k1 k2 k3 k4 q0 q1 q2 q3 q4
  have HWW := hide hW
  clear hI hJ hW hr hs
  by_cases h0 : r.h = -s.h
  rotate_left
  · have e0 := beqN h0
    have HT := hide (tru_no (show ¬ clashR r s from fun h => h0 h.1))
    clear h0
    go_enter Try.func154, Try.ntmps154
    go_wp2_with fail
    first | rw [← HWW.out] | skip
    go_wp2_with fail
    go_ret
    exact ⟨retBr HT.out.symm, HBW.out⟩
  have e0 := beqY h0
  by_cases h1 : r.k = s.k
  rotate_left
  · have e1 := beqN h1
    have HT := hide (tru_no (show ¬ clashR r s from fun h => h1 h.2.1))
    clear h0 h1
    go_enter Try.func154, Try.ntmps154
    go_wp2_with fail
    first | rw [← HWW.out] | skip
    go_wp2_with fail
    go_ret
    exact ⟨retBr HT.out.symm, HBW.out⟩
  have e1 := beqY h1
  have H01 := hide (show r.h = -s.h ∧ r.k = s.k from ⟨h0, h1⟩)
  clear h0 h1
  go_enter Try.func154, Try.ntmps154
  go_wp2_with (first | (go_at_call 231; fail) | (go_at_call 182; go_in))
  rw [← HWW.out]
  clear HWW
  refine HI.out.mono ?_
  rintro e w1 ⟨q, rfl, hq, rfl⟩
  rcases hq with ⟨hq0, hno⟩ | ⟨rfl, hall⟩
  · have HT := hide (tru_no (show ¬ clashR r s from fun h => hno h.2.2))
    have hd : decide (0 ≤ q) = true := decide_eq_true hq0
    clear hno
    go_wp2
    go_ret
    exact ⟨retBr HT.out.symm, HBW.out⟩
  · have HT := hide (tru_yes (show clashR r s from ⟨H01.out.1, H01.out.2, hall⟩))
    clear hall
    go_wp2
    go_ret
    exact ⟨retBr HT.out.symm, HBW.out⟩
end Go.Proofs.Ytpbbedelapnnnaa
