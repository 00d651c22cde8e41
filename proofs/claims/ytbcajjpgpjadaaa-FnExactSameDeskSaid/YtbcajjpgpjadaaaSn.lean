/- SameScale, by both. -/
import Derived.Test.YtbcajjpgpjadaaaSc
import Derived.Test.YtbcajjpgpjadaaaVp
import Derived.Test.YtbcajjpgpjadaaaRd
import Derived.Test.YtbcajjpgpjadaaaOw
import Derived.Laws.StructEq
import Derived.Lib.QuietBelow
import Derived.ChangeKeysEq
namespace Go.Proofs.Ytbcajjpgpjadaaa
open Go.RowKit Go.Dues
def plI (x : Nat → Int) (n i : Nat) : Int := if i < n then x i else 0
def plB (n i : Nat) : Bool := decide (i < n)
theorem plI_y {x : Nat → Int} {n i : Nat} (h : i < n) : plI x n i = x i := if_pos h
theorem plI_n {x : Nat → Int} {n i : Nat} (h : ¬ i < n) : plI x n i = 0 := if_neg h
theorem plB_y {n i : Nat} (h : i < n) : plB n i = true := decide_eq_true h
theorem plB_n {n i : Nat} (h : ¬ i < n) : plB n i = false := decide_eq_false h
theorem ret_pl {a b a' b' : Int} {p q p' q' : Bool} (h1 : a = a') (h2 : b = b') (h3 : p = p') (h4 : q = q') : Ending.returned (.agg #[.int .i64 a, .int .i64 b, .bool p, .bool q]) = .returned (.agg #[.int .i64 a', .int .i64 b', .bool p', .bool q']) := by rw [h1, h2, h3, h4]

/-- lists are equal, by the reference -/
def listEq (x x' : Nat → Int) (n n' : Nat) : Prop := n = n' ∧ ∀ j, j < n → x j = x' j
set_option maxHeartbeats 1000000 in
theorem specEqual_any (A A' : Option Addr) (n c n' c' : Nat) (x x' : Nat → Int) (w : World) (hn : n ≤ maxLen) (hn' : n' ≤ maxLen) (hs : SL w A n (fun j => .int .i64 (x j))) (hs' : SL w A' n' (fun j => .int .i64 (x' j))) :
    Calls Try.prog 163 #[.slice A n c, .slice A' n' c'] w fun e w' => e = .returned (.bool (tru (listEq x x' n n'))) ∧ ∃ q, w' = w.drewN q := by
  unfold maxLen at hn hn'
  by_cases hm : n = n'
  · subst hm
    have hne : ((n : Int) != (n : Int)) = false := by simp
    have HC := cells_two hs hs'
    clear hs hs'
    go_enter Try.func163, Try.ntmps163
    go_wp2
    go_loopw [5] (fun i wr => ∃ k q : Nat, k ≤ n ∧ i = .int .i64 k ∧ Hid (∀ j, j < k → x j = x' j) ∧ wr = w.drewN q) (fun i _ => n - (intOf i).toNat)
    case atStart => exact ⟨0, 0, Nat.zero_le _, rfl, fun j hj => absurd hj (by omega), rfl⟩
    case round =>
      obtain ⟨k, q, hk, rfl, hg, rfl⟩ := hrel
      by_cases hlt : k < n
      · obtain ⟨b, off, b', off', rfl, rfl, hc, hc'⟩ := HC.out k hlt
        by_cases he : x k = x' k
        · have hb : (x k != x' k) = false := by simp [he]
          have HE := hide he
          clear he
          go_wp2
          go_quiet (fail)
          go_wp2
          go_roundw
          case rel => exact ⟨k + 1, _, by omega, by go_num, fun j hj => by
            by_cases hjk : j = k
            · subst hjk; exact HE.out
            · exact hg.out j (by omega), by first | rfl | exact World.drewN_drewN ..⟩
          case measure => simp [intOf]; omega
        · have hb : (x k != x' k) = true := by simp [he]
          have HF := hide (tru_no (p := listEq x x' n n) (fun h => he (h.2 k hlt)))
          clear he
          go_wp2
          go_quiet (fail)
          go_wp2
          go_ret
          exact ⟨retb HF.out.symm, _, by first | rfl | exact World.drewN_drewN ..⟩
      · obtain rfl : k = n := by omega
        have HF := hide (tru_yes (p := listEq x x' k k) ⟨rfl, hg.out⟩)
        go_wp2
        go_ret
        exact ⟨retb HF.out.symm, _, rfl⟩
  · have hne : ((n : Int) != (n' : Int)) = true := by simp; omega
    have HF := hide (tru_no (p := listEq x x' n n') (fun h => hm h.1))
    clear hm hs hs'
    go_enter Try.func163, Try.ntmps163
    go_wp2
    go_ret
    exact ⟨retb HF.out.symm, 0, rfl⟩
def scP (x : Nat → Int) (n : Nat) (y : Nat → Int) (n' : Nat) (u : Nat → Int) (m : Nat) (v : Nat → Int) (m' : Nat) : Prop := listEq x u n m ∧ listEq y v n' m'
theorem bel_qs {B : Nat} {a w : World} (h : Below B a w) (n : Nat) : Below B a (w.drewN n) := ⟨h.os, h.tape, h.output, h.size, h.block⟩
set_option maxHeartbeats 4000000 in
theorem specSameP_any (b1 b2 : Nat) (A : Option Addr) (n c : Nat) (x : Nat → Int) (A' : Option Addr) (n' c' : Nat) (y : Nat → Int) (B : Option Addr) (m d : Nat) (u : Nat → Int) (B' : Option Addr) (m' d' : Nat) (v : Nat → Int) (w : World) (hn : n ≤ maxLen) (hn' : n' ≤ maxLen) (hm : m ≤ maxLen) (hm' : m' ≤ maxLen) (hs : SL w A n (fun j => .int .i64 (x j))) (hs' : SL w A' n' (fun j => .int .i64 (y j))) (ht : SL w B m (fun j => .int .i64 (u j))) (ht' : SL w B' m' (fun j => .int .i64 (v j))) (k0 : w.cell? ⟨b1, 0, none⟩ = some (.slice A n c)) (k1 : w.cell? ⟨b1, 1, none⟩ = some (.slice A' n' c')) (l0 : w.cell? ⟨b2, 0, none⟩ = some (.slice B m d)) (l1 : w.cell? ⟨b2, 1, none⟩ = some (.slice B' m' d')) :
    Calls Try.prog 142 #[.pointer (some ⟨b1, 0, none⟩), .pointer (some ⟨b2, 0, none⟩)] w fun e w' => e = .returned (.bool (tru (scP x n y n' u m v m'))) ∧ ∃ q, w' = w.drewN q := by
  have H1 := fun q => specEqual_any A B n c m d x u (w.drewN q) hn hm (hs.drewN q) (ht.drewN q)
  have H2 := fun q => specEqual_any A' B' n' c' m' d' y v (w.drewN q) hn' hm' (hs'.drewN q) (ht'.drewN q)
  clear hs hs' ht ht'
  by_cases g1 : listEq x u n m
  rotate_left
  · rw [tru_no g1] at H1
    have G1 := fun q => hide (H1 q)
    have HT := hide (tru_no (show ¬ scP x n y n' u m v m' from fun h => g1 h.1))
    clear g1 H1 H2
    go_enter Try.func142, Try.ntmps142
    go_wp2_with fail
    go_quiet ((first | (go_at_call 163; with_reducible exact quiet_draws (G1 _).out)))
    go_wp2
    go_ret
    exact ⟨retb HT.out.symm, _, by first | rfl | exact World.drewN_drewN ..⟩
  rw [tru_yes g1] at H1
  have G1 := fun q => hide (H1 q)
  clear H1
  by_cases g2 : listEq y v n' m'
  rotate_left
  · rw [tru_no g2] at H2
    have G2 := fun q => hide (H2 q)
    have HT := hide (tru_no (show ¬ scP x n y n' u m v m' from fun h => g2 h.2))
    clear g2 H2 g1
    go_enter Try.func142, Try.ntmps142
    go_wp2_with fail
    go_quiet ((first | (go_at_call 163; with_reducible exact quiet_draws (G1 _).out) | (go_at_call 163; with_reducible exact quiet_draws (G2 _).out)))
    go_wp2
    go_ret
    exact ⟨retb HT.out.symm, _, by first | rfl | exact World.drewN_drewN ..⟩
  · rw [tru_yes g2] at H2
    have G2 := fun q => hide (H2 q)
    have HT := hide (tru_yes (show scP x n y n' u m v m' from ⟨g1, g2⟩))
    clear g2 H2 g1
    go_enter Try.func142, Try.ntmps142
    go_wp2_with fail
    go_quiet ((first | (go_at_call 163; with_reducible exact quiet_draws (G1 _).out) | (go_at_call 163; with_reducible exact quiet_draws (G2 _).out)))
    go_wp2
    go_ret
    exact ⟨retb HT.out.symm, _, by first | rfl | exact World.drewN_drewN ..⟩
set_option maxHeartbeats 4000000 in
theorem specSameSc_any (A : Option Addr) (n c : Nat) (x : Nat → Int) (A' : Option Addr) (n' c' : Nat) (y : Nat → Int) (B : Option Addr) (m d : Nat) (u : Nat → Int) (B' : Option Addr) (m' d' : Nat) (v : Nat → Int) (w : World) (hn : n ≤ maxLen) (hn' : n' ≤ maxLen) (hm : m ≤ maxLen) (hm' : m' ≤ maxLen) (hs : SL w A n (fun j => .int .i64 (x j))) (hs' : SL w A' n' (fun j => .int .i64 (y j))) (ht : SL w B m (fun j => .int .i64 (u j))) (ht' : SL w B' m' (fun j => .int .i64 (v j))) :
    Calls Try.prog 62 #[.agg #[.slice A n c, .slice A' n' c'], .agg #[.slice B m d, .slice B' m' d']] w fun e w' => e = .returned (.bool (tru (scP x n y n' u m v m'))) ∧ Below w.heap.size w w' := by
  obtain ⟨W, hW⟩ : ∃ q, q = (w.alloc (.cells #[.slice A n c, .slice A' n' c'] 30)).alloc (.cells #[.slice B m d, .slice B' m' d'] 30) := ⟨_, rfl⟩
  have HB : Hid (Below w.heap.size w W) := by rw [hW]; exact ((Below.refl w.heap.size w).alloc (Nat.le_refl _) _).alloc (by simp) _
  have HX1 : Hid (W.heap[w.heap.size]? = some (.cells #[.slice A n c, .slice A' n' c'] 30)) := by rw [hW]; exact (blocks2 w _ _).1
  have HX2 : Hid (W.heap[w.heap.size + 1]? = some (.cells #[.slice B m d, .slice B' m' d'] 30)) := by rw [hW]; exact (blocks2 w _ _).2
  have k0 := Joins.cell_of_block HX1.out 0
  have k1 := Joins.cell_of_block HX1.out 1
  have l0 := Joins.cell_of_block HX2.out 0
  have l1 := Joins.cell_of_block HX2.out 1
  simp at k0 k1 l0 l1
  have HV := hide (specSameP_any w.heap.size (w.heap.size + 1) A n c x A' n' c' y B m d u B' m' d' v W hn hn' hm hm' (hs.below HB.out) (hs'.below HB.out) (ht.below HB.out) (ht'.below HB.out) k0 k1 l0 l1)
  have HWW := hide hW
  clear hW hs hs' ht ht' k0 k1 l0 l1
  go_enter Try.func62, Try.ntmps62
  go_wp2_with fail
  rw [← HWW.out]
  refine HV.out.mono ?_
  rintro e w1 ⟨rfl, q, rfl⟩
  go_wp2
  go_ret
  exact ⟨rfl, bel_qs HB.out _⟩
set_option maxHeartbeats 4000000 in
theorem implPlace_any (A : Option Addr) (n c : Nat) (x : Nat → Int) (A' : Option Addr) (n' c' : Nat) (y : Nat → Int) (i : Nat) (w : World) (hn : n ≤ maxLen) (hn' : n' ≤ maxLen) (hs : SL w A n (fun j => .int .i64 (x j))) (hs' : SL w A' n' (fun j => .int .i64 (y j))) :
    Calls Try.prog 143 #[.agg #[.slice A n c, .slice A' n' c'], .int .i64 i] w fun e w' => e = .returned (.agg #[.int .i64 (plI x n i), .int .i64 (plI y n' i), .bool (plB n i), .bool (plB n' i)]) ∧ Below w.heap.size w w' := by
  unfold maxLen at hn hn'
  have HB3 := fun (A A' : Option Addr) (o : Obj) => (((Below.refl w.heap.size w).alloc (Nat.le_refl _) (.cells #[.slice A n c, .slice A' n' c'] 30)).alloc (by simp) (.cells #[.int .i64 0, .int .i64 0, .bool false, .bool false] 142)).alloc (by simp; omega) o
  by_cases h1 : i < n
  · obtain ⟨b, off, rfl, hb, hc⟩ := hs.at_ (by omega)
    have e0 := hc i h1
    have h1i : (i : Int) < n := by omega
    clear hc
    by_cases h2 : i < n'
    · obtain ⟨b', off', rfl, hb', hc'⟩ := hs'.at_ (by omega)
      have g0 := hc' i h2
      have h2i : (i : Int) < n' := by omega
      clear hc'
      have R1 := hide (plI_y (x := x) h1)
      have R2 := hide (plI_y (x := y) h2)
      have R3 := hide (plB_y h1)
      have R4 := hide (plB_y h2)
      clear hs hs'
      have E0 := ((HB3 (some ⟨b, off, none⟩) (some ⟨b', off', none⟩) (.cells #[.int .i64 0, .int .i64 0, .bool false, .bool false] 142)).cell (p := ⟨b, off + i, none⟩) hb).trans e0
      clear e0
      have F0 := ((HB3 (some ⟨b, off, none⟩) (some ⟨b', off', none⟩) (.cells #[.int .i64 (x i), .int .i64 0, .bool true, .bool false] 142)).cell (p := ⟨b', off' + i, none⟩) hb').trans g0
      clear g0
      clear HB3
      go_enter Try.func143, Try.ntmps143
      go_wp2
      refine bodyPost_ret (v := .agg #[.int .i64 (x i), .int .i64 (y i), .bool true, .bool true]) (by simp [results, Try.results143, go_sem]) rfl ⟨ret_pl R1.out.symm R2.out.symm R3.out.symm R4.out.symm, ?_⟩
      exact (((Below.refl w.heap.size w).alloc (Nat.le_refl _) _).alloc (by simp) _).alloc (by simp; omega) _
    · have h2i : ¬ (i : Int) < n' := by omega
      have R1 := hide (plI_y (x := x) h1)
      have R2 := hide (plI_n (x := y) h2)
      have R3 := hide (plB_y h1)
      have R4 := hide (plB_n h2)
      clear hs hs'
      have E0 := ((HB3 (some ⟨b, off, none⟩) A' (.cells #[.int .i64 0, .int .i64 0, .bool false, .bool false] 142)).cell (p := ⟨b, off + i, none⟩) hb).trans e0
      clear e0
      clear HB3
      go_enter Try.func143, Try.ntmps143
      go_wp2
      refine bodyPost_ret (v := .agg #[.int .i64 (x i), .int .i64 (0), .bool true, .bool false]) (by simp [results, Try.results143, go_sem]) rfl ⟨ret_pl R1.out.symm R2.out.symm R3.out.symm R4.out.symm, ?_⟩
      exact (((Below.refl w.heap.size w).alloc (Nat.le_refl _) _).alloc (by simp) _).alloc (by simp; omega) _
  · have h1i : ¬ (i : Int) < n := by omega
    by_cases h2 : i < n'
    · obtain ⟨b', off', rfl, hb', hc'⟩ := hs'.at_ (by omega)
      have g0 := hc' i h2
      have h2i : (i : Int) < n' := by omega
      clear hc'
      have R1 := hide (plI_n (x := x) h1)
      have R2 := hide (plI_y (x := y) h2)
      have R3 := hide (plB_n h1)
      have R4 := hide (plB_y h2)
      clear hs hs'
      have F0 := ((HB3 A (some ⟨b', off', none⟩) (.cells #[.int .i64 0, .int .i64 0, .bool false, .bool false] 142)).cell (p := ⟨b', off' + i, none⟩) hb').trans g0
      clear g0
      clear HB3
      go_enter Try.func143, Try.ntmps143
      go_wp2
      refine bodyPost_ret (v := .agg #[.int .i64 (0), .int .i64 (y i), .bool false, .bool true]) (by simp [results, Try.results143, go_sem]) rfl ⟨ret_pl R1.out.symm R2.out.symm R3.out.symm R4.out.symm, ?_⟩
      exact (((Below.refl w.heap.size w).alloc (Nat.le_refl _) _).alloc (by simp) _).alloc (by simp; omega) _
    · have h2i : ¬ (i : Int) < n' := by omega
      have R1 := hide (plI_n (x := x) h1)
      have R2 := hide (plI_n (x := y) h2)
      have R3 := hide (plB_n h1)
      have R4 := hide (plB_n h2)
      clear hs hs'
      clear HB3
      go_enter Try.func143, Try.ntmps143
      go_wp2
      refine bodyPost_ret (v := .agg #[.int .i64 (0), .int .i64 (0), .bool false, .bool false]) (by simp [results, Try.results143, go_sem]) rfl ⟨ret_pl R1.out.symm R2.out.symm R3.out.symm R4.out.symm, ?_⟩
      exact (((Below.refl w.heap.size w).alloc (Nat.le_refl _) _).alloc (by simp) _).alloc (by simp; omega) _
theorem neqPl (a0 a1 b0 b1 : Int) (p0 p1 q0 q1 : Bool) (w : World) : (binOp .neq 142 (.agg #[.int .i64 a0, .int .i64 a1, .bool p0, .bool p1]) (.agg #[.int .i64 b0, .int .i64 b1, .bool q0, .bool q1])).run Try.prog w = .ok (.bool (!(a0 == b0 && (a1 == b1 && (p0 == q0 && p1 == q1))))) w := by
  have u3 := Try.underlying2
  have a3' := Try.isAgg2
  have z3 := Try.sizeOf2
  have u4 := Try.underlying4
  have a4' := Try.isAgg4
  have z4 := Try.sizeOf4
  have hS : Try.prog.underlying 142 = some (.struct (Try.prog.fieldsOf 142)) := by kernel_rfl
  have hp : Try.prog.stoodInHeld 142 = false := by kernel_rfl
  rw [run_neq_struct, show (10000 : Nat) = 9999 + 1 from rfl, run_equalIn_agg w 9999 142 _ _ hS hp]
  simp only [Program.fieldsOf, Try.underlying142]
  go_simp
  by_cases h0 : a0 = b0 <;> by_cases h1 : a1 = b1 <;> by_cases h2 : p0 = q0 <;> by_cases h3 : p1 = q1 <;> simp [h0, h1, h2, h3]
/-- the places are the same -/
def plE (x : Nat → Int) (n : Nat) (y : Nat → Int) (n' : Nat) (u : Nat → Int) (m : Nat) (v : Nat → Int) (m' : Nat) (i : Nat) : Prop := plI x n i = plI u m i ∧ plI y n' i = plI v m' i ∧ plB n i = plB m i ∧ plB n' i = plB m' i
theorem plE_b {x : Nat → Int} {n : Nat} {y : Nat → Int} {n' : Nat} {u : Nat → Int} {m : Nat} {v : Nat → Int} {m' i : Nat} : (plI x n i == plI u m i && (plI y n' i == plI v m' i && (plB n i == plB m i && plB n' i == plB m' i))) = tru (plE x n y n' u m v m' i) := by
  by_cases h : plE x n y n' u m v m' i
  · rw [tru_yes h]
    obtain ⟨h1, h2, h3, h4⟩ := h
    rw [h1, h2, h3, h4]; simp
  · rw [tru_no h, ← Bool.not_eq_true]
    intro e
    simp only [Bool.and_eq_true, beq_iff_eq] at e
    exact h ⟨e.1, e.2.1, e.2.2.1, e.2.2.2⟩
theorem sc_of {x : Nat → Int} {n : Nat} {y : Nat → Int} {n' : Nat} {u : Nat → Int} {m : Nat} {v : Nat → Int} {m' M : Nat} (h1 : n ≤ M) (h2 : n' ≤ M) (h3 : m ≤ M) (h4 : m' ≤ M) (h : ∀ i, i < M → plE x n y n' u m v m' i) : scP x n y n' u m v m' := by
  have len : ∀ a b : Nat, a ≤ M → b ≤ M → (∀ i, i < M → plB a i = plB b i) → a = b := by
    intro a b ha hb he
    rcases Nat.lt_trichotomy a b with hh | hh | hh
    · have := he a (by omega)
      rw [plB_n (by omega), plB_y hh] at this; cases this
    · exact hh
    · have := he b (by omega)
      rw [plB_n (show ¬ b < b by omega), plB_y hh] at this; cases this
  have e1 := len n m h1 h3 (fun i hi => (h i hi).2.2.1)
  have e2 := len n' m' h2 h4 (fun i hi => (h i hi).2.2.2)
  subst e1 e2
  refine ⟨⟨rfl, fun j hj => ?_⟩, rfl, fun j hj => ?_⟩
  · have := (h j (by omega)).1
    rwa [plI_y hj, plI_y hj] at this
  · have := (h j (by omega)).2.1
    rwa [plI_y hj, plI_y hj] at this
theorem sc_at {x : Nat → Int} {n : Nat} {y : Nat → Int} {n' : Nat} {u : Nat → Int} {m : Nat} {v : Nat → Int} {m' : Nat} (h : scP x n y n' u m v m') (i : Nat) : plE x n y n' u m v m' i := by
  obtain ⟨⟨rfl, h1⟩, rfl, h2⟩ := h
  refine ⟨?_, ?_, rfl, rfl⟩
  · by_cases hj : i < n
    · rw [plI_y hj, plI_y hj]; exact h1 i hj
    · rw [plI_n hj, plI_n hj]
  · by_cases hj : i < n'
    · rw [plI_y hj, plI_y hj]; exact h2 i hj
    · rw [plI_n hj, plI_n hj]
theorem run_max4 (P : Program) (w : World) (ts : Array TypeId) (t : TypeId) (x y z u : Int) : (Builtin.max_ ts t #[.int .i64 x, .int .i64 y, .int .i64 z, .int .i64 u]).run P w = .ok (.int .i64 (if (if (if x < y then y else x) < z then z else (if x < y then y else x)) < u then u else (if (if x < y then y else x) < z then z else (if x < y then y else x)))) w := by
  simp [Builtin.max_, Builtin.max2]
set_option maxRecDepth 100000 in
set_option maxHeartbeats 8000000 in
theorem implSameSc_any (A : Option Addr) (n c : Nat) (x : Nat → Int) (A' : Option Addr) (n' c' : Nat) (y : Nat → Int) (B : Option Addr) (m d : Nat) (u : Nat → Int) (B' : Option Addr) (m' d' : Nat) (v : Nat → Int) (w : World) (hn : n ≤ maxLen) (hn' : n' ≤ maxLen) (hm : m ≤ maxLen) (hm' : m' ≤ maxLen) (hs : SL w A n (fun j => .int .i64 (x j))) (hs' : SL w A' n' (fun j => .int .i64 (y j))) (ht : SL w B m (fun j => .int .i64 (u j))) (ht' : SL w B' m' (fun j => .int .i64 (v j))) :
    Calls Try.prog 64 #[.agg #[.slice A n c, .slice A' n' c'], .agg #[.slice B m d, .slice B' m' d']] w fun e w' => e = .returned (.bool (tru (scP x n y n' u m v m'))) ∧ Below w.heap.size w w' := by
  have hg : Try.prog.eqGuardType Try.prog.depth 142 = false := by kernel_rfl
  obtain ⟨W, hW⟩ : ∃ q, q = (w.alloc (.cells #[.slice A n c, .slice A' n' c'] 30)).alloc (.cells #[.slice B m d, .slice B' m' d'] 30) := ⟨_, rfl⟩
  have HB : Hid (Below w.heap.size w W) := by rw [hW]; exact ((Below.refl w.heap.size w).alloc (Nat.le_refl _) _).alloc (by simp) _
  have HX1 : Hid (W.heap[w.heap.size]? = some (.cells #[.slice A n c, .slice A' n' c'] 30)) := by rw [hW]; exact (blocks2 w _ _).1
  have HX2 : Hid (W.heap[w.heap.size + 1]? = some (.cells #[.slice B m d, .slice B' m' d'] 30)) := by rw [hW]; exact (blocks2 w _ _).2
  have hz : w.heap.size + 2 ≤ W.heap.size := by rw [hW]; simp
  have HS := hide (hs.below HB.out)
  have HS' := hide (hs'.below HB.out)
  have HT := hide (ht.below HB.out)
  have HT' := hide (ht'.below HB.out)
  clear hs hs' ht ht'
  have HN := hide hn
  have HN' := hide hn'
  have HM := hide hm
  have HM' := hide hm'
  unfold maxLen at hn hn' hm hm'
  obtain ⟨M, hM⟩ : ∃ q : Nat, q = max (max (max n n') m) m' := ⟨_, rfl⟩
  have HMX : ∀ (w : World) (ts : Array TypeId) (t : TypeId), (Builtin.max_ ts t #[.int .i64 n, .int .i64 n', .int .i64 m, .int .i64 m']).run Try.prog w = .ok (.int .i64 (M : Int)) w := by
    intro w ts t
    rw [run_max4]
    congr 2
    omega
  have b1 : n ≤ M := by omega
  have b2 : n' ≤ M := by omega
  have b3 : m ≤ M := by omega
  have b4 : m' ≤ M := by omega
  have b5 : (M : Int) ≤ 9223372036854775807 := by omega
  clear hM
  have i0 := Joins.cell_of_block HX1.out 0
  have i1 := Joins.cell_of_block HX1.out 1
  have j0 := Joins.cell_of_block HX2.out 0
  have j1 := Joins.cell_of_block HX2.out 1
  simp at i0 i1 j0 j1
  rw [hW] at i0 i1 j0 j1
  have HWW := hide hW
  clear hW
  go_enter Try.func64, Try.ntmps64
  go_wp2
  rw [← HWW.out]
  clear HWW i0 i1 j0 j1 HMX
  go_loopw [4, 5, 19] (fun _ _ i wr => ∃ k : Nat, k ≤ M ∧ i = .int .i64 k ∧ Hid (∀ j, j < k → plE x n y n' u m v m' j) ∧ Hid (Below W.heap.size W wr)) (fun _ _ i _ => M - (intOf i).toNat)
  case atStart => exact ⟨0, Nat.zero_le _, rfl, fun j hj => absurd hj (by omega), Below.refl _ _⟩
  case round =>
    obtain ⟨k, hk, rfl, hall, hbel⟩ := hrel
    by_cases hlt : k < M
    rotate_left
    · obtain rfl : k = M := by omega
      have HTR := hide (tru_yes (sc_of b1 b2 b3 b4 hall.out))
      go_wp2
      go_ret
      exact ⟨retb HTR.out.symm, HB.out.trans (hbel.out.mono HB.out.size)⟩
    have Y1 := hide (blk_below hbel.out (by omega) HX1.out)
    have Y2 := hide (blk_below hbel.out (by omega) HX2.out)
    have i0 := Joins.cell_of_block Y1.out 0
    have i1 := Joins.cell_of_block Y1.out 1
    have j0 := Joins.cell_of_block Y2.out 0
    have j1 := Joins.cell_of_block Y2.out 1
    simp at i0 i1 j0 j1
    have I0 := cell_regrown i0
    have I1 := cell_regrown i1
    have J0 := cell_regrown j0
    have J1 := cell_regrown j1
    have G1 := fun dq os => hide (implPlace_any A n c x A' n' c' y k (Go.Sort.grow (redrawn wr dq) os) HN.out HN'.out ((HS.out.below hbel.out).below (below_regrown wr dq os)) ((HS'.out.below hbel.out).below (below_regrown wr dq os)))
    have G2 := fun dq os => hide (implPlace_any B m d u B' m' d' v k (Go.Sort.grow (redrawn wr dq) os) HM.out HM'.out ((HT.out.below hbel.out).below (below_regrown wr dq os)) ((HT'.out.below hbel.out).below (below_regrown wr dq os)))
    have EQ := fun w => neqPl (plI x n k) (plI y n' k) (plI u m k) (plI v m' k) (plB n k) (plB n' k) (plB m k) (plB m' k) w
    rw [plE_b] at EQ
    by_cases he : plE x n y n' u m v m' k
    · rw [tru_yes he] at EQ
      have HE := hide he
      clear he
      simp only [Bool.not_true, Bool.not_false] at EQ
      go_wp2_with fail
      refine wp_region_quiet_below (by kernel_rfl) (by kernel_rfl) ?_
      repeat (first | go_big_quiet_step (first | with_reducible exact Calls.regrown_of (G1 _ _).out | with_reducible exact Calls.regrown_of (G2 _ _).out) | quiet_step (first | with_reducible exact Calls.regrown_of (G1 _ _).out | with_reducible exact Calls.regrown_of (G2 _ _).out))
      refine wpQuiet_nil ?_
      intro _ hw'
      obtain ⟨⟨dq, osq⟩, hw''⟩ := hw'
      subst hw''
      go_wp2
      go_roundw
      case rel => exact ⟨k + 1, by omega, by go_num, fun j hj => by
        by_cases hjk : j = k
        · subst hjk; exact HE.out
        · exact hall.out j (by omega), hbel.out.trans ((below_regrown wr dq osq).mono hbel.out.size)⟩
      case measure => simp [intOf]; omega
    · rw [tru_no he] at EQ
      have HTR := hide (tru_no (show ¬ scP x n y n' u m v m' from fun h => he (sc_at h k)))
      clear he
      simp only [Bool.not_true, Bool.not_false] at EQ
      go_wp2_with fail
      refine wp_region_quiet_below (by kernel_rfl) (by kernel_rfl) ?_
      repeat (first | go_big_quiet_step (first | with_reducible exact Calls.regrown_of (G1 _ _).out | with_reducible exact Calls.regrown_of (G2 _ _).out) | quiet_step (first | with_reducible exact Calls.regrown_of (G1 _ _).out | with_reducible exact Calls.regrown_of (G2 _ _).out))
      refine wpQuiet_nil ?_
      intro _ hw'
      obtain ⟨⟨dq, osq⟩, hw''⟩ := hw'
      subst hw''
      go_wp2
      go_ret
      exact ⟨retb HTR.out.symm, HB.out.trans ((hbel.out.trans ((below_regrown wr dq osq).mono hbel.out.size)).mono HB.out.size)⟩
end Go.Proofs.Ytbcajjpgpjadaaa
