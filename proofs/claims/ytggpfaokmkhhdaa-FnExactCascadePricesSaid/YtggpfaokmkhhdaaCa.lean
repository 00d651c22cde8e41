/- CascadePrices by the program: a range over a function. -/
import Derived.Test.YtggpfaokmkhhdaaCi
namespace Go.Proofs.Ytggpfaokmkhhdaa
open Go.RowKit Go.Shelf Go.Dues
attribute [local go_sem] Oper.semAt_some
def cpB (x : Nat → Int) (n : Nat) (rate r : Int) : Prop := allP x n 1 16 0 1000000000000 ∧ (0 ≤ rate ∧ rate ≤ 10000) ∧ (0 ≤ r ∧ r ≤ 3)
def cpP (x : Nat → Int) (n : Nat) (rate r : Int) : Prop := cpB x n rate r ∧ ∀ j, j < n → amt (cpV x rate r (j + 1))
theorem implStages_any (A : Option Addr) (n c : Nat) (x : Nat → Int) (rate r : Int) (w : World) (hn : n ≤ 1048576) (hs : SL w A n (fun j => .int .i64 (x j))) :
    Calls Try.prog 101 #[.slice A n c, .int .i64 rate, .int .i64 r] w fun e w' => e = .returned (.bool (tru (cpB x n rate r))) ∧ Below w.heap.size w w' := by
  have HA := hide (areAll_isAmount A n c x 1 16 w (by unfold maxLen; omega) hs)
  clear hs
  by_cases ha : allP x n 1 16 0 1000000000000
  · have HAT := hide (tru_yes ha)
    cases g1 : ratB rate
    · have HT := hide (tru_no (show ¬ cpB x n rate r from fun h => by rw [ratB_yes h.2.1] at g1; cases g1))
      clear ha
      go_enter Try.func101, Try.ntmps101
      go_wp2_with fail
      refine HA.out.mono ?_
      rw [HAT.out]
      rintro e w1 ⟨rfl, hb⟩
      have HB := hide hb
      clear hb
      go_wp2_with (first | (go_at_call 117; refine (implRate_any _ _).mono ?_; rintro e w' ⟨rfl, rfl⟩) | fail)
      go_ret
      exact ⟨retBa HT.out.symm, HB.out⟩
    cases g2 : wayB r
    · have HT := hide (tru_no (show ¬ cpB x n rate r from fun h => by rw [wayB_yes h.2.2] at g2; cases g2))
      clear ha
      go_enter Try.func101, Try.ntmps101
      go_wp2_with fail
      refine HA.out.mono ?_
      rw [HAT.out]
      rintro e w1 ⟨rfl, hb⟩
      have HB := hide hb
      clear hb
      go_wp2_with (first | (go_at_call 117; refine (implRate_any _ _).mono ?_; rintro e w' ⟨rfl, rfl⟩) | (go_at_call 115; refine (implRound_any _ _).mono ?_; rintro e w' ⟨rfl, rfl⟩) | fail)
      go_ret
      exact ⟨retBa HT.out.symm, HB.out⟩
    have HT := hide (tru_yes (show cpB x n rate r from ⟨ha, ratB_iff.1 g1, wayB_iff.1 g2⟩))
    clear ha
    go_enter Try.func101, Try.ntmps101
    go_wp2_with fail
    refine HA.out.mono ?_
    rw [HAT.out]
    rintro e w1 ⟨rfl, hb⟩
    have HB := hide hb
    clear hb
    go_wp2_with (first | (go_at_call 117; refine (implRate_any _ _).mono ?_; rintro e w' ⟨rfl, rfl⟩) | (go_at_call 115; refine (implRound_any _ _).mono ?_; rintro e w' ⟨rfl, rfl⟩) | fail)
    go_ret
    exact ⟨retBa HT.out.symm, HB.out⟩
  · have HAT := hide (tru_no ha)
    have HT := hide (tru_no (show ¬ cpB x n rate r from fun h => ha h.1))
    clear ha
    go_enter Try.func101, Try.ntmps101
    go_wp2_with fail
    refine HA.out.mono ?_
    rw [HAT.out]
    rintro e w1 ⟨rfl, hb⟩
    have HB := hide hb
    clear hb
    go_wp2
    go_ret
    exact ⟨retBa HT.out.symm, HB.out⟩
theorem implPrices_any (A : Option Addr) (n c : Nat) (rate r : Int) (w : World) :
    Calls Try.prog 102 #[.slice A n c, .int .i64 rate, .int .i64 r] w fun e w' => e = .returned (.func (.func 144) #[] #[.pointer (some ⟨w.heap.size, 0, none⟩), .pointer (some ⟨w.heap.size + 1, 0, none⟩), .pointer (some ⟨w.heap.size + 1 + 1, 0, none⟩)]) ∧ ((w.alloc (.cells #[.slice A n c] 22)).alloc (.cells #[.int .i64 rate] 2)).alloc (.cells #[.int .i64 r] 2) = w' := by
  go_enter Try.func102, Try.ntmps102
  go_wp2
  go_ret
  exact ⟨rfl, rfl⟩
theorem prices_stops (m : Nat) (hm : 1 ≤ m) (B n₀ n cc : Nat) (A : Option Addr) (x : Nat → Int) (rate r : Int) (hb : cpB x n rate r) (w0 : World) (hB : B + 3 ≤ w0.heap.size) (hn₀ : n₀ ≤ w0.heap.size)
    (hc1 : Boxed w0 B 22 (.slice A n cc)) (hc2 : Boxed w0 (B + 1) 2 (.int .i64 rate)) (hc3 : Boxed w0 (B + 2) 2 (.int .i64 r))
    (hs : ∀ j, j < n → ∃ b off, A = some ⟨b, off, none⟩ ∧ b < n₀ ∧ w0.cell? ⟨b, off + j, none⟩ = some (.int .i64 (x j))) :
    SeqStopsK Fence.wide m Try.prog 144 #[.pointer (some ⟨B, 0, none⟩), .pointer (some ⟨B + 1, 0, none⟩), .pointer (some ⟨B + 2, 0, none⟩)] (fun y : Int => #[Value.int .i64 y]) (KpB n₀ B) (fun ys => ys.length = n ∧ cpGood x rate r ys) (fun pre => pre.length ≤ n ∧ cpGood x rate r pre) n w0 := fun l J Jx W hW hJ _ hY h0 =>
  prices1_in m hm l B n₀ n cc A x rate r (by have := hb.1.1.2; omega) hb.2.1 hb.2.2 hb.1.2 J Jx W hJ hY (blk_below hW (by omega) hc1) (blk_below hW (by omega) hc2) (blk_below hW (by omega) hc3)
    (fun j hj => by
      obtain ⟨b, off, h1, h2, h3⟩ := hs j hj
      exact ⟨b, off, h1, h2, (hW.cell (p := ⟨b, off + j, none⟩) (by show b < _; omega)).trans h3⟩) h0
/-- the two stores of an answer 'no', and what lies then -/
theorem two_stores {w w1 : World} {u v : Value} {u' v' : Value} (h0 : Boxed w1 w.heap.size 22 u) (h1 : Boxed w1 (w.heap.size + 1) 4 v) (hB : Below w.heap.size w w1) :
    Hid (Boxed ((w1.setCell ⟨w.heap.size, 0, none⟩ u').setCell ⟨w.heap.size + 1, 0, none⟩ v') w.heap.size 22 u') ∧
    Hid (Boxed ((w1.setCell ⟨w.heap.size, 0, none⟩ u').setCell ⟨w.heap.size + 1, 0, none⟩ v') (w.heap.size + 1) 4 v') ∧
    Hid (Below w.heap.size w ((w1.setCell ⟨w.heap.size, 0, none⟩ u').setCell ⟨w.heap.size + 1, 0, none⟩ v')) ∧
    w1.cell? ⟨w.heap.size, 0, none⟩ = some u ∧ w1.cell? ⟨w.heap.size + 1, 0, none⟩ = some v ∧ w1.frozen? ⟨w.heap.size, 0, none⟩ = false ∧ w1.frozen? ⟨w.heap.size + 1, 0, none⟩ = false ∧
    (w1.setCell ⟨w.heap.size, 0, none⟩ u').cell? ⟨w.heap.size + 1, 0, none⟩ = some v ∧ (w1.setCell ⟨w.heap.size, 0, none⟩ u').frozen? ⟨w.heap.size + 1, 0, none⟩ = false := by
  have b0' := h0.set u'
  have b1' : Boxed (w1.setCell ⟨w.heap.size, 0, none⟩ u') (w.heap.size + 1) 4 v := h1.kept (grownBy_setCell' w1 w.heap.size _) (by simp)
  have b0'' : Boxed ((w1.setCell ⟨w.heap.size, 0, none⟩ u').setCell ⟨w.heap.size + 1, 0, none⟩ v') w.heap.size 22 u' := b0'.kept (grownBy_setCell' _ (w.heap.size + 1) _) (by simp)
  exact ⟨b0'', b1'.set _, (hB.setCell (p := ⟨w.heap.size, 0, none⟩) (by simp) _).setCell (p := ⟨w.heap.size + 1, 0, none⟩) (by simp) _, h0.cell, h1.cell, h0.frozen, h1.frozen, b1'.cell, b1'.frozen⟩
/-- an append to a boxed row of the loop's own: what lies then -/
theorem collected {W w2 : World} {n₀ n1 Bp : Nat} {v v' : Value} {k m : Nat} {xs ys : List Value} {tmp : Obj} (hv : Boxed W Bp 22 v) (hrow : W.ownsRow n1 2 1 v k xs) (hn1 : n1 ≤ W.heap.size) (hB : Bp < n1) (hB0 : n₀ ≤ Bp)
    (hown' : w2.ownsRow n1 2 1 v' m ys) (hgrow : (W.alloc tmp).grownBy w2 v.ownBlock) :
    Boxed w2 Bp 22 v ∧ Boxed (w2.setCell ⟨Bp, 0, none⟩ v') Bp 22 v' ∧ (w2.setCell ⟨Bp, 0, none⟩ v').ownsRow n1 2 1 v' m ys ∧ KeepsOthers W (w2.setCell ⟨Bp, 0, none⟩ v') ∧ Below n₀ W (w2.setCell ⟨Bp, 0, none⟩ v') ∧ ∀ i, i < n1 → i ≠ Bp → (w2.setCell ⟨Bp, 0, none⟩ v').heap[i]? = W.heap[i]? := by
  have hlow : ∀ {u : World} {y : Value} {q : Nat} {zs : List Value}, u.ownsRow n1 2 1 y q zs → u.ownsRow n₀ 2 1 y q zs := fun h => by
    refine ⟨h.1, ?_⟩
    rcases h.2 with h0 | ⟨g, cap, cur, h1, h2, h3⟩
    · exact .inl h0
    · exact .inr ⟨g, cap, cur, h1, by omega, h3⟩
  obtain ⟨a1, a2, a3, a4, a5⟩ := hv.appended (by decide) (hlow hrow) (by omega) hB0 (hlow hown') hgrow
  refine ⟨a1, a2, hown'.kept (grownBy_setCell' w2 Bp v') (.inr (a1.not_row (by decide) hown').symm), a4, a5, fun i hi hne => ?_⟩
  refine (Below.heap_setCell w2 ⟨Bp, 0, none⟩ v' i hne).trans ((hgrow.block i (by simp; omega) (fun e => ?_)).trans (Below.heap_alloc W _ i (by omega)))
  have := (hrow.lt i e.symm).1
  omega
set_option maxRecDepth 100000 in
set_option maxHeartbeats 8000000 in
theorem implCascade_any (A : Option Addr) (n c : Nat) (x : Nat → Int) (rate r : Int) (w : World) (hn : n ≤ 1048576) (hs : SL w A n (fun j => .int .i64 (x j))) :
    Calls Try.prog 37 #[.slice A n c, .int .i64 rate, .int .i64 r] w fun e w' => Gave1 w w' e (cpP x n rate r) n (fun j => cpV x rate r (j + 1)) := by
  obtain ⟨i0, hi, hz0, hz1, hz2⟩ := info_parts Try.info64
  obtain ⟨wA, hwA⟩ : ∃ u : World, u = (w.alloc (.cells #[.slice none 0 0] 22)).alloc (.cells #[.bool false] 4) := ⟨_, rfl⟩
  have hBA : Below w.heap.size w wA := by rw [hwA]; exact ((Below.refl w.heap.size w).alloc (Nat.le_refl _) _).alloc (by simp) _
  have hA0 : Boxed wA w.heap.size 22 (.slice none 0 0) := by rw [hwA]; exact (Boxed.new w 22 (.slice none 0 0)).alloc _
  have hA1 : Boxed wA (w.heap.size + 1) 4 (.bool false) := by rw [hwA]; have := Boxed.new (w.alloc (.cells #[.slice none 0 0] 22)) 4 (.bool false); rwa [World.size_alloc] at this
  have hAz : wA.heap.size = w.heap.size + 2 := by rw [hwA]; simp
  have HST := hide (implStages_any A n c x rate r wA hn (hs.below hBA))
  have HBA := hide hBA
  have HA0 := hide hA0
  have HA1 := hide hA1
  have HS := cells_a hs
  have HWA := hide hwA
  clear hs hBA hA0 hA1 hwA
  refine (callsIn_wide (n := 4)).1 ?_
  refine callsIn_of_wp_marks Try.func37 rfl trivial ?_ rfl
  simp only [Try.ntmps37, List.size_toArray, List.length_cons, List.length_nil, Nat.reduceAdd, Nat.reduceSub, Array.replicate_succ, Array.replicate_zero, List.push_toArray, List.append_toArray, List.nil_append, List.cons_append]
  by_cases hb : cpB x n rate r
  · have HT := hide (tru_yes hb)
    have HCB := hide hb
    have n16 : n ≤ 16 := by have := hb.1.1.2; omega
    clear hb
    gi_wp2_with (refine ⟨trivial, ?_⟩; gi_at_call 101; rw [← HWA.out]; refine (callsIn_wide.2 HST.out).mono ?_; rw [HT.out]; rintro e w1 ⟨rfl, hb1⟩)
    have hzz : w.heap.size + 2 ≤ w1.heap.size := by have := hb1.size; omega
    have HB1 := hide (HBA.out.trans (hb1.mono (by omega)))
    have B0 : Hid (Boxed w1 w.heap.size 22 (.slice none 0 0)) := blk_below hb1 (by omega) HA0.out
    have B1 : Hid (Boxed w1 (w.heap.size + 1) 4 (.bool false)) := blk_below hb1 (by omega) HA1.out
    clear hb1
    gi_wp2_with (refine ⟨trivial, ?_⟩; gi_at_call 102; refine (callsIn_wide.2 (implPrices_any _ _ _ _ _ _)).mono ?_; rintro e w' ⟨rfl, rfl⟩)
    obtain ⟨Bp, hBp⟩ : ∃ Bp, w1.heap.size = Bp := ⟨_, rfl⟩
    obtain ⟨W0, hW0⟩ : ∃ u : World, u = ((((w1.alloc (.cells #[.slice none 0 0] 22)).alloc (.cells #[.slice A n c] 22)).alloc (.cells #[.int .i64 rate] 2)).alloc (.cells #[.int .i64 r] 2)) := ⟨_, rfl⟩
    have zW : W0.heap.size = Bp + 1 + 3 := by rw [hW0, ← hBp]; simp
    have gP : Boxed W0 Bp 22 (.slice none 0 0) := by rw [hW0, ← hBp]; exact (((Boxed.new w1 22 _).alloc _).alloc _).alloc _
    have g1 : Boxed W0 (Bp + 1) 22 (.slice A n c) := by rw [hW0, ← hBp]; have := Boxed.new (w1.alloc (.cells #[.slice none 0 0] 22)) 22 (.slice A n c); rw [World.size_alloc] at this; exact (this.alloc _).alloc _
    have g2 : Boxed W0 (Bp + 1 + 1) 2 (.int .i64 rate) := by rw [hW0, ← hBp]; have := Boxed.new ((w1.alloc (.cells #[.slice none 0 0] 22)).alloc (.cells #[.slice A n c] 22)) 2 (.int .i64 rate); rw [World.size_alloc, World.size_alloc] at this; exact this.alloc _
    have g3 : Boxed W0 (Bp + 1 + 2) 2 (.int .i64 r) := by rw [hW0, ← hBp]; have := Boxed.new (((w1.alloc (.cells #[.slice none 0 0] 22)).alloc (.cells #[.slice A n c] 22)).alloc (.cells #[.int .i64 rate] 2)) 2 (.int .i64 r); rw [World.size_alloc, World.size_alloc, World.size_alloc] at this; exact this
    have g4 : Boxed W0 w.heap.size 22 (.slice none 0 0) := by rw [hW0]; exact (((B0.out.alloc _).alloc _).alloc _).alloc _
    have g5 : Boxed W0 (w.heap.size + 1) 4 (.bool false) := by rw [hW0]; exact (((B1.out.alloc _).alloc _).alloc _).alloc _
    have hBW : Below w.heap.size w W0 := by rw [hW0]; exact (((HB1.out.alloc HB1.out.size _).alloc (by simp; omega) _).alloc (by simp; omega) _).alloc (by simp; omega) _
    rw [← hW0, hBp]
    rw [hBp] at hzz
    clear hW0 hBp HB1 B0 B1 HST HBA HA0 HA1 HWA
    have hstop := prices_stops (4 - 1) (by omega) (Bp + 1) w.heap.size n c A x rate r HCB.out W0 (by omega) (by omega) g1 g2 g3 (fun j hj => by
      obtain ⟨b, off, h1, h2, h3⟩ := HS.out j hj
      exact ⟨b, off, h1, h2, (hBW.cell (p := ⟨b, off + j, none⟩) h2).trans h3⟩)
    refine wpIn_rangeFunc_ownG rfl (by omega) (gf := 144) (lb := #[.pointer (some ⟨Bp + 1, 0, none⟩), .pointer (some ⟨Bp + 1 + 1, 0, none⟩), .pointer (some ⟨Bp + 1 + 1 + 1, 0, none⟩)]) rfl trivial (enters_of Try.func144 (by kernel_rfl) rfl)
      hstop kpB_t (kpB_b (by omega) (by omega)) (Below.refl _ _) (fun _ => rfl)
      (fun (pre : List Int) W => (∃ v, Boxed W Bp 22 v ∧ W.ownsRow W0.heap.size 2 1 v pre.length (pre.map (Value.int .i64)) ∧ True) ∧ allAmt pre ∧ Boxed W w.heap.size 22 (.slice none 0 0) ∧ Boxed W (w.heap.size + 1) 4 (.bool false) ∧ Below w.heap.size w W ∧ W0.heap.size ≤ W.heap.size)
      (fun cd (pre : List Int) W => (cd = .ret ∧ ∃ pre' y, pre = pre' ++ [y] ∧ allAmt pre' ∧ ¬ amt y) ∧ Boxed W w.heap.size 22 (.slice none 0 0) ∧ Boxed W (w.heap.size + 1) 4 (.bool false) ∧ Below w.heap.size w W)
      (OwnFrom.and (Own.from (holdsRow_own W0.heap.size Bp 22 2 1 (fun (pre : List Int) => pre.length) (fun pre => pre.map (Value.int .i64)) (fun _ _ => True)) _) (OwnFrom.and (ownFrom_pure _ _) (OwnFrom.and (Own.from (boxed_own _ _ _) _) (OwnFrom.and (Own.from (boxed_own _ _ _) _) (OwnFrom.and (ownFrom_below (by omega) (by omega)) (fun _ _ _ _ hs hg _ => Nat.le_trans hs hg.size))))))
      (fun cd => OwnFrom.and (ownFrom_pure _ _) (OwnFrom.and (Own.from (boxed_own _ _ _) _) (OwnFrom.and (Own.from (boxed_own _ _ _) _) (ownFrom_below (by omega) (by omega)))))
      ⟨⟨_, gP, World.ownsRow_nil _ _ _ _, trivial⟩, fun j hj => absurd hj (by simp), g4, g5, hBW, Nat.le_refl _⟩
      (fun y => { tmps := #[.slice A n c, .int .i64 rate, .int .i64 r, undef, undef, undef, .pointer (some ⟨w.heap.size, 0, none⟩), .pointer (some ⟨w.heap.size + 1, 0, none⟩), .pointer (some ⟨Bp, 0, none⟩), .int .i64 y, .slice A n c, .int .i64 rate, .int .i64 r, .bool true, .bool false, .slice A n c, .int .i64 rate, .int .i64 r, .func (.func 144) #[] #[.pointer (some ⟨Bp + 1, 0, none⟩), .pointer (some ⟨Bp + 1 + 1, 0, none⟩), .pointer (some ⟨Bp + 1 + 1 + 1, 0, none⟩)], .int .i64 y, undef, undef, undef, undef, undef, undef, undef, undef], defers := [] }) ?assign ?body ?done ?stop
    case assign =>
      intro l y W K hK
      gi_wp2
      exact hK
    case body =>
      clear g1 g2 g3 g4 g5 gP hstop
      rintro l pre y W ⟨⟨v, hv, hrow, -⟩, hall, b0, b1, hB, hsW⟩ hlt
      have HALL := hide hall
      have HB := hide hB
      have HROW := hide hrow
      have HV := hide hv
      clear hall
      cases gy : inB y 0 1000000000000
      · obtain ⟨HK0, HK1, HB1, k0, k1, f0, f1, k1', f1'⟩ := two_stores (u' := .slice none 0 0) (v' := .bool false) b0 b1 hB
        have HNA := hide (show ¬ amt y from fun h => by rw [inB_yes h] at gy; cases gy)
        clear b0 b1 hB hrow hv
        gi_wp2_with (refine ⟨trivial, ?_⟩; gi_at_call 103; refine (CallsIn.inRound l (callsIn_wide.2 (small_isAmount y _))).mono ?_; rintro e w' ⟨rfl, rfl⟩)
        exact ⟨((KeepsOthers.setCell _ _ _).trans (KeepsOthers.setCell _ _ _)).from _, ⟨rfl, pre, y, rfl, HALL.out, HNA.out⟩, HK0.out, HK1.out, HB1.out⟩
      · have HYA := hide (show amt y from inB_iff.1 gy)
        have hc := hv.cell
        have HB0 := hide b0
        have HB1 := hide b1
        clear b0 b1 hB
        gi_wp2_with (first | (refine ⟨trivial, ?_⟩; gi_at_call 103; refine (CallsIn.inRound l (callsIn_wide.2 (small_isAmount y _))).mono ?_; rintro e w' ⟨rfl, rfl⟩) | (gi_at_builtin; refine wpListIn_append_own _ rfl _ _ 22 rfl W0.heap.size 2 i0 (.int .i64 0) 1 8 Try.underlying22 hi hz0 hz1 hz2 rfl (by decide) _ _ _ rfl (hrow.alloc _) ⟨W.heap.size, 0, none⟩ 1 1 [.int .i64 y] rfl rfl (cell_one_new _ _ _) (by simp [Value.oneCell']) (by unfold maxLen; omega) (by omega) (by simp; omega) ?_; intro v' w2 hown' hgrow _; obtain ⟨g', cap', rfl⟩ := ownsRow_succ hown'; obtain ⟨hv1, hv2, hr2, hk2, hb2, hkeep⟩ := collected hv hrow hsW (show Bp < W0.heap.size by omega) (show w.heap.size ≤ Bp by omega) hown' hgrow; have hc1 := hv1.cell; have hf1 := hv1.frozen))
        have hkB : KpB w.heap.size (Bp + 1) W (w2.setCell ⟨Bp, 0, none⟩ (.slice (some ⟨g', 0, none⟩) (pre.length + 1) cap')) := ⟨hb2, fun i h1 h2 => hkeep i (by omega) (by omega)⟩
        exact ⟨hk2.from _, hkB, ⟨_, hv2, by rw [List.length_append, List.map_append]; exact hr2, trivial⟩, allAmt_snoc.2 ⟨HALL.out, HYA.out⟩, (hkeep _ (by omega) (by omega)).trans HB0.out, (hkeep _ (by omega) (by omega)).trans HB1.out, HB.out.trans hb2, by have := hk2.size; omega⟩
    case done =>
      clear g1 g2 g3 g4 g5 gP hstop
      rintro D ys W hD ⟨hlen, hgood⟩ ⟨⟨v, hv, hrow, -⟩, hall, b0, b1, hB, hsW⟩ hK
      obtain ⟨G, d, rfl⟩ := own_shape hrow
      have HH := hide (show cpP x n rate r from ⟨HCB.out, fun j hj => by
        have h1 := hgood j (by omega) (fun i hi => hall i (by omega))
        rw [← h1]; exact hall j (by omega)⟩)
      have HZ := hide (show ∀ j, j < ys.length → (ys.map (Value.int .i64))[j]? = some (.int .i64 (cpV x rate r (j + 1))) from fun j hj => by
        have h1 := hgood j hj (fun i hi => hall i (by omega))
        rw [List.getElem?_map, List.getElem?_eq_getElem hj]
        rw [List.getElem?_eq_getElem hj] at h1
        simp only [Option.getD_some] at h1
        rw [Option.map_some, h1])
      obtain ⟨HK0, HK1, HB1, k0, k1, f0, f1, k1', f1'⟩ := two_stores (u' := .slice G ys.length d) (v' := .bool true) b0 b1 hB
      have hc := hv.cell
      have hr1 := hrow.kept (grownBy_setCell' W w.heap.size (.slice G ys.length d)) (.inr (b0.not_row (by decide) hrow).symm)
      have hr2 := hr1.kept (grownBy_setCell' _ (w.heap.size + 1) (.bool true)) (.inr (Boxed.not_row (b1.kept (grownBy_setCell' W w.heap.size (.slice G ys.length d)) (by simp)) (by decide) hr1).symm)
      have HR := hide hr2
      have hK' : ((W.setCell ⟨w.heap.size, 0, none⟩ (.slice G ys.length d)).setCell ⟨w.heap.size + 1, 0, none⟩ (.bool true)).heap[D]? = some (.deferred (some [])) := ((KeepsOthers.setCell _ _ _).trans (KeepsOthers.setCell _ _ _)).same D _ hK rfl
      have HK' := hide hK'
      have HL := hide hlen
      clear hK' hr1 hr2 hrow hv b0 b1 hB hall hgood hlen
      gi_wp2
      refine ⟨by simp, .inl ⟨_, _, rfl, run_takeDeferred HK'.out, ?_⟩⟩
      have c0 := (HK0.out.kept (grownBy_putObj' _ D (.deferred none)) (by intro e; injection e with e; omega)).cell
      have c1 := (HK1.out.kept (grownBy_putObj' _ D (.deferred none)) (by intro e; injection e with e; omega)).cell
      have HO := OW.of_owns (f := fun j => .int .i64 (cpV x rate r (j + 1))) (ownsRow_putObj HR.out (.deferred none) HK'.out rfl) HZ.out
      refine ⟨.tuple #[.slice G ys.length d, .bool true], ?_, gave1_yes HH.out HL.out (HO.wide (by omega) (Nat.le_refl _)) (HB1.out.trans (belowK_b (w := w) (Nat.le_refl _) _ D _ _ (by omega) HK'.out rfl rfl))⟩
      simp [results, Try.f37, go_sem, c0, c1]
    case stop =>
      clear g1 g2 g3 g4 g5 gP hstop
      rintro D cd pre W hD ⟨hlen, hgood⟩ ⟨⟨rfl, pre', y, rfl, hall, hna⟩, b0, b1, hB⟩ hK
      have HH := hide (show ¬ cpP x n rate r from fun h => hna (by
        have h1 := hgood pre'.length (by simp) (fun i hi => by rw [snoc_old hi]; exact hall i hi)
        rw [snoc_new] at h1
        rw [h1]
        exact h.2 pre'.length (by rw [List.length_append, List.length_singleton] at hlen; omega)))
      gi_wp2
      refine ⟨by simp, .inl ⟨_, _, rfl, run_takeDeferred hK, ?_⟩⟩
      have c0 := (b0.kept (grownBy_putObj' _ D (.deferred none)) (by intro e; injection e with e; omega)).cell
      have c1 := (b1.kept (grownBy_putObj' _ D (.deferred none)) (by intro e; injection e with e; omega)).cell
      refine ⟨.tuple #[.slice none 0 0, .bool false], ?_, gave1_no HH.out (hB.trans (belowK_b (w := w) (Nat.le_refl _) _ D _ _ (by omega) hK rfl rfl))⟩
      simp [results, Try.f37, go_sem, c0, c1]
  · have HT := hide (tru_no hb)
    have HH := hide (show ¬ cpP x n rate r from fun h => hb h.1)
    clear hb
    gi_wp2_with (refine ⟨trivial, ?_⟩; gi_at_call 101; rw [← HWA.out]; refine (callsIn_wide.2 HST.out).mono ?_; rw [HT.out]; rintro e w1 ⟨rfl, hb1⟩; obtain ⟨HK0, HK1, HB1, k0, k1, f0, f1, k1', f1'⟩ := two_stores (u' := .slice none 0 0) (v' := .bool false) (show Boxed w1 w.heap.size 22 (.slice none 0 0) from blk_below hb1 (by omega) HA0.out) (show Boxed w1 (w.heap.size + 1) 4 (.bool false) from blk_below hb1 (by omega) HA1.out) (HBA.out.trans (hb1.mono (by omega))))
    refine ⟨_, ?_, gave1_no HH.out HB1.out⟩
    simp [results, Try.f37, go_sem, HK0.out.cell, HK1.out.cell]
set_option maxRecDepth 100000 in
set_option maxHeartbeats 8000000 in
theorem specCascade_any (A : Option Addr) (n c : Nat) (x : Nat → Int) (rate r : Int) (w : World) (hn : n ≤ 1048576) (hs : SL w A n (fun j => .int .i64 (x j))) :
    Calls Try.prog 36 #[.slice A n c, .int .i64 rate, .int .i64 r] w fun e w' => Gave1 w w' e (cpP x n rate r) n (fun j => cpV x rate r (j + 1)) := by
  obtain ⟨i0, hi, hz0, hz1, hz2⟩ := info_parts Try.info64
  have HA := hide (specAmts_any A n c x 16 w (by unfold maxLen; omega) hs)
  have HC := cells_a hs
  clear hs
  by_cases ha : allP x n 1 16 0 1000000000000
  · have HAT := hide (tru_yes ha)
    cases g : (ratB rate && wayB r)
    · have HH := hide (show ¬ cpP x n rate r from fun h => by rw [ratB_yes h.1.2.1, wayB_yes h.1.2.2] at g; cases g)
      clear ha
      go_enter Try.func36, Try.ntmps36
      go_wp2_with fail
      refine HA.out.mono ?_
      rw [HAT.out]
      rintro e w' ⟨rfl, rfl⟩
      go_wp2_with (first | (go_at_call 98; refine (specBy_any _ _ _).mono ?_; rw [g]; rintro e w' ⟨rfl, rfl⟩) | fail)
      go_ret2
      exact gave1_no HH.out (Below.refl _ _)
    have hrr := Bool.and_eq_true_iff.1 g
    have hr0 := ratB_iff.1 hrr.1
    have hr1 := wayB_iff.1 hrr.2
    have HCB := hide (show cpB x n rate r from ⟨ha, hr0, hr1⟩)
    have HX := hide ha.2
    have n16 : n ≤ 16 := by have := ha.1.2; omega
    have HST := hide (show (w.alloc (.cells #[] 2)).ownsRow w.heap.size 2 1 (.slice (some ⟨w.heap.size, 0, none⟩) 0 0) 0 [] from
      ⟨by simp, .inr ⟨w.heap.size, 0, #[], rfl, Nat.le_refl _, blocks1 w _, Nat.le_refl 0, by unfold maxLen; omega, rfl, rfl⟩⟩)
    have HR0 := hide hr0
    have HR1 := hide hr1
    clear ha hrr hr0 hr1
    go_enter Try.func36, Try.ntmps36
    go_wp2_with fail
    refine HA.out.mono ?_
    rw [HAT.out]
    rintro e w' ⟨rfl, rfl⟩
    go_wp2_with (first | (go_at_call 98; refine (specBy_any _ _ _).mono ?_; rw [g]; rintro e w' ⟨rfl, rfl⟩) | fail)
    go_loopw [8, 9, 10, 11] (fun v p i _ wr => ∃ (k : Nat) (xs : List Value) (P : Int), k ≤ n ∧ i = .int .i64 k ∧ p = .int .i64 P ∧ wr.ownsRow w.heap.size 2 1 v k xs ∧ Hid (∀ j, j < k → xs[j]? = some (.int .i64 (cpV x rate r (j + 1)))) ∧ Hid (P = cpV x rate r k) ∧ 0 ≤ P ∧ P ≤ 1000000000000 ∧ Hid (∀ j, j < k → amt (cpV x rate r (j + 1))) ∧ Below w.heap.size w wr) (fun _ _ i _ _ => n - (intOf i).toNat)
    case atStart => exact ⟨0, [], 0, Nat.zero_le _, rfl, rfl, HST.out, fun j hj => absurd hj (by omega), rfl, Int.le_refl _, by omega, fun j hj => absurd hj (by omega), (Below.refl w.heap.size w).alloc (Nat.le_refl _) _⟩
    case round =>
      obtain ⟨k, xs, P, hk, rfl, rfl, hown, hxs, hP, p0, p1, hal, hbel⟩ := hrel
      by_cases hlt : k < n
      · have hki : (k : Int) < (n : Int) := by omega
        obtain ⟨b, off, rfl, hb, hck⟩ := HC.out k hlt
        have hc2 := (hbel.cell (p := ⟨b, off + k, none⟩) hb).trans hck
        obtain ⟨x0, x1⟩ := HX.out k hlt
        have HD := fun w => hide (specDue4_any (P + x k) rate r w (by omega) (by omega) HR0.out HR1.out)
        obtain ⟨d0, d1⟩ := duV_bd (c := P + x k) (rate := rate) (r := r) (by omega) HR0.out.1 HR0.out.2
        obtain ⟨D, hD⟩ : ∃ D, duV (P + x k) rate r = D := ⟨_, rfl⟩
        rw [hD] at d0 d1
        have HDD := hide hD
        have HYY := hide (show P + x k + D = cpV x rate r (k + 1) by rw [← hD, hP.out]; rfl)
        have HL := hide (show xs.length = k by have := hown.1; omega)
        have HBEL := hide hbel
        have hsz := hbel.size
        clear hD hck hbel
        cases gy : amtB (P + x k + D)
        · have HH := hide (show ¬ cpP x n rate r from fun h => by
            have h2 := h.2 k hlt
            rw [← HYY.out] at h2
            rw [amtB_yes h2] at gy; cases gy)
          clear hown
          go_wp2_with (first | (go_at_call 99; refine (HD _).out.mono ?_; rw [HDD.out]; rintro e w' ⟨rfl, rfl⟩) | (go_at_call 100; refine (specCents_any _ _).mono ?_; rintro e w' ⟨rfl, rfl⟩))
          go_ret2
          exact gave1_no HH.out HBEL.out
        · have HYA := hide (amtB_iff.1 gy)
          go_wp2_with (first | (go_at_call 99; refine (HD _).out.mono ?_; rw [HDD.out]; rintro e w' ⟨rfl, rfl⟩) | (go_at_call 100; refine (specCents_any _ _).mono ?_; rintro e w' ⟨rfl, rfl⟩) | (at_builtin; refine wpList_append_own_at _ rfl _ _ 22 rfl w.heap.size 2 i0 (.int .i64 0) 1 8 Try.underlying22 hi hz0 hz1 hz2 rfl (by decide) _ _ _ rfl (by exact (hown.alloc _)) ⟨_, 0, none⟩ 1 1 [.int .i64 (P + x k + D)] rfl rfl (cell_one_new _ _ _) (by intro u hu; simp at hu; subst hu; rfl) (by unfold maxLen; omega) (by omega) (by simp; omega) ?_))
          intro v' w1 hown' hgrow _ _
          have HBN := hide ((HBEL.out.alloc HBEL.out.size (.cells #[.int .i64 (P + x k + D)] 2)).grown hgrow (by simp; omega) (fun j hj => (hown.lt j hj).1))
          have HON := hide hown'
          clear hgrow hown' hown hc2
          go_wp2
          go_roundw
          case rel => exact ⟨k + 1, _, _, by omega, by go_num, rfl, HON.out, own_step HL.out hxs.out (by rw [HYY.out]), HYY.out, HYA.out.1, HYA.out.2, (fun j hj => by
            by_cases hjk : j = k
            · subst hjk; rw [← HYY.out]; exact HYA.out
            · exact hal.out j (by omega)), HBN.out⟩
          case measure => simp [intOf]; omega
      · obtain rfl : n = k := by omega
        obtain ⟨G, d, rfl⟩ := own_shape hown
        have HH := hide (show cpP x n rate r from ⟨HCB.out, hal.out⟩)
        have HO := hide (OW.of_owns (f := fun j => .int .i64 (cpV x rate r (j + 1))) hown hxs.out)
        have HBEL := hide hbel
        clear hown hbel
        go_wp2
        go_ret2
        exact gave1_yes HH.out rfl HO.out HBEL.out
  · have HAT := hide (tru_no ha)
    have HH := hide (show ¬ cpP x n rate r from fun h => ha h.1.1)
    clear ha
    go_enter Try.func36, Try.ntmps36
    go_wp2_with fail
    refine HA.out.mono ?_
    rw [HAT.out]
    rintro e w' ⟨rfl, rfl⟩
    go_wp2
    go_ret2
    exact gave1_no HH.out (Below.refl _ _)
theorem cp_len {x : Nat → Int} {n : Nat} {rate r : Int} : lenV (cpP x n rate r) n ≤ 1048576 := by
  by_cases h : cpP x n rate r
  · rw [lenV_yes h]; have := h.1.1.1.2; omega
  · rw [lenV_no h]; omega
end Go.Proofs.Ytggpfaokmkhhdaa
