/- The prices of stages, one after another: an iterator's contract. -/
import Derived.Test.YtggpfaokmkhhdaaLi
import Derived.Test.YtggpfaokmkhhdaaC4
import Derived.Test.YtggpfaokmkhhdaaG1
import Derived.RangeFuncNested
import Derived.RangeFuncBound
import Derived.RangeFuncCalls
import Derived.RangeFuncLeaves
import Derived.RangeFuncBox
import Derived.Shelf.Abstract
import Derived.Shelf.RegionOpen
import Derived.WalkKit
import Derived.OwnWalkIn
import Derived.TacticsInMore
import Derived.LoopNIn
import Derived.LoopIn
import Derived.Maps.AppendAt
namespace Go.Proofs.Ytggpfaokmkhhdaa
open Go.RowKit Go.Shelf Go.Dues
attribute [local go_sem] Oper.semAt_some
theorem tmod_bd (a : Int) : -10000 < a.tmod 10000 ∧ a.tmod 10000 < 10000 := ⟨by have := Int.lt_tmod_of_pos a (b := 10000) (by omega); omega, Int.tmod_lt_of_pos a (by omega)⟩
set_option maxRecDepth 100000 in
set_option maxHeartbeats 2000000 in
theorem implRndAny2 (a : Int) (w : World) :
    Calls Try.prog 116 #[.int .i64 a, .int .i64 10000, .int .i64 2] w fun e w' => (∃ v, e = .returned (.int .i64 v)) ∧ ∃ q, w' = w.drewN q := by
  obtain ⟨b0, b1⟩ := tmod_bd a
  go_enter Try.func116, Try.ntmps116
  go_wp2
  go_quiet (fail)
  obtain ⟨Q, hQ⟩ : ∃ Q, wrap64 (a.tdiv 10000) = Q := ⟨_, rfl⟩
  obtain ⟨R, hR⟩ : ∃ R, a.tmod 10000 = R := ⟨_, rfl⟩
  rw [hQ, hR]
  rw [hR] at b0 b1
  clear hQ hR
  by_cases h : 10000 - R < R
  · have hd : decide (10000 - R < R) = true := decide_eq_true h
    go_wp2
    all_goals (go_ret; exact ⟨⟨_, rfl⟩, _, rfl⟩)
  · have hd : decide (10000 - R < R) = false := decide_eq_false h
    by_cases h2 : R = 5000
    · subst h2
      clear h hd
      go_wp2
      all_goals (go_ret; exact ⟨⟨_, rfl⟩, _, rfl⟩)
    · have he : (R == 10000 - R) = false := by rw [beq_eq_false_iff_ne]; omega
      clear h h2
      go_wp2
      all_goals (go_ret; exact ⟨⟨_, rfl⟩, _, rfl⟩)
set_option maxRecDepth 100000 in
set_option maxHeartbeats 2000000 in
theorem implRndAny (a r : Int) (w : World) (hr : r = 0 ∨ r = 1 ∨ r = 2 ∨ r = 3) :
    Calls Try.prog 116 #[.int .i64 a, .int .i64 10000, .int .i64 r] w fun e w' => (∃ v, e = .returned (.int .i64 v)) ∧ ∃ q, w' = w.drewN q := by
  rcases hr with rfl | rfl | rfl | rfl
  · go_enter Try.func116, Try.ntmps116
    go_wp2
    go_quiet (fail)
    go_wp2
    all_goals (go_ret; exact ⟨⟨_, rfl⟩, _, rfl⟩)
  · go_enter Try.func116, Try.ntmps116
    go_wp2
    go_quiet (fail)
    go_wp2
    all_goals (go_ret; exact ⟨⟨_, rfl⟩, _, rfl⟩)
  · exact implRndAny2 a w
  · go_enter Try.func116, Try.ntmps116
    go_wp2
    go_quiet (fail)
    go_wp2
    all_goals (go_ret; exact ⟨⟨_, rfl⟩, _, rfl⟩)
theorem implDueAny (c rate r : Int) (w : World) (hr : r = 0 ∨ r = 1 ∨ r = 2 ∨ r = 3) :
    Calls Try.prog 110 #[.int .i64 c, .int .i64 rate, .int .i64 r] w fun e w' => (∃ v, e = .returned (.int .i64 v)) ∧ ∃ q, w' = w.drewN q := by
  have HR := hide (implRndAny (wrap64 (c * rate)) r w hr)
  clear hr
  go_enter Try.func110, Try.ntmps110
  go_wp2_with fail
  refine HR.out.mono ?_
  rintro e w' ⟨⟨v, rfl⟩, q, rfl⟩
  go_wp2
  go_ret
  exact ⟨⟨_, rfl⟩, _, rfl⟩
def cpV (x : Nat → Int) (rate r : Int) : Nat → Int
  | 0 => 0
  | k + 1 => cpV x rate r k + x k + duV (cpV x rate r k + x k) rate r
def amt (v : Int) : Prop := 0 ≤ v ∧ v ≤ 1000000000000
def allAmt (ys : List Int) : Prop := ∀ j, j < ys.length → amt (ys[j]?.getD 0)
def cpGood (x : Nat → Int) (rate r : Int) (ys : List Int) : Prop := ∀ k, k < ys.length → (∀ j, j < k → amt (ys[j]?.getD 0)) → ys[k]?.getD 0 = cpV x rate r (k + 1)
theorem snoc_old {pre : List Int} {y : Int} {j : Nat} (h : j < pre.length) : (pre ++ [y])[j]?.getD 0 = pre[j]?.getD 0 := by rw [List.getElem?_append_left h]
theorem snoc_new {pre : List Int} {y : Int} : (pre ++ [y])[pre.length]?.getD 0 = y := by simp
theorem cpGood_snoc {x : Nat → Int} {rate r : Int} {pre : List Int} {y : Int} (h : cpGood x rate r pre) (hy : allAmt pre → y = cpV x rate r (pre.length + 1)) : cpGood x rate r (pre ++ [y]) := by
  intro k hk ha
  rw [List.length_append, List.length_singleton] at hk
  by_cases e : k = pre.length
  · subst e
    rw [snoc_new]
    exact hy (fun j hj => by rw [← snoc_old (y := y) hj]; exact ha j hj)
  · rw [snoc_old (by omega)]
    exact h k (by omega) (fun j hj => by rw [← snoc_old (y := y) (by omega)]; exact ha j hj)
theorem allAmt_snoc {pre : List Int} {y : Int} : allAmt (pre ++ [y]) ↔ allAmt pre ∧ amt y := by
  constructor
  · intro h
    refine ⟨fun j hj => by rw [← snoc_old (y := y) hj]; exact h j (by simp; omega), ?_⟩
    have := h pre.length (by simp)
    rw [snoc_new] at this; exact this
  · rintro ⟨h, hy⟩ j hj
    rw [List.length_append, List.length_singleton] at hj
    by_cases e : j = pre.length
    · subst e; rw [snoc_new]; exact hy
    · rw [snoc_old (by omega)]; exact h j (by omega)
theorem grown_qN (w : World) (n : Nat) (row : Option Nat) : w.grownBy (w.drewN n) row := ⟨rfl, rfl, rfl, Nat.le_refl _, fun _ _ _ => rfl⟩
def KpB (n₀ B : Nat) (W W' : World) : Prop := Below n₀ W W' ∧ ∀ i, B ≤ i → i < B + 3 → W'.heap[i]? = W.heap[i]?
theorem kpB_t {n₀ B : Nat} {X Y Z : World} (h : KpB n₀ B X Y) (k : KpB n₀ B Y Z) : KpB n₀ B X Z := ⟨h.1.trans k.1, fun i h1 h2 => (k.2 i h1 h2).trans (h.2 i h1 h2)⟩
theorem kpB_b {n₀ B : Nat} {w : World} (hn : n₀ ≤ w.heap.size) (hB : B + 3 ≤ w.heap.size) (W : World) (l : Nat) (o o' : Obj) (hl : w.heap.size ≤ l) (h : W.heap[l]? = some o) (h1 : o.isCells = false) (h2 : o.isWalk = false) : KpB n₀ B W (W.putObj l o') :=
  ⟨belowK_b hn W l o o' hl h h1 h2, fun i _ hi => World.putObj_heap_other (by omega)⟩
theorem kpB_refl (n₀ B : Nat) (W : World) : KpB n₀ B W W := ⟨Below.refl _ _, fun _ _ _ => rfl⟩
set_option maxRecDepth 100000 in
set_option maxHeartbeats 4000000 in
theorem prices1_in (m : Nat) (hm : 1 ≤ m) (l B n₀ n cc : Nat) (A : Option Addr) (x : Nat → Int) (rate r : Int) (hn : n ≤ 16) (hr0 : 0 ≤ rate ∧ rate ≤ 10000) (hr : 0 ≤ r ∧ r ≤ 3) (hx : ∀ j, j < n → 0 ≤ x j ∧ x j ≤ 1000000000000) (J Jx : List Int → World → Prop)
    (W : World) (hJ : AbidesFrom W.heap.size J)
    (hY : ∀ pre y W1, J pre W1 → pre.length < n → YieldAt Fence.wide (m - 1) Try.prog l #[.int .i64 y] W1 fun e W' =>
      (e = .returned (.bool true) ∧ J (pre ++ [y]) W' ∧ KpB n₀ B W1 W') ∨ (e = .returned (.bool false) ∧ Jx (pre ++ [y]) W'))
    (hc1 : W.heap[B]? = some (.cells #[.slice A n cc] 22)) (hc2 : W.heap[B + 1]? = some (.cells #[.int .i64 rate] 2)) (hc3 : W.heap[B + 2]? = some (.cells #[.int .i64 r] 2))
    (hs : ∀ j, j < n → ∃ b off, A = some ⟨b, off, none⟩ ∧ b < n₀ ∧ W.cell? ⟨b, off + j, none⟩ = some (.int .i64 (x j))) (h0 : J [] W) :
    CallsIn Fence.wide m Try.prog 144 #[.func (.yield l) #[] #[], .pointer (some ⟨B, 0, none⟩), .pointer (some ⟨B + 1, 0, none⟩), .pointer (some ⟨B + 2, 0, none⟩)] W fun e W' => (∃ v, e = .returned v) ∧
      ((∃ ys, (ys.length = n ∧ cpGood x rate r ys) ∧ J ys W') ∨ (∃ pre, (pre.length ≤ n ∧ cpGood x rate r pre) ∧ Jx pre W')) := by
  have HX := hide hx
  have HS := hide hs
  have hr4 : r = 0 ∨ r = 1 ∨ r = 2 ∨ r = 3 := by omega
  have HR4 := hide hr4
  have HRR := hide hr
  have HR0 := hide hr0
  clear hx hs hr4 hr hr0
  have k1 := Joins.cell_of_block hc1 0
  simp at k1
  refine callsIn_of_wp Try.func144 rfl trivial ?_ rfl
  simp only [Try.ntmps144, List.size_toArray, List.length_cons, List.length_nil, Nat.reduceAdd, Nat.reduceSub, Array.replicate_succ, Array.replicate_zero, List.push_toArray, List.append_toArray, List.nil_append, List.cons_append]
  gi_wp2
  clear k1
  gi_loopw [5, 7, 10] (fun p _ i wr => ∃ (pre : List Int) (P : Int), pre.length ≤ n ∧ i = .int .i64 (pre.length : Nat) ∧ p = .int .i64 P ∧ J pre wr ∧ KpB n₀ B W wr ∧ Hid (cpGood x rate r pre) ∧ Hid (allAmt pre → P = cpV x rate r pre.length ∧ amt P))
    (fun _ _ i _ => n - (intOf i).toNat)
  case atStart => exact ⟨[], 0, by simp, rfl, rfl, h0, kpB_refl _ _ _, fun k hk => absurd hk (by simp), fun _ => ⟨rfl, by unfold amt; omega⟩⟩
  case round =>
    obtain ⟨pre, P, hk, rfl, rfl, hJs, hkp, hgood, hP⟩ := hrel
    have HKP := hide hkp
    have HJ := hide hJs
    obtain ⟨k, hkl⟩ : ∃ k, pre.length = k := ⟨_, rfl⟩
    rw [hkl] at hk ⊢
    have HKL := hide hkl
    clear hkl hkp hJs
    by_cases hlt : k < n
    · have hki : (k : Int) < (n : Int) := by omega
      obtain ⟨b, off, rfl, hb, hck⟩ := HS.out k hlt
      have hcx := (HKP.out.1.cell (p := ⟨b, off + k, none⟩) hb).trans hck
      have k2 := Joins.cell_of_block ((HKP.out.2 (B + 1) (by omega) (by omega)).trans hc2) 0
      have k3 := Joins.cell_of_block ((HKP.out.2 (B + 2) (by omega) (by omega)).trans hc3) 0
      simp at k2 k3
      obtain ⟨x0, x1⟩ := HX.out k hlt
      have HC1 := hide hc1
      have HC2 := hide hc2
      have HC3 := hide hc3
      clear hck hc1 hc2 hc3
      by_cases hall : allAmt pre
      · obtain ⟨hPV, hPA⟩ := hP.out hall
        obtain ⟨p0, p1⟩ := hPA
        have HD := fun w => hide (implDue4_any (P + x k) rate r w (by omega) (by omega) HR0.out HRR.out)
        obtain ⟨d0, d1⟩ := duV_bd (c := P + x k) (rate := rate) (r := r) (by omega) HR0.out.1 HR0.out.2
        obtain ⟨D, hD⟩ : ∃ D, duV (P + x k) rate r = D := ⟨_, rfl⟩
        rw [hD] at d0 d1
        have HDD := hide hD
        have HPV := hide hPV
        have HYY := hide (show P + x k + D = cpV x rate r (pre.length + 1) by rw [← hD, hPV]; show _ = cpV x rate r pre.length + x pre.length + _; rw [HKL.out])
        clear hD hPV
        have HALL := hide hall
        clear hall hP
        have HYA := fun q => hide (hY pre (P + x k + D) (wr.drewN q) (hJ pre wr (wr.drewN q) none HJ.out (grown_qN _ _ _) (fun _ h => by cases h)) (by rw [HKL.out]; exact hlt))
        have HG2 := hide (cpGood_snoc hgood.out (fun _ => HYY.out))
        have HA2 := hide (show allAmt (pre ++ [P + x k + D]) → P + x k + D = cpV x rate r (pre.length + 1) ∧ amt (P + x k + D) from fun h => ⟨HYY.out, (allAmt_snoc.1 h).2⟩)
        gi_wp2_with (refine ⟨trivial, ?_⟩; gi_at_call 110; refine (callsIn_wide.2 (HD _).out).mono ?_; rw [HDD.out]; rintro e w' ⟨rfl, q, rfl⟩; obtain ⟨fn, tmps, assign, body, hy, hR⟩ := (HYA q).out)
        refine hR.mono ?_
        rintro e W3 (⟨rfl, hJ3, hk3⟩ | ⟨rfl, hJx3⟩)
        · have HJ3 := hide hJ3
          have HK3 := hide (kpB_t (show KpB n₀ B W (wr.drewN q) from ⟨bel_q HKP.out.1 q, HKP.out.2⟩) hk3)
          clear hJ3 hk3
          gi_wp2
          go_roundw
          case rel => exact ⟨pre ++ [P + x k + D], P + x k + D, by rw [List.length_append, HKL.out]; exact hlt, by rw [List.length_append, HKL.out]; go_num, rfl, HJ3.out, HK3.out, HG2.out, fun ha => by rw [List.length_append]; exact HA2.out ha⟩
          case measure => simp [intOf]; omega
        · have HX3 := hide hJx3
          clear hJx3
          gi_wp2
          refine bodyPost_ret (results_none rfl _ _ _) rfl ?_
          exact ⟨⟨_, rfl⟩, .inr ⟨_, ⟨by rw [List.length_append, HKL.out]; exact hlt, HG2.out⟩, HX3.out⟩⟩
      · have HN := hide hall
        clear hP
        have HD := fun w => hide (implDueAny (wrap64 (P + x k)) rate r w HR4.out)
        gi_wp2_with (refine ⟨trivial, ?_⟩; gi_at_call 110; refine (callsIn_wide.2 (HD _).out).mono ?_; rintro e w' ⟨⟨D, rfl⟩, q, rfl⟩; obtain ⟨fn, tmps, assign, body, hy, hR⟩ := hY pre (wrap64 (wrap64 (P + x k) + D)) (wr.drewN q) (hJ pre wr (wr.drewN q) none HJ.out (grown_qN _ _ _) (fun _ h => by cases h)) (by rw [HKL.out]; exact hlt))
        have HG2 := hide (cpGood_snoc (y := wrap64 (wrap64 (P + x k) + D)) hgood.out (fun h => absurd h HN.out))
        have HA2 := hide (show allAmt (pre ++ [wrap64 (wrap64 (P + x k) + D)]) → wrap64 (wrap64 (P + x k) + D) = cpV x rate r (pre.length + 1) ∧ amt (wrap64 (wrap64 (P + x k) + D)) from fun h => absurd (allAmt_snoc.1 h).1 HN.out)
        refine hR.mono ?_
        rintro e W3 (⟨rfl, hJ3, hk3⟩ | ⟨rfl, hJx3⟩)
        · have HJ3 := hide hJ3
          have HK3 := hide (kpB_t (show KpB n₀ B W (wr.drewN q) from ⟨bel_q HKP.out.1 q, HKP.out.2⟩) hk3)
          clear hJ3 hk3
          gi_wp2
          go_roundw
          case rel => exact ⟨pre ++ [wrap64 (wrap64 (P + x k) + D)], wrap64 (wrap64 (P + x k) + D), by rw [List.length_append, HKL.out]; exact hlt, by rw [List.length_append, HKL.out]; go_num, rfl, HJ3.out, HK3.out, HG2.out, fun ha => by rw [List.length_append]; exact HA2.out ha⟩
          case measure => simp [intOf]; omega
        · have HX3 := hide hJx3
          clear hJx3
          gi_wp2
          refine bodyPost_ret (results_none rfl _ _ _) rfl ?_
          exact ⟨⟨_, rfl⟩, .inr ⟨_, ⟨by rw [List.length_append, HKL.out]; exact hlt, HG2.out⟩, HX3.out⟩⟩
    · obtain rfl : n = k := by omega
      gi_wp2
      go_end0
      exact ⟨⟨_, rfl⟩, .inl ⟨pre, ⟨HKL.out, hgood.out⟩, HJ.out⟩⟩
end Go.Proofs.Ytggpfaokmkhhdaa
