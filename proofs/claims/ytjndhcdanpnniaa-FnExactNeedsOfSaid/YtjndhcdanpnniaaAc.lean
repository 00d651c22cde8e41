/- The rules that are active, one after another: an iterator's contract. -/
import Derived.Test.YtjndhcdanpnniaaRj
import Derived.RangeFuncNested
import Derived.RangeFuncBound
import Derived.RangeFuncCalls
import Derived.RangeFuncLeaves
import Derived.RangeFuncBox
import Derived.Shelf.Abstract
import Derived.Shelf.RegionOpen
import Derived.WalkKit
import Derived.OwnWalkIn
import Derived.TacticsInMore
import Derived.LoopNIn
import Derived.LoopIn
import Derived.Maps.AppendAt
namespace Go.Proofs.Ytjndhcdanpnniaa
open Go.RowKit Go.Shelf Go.Dues
attribute [local go_sem] Oper.semAt_some
set_option maxHeartbeats 2000000 in
theorem implActive_any (r : RV) (I : Option Addr) (ci : Nat) (day : Int) (w : World) :
    Calls Try.prog 182 #[.agg #[.int .i64 r.h, .slice I r.n ci, .int .i64 r.f, .int .i64 r.t, .int .i64 r.k], .int .i64 day] w fun e w' => e = .returned (.bool (inB day r.f r.t)) ∧ Below w.heap.size w w' := by
  go_enter Try.func182, Try.ntmps182
  go_wp2_with (go_at_call 92; refine (implWithin_any _ _ _ _).mono ?_; rintro e w' ⟨rfl, rfl⟩)
  go_ret
  exact ⟨rfl, (Below.refl w.heap.size w).alloc (Nat.le_refl _) _⟩
theorem grown_bel {w w' : World} (h : Below w.heap.size w w') : w.grownBy w' none := ⟨h.os, h.tape, h.output, h.size, fun k hk _ => h.block k hk⟩
def KpR (n₀ B : Nat) (W W' : World) : Prop := Below n₀ W W' ∧ ∀ i, B ≤ i → i < B + 2 → W'.heap[i]? = W.heap[i]?
theorem kpR_t {n₀ B : Nat} {X Y Z : World} (h : KpR n₀ B X Y) (k : KpR n₀ B Y Z) : KpR n₀ B X Z := ⟨h.1.trans k.1, fun i h1 h2 => (k.2 i h1 h2).trans (h.2 i h1 h2)⟩
theorem kpR_b {n₀ B : Nat} {w : World} (hn : n₀ ≤ w.heap.size) (hB : B + 2 ≤ w.heap.size) (W : World) (l : Nat) (o o' : Obj) (hl : w.heap.size ≤ l) (h : W.heap[l]? = some o) (h1 : o.isCells = false) (h2 : o.isWalk = false) : KpR n₀ B W (W.putObj l o') :=
  ⟨belowK_b hn W l o o' hl h h1 h2, fun i _ hi => World.putObj_heap_other (by omega)⟩
theorem kpR_refl (n₀ B : Nat) (W : World) : KpR n₀ B W W := ⟨Below.refl _ _, fun _ _ _ => rfl⟩
theorem kpR_bel {n₀ B : Nat} {W W' : World} (h : Below W.heap.size W W') (hn : n₀ ≤ W.heap.size) (hB : B + 2 ≤ W.heap.size) : KpR n₀ B W W' := ⟨h.mono hn, fun i _ hi => h.block i (by omega)⟩
theorem actI {V : Nat → RV} {day : Int} {k : Nat} : inB day (V k).f (V k).t = actB V day k := rfl
theorem below_max {n₀ m : Nat} {W W' : World} (h : Below n₀ W W') (hm : m ≤ n₀) : Below m W W' := h.mono hm
set_option maxRecDepth 100000 in
set_option maxHeartbeats 4000000 in
theorem active_in (m : Nat) (hm : 1 ≤ m) (l B n₀ n cc : Nat) (A : Option Addr) (V : Nat → RV) (P : Nat → RP) (day : Int) (hn : n ≤ maxLen) (J Jx : List Nat → World → Prop)
    (W : World) (hn₀ : n₀ ≤ W.heap.size) (hB : B + 2 ≤ W.heap.size) (hJ : AbidesFrom W.heap.size J)
    (hY : ∀ pre y W1, J pre W1 → pre.length < n → YieldAt Fence.wide (m - 1) Try.prog l #[.int .i64 (y : Nat), .agg #[.int .i64 (V y).h, .slice (P y).A (V y).n (P y).c, .int .i64 (V y).f, .int .i64 (V y).t, .int .i64 (V y).k]] W1 fun e W' =>
      (e = .returned (.bool true) ∧ J (pre ++ [y]) W' ∧ KpR n₀ B W1 W') ∨ (e = .returned (.bool false) ∧ Jx (pre ++ [y]) W'))
    (hc1 : W.heap[B]? = some (.cells #[.slice A n cc] 38)) (hc2 : W.heap[B + 1]? = some (.cells #[.int .i64 day] 2))
    (hs : ∀ j, j < n → ∃ b off, A = some ⟨b, off, none⟩ ∧ b < n₀ ∧ W.cell? ⟨b, off + j * 5, none⟩ = some (.int .i64 (V j).h) ∧ W.cell? ⟨b, off + j * 5 + 1, none⟩ = some (.slice (P j).A (V j).n (P j).c) ∧ W.cell? ⟨b, off + j * 5 + 2, none⟩ = some (.int .i64 (V j).f) ∧ W.cell? ⟨b, off + j * 5 + 3, none⟩ = some (.int .i64 (V j).t) ∧ W.cell? ⟨b, off + j * 5 + 4, none⟩ = some (.int .i64 (V j).k)) (h0 : J [] W) :
    CallsIn Fence.wide m Try.prog 181 #[.func (.yield l) #[] #[], .pointer (some ⟨B, 0, none⟩), .pointer (some ⟨B + 1, 0, none⟩)] W fun e W' => (∃ v, e = .returned v) ∧
      ((∃ ys, ys = flt (actB V day) n ∧ J ys W') ∨ (∃ pre, True ∧ Jx pre W')) := by
  unfold maxLen at hn
  have HS := hide hs
  clear hs
  have k1 := Joins.cell_of_block hc1 0
  simp at k1
  refine callsIn_of_wp Try.func181 rfl trivial ?_ rfl
  simp only [Try.ntmps181, List.size_toArray, List.length_cons, List.length_nil, Nat.reduceAdd, Nat.reduceSub, Array.replicate_succ, Array.replicate_zero, List.push_toArray, List.append_toArray, List.nil_append, List.cons_append]
  gi_wp2
  clear k1
  gi_loopw [4, 5, 8] (fun _ _ i wr => ∃ (k : Nat), k ≤ n ∧ i = .int .i64 k ∧ J (flt (actB V day) k) wr ∧ KpR n₀ B W wr ∧ W.heap.size ≤ wr.heap.size)
    (fun _ _ i _ => n - (intOf i).toNat)
  case atStart => exact ⟨0, Nat.zero_le _, rfl, h0, kpR_refl _ _ _, Nat.le_refl _⟩
  case round =>
    obtain ⟨k, hk, rfl, hJs, hkp, hsz⟩ := hrel
    have HKP := hide hkp
    have HJ := hide hJs
    clear hkp hJs
    by_cases hlt : k < n
    · have hki : (k : Int) < (n : Int) := by omega
      obtain ⟨b, off, rfl, hb, c0, c1, c2, c3, c4⟩ := HS.out k hlt
      have d0 := (HKP.out.1.cell (p := ⟨b, off + k * 5, none⟩) hb).trans c0
      have d1 := (HKP.out.1.cell (p := ⟨b, off + k * 5 + 1, none⟩) hb).trans c1
      have d2 := (HKP.out.1.cell (p := ⟨b, off + k * 5 + 2, none⟩) hb).trans c2
      have d3 := (HKP.out.1.cell (p := ⟨b, off + k * 5 + 3, none⟩) hb).trans c3
      have d4 := (HKP.out.1.cell (p := ⟨b, off + k * 5 + 4, none⟩) hb).trans c4
      have k2 := Joins.cell_of_block ((HKP.out.2 (B + 1) (by omega) (by omega)).trans hc2) 0
      simp at k2
      have HC1 := hide hc1
      have HC2 := hide hc2
      clear c0 c1 c2 c3 c4 hc1 hc2
      have hlen := flt_len (actB V day) k
      obtain ⟨W1, hW1⟩ : ∃ u : World, u = wr.alloc (.cells #[.int .i64 (V k).h, .slice (P k).A (V k).n (P k).c, .int .i64 (V k).f, .int .i64 (V k).t, .int .i64 (V k).k] 61) := ⟨_, rfl⟩
      have HX1 : Hid (W1.heap[wr.heap.size]? = some (.cells #[.int .i64 (V k).h, .slice (P k).A (V k).n (P k).c, .int .i64 (V k).f, .int .i64 (V k).t, .int .i64 (V k).k] 61)) := by rw [hW1]; exact blocks1 wr _
      have HBW : Hid (Below wr.heap.size wr W1) := by rw [hW1]; exact (Below.refl wr.heap.size wr).alloc (Nat.le_refl _) _
      have hz1 : wr.heap.size < W1.heap.size := by rw [hW1]; simp
      have k2' : W1.cell? ⟨B + 1, 0, none⟩ = some (.int .i64 day) := (HBW.out.cell (p := ⟨B + 1, 0, none⟩) (by show B + 1 < _; omega)).trans k2
      have r0 := Joins.cell_of_block HX1.out 0
      have r1 := Joins.cell_of_block HX1.out 1
      have r2 := Joins.cell_of_block HX1.out 2
      have r3 := Joins.cell_of_block HX1.out 3
      have r4 := Joins.cell_of_block HX1.out 4
      simp at r0 r1 r2 r3 r4
      have HA := hide (implActive_any (V k) (P k).A (P k).c day W1)
      have k2w := k2'
      rw [hW1] at k2w
      have HWW := hide hW1
      clear hW1
      cases ga : actB V day k
      · have HG := hide (flt_no (p := actB V day) ga)
        have gb : inB day (V k).f (V k).t = false := ga
        clear ga
        gi_wp2_with (refine ⟨trivial, ?_⟩; gi_at_call 182; rw [← HWW.out]; refine (callsIn_wide.2 HA.out).mono ?_; rw [gb]; rintro e W2 ⟨rfl, hb2⟩; have HB2 := hide (HBW.out.trans (hb2.mono HBW.out.size)); clear hb2)
        have HJ2 := hide (hJ _ wr W2 none HJ.out (grown_bel HB2.out) (fun _ h => by cases h))
        have HK2 := hide (kpR_t HKP.out (kpR_bel HB2.out (by omega) (by omega)))
        have hz2 := HB2.out.size
        refine ⟨(fun f hf => by cases hf), ?_⟩
        gi_wp2
        clear d0 d1 d2 d3 d4 k2 k2' k2w r0 r1 r2 r3 r4 gb
        go_roundw
        case rel => exact ⟨k + 1, by omega, by go_num, by rw [HG.out]; exact HJ2.out, HK2.out, by omega⟩
        case measure => simp [intOf]; omega
      · have HG := hide (flt_yes (p := actB V day) ga)
        have gb : inB day (V k).f (V k).t = true := ga
        clear ga
        gi_wp2_with (refine ⟨trivial, ?_⟩; gi_at_call 182; rw [← HWW.out]; refine (callsIn_wide.2 HA.out).mono ?_; rw [gb]; rintro e W2 ⟨rfl, hb2⟩; have HB2 := hide (HBW.out.trans (hb2.mono HBW.out.size)); have HX2 := hide (blk_below hb2 hz1 HX1.out); clear hb2; have s0 := Joins.cell_of_block HX2.out 0; have s1 := Joins.cell_of_block HX2.out 1; have s2 := Joins.cell_of_block HX2.out 2; have s3 := Joins.cell_of_block HX2.out 3; have s4 := Joins.cell_of_block HX2.out 4; simp at s0 s1 s2 s3 s4; obtain ⟨fn, tmps, assign, body, hy, hR⟩ := hY (flt (actB V day) k) k W2 (hJ _ wr W2 none HJ.out (grown_bel HB2.out) (fun _ h => by cases h)) (by omega))
        refine hR.mono ?_
        rintro e W3 (⟨rfl, hJ3, hk3⟩ | ⟨rfl, hJx3⟩)
        · have HJ3 := hide hJ3
          have HK3 := hide (kpR_t (kpR_t HKP.out (kpR_bel HB2.out (by omega) (by omega))) hk3)
          have hz3 : W.heap.size ≤ W3.heap.size := by have := hk3.1.size; have := HB2.out.size; omega
          clear hJ3 hk3 d0 d1 d2 d3 d4 k2 k2' k2w r0 r1 r2 r3 r4 s0 s1 s2 s3 s4 gb
          gi_wp2
          go_roundw
          case rel => exact ⟨k + 1, by omega, by go_num, by rw [HG.out]; exact HJ3.out, HK3.out, hz3⟩
          case measure => simp [intOf]; omega
        · have HX3 := hide hJx3
          clear hJx3
          gi_wp2
          refine bodyPost_ret (results_none rfl _ _ _) rfl ?_
          exact ⟨⟨_, rfl⟩, .inr ⟨_, trivial, HX3.out⟩⟩
    · obtain rfl : n = k := by omega
      gi_wp2
      go_end0
      exact ⟨⟨_, rfl⟩, .inl ⟨_, rfl, HJ.out⟩⟩
theorem implIter_any (A : Option Addr) (n c : Nat) (day : Int) (w : World) :
    Calls Try.prog 115 #[.slice A n c, .int .i64 day] w fun e w' => e = .returned (.func (.func 181) #[] #[.pointer (some ⟨w.heap.size, 0, none⟩), .pointer (some ⟨w.heap.size + 1, 0, none⟩)]) ∧ (w.alloc (.cells #[.slice A n c] 38)).alloc (.cells #[.int .i64 day] 2) = w' := by
  go_enter Try.func115, Try.ntmps115
  go_wp2
  go_ret
  exact ⟨rfl, rfl⟩
/-- what an iterator reads of rules -/
def Lies (W : World) (n₀ : Nat) (A : Option Addr) (n : Nat) (V : Nat → RV) (P : Nat → RP) : Prop :=
  ∀ j, j < n → ∃ b off, A = some ⟨b, off, none⟩ ∧ b < n₀ ∧ W.cell? ⟨b, off + j * 5, none⟩ = some (.int .i64 (V j).h) ∧ W.cell? ⟨b, off + j * 5 + 1, none⟩ = some (.slice (P j).A (V j).n (P j).c) ∧ W.cell? ⟨b, off + j * 5 + 2, none⟩ = some (.int .i64 (V j).f) ∧ W.cell? ⟨b, off + j * 5 + 3, none⟩ = some (.int .i64 (V j).t) ∧ W.cell? ⟨b, off + j * 5 + 4, none⟩ = some (.int .i64 (V j).k)
theorem Lies.below {W W' : World} {n₀ : Nat} {A : Option Addr} {n : Nat} {V : Nat → RV} {P : Nat → RP} (h : Lies W n₀ A n V P) (hb : Below n₀ W W') : Lies W' n₀ A n V P := by
  intro j hj
  obtain ⟨b, off, h1, h2, c0, c1, c2, c3, c4⟩ := h j hj
  exact ⟨b, off, h1, h2, (hb.cell (p := ⟨b, off + j * 5, none⟩) h2).trans c0, (hb.cell (p := ⟨b, off + j * 5 + 1, none⟩) h2).trans c1, (hb.cell (p := ⟨b, off + j * 5 + 2, none⟩) h2).trans c2, (hb.cell (p := ⟨b, off + j * 5 + 3, none⟩) h2).trans c3, (hb.cell (p := ⟨b, off + j * 5 + 4, none⟩) h2).trans c4⟩
theorem rs_lies {w : World} {A : Option Addr} {n : Nat} {V : Nat → RV} (h : RS w A n V) : ∃ P, Lies w w.heap.size A n V P := by
  obtain ⟨P, h1, _⟩ := h
  refine ⟨P, fun j hj => ?_⟩
  obtain ⟨b, off, e1, e2, e3⟩ := h1.at_ (by omega)
  exact ⟨b, off, e1, e2, (e3 (j * 5) (by omega)).trans (by rw [ruCell_0]), (e3 (j * 5 + 1) (by omega)).trans (by rw [ruCell_1]), (e3 (j * 5 + 2) (by omega)).trans (by rw [ruCell_2]), (e3 (j * 5 + 3) (by omega)).trans (by rw [ruCell_3]), (e3 (j * 5 + 4) (by omega)).trans (by rw [ruCell_4])⟩
theorem active_stops (m : Nat) (hm : 1 ≤ m) (B n₀ n cc : Nat) (A : Option Addr) (V : Nat → RV) (P : Nat → RP) (day : Int) (hn : n ≤ maxLen) (w0 : World) (hB : B + 2 ≤ w0.heap.size) (hn₀ : n₀ ≤ w0.heap.size)
    (hc1 : Boxed w0 B 38 (.slice A n cc)) (hc2 : Boxed w0 (B + 1) 2 (.int .i64 day)) (hs : Lies w0 n₀ A n V P) :
    SeqStopsK Fence.wide m Try.prog 181 #[.pointer (some ⟨B, 0, none⟩), .pointer (some ⟨B + 1, 0, none⟩)] (fun y : Nat => #[Value.int .i64 (y : Nat), .agg #[.int .i64 (V y).h, .slice (P y).A (V y).n (P y).c, .int .i64 (V y).f, .int .i64 (V y).t, .int .i64 (V y).k]]) (KpR n₀ B) (fun ys => ys = flt (actB V day) n) (fun _ => True) n w0 := fun l J Jx W hW hJ _ hY h0 =>
  active_in m hm l B n₀ n cc A V P day hn J Jx W (Nat.le_trans hn₀ hW.size) (Nat.le_trans hB hW.size) hJ hY (blk_below hW (by omega) hc1) (blk_below hW (by omega) hc2) (hs.below (hW.mono hn₀)) h0
end Go.Proofs.Ytjndhcdanpnniaa
