/- slices.Backward over a list of 32-bit numbers: the iterator's contract. -/
import Derived.Test.YtjefpcmegkeceabFr
import Derived.RangeFuncNested
import Derived.RangeFuncBound
import Derived.RangeFuncCalls
import Derived.RangeFuncLeaves
import Derived.RangeFuncBox
import Derived.Shelf.Abstract
import Derived.Shelf.RegionOpen
import Derived.WalkKit
import Derived.OwnWalkIn
import Derived.TacticsInMore
import Derived.LoopNIn
import Derived.LoopIn
import Derived.Maps.AppendAt
namespace Go.Proofs.Ytjefpcmegkeceab
open Go.RowKit Go.Shelf Go.Dues
attribute [local go_sem] Oper.semAt_some
def KpB (n₀ B : Nat) (W W' : World) : Prop := Below n₀ W W' ∧ W'.heap[B]? = W.heap[B]?
theorem kpB_t {n₀ B : Nat} {X Y Z : World} (h : KpB n₀ B X Y) (k : KpB n₀ B Y Z) : KpB n₀ B X Z := ⟨h.1.trans k.1, k.2.trans h.2⟩
theorem kpB_b {n₀ B : Nat} {w : World} (hn : n₀ ≤ w.heap.size) (hB : B + 1 ≤ w.heap.size) (W : World) (l : Nat) (o o' : Obj) (hl : w.heap.size ≤ l) (h : W.heap[l]? = some o) (h1 : o.isCells = false) (h2 : o.isWalk = false) : KpB n₀ B W (W.putObj l o') :=
  ⟨belowK_b hn W l o o' hl h h1 h2, World.putObj_heap_other (by omega)⟩
theorem kpB_refl (n₀ B : Nat) (W : World) : KpB n₀ B W W := ⟨Below.refl _ _, rfl⟩
/-- the first k places of n, from the last one on -/
def dnL (n k : Nat) : List (Fin n) := (List.finRange n).reverse.take k
theorem dnL_len {n k : Nat} (h : k ≤ n) : (dnL n k).length = k := by unfold dnL; simp; omega
theorem dnL_succ {n k : Nat} (h : k < n) : dnL n (k + 1) = dnL n k ++ [⟨n - 1 - k, by omega⟩] := by
  unfold dnL
  rw [List.take_add_one]
  congr 1
  rw [List.getElem?_reverse (by simpa using h)]
  simp [List.getElem?_eq_getElem, show n - 1 - k < n by omega]
set_option maxRecDepth 100000 in
set_option maxHeartbeats 4000000 in
theorem back_in (m : Nat) (hm : 1 ≤ m) (l B n₀ n cc : Nat) (A : Option Addr) (x : Nat → Nat) (hn : n ≤ 120) (J Jx : List (Fin n) → World → Prop)
    (W : World) (hn₀ : n₀ ≤ W.heap.size) (hB : B + 1 ≤ W.heap.size)
    (hY : ∀ pre (y : Fin n) W1, J pre W1 → pre.length < n → YieldAt Fence.wide (m - 1) Try.prog l #[.int .i64 (y.val : Nat), .float .f32 (x y.val)] W1 fun e W' =>
      (e = .returned (.bool true) ∧ J (pre ++ [y]) W' ∧ KpB n₀ B W1 W') ∨ (e = .returned (.bool false) ∧ Jx (pre ++ [y]) W'))
    (hc1 : W.heap[B]? = some (.cells #[.slice A n cc] 22))
    (hs : ∀ j, j < n → ∃ b off, A = some ⟨b, off, none⟩ ∧ b < n₀ ∧ W.cell? ⟨b, off + j, none⟩ = some (.float .f32 (x j))) (h0 : J [] W) :
    CallsIn Fence.wide m Try.prog 83 #[.func (.yield l) #[] #[], .pointer (some ⟨B, 0, none⟩)] W fun e W' => (∃ v, e = .returned v) ∧
      ((∃ ys, ys = dnL n n ∧ J ys W') ∨ (∃ pre, True ∧ Jx pre W')) := by
  have HS := hide hs
  have HC1 := hide hc1
  clear hs
  have k1 := Joins.cell_of_block hc1 0
  simp at k1
  refine callsIn_of_wp Try.func83 rfl trivial ?_ rfl
  simp only [Try.ntmps83, List.size_toArray, List.length_cons, List.length_nil, Nat.reduceAdd, Nat.reduceSub, Array.replicate_succ, Array.replicate_zero, List.push_toArray, List.append_toArray, List.nil_append, List.cons_append]
  gi_wp2
  clear k1 hc1
  gi_loopw [3] (fun i wr => ∃ (k p : Nat), p + k = n ∧ i = .int .i64 ((p : Int) - 1) ∧ J (dnL n k) wr ∧ KpB n₀ B W wr)
    (fun i _ => (intOf i + 1).toNat)
  case atStart => exact ⟨0, n, by omega, rfl, h0, kpB_refl _ _ _⟩
  case round =>
    obtain ⟨k, p, hpk, rfl, hJs, hkp⟩ := hrel
    have HKP := hide hkp
    have HJ := hide hJs
    clear hkp hJs
    rcases p with _ | p
    · have hk : k = n := by omega
      have hm1 : ((0 : Nat) : Int) - 1 = -1 := rfl
      rw [hm1]
      gi_wp2
      go_end0
      exact ⟨⟨_, rfl⟩, .inl ⟨_, rfl, by have h := HJ.out; rwa [hk] at h⟩⟩
    · have hm1 : ((p + 1 : Nat) : Int) - 1 = (p : Int) := by omega
      have hpn : p < n := by omega
      have hpi : (p : Int) < (n : Int) := by omega
      obtain ⟨b, off, rfl, hb, c0⟩ := HS.out p hpn
      have d0 := (HKP.out.1.cell (p := ⟨b, off + p, none⟩) hb).trans c0
      have k2 := Joins.cell_of_block (HKP.out.2.trans HC1.out) 0
      simp at k2
      have HD := hide (dnL_succ (n := n) (k := k) (by omega))
      have hv : (⟨n - 1 - k, by omega⟩ : Fin n) = ⟨p, hpn⟩ := Fin.ext (by show n - 1 - k = p; omega)
      rw [hv] at HD
      obtain ⟨fn, tmps, assign, body, hy, hR⟩ := hY (dnL n k) ⟨p, hpn⟩ wr HJ.out (by rw [dnL_len (by omega)]; omega)
      clear c0 hv
      rw [hm1]
      gi_wp2
      refine hR.mono ?_
      rintro e W3 (⟨rfl, hJ3, hk3⟩ | ⟨rfl, hJx3⟩)
      · have HJ3 := hide hJ3
        have HK3 := hide (kpB_t HKP.out hk3)
        clear hJ3 hk3 d0 k2
        gi_wp2
        go_roundw
        case rel => exact ⟨k + 1, p, by omega, rfl, by rw [HD.out]; exact HJ3.out, HK3.out⟩
        case measure => first | (simp [intOf]; done) | (simp [intOf]; omega)
      · have HX3 := hide hJx3
        clear hJx3
        gi_wp2
        refine bodyPost_ret (results_none rfl _ _ _) rfl ?_
        exact ⟨⟨_, rfl⟩, .inr ⟨_, trivial, HX3.out⟩⟩
theorem implBack_any (A : Option Addr) (n c : Nat) (w : World) :
    Calls Try.prog 59 #[.slice A n c] w fun e w' => e = .returned (.func (.func 83) #[] #[.pointer (some ⟨w.heap.size, 0, none⟩)]) ∧ w.alloc (.cells #[.slice A n c] 22) = w' := by
  go_enter Try.func59, Try.ntmps59
  go_wp2
  go_ret
  exact ⟨rfl, rfl⟩
end Go.Proofs.Ytjefpcmegkeceab
