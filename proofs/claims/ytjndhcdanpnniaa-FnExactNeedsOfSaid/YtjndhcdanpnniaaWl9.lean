/- All words, one after another: an iterator's contract. -/
import Derived.Test.YtjndhcdanpnniaaWt9
import Derived.RangeFuncNested
import Derived.RangeFuncBound
import Derived.RangeFuncCalls
import Derived.RangeFuncLeaves
import Derived.RangeFuncBox
import Derived.Shelf.Abstract
import Derived.Shelf.RegionOpen
import Derived.WalkKit
import Derived.OwnWalkIn
import Derived.TacticsInMore
import Derived.LoopNIn
import Derived.LoopIn
import Derived.Maps.AppendAt
namespace Go.Proofs.Ytjndhcdanpnniaa
open Go.RowKit Go.Shelf Go.Dues
attribute [local go_sem] Oper.semAt_some
abbrev Wd := {v : Int // wordP v}
def wdL : Nat → List Wd
  | 0 => []
  | k + 1 => wdL k ++ (if h : k < 16 then [⟨(k : Int) + 1, by unfold wordP; omega⟩, ⟨-((k : Int) + 1), by unfold wordP; omega⟩] else [])
theorem wdL_succ {k : Nat} (h : k < 16) : wdL (k + 1) = wdL k ++ [⟨(k : Int) + 1, by unfold wordP; omega⟩] ++ [⟨-((k : Int) + 1), by unfold wordP; omega⟩] := by
  show wdL k ++ (if h : k < 16 then _ else _) = _
  rw [dif_pos h, List.append_assoc]; rfl
theorem wdL_len : ∀ k, k ≤ 16 → (wdL k).length = 2 * k
  | 0, _ => rfl
  | k + 1, h => by rw [wdL_succ (by omega)]; simp [wdL_len k (by omega)]; omega
set_option maxRecDepth 100000 in
set_option maxHeartbeats 4000000 in
theorem words_in (m : Nat) (hm : 1 ≤ m) (l : Nat) (J Jx : List Wd → World → Prop) (W : World)
    (hY : ∀ pre (y : Wd) W1, J pre W1 → pre.length < 32 → YieldAt Fence.wide (m - 1) Try.prog l #[.int .i64 y.val] W1 fun e W' =>
      (e = .returned (.bool true) ∧ J (pre ++ [y]) W' ∧ True) ∨ (e = .returned (.bool false) ∧ Jx (pre ++ [y]) W')) (h0 : J [] W) :
    CallsIn Fence.wide m Try.prog 198 #[.func (.yield l) #[] #[]] W fun e W' => (∃ v, e = .returned v) ∧
      ((∃ ys, ys = wdL 16 ∧ J ys W') ∨ (∃ pre, True ∧ Jx pre W')) := by
  refine callsIn_of_wp Try.func198 rfl trivial ?_ rfl
  simp only [Try.ntmps198, List.size_toArray, List.length_cons, List.length_nil, Nat.reduceAdd, Nat.reduceSub, Array.replicate_succ, Array.replicate_zero, List.push_toArray, List.append_toArray, List.nil_append, List.cons_append]
  gi_wp2
  gi_loopw [2] (fun i wr => ∃ (k : Nat), k ≤ 16 ∧ i = .int .i64 ((k : Int) + 1) ∧ J (wdL k) wr) (fun i _ => 17 - (intOf i).toNat)
  case atStart => exact ⟨0, Nat.zero_le _, rfl, h0⟩
  case round =>
    obtain ⟨k, hk, rfl, hJs⟩ := hrel
    have HJ := hide hJs
    clear hJs
    by_cases hlt : k < 16
    · have hki : (k : Int) + 1 ≤ 16 := by omega
      have HL := hide (wdL_succ hlt)
      obtain ⟨fn, tmps, assign, body, hy, hR⟩ := hY (wdL k) ⟨(k : Int) + 1, by unfold wordP; omega⟩ wr HJ.out (by rw [wdL_len k (by omega)]; omega)
      gi_wp2
      refine hR.mono ?_
      rintro e W2 (⟨rfl, hJ2, -⟩ | ⟨rfl, hJx⟩)
      · have HJ2 := hide hJ2
        obtain ⟨fn', tmps', assign', body', hy', hR'⟩ := hY (wdL k ++ [⟨(k : Int) + 1, by unfold wordP; omega⟩]) ⟨-((k : Int) + 1), by unfold wordP; omega⟩ W2 hJ2 (by rw [List.length_append, wdL_len k (by omega)]; simp; omega)
        clear hJ2
        gi_wp2
        refine hR'.mono ?_
        rintro e W3 (⟨rfl, hJ3, -⟩ | ⟨rfl, hJx⟩)
        · have HJ3 := hide hJ3
          clear hJ3
          gi_wp2
          go_roundw
          case rel => exact ⟨k + 1, by omega, by go_num, by rw [HL.out]; exact HJ3.out⟩
          case measure => simp [intOf]; omega
        · have HX := hide hJx
          clear hJx
          gi_wp2
          refine bodyPost_ret (results_none rfl _ _ _) rfl ?_
          exact ⟨⟨_, rfl⟩, .inr ⟨_, trivial, HX.out⟩⟩
      · have HX := hide hJx
        clear hJx
        gi_wp2
        refine ⟨(fun f hf => by cases hf), ?_⟩
        gi_wp2
        refine bodyPost_ret (results_none rfl _ _ _) rfl ?_
        exact ⟨⟨_, rfl⟩, .inr ⟨_, trivial, HX.out⟩⟩
    · obtain rfl : k = 16 := by omega
      gi_wp2
      go_end0
      exact ⟨⟨_, rfl⟩, .inl ⟨_, rfl, HJ.out⟩⟩
theorem words_stops (m : Nat) (hm : 1 ≤ m) (w0 : World) :
    SeqStopsK Fence.wide m Try.prog 198 #[] (fun y : Wd => #[Value.int .i64 y.val]) (fun _ _ => True) (fun ys => ys = wdL 16) (fun _ => True) 32 w0 := fun l J Jx W _ _ _ hY h0 =>
  words_in m hm l J Jx W hY h0
end Go.Proofs.Ytjndhcdanpnniaa
