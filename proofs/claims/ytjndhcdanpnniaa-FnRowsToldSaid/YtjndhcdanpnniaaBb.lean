/- Bytes among the arguments of a law, and the numbers that a law takes from them. -/
import Derived.Test.YtjndhcdanpnniaaProg
import Derived.Test.YtjndhcdanpnniaaScp
import Derived.Test.YtjndhcdanpnniaaOw
import Derived.Deep.QuietTactic
import Derived.BigQuiet
namespace Go
open Go.RowKit
section
open Go.ChangeShapes Go.WideShapes Go.Deep
variable {H : Type} {enc : TypeId × Value → H} {P : Program} {w : World}
/-- A SLICE OF BYTES, OPENED. -/
theorem open_bytes {t e : TypeId} {v : Value} {d : DataW H} {ps : List MemPlace} (ht : P.underlying t = some (.slice e)) (he : P.underlying e = some (.int .u8)) (hc : P.cellsOf e = 1)
    (hd : DataW.Trod enc P w 0 (fun _ => true) true t v d ps) (hv : ∃ A n c, v = .slice A n c) :
    ∃ A n c, ∃ x : Nat → Int, v = .slice A n c ∧ n ≤ maxLen ∧ SL w A n (fun j => .int .u8 (x j)) ∧ ∀ j, j < n → 0 ≤ x j ∧ x j ≤ 255 := by
  obtain ⟨A, n, c, f, rfl, hm, hs, hf⟩ := open_sl ht hc hd hv
  have each : ∀ j, j < n → ∃ b : Int, f j = .int .u8 b ∧ 0 ≤ b ∧ b ≤ 255 := by
    intro j hj
    obtain ⟨m, y, h⟩ := hf j hj
    obtain ⟨b, h1, _, h2⟩ := DataW.trod_int he h
    have hmin : IntKind.u8.min = 0 := rfl
    have hmax : IntKind.u8.max = 255 := rfl
    simp only [Lit.wf, Bool.and_eq_true, decide_eq_true_eq] at h2
    exact ⟨b, by injection h1, by omega, by omega⟩
  refine ⟨A, n, c, fun j => match f j with | .int _ b => b | _ => 0, rfl, hm, ?_, ?_⟩
  · rcases hs with h | ⟨b, off, h1, h2, h3⟩
    · exact .inl h
    · refine .inr ⟨b, off, h1, h2, fun j hj => ?_⟩
      obtain ⟨b', e1, _⟩ := each j hj
      rw [h3 j hj]
      simp only [e1]
  · intro j hj
    obtain ⟨b', e1, e2⟩ := each j hj
    simp only [e1]; exact e2
end
/-- what b10At tells -/
def b10V (x : Nat → Int) (n : Nat) (i N : Int) : Int := if N ≤ 1 then 0 else if i < n then x i.toNat % N else (i * 37 + 11) % N
/-- what r8At tells -/
def r8V (x : Nat → Int) (n : Nat) (i N : Int) : Int := if N ≤ 1 ∨ (n : Int) ≤ i then 0 else x i.toNat % N
theorem b10V_bd {x : Nat → Int} {n : Nat} {i N : Int} (h : 1 ≤ N) : 0 ≤ b10V x n i N ∧ b10V x n i N < N := by
  unfold b10V
  split
  · omega
  · split
    · exact ⟨Int.emod_nonneg _ (by omega), Int.emod_lt_of_pos _ (by omega)⟩
    · exact ⟨Int.emod_nonneg _ (by omega), Int.emod_lt_of_pos _ (by omega)⟩
theorem r8V_bd {x : Nat → Int} {n : Nat} {i N : Int} (h : 1 ≤ N) : 0 ≤ r8V x n i N ∧ r8V x n i N < N := by
  unfold r8V
  split
  · omega
  · exact ⟨Int.emod_nonneg _ (by omega), Int.emod_lt_of_pos _ (by omega)⟩
theorem int_eqb {a b : Int} (h : a = b) : Ending.returned (.int .i64 a) = .returned (.int .i64 b) := by rw [h]
end Go
namespace Go.Proofs.Ytjndhcdanpnniaa
open Go.RowKit Go.Dues
theorem Try.cellsU8 : Try.prog.cellsOf 5 = 1 := by kernel_rfl
theorem b10Long_no (A : Option Addr) (n c : Nat) (B : Option Addr) (m d : Nat) (w : World) (hn : n ≤ 1048576) (hm : m ≤ 1048576) :
    Calls Try.prog 15 #[.slice A n c, .slice B m d] w fun e w' => e = .returned (.bool false) ∧ w = w' := by
  have h1 : decide ((1048576 : Int) < (n : Int)) = false := by simp; omega
  have h2 : decide ((1048576 : Int) < (m : Int)) = false := by simp; omega
  go_enter Try.func15, Try.ntmps15
  go_wp2
  go_ret
  exact ⟨rfl, rfl⟩
theorem b10Long_yes (A : Option Addr) (n c : Nat) (B : Option Addr) (m d : Nat) (w : World) (h : 1048576 < n ∨ 1048576 < m) (hn : n ≤ maxLen) (hm : m ≤ maxLen) :
    Calls Try.prog 15 #[.slice A n c, .slice B m d] w fun e w' => e = .returned (.bool true) ∧ w = w' := by
  unfold maxLen at hn hm
  by_cases h1 : (1048576 : Int) < (n : Int)
  · have h1' : decide ((1048576 : Int) < (n : Int)) = true := by simp; omega
    go_enter Try.func15, Try.ntmps15
    go_wp2
    go_ret
    exact ⟨rfl, rfl⟩
  · have h2 : (1048576 : Int) < (m : Int) := by omega
    have h1' : decide ((1048576 : Int) < (n : Int)) = false := by simp; omega
    have h2' : decide ((1048576 : Int) < (m : Int)) = true := by simp; omega
    go_enter Try.func15, Try.ntmps15
    go_wp2
    go_ret
    exact ⟨rfl, rfl⟩
theorem b10At_any (A : Option Addr) (n c : Nat) (x : Nat → Int) (i N : Int) (w : World) (hn : n ≤ 1048576) (hs : SL w A n (fun j => .int .u8 (x j))) (hx : ∀ j, j < n → 0 ≤ x j ∧ x j ≤ 255) (i0 : 0 ≤ i) (i1 : i ≤ 1000000) (N1 : N ≤ 1000000000) :
    Calls Try.prog 16 #[.slice A n c, .int .i64 i, .int .i64 N] w fun e w' => e = .returned (.int .i64 (b10V x n i N)) ∧ Below w.heap.size w w' := by
  by_cases h1 : N ≤ 1
  · have HV := hide (show (0 : Int) = b10V x n i N by unfold b10V; rw [if_pos h1])
    go_enter Try.func16, Try.ntmps16
    go_wp2
    go_ret
    exact ⟨int_eqb HV.out, Below.refl _ _⟩
  have h1' : 1 < N := by omega
  clear h1
  obtain ⟨k, rfl⟩ : ∃ k : Nat, i = k := ⟨i.toNat, by omega⟩
  by_cases h2 : k < n
  · have HV := hide (show x k % N = b10V x n k N by unfold b10V; rw [if_neg (by omega), if_pos (by omega), Int.toNat_natCast])
    obtain ⟨b, off, rfl, hb, hc⟩ := hs.at_ (by omega)
    have c1 := hc k h2
    have x0 := (hx k h2).1
    have x1 := (hx k h2).2
    clear hc hx hs
    go_enter Try.func16, Try.ntmps16
    go_wp2
    go_ret
    exact ⟨int_eqb HV.out, Below.refl _ _⟩
  · have HV := hide (show ((k : Int) * 37 + 11) % N = b10V x n k N by unfold b10V; rw [if_neg (by omega), if_neg (by omega)])
    clear hx hs
    go_enter Try.func16, Try.ntmps16
    go_wp2
    go_ret
    exact ⟨int_eqb HV.out, Below.refl _ _⟩
end Go.Proofs.Ytjndhcdanpnniaa
