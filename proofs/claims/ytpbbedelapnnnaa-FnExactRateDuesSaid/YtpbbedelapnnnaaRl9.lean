/- Lines by their rates: what they are, and their sums, by the program. -/
import Derived.Test.YtpbbedelapnnnaaLq
import Derived.Test.YtpbbedelapnnnaaOs
namespace Go.Proofs.Ytpbbedelapnnnaa
open Go.RowKit Go.Dues
/-- the lines of a kind among the first k: place and cents -/
def lqL (x kd : Nat → Int) (q : Nat) : Nat → List (Nat × Int)
  | 0 => []
  | k + 1 => if kd k = (q : Int) then lqL x kd q k ++ [(k, x k)] else lqL x kd q k
/-- the lines of the first kinds, one kind behind the other -/
def laL (x kd : Nat → Int) (n : Nat) : Nat → List (Nat × Int)
  | 0 => []
  | q + 1 => laL x kd n q ++ lqL x kd q n
theorem lq_hit {x kd : Nat → Int} {q k : Nat} (h : kd k = (q : Int)) : lqL x kd q (k + 1) = lqL x kd q k ++ [(k, x k)] := if_pos h
theorem lq_miss {x kd : Nat → Int} {q k : Nat} (h : kd k ≠ (q : Int)) : lqL x kd q (k + 1) = lqL x kd q k := if_neg h
theorem lq_mono {x kd : Nat → Int} {q : Nat} : ∀ {n k : Nat}, k ≤ n → (lqL x kd q k).length ≤ (lqL x kd q n).length
  | 0, k, h => by obtain rfl : k = 0 := by omega
                  exact Nat.le_refl _
  | n + 1, k, h => by
    by_cases e : k = n + 1
    · subst e; exact Nat.le_refl _
    · have h1 := lq_mono (x := x) (kd := kd) (q := q) (n := n) (k := k) (by omega)
      by_cases hk : kd n = (q : Int)
      · rw [lq_hit hk, List.length_append]; omega
      · rw [lq_miss hk]; exact h1
theorem la_succ (x kd : Nat → Int) (k : Nat) : ∀ c, (laL x kd (k + 1) c).length ≤ (laL x kd k c).length + 1 ∧ (kd k ≥ c → (laL x kd (k + 1) c).length = (laL x kd k c).length)
  | 0 => ⟨Nat.zero_le _, fun _ => rfl⟩
  | c + 1 => by
    obtain ⟨h1, h2⟩ := la_succ x kd k c
    show (laL x kd (k + 1) c ++ lqL x kd c (k + 1)).length ≤ (laL x kd k c ++ lqL x kd c k).length + 1 ∧ (_ → (laL x kd (k + 1) c ++ lqL x kd c (k + 1)).length = (laL x kd k c ++ lqL x kd c k).length)
    rw [List.length_append, List.length_append]
    by_cases hk : kd k = (c : Int)
    · rw [lq_hit hk, List.length_append, List.length_singleton]
      have := h2 (by omega)
      exact ⟨by omega, fun h => absurd h (by rw [hk]; omega)⟩
    · rw [lq_miss hk]
      exact ⟨by omega, fun h => by have := h2 (by omega); omega⟩
theorem la_len (x kd : Nat → Int) : ∀ (n c : Nat), (laL x kd n c).length ≤ n
  | 0, c => by
    induction c with
    | zero => exact Nat.le_refl _
    | succ c ih => show (laL x kd 0 c ++ lqL x kd c 0).length ≤ 0; rw [List.length_append]; show _ + 0 ≤ 0; omega
  | n + 1, c => by have h1 := la_len x kd n c; have h2 := (la_succ x kd n c).1; omega
theorem la_room {x kd : Nat → Int} {n q k : Nat} (hk : k < n) (h : kd k = (q : Int)) : (laL x kd n q).length + (lqL x kd q k).length + 1 ≤ n := by
  have h1 := la_len x kd n (q + 1)
  have h2 : (laL x kd n (q + 1)).length = (laL x kd n q).length + (lqL x kd q n).length := by show (laL x kd n q ++ lqL x kd q n).length = _; rw [List.length_append]
  have h3 := lq_mono (x := x) (kd := kd) (q := q) (n := n) (k := k + 1) (by omega)
  rw [lq_hit h, List.length_append, List.length_singleton] at h3
  omega
/-- lines as cells -/
def liV (L : List (Nat × Int)) : List Value := L.flatMap fun p => [.int .i64 (p.1 : Int), .int .i64 p.2]
theorem liV_app (L M : List (Nat × Int)) : liV (L ++ M) = liV L ++ liV M := List.flatMap_append
theorem liV_len : ∀ L : List (Nat × Int), (liV L).length = L.length * 2
  | [] => rfl
  | a :: L => by
    show ([Value.int .i64 (a.1 : Int), .int .i64 a.2] ++ liV L).length = _
    rw [List.length_append, liV_len L, List.length_cons]; simp; omega
theorem psum_n0 {z : Nat → Int} : ∀ {n : Nat}, (∀ j, j < n → 0 ≤ z j) → 0 ≤ psum z n
  | 0, _ => Int.le_refl _
  | n + 1, h => by rw [psum_succ]; have h1 := psum_n0 (n := n) (fun j hj => h j (by omega)); have h2 := h n (by omega); omega
theorem psum_top {z : Nat → Int} : ∀ {n : Nat}, (∀ j, j < n → z j ≤ 1000000000000) → psum z n ≤ 1000000000000 * (n : Int)
  | 0, _ => Int.le_refl _
  | n + 1, h => by rw [psum_succ]; have h1 := psum_top (n := n) (fun j hj => h j (by omega)); have h2 := h n (by omega); push_cast; omega
theorem fnLine_any (p c : Int) (w : World) : Calls Try.prog 134 #[.agg #[.int .i64 p, .int .i64 c]] w fun e w' => e = .returned (.int .i64 c) ∧ Below w.heap.size w w' := by
  go_enter Try.func134, Try.ntmps134
  go_wp2
  go_ret
  exact ⟨rfl, (Below.refl _ _).alloc (Nat.le_refl _) _⟩
set_option maxHeartbeats 2000000 in
theorem sumLine_any (ao : Option Addr) (m cp : Nat) (ps z : Nat → Int) (w : World) (hm : m ≤ 32) (hz : ∀ j, j < m → 0 ≤ z j ∧ z j ≤ 1000000000000) (hs : ∀ j, j < m → ∃ b off, ao = some ⟨b, off, none⟩ ∧ b < w.heap.size ∧ w.cell? ⟨b, off + j * 2, none⟩ = some (.int .i64 (ps j)) ∧ w.cell? ⟨b, off + j * 2 + 1, none⟩ = some (.int .i64 (z j))) :
    Calls Try.prog 133 #[.slice ao m cp, .func (Fn.func 134) #[] #[]] w fun e w' => e = .returned (.int .i64 (psum z m)) ∧ Below w.heap.size w w' := by
  have HS := hide hs
  have HZ := hide hz
  clear hs hz
  go_enter Try.func133, Try.ntmps133
  go_wp2
  go_loopw [5, 7, 10] (fun s _ i wr => ∃ (k : Nat) (S : Int), k ≤ m ∧ i = .int .i64 k ∧ s = .int .i64 S ∧ Hid (S = psum z k) ∧ Hid (Below w.heap.size w wr)) (fun _ _ i _ => m - (intOf i).toNat)
  case atStart => exact ⟨0, 0, Nat.zero_le _, rfl, rfl, rfl, Below.refl _ _⟩
  case round =>
    obtain ⟨k, S, hk, rfl, rfl, hS, hbel⟩ := hrel
    by_cases hlt : k < m
    · have hki : (k : Int) < (m : Int) := by omega
      obtain ⟨b, off, rfl, hb, c0, c1⟩ := HS.out k hlt
      have d0 := (hbel.out.cell (p := ⟨b, off + k * 2, none⟩) hb).trans c0
      have d1 := (hbel.out.cell (p := ⟨b, off + k * 2 + 1, none⟩) hb).trans c1
      clear c0 c1
      obtain ⟨z0, z1⟩ := HZ.out k hlt
      have g0 : 0 ≤ psum z k := psum_n0 (fun j hj => (HZ.out j (by omega)).1)
      have g1 : psum z k ≤ 1000000000000 * k := psum_top (fun j hj => (HZ.out j (by omega)).2)
      rw [← hS.out] at g0 g1
      have g2 : S ≤ 32000000000000 := by omega
      clear g1
      have hw1 : IntKind.i64.wrap (S + z k) = S + z k := Go.IntWalk.i64_in _ (by omega)
      have HE := hide (show S + z k = psum z (k + 1) by rw [psum_succ, hS.out])
      have HF := fun u => hide (fnLine_any (ps k) (z k) u)
      have HB1 := hide (hbel.out.alloc hbel.out.size (.cells #[.int .i64 (ps k), .int .i64 (z k)] 162))
      go_wp2_with (go_at_call 134; refine (HF _).out.mono ?_; rintro e w2 ⟨rfl, hb2⟩; have HB2 := hide (HB1.out.trans (hb2.mono HB1.out.size)); clear hb2 d0 d1)
      go_roundw
      case rel => exact ⟨k + 1, _, by omega, by go_num, rfl, HE.out, HB2.out⟩
      case measure => simp [intOf]; omega
    · obtain rfl : k = m := by omega
      have hki : ¬ (k : Int) < (k : Int) := by omega
      go_wp2
      go_ret
      exact ⟨reti hS.out, hbel.out⟩
end Go.Proofs.Ytpbbedelapnnnaa
