/- The law on rows: what the functions tell of a drawn table. -/
import Derived.Test.YtjndhcdanpnniaaHs9
import Derived.Test.YtjndhcdanpnniaaBr9
import Derived.Test.YtjndhcdanpnniaaRa
import Derived.Test.YtjndhcdanpnniaaRg
import Derived.Test.YtjndhcdanpnniaaRk
import Derived.Lib.QuietBelow
import Derived.BigQuiet
namespace Go.Proofs.Ytjndhcdanpnniaa
open Go.RowKit Go.Dues
theorem rows_wx {c : Int} {x : Nat → Int} {n : Nat} (h : rowsP c x n) : wx64 x n := by
  have ht := tsz_bd h.1
  intro j hj
  have h1 := h.2.2 (j / 3) (by omega)
  unfold rowP at h1
  have hc : j = j / 3 * 3 ∨ j = j / 3 * 3 + 1 ∨ j = j / 3 * 3 + 2 := by omega
  rcases hc with hc | hc | hc <;> rw [hc] <;> omega
theorem g1_out {w w' : World} {e : Ending} {p : Prop} {n : Nat} {z : Nat → Int} (h : Gave1 w w' e p n z) (hp : p) : ∃ G d, e = .returned (.tuple #[.slice G n d, .bool true]) ∧ OW w' w.heap.size w'.heap.size G n (fun j => .int .i64 (z j)) ∧ Below w.heap.size w w' := by
  obtain ⟨G, d, h1, h2, h3⟩ := h
  rw [lenV_yes hp] at h1 h2
  rw [tru_yes hp] at h1
  exact ⟨G, d, h1, h2, h3⟩
theorem b10Sum_bel (A : Option Addr) (n c : Nat) (x : Nat → Int) (s : Int) (w : World) (hn : n ≤ 100000) (hx : ∀ j, j < n → 0 ≤ x j ∧ x j ≤ 1000000000) (hs : SL w A n (fun j => .int .i64 (x j))) (he : psum x n = s) :
    Calls Try.prog 21 #[.slice A n c] w fun e w' => e = .returned (.int .i64 s) ∧ Below w.heap.size w w' :=
  (b10Sum_any A n c x w hn hx hs).mono fun _ _ ⟨h, u, hu⟩ => ⟨he ▸ h, by rw [hu]; exact bel_drewN (Below.refl _ _) u⟩
theorem b10Ints_bel (A B : Option Addr) (n c d : Nat) (x y : Nat → Int) (w : World) (hn : n ≤ maxLen) (hxy : ∀ j, j < n → x j = y j) (hs : SL w A n (fun j => .int .i64 (x j))) (hs' : SL w B n (fun j => .int .i64 (y j))) :
    Calls Try.prog 20 #[.slice A n c, .slice B n d] w fun e w' => e = .returned (.bool true) ∧ Below w.heap.size w w' :=
  (b10Ints_yes A B n c d x y w hn hxy hs hs').mono fun _ _ ⟨h, u, hu⟩ => ⟨h, by rw [hu]; exact bel_drewN (Below.refl _ _) u⟩
theorem b10Has_val (A : Option Addr) (n c : Nat) (x : Nat → Int) (q : Int) (b : Bool) (w : World) (hn : n ≤ maxLen) (hs : SL w A n (fun j => .int .i64 (x j))) (hb : hasQ x n q ↔ b = true) :
    Calls Try.prog 57 #[.slice A n c, .int .i64 q] w fun e w' => e = .returned (.bool b) ∧ ∃ u, w' = w.drewN u :=
  (b10Has_any A n c x q w hn hs).mono fun _ _ ⟨h, hu⟩ => ⟨by
    rw [h]
    cases b
    · rw [tru_no (fun h => by have := hb.1 h; cases this)]
    · rw [tru_yes (hb.2 rfl)], hu⟩
theorem ra_fit {c : Int} {x : Nat → Int} {n p : Nat} {q : Int} (h : rowsP c x n) (q0 : 0 ≤ q) (q1 : q ≤ (tsz c : Int) - 1) (hp : fstR x q n = p) : raP c x n q ∧ raV x q n = x (p * 3 + 2) :=
  ⟨⟨h, ⟨q0, q1⟩, by omega⟩, by unfold raV; rw [hp, Int.toNat_natCast]⟩
theorem ra_none {c : Int} {x : Nat → Int} {n : Nat} {q : Int} (hp : fstR x q n < 0) : ¬ raP c x n q := fun h => by have := h.2.2; omega
theorem fstR_keep {x : Nat → Int} {q : Int} {k : Nat} (h : ¬ fstR x q k < 0) : fstR x q (k + 1) = fstR x q k := if_neg h
theorem fstR_hit {x : Nat → Int} {q : Int} {k : Nat} (h : fstR x q k < 0) (hf : fitB x q k = true) : fstR x q (k + 1) = k := by
  show (if fstR x q k < 0 then (if fitB x q k then (k : Int) else -1) else fstR x q k) = k
  rw [if_pos h, hf]; rfl
theorem fstR_miss {x : Nat → Int} {q : Int} {k : Nat} (h : fstR x q k < 0) (hf : fitB x q k = false) : fstR x q (k + 1) = fstR x q k := by
  have := fstR_bd x q k
  show (if fstR x q k < 0 then (if fitB x q k then (k : Int) else -1) else fstR x q k) = _
  rw [if_pos h, hf]
  show (-1 : Int) = _
  omega
end Go.Proofs.Ytjndhcdanpnniaa
