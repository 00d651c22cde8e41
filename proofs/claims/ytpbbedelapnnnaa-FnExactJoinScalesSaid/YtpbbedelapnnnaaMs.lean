/- Marks of scales. -/
import Derived.Test.YtpbbedelapnnnaaMk
import Derived.Test.YtpbbedelapnnnaaSc
namespace Go.Proofs.Ytpbbedelapnnnaa
open Go.RowKit
/-- two slices of a call's own, apart -/
def OW2 (w : World) (lo hi : Nat) (A : Option Addr) (n : Nat) (x : Nat → Int) (A' : Option Addr) (n' : Nat) (x' : Nat → Int) : Prop :=
  OW w lo hi A n (fun j => .int .i64 (x j)) ∧ OW w lo hi A' n' (fun j => .int .i64 (x' j)) ∧ (n ≠ 0 → n' ≠ 0 → A ≠ A')
section
variable {w w' : World} {lo hi lo' hi' : Nat} {A A' : Option Addr} {n n' : Nat} {x x' : Nat → Int}
theorem OW2.below (h : OW2 w lo hi A n x A' n' x') (hb : Below w.heap.size w w') : OW2 w' lo hi A n x A' n' x' := ⟨h.1.below hb, h.2.1.below hb, h.2.2⟩
theorem OW2.within (h : OW2 w lo hi A n x A' n' x') (hb : Within lo' hi' w w') (hd : hi ≤ lo' ∨ hi' ≤ lo) : OW2 w' lo hi A n x A' n' x' := ⟨h.1.within hb hd, h.2.1.within hb hd, h.2.2⟩
theorem OW2.wide (h : OW2 w lo hi A n x A' n' x') (h1 : lo' ≤ lo) (h2 : hi ≤ hi') : OW2 w lo' hi' A n x A' n' x' := ⟨h.1.wide h1 h2, h.2.1.wide h1 h2, h.2.2⟩
theorem OW2.drewN (h : OW2 w lo hi A n x A' n' x') (k : Nat) : OW2 (w.drewN k) lo hi A n x A' n' x' := h
theorem OW2.marked (h : OW2 w lo hi A n x A' n' x') (hb : Marked lo' hi' w w') (hd : hi ≤ lo' ∨ hi' ≤ lo) : OW2 w' lo hi A n x A' n' x' := ⟨h.1.marked hb hd, h.2.1.marked hb hd, h.2.2⟩
theorem OW2.none_ (w : World) (lo hi : Nat) (x x' : Nat → Int) : OW2 w lo hi none 0 x none 0 x' := ⟨.inl rfl, .inl rfl, fun h => absurd rfl h⟩
theorem OW2.split (h : OW2 w lo hi A n x A' n' x') (hlh : lo ≤ hi) : ∃ lo1 hi1 lo2 hi2, OW w lo1 hi1 A n (fun j => .int .i64 (x j)) ∧ OW w lo2 hi2 A' n' (fun j => .int .i64 (x' j)) ∧ lo ≤ lo1 ∧ hi1 ≤ hi ∧ lo ≤ lo2 ∧ hi2 ≤ hi ∧ (hi1 ≤ lo2 ∨ hi2 ≤ lo1) := by
  obtain ⟨h1, h2, h3⟩ := h
  by_cases hn : n = 0
  · exact ⟨lo, lo, lo, hi, .inl hn, h2, Nat.le_refl _, hlh, Nat.le_refl _, Nat.le_refl _, .inl (Nat.le_refl _)⟩
  by_cases hn' : n' = 0
  · exact ⟨lo, hi, lo, lo, h1, .inl hn', Nat.le_refl _, Nat.le_refl _, Nat.le_refl _, hlh, .inr (Nat.le_refl _)⟩
  rcases h1 with h1 | ⟨g, cs, t, a1, a2, a3, a4, a5⟩
  · exact absurd h1 hn
  rcases h2 with h2 | ⟨g', cs', t', b1, b2, b3, b4, b5⟩
  · exact absurd h2 hn'
  have hne := h3 hn hn'
  have hg : g ≠ g' := fun e => hne (by rw [a1, b1, e])
  exact ⟨g, g + 1, g', g' + 1, .inr ⟨g, cs, t, a1, Nat.le_refl _, by omega, a4, a5⟩, .inr ⟨g', cs', t', b1, Nat.le_refl _, by omega, b4, b5⟩, a2, by omega, b2, by omega, by omega⟩
end

set_option maxHeartbeats 1000000 in
theorem markScale_any (A A' : Option Addr) (n c n' c' lo hi : Nat) (x x' : Nat → Int) (k : Int) (w : World) (hn : n ≤ 1048576) (hn' : n' ≤ 1048576) (hk0 : 0 ≤ k) (hk1 : k ≤ 100000000) (h : OW2 w lo hi A n x A' n' x') (hlh : lo ≤ hi) (hh : hi ≤ w.heap.size) :
    Calls Try.prog 33 #[.agg #[.slice A n c, .slice A' n' c'], .int .i64 k] w fun e w' => e = .returned (.int .i64 (k + n + n')) ∧ OW2 w' lo hi A n (fun j => k + j) A' n' (fun j => k + n + j) ∧ Within lo hi (w.alloc (.cells #[.slice A n c, .slice A' n' c'] 46)) w' := by
  have HP := hide (blocks1 w (.cells #[.slice A n c, .slice A' n' c'] 46))
  obtain ⟨lo1, hi1, lo2, hi2, s1, s2, b1, b2, b3, b4, hd⟩ := (h.below ((Below.refl w.heap.size w).alloc (Nat.le_refl _) (.cells #[.slice A n c, .slice A' n' c'] 46))).split hlh
  have HN := hide h.2.2
  have HO1 := hide s1
  have HO2 := hide s2
  clear h s1 s2
  go_enter Try.func33, Try.ntmps33
  go_wp2_with fail
  refine (markIs_any A n c lo1 hi1 x k _ hn (by omega) (by omega) HO1.out).mono ?_
  rintro e w1 ⟨rfl, ho, hw⟩
  have HQ := hide ((hw.block w.heap.size (.inr (by omega))).trans HP.out)
  have c1 := Joins.cell_of_block HQ.out 1
  simp at c1
  have HO2' := hide (HO2.out.within hw (by omega))
  have HO1' := hide ho
  have HW := hide hw
  clear hw ho
  go_wp2_with fail
  refine (markIs_any A' n' c' lo2 hi2 x' (k + n) _ hn' (by omega) (by omega) HO2'.out).mono ?_
  rintro e w2 ⟨rfl, ho, hw⟩
  have HO1'' := hide (HO1'.out.within hw (by omega))
  have HO2'' := hide ho
  have HW2 := hide ((HW.out.wide b1 b2).trans (hw.wide b3 b4))
  clear hw ho
  go_wp2
  go_ret
  exact ⟨rfl, ⟨HO1''.out.wide b1 b2, HO2''.out.wide b3 b4, HN.out⟩, HW2.out⟩

theorem heldScale_any (A A' : Option Addr) (n c n' c' : Nat) (k : Int) (w : World) (hn : n ≤ 1048576) (hn' : n' ≤ 1048576) (hk0 : 0 ≤ k) (hk1 : k ≤ 100000000) (hs : SL w A n (fun j => .int .i64 (k + j))) (hs' : SL w A' n' (fun j => .int .i64 (k + n + j))) :
    Calls Try.prog 34 #[.agg #[.slice A n c, .slice A' n' c'], .int .i64 k] w fun e w' => e = .returned (.int .i64 (k + n + n')) ∧ Below w.heap.size w w' := by
  have HB := hide ((Below.refl w.heap.size w).alloc (Nat.le_refl _) (.cells #[.slice A n c, .slice A' n' c'] 46))
  have H1 := hide (heldIs_any A n c k _ hn hk0 (by omega) (hs.below HB.out))
  have H2 := fun q => hide (heldIs_any A' n' c' (k + n) _ hn' (by omega) (by omega) ((hs'.below HB.out).drewN q))
  clear hs hs'
  go_enter Try.func34, Try.ntmps34
  go_wp2_with fail
  refine H1.out.mono ?_
  rintro e w' ⟨rfl, q, rfl⟩
  go_wp2_with fail
  refine (H2 q).out.mono ?_
  rintro e w' ⟨rfl, q2, rfl⟩
  go_wp2_with fail
  go_ret
  exact ⟨rfl, bel_drewN HB.out _⟩
end Go.Proofs.Ytpbbedelapnnnaa
