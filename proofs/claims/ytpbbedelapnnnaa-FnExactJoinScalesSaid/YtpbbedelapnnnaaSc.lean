/- The laws' own helpers over scales: sizes, copies, comparisons. -/
import Derived.Test.YtpbbedelapnnnaaLs
namespace Go.Proofs.Ytpbbedelapnnnaa
open Go.RowKit
theorem bcell {W w1 : World} (hb : Below W.heap.size W w1) : (∀ b o, b < W.heap.size → w1.cell? ⟨b, o, none⟩ = W.cell? ⟨b, o, none⟩) ∧ (∀ b o, b < W.heap.size → w1.frozen? ⟨b, o, none⟩ = W.frozen? ⟨b, o, none⟩) :=
  ⟨fun b o h => hb.cell (p := ⟨b, o, none⟩) h, fun b o h => hb.frozen (p := ⟨b, o, none⟩) h⟩
theorem szIs_any (A : Option Addr) (n c : Nat) (l : Int) (w : World) (hn : n ≤ maxLen) (h0 : 0 ≤ l) (h1 : l ≤ 1048576) :
    Calls Try.prog 100 #[.slice A n c, .int .i64 l] w fun e w' => e = .returned (.int .i64 (if l < n then -1 else l - n)) ∧ w = w' := by
  unfold maxLen at hn
  by_cases h : l < n
  · rw [if_pos h]
    have h2 : l - (n : Int) < 0 := by omega
    go_enter Try.func100, Try.ntmps100
    go_wp2
    go_ret
    exact ⟨rfl, rfl⟩
  · rw [if_neg h]
    have h2 : ¬ l - (n : Int) < 0 := by omega
    go_enter Try.func100, Try.ntmps100
    go_wp2
    go_ret
    exact ⟨rfl, rfl⟩

theorem szScale_any (A A' : Option Addr) (n c n' c' : Nat) (l : Int) (w : World) (hn : n ≤ maxLen) (hn' : n' ≤ maxLen) (hl : 0 ≤ l) (hl1 : l ≤ 1048576) :
    Calls Try.prog 28 #[.agg #[.slice A n c, .slice A' n' c'], .int .i64 l] w fun e w' => ∃ m : Int, e = .returned (.int .i64 m) ∧ ((0 ≤ m ∧ m ≤ l ∧ n ≤ 1048576 ∧ n' ≤ 1048576) ∨ m = -1) ∧ Below w.heap.size w w' := by
  by_cases h : l < n
  · have h1 := hide (szIs_any A n c l (w.alloc (.cells #[.slice A n c, .slice A' n' c'] 44)) hn (by omega) (by omega))
    rw [if_pos h] at h1
    go_enter Try.func28, Try.ntmps28
    go_wp2_with (go_at_call 100; refine h1.out.mono ?_; rintro e w' ⟨rfl, rfl⟩)
    go_ret
    exact ⟨-1, rfl, .inr rfl, (Below.refl _ _).alloc (Nat.le_refl _) _⟩
  · have h1 := hide (szIs_any A n c l (w.alloc (.cells #[.slice A n c, .slice A' n' c'] 44)) hn (by omega) (by omega))
    rw [if_neg h] at h1
    have hz : ¬ (l - (n : Int)) < 0 := by omega
    by_cases h' : l - (n : Int) < n'
    · have h2 := hide (szIs_any A' n' c' (l - (n : Int)) (w.alloc (.cells #[.slice A n c, .slice A' n' c'] 44)) hn' (by omega) (by omega))
      rw [if_pos h'] at h2
      go_enter Try.func28, Try.ntmps28
      go_wp2_with fail
      refine h1.out.mono ?_
      rintro e w' ⟨rfl, rfl⟩
      go_wp2_with fail
      refine h2.out.mono ?_
      rintro e w' ⟨rfl, rfl⟩
      go_wp2_with fail
      go_ret
      exact ⟨-1, rfl, .inr rfl, (Below.refl _ _).alloc (Nat.le_refl _) _⟩
    · have h2 := hide (szIs_any A' n' c' (l - (n : Int)) (w.alloc (.cells #[.slice A n c, .slice A' n' c'] 44)) hn' (by omega) (by omega))
      rw [if_neg h'] at h2
      have hz' : ¬ (l - (n : Int) - n') < 0 := by omega
      go_enter Try.func28, Try.ntmps28
      go_wp2_with fail
      refine h1.out.mono ?_
      rintro e w' ⟨rfl, rfl⟩
      go_wp2_with fail
      refine h2.out.mono ?_
      rintro e w' ⟨rfl, rfl⟩
      go_wp2_with fail
      go_ret
      exact ⟨_, rfl, .inl ⟨by omega, by omega, by omega, by omega⟩, (Below.refl _ _).alloc (Nat.le_refl _) _⟩

theorem toScaleW_any (A A' : Option Addr) (n c n' c' : Nat) (x y : Nat → Int) (w : World) (hn : n ≤ 1048576) (hn' : n' ≤ 1048576) (hs : SL w A n (fun j => .int .i64 (x j))) (hs' : SL w A' n' (fun j => .int .i64 (y j))) :
    Calls Try.prog 30 #[.agg #[.slice A n c, .slice A' n' c']] w fun e w' => ∃ g g', e = .returned (.agg #[.slice (some ⟨g, 0, none⟩) n n, .slice (some ⟨g', 0, none⟩) n' n']) ∧ w.heap.size ≤ g ∧ g < g' ∧ g' < w'.heap.size ∧ Below w.heap.size w w' ∧
      OW w' w.heap.size g' (some ⟨g, 0, none⟩) n (fun j => .int .i64 (x j)) ∧ OW w' g' w'.heap.size (some ⟨g', 0, none⟩) n' (fun j => .int .i64 (y j)) := by
  have HS := hide hs
  have HS' := hide hs'
  clear hs hs'
  have HB := hide ((((Below.refl w.heap.size w).alloc (Nat.le_refl _) (.cells #[.slice A n c, .slice A' n' c'] 44)).alloc (by simp) (.cells #[.slice none 0 0, .slice none 0 0] 46)).alloc (by simp; omega) (.cells #[.slice none 0 0, .slice none 0 0] 46))
  have PP := hide (blocks3 w (.cells #[.slice A n c, .slice A' n' c'] 44) (.cells #[.slice none 0 0, .slice none 0 0] 46) (.cells #[.slice none 0 0, .slice none 0 0] 46))
  go_enter Try.func30, Try.ntmps30
  go_wp2_with fail
  refine (toIsW_any A n c x _ hn (HS.out.below HB.out)).mono ?_
  rintro e w1 ⟨g, rfl, hg, hgl, hb, hs1⟩
  have hz := hb.size
  simp at hz hg
  have Q0 := hide (blk_below hb (by simp; omega) PP.out.1)
  have Q1 := hide (blk_below hb (by simp) PP.out.2.1)
  have Q2 := hide (blk_below hb (by simp) PP.out.2.2)
  have c1 := Joins.cell_of_block Q2.out 0
  have c2 := Joins.unfrozen_of_block Q2.out 0
  have c3 := Joins.cell_of_block Q0.out 1
  simp at c1 c2 c3
  have HB1 := hide (HB.out.trans (hb.mono (by simp; omega)))
  have HS1 := hide hs1
  clear hb hs1
  go_wp2_with fail
  have HB2 := hide (HB1.out.setCell (p := ⟨w.heap.size + 1 + 1, 0, none⟩) (by simp; omega) (.slice (some ⟨g, 0, none⟩) n n))
  refine (toIsW_any A' n' c' y _ hn' (HS'.out.below HB2.out)).mono ?_
  rintro e w2 ⟨g', rfl, hg', hgl', hb, hs2⟩
  have hz2 := hb.size
  simp [World.setCell] at hz2 hg'
  have R1 := hide (blk_below hb (by simp [World.setCell]; omega) (blk_set (by simp) Q1.out))
  have R2 := hide (blk_below hb (by simp [World.setCell]; omega) (Joins.block_setCell Q2.out (i := 0) (.slice (some ⟨g, 0, none⟩) n n)))
  have HB3 := hide (HB2.out.trans (hb.mono (by simp [World.setCell]; omega)))
  have HS1' := hide (((HS1.out.wide (lo' := w.heap.size + 1 + 1 + 1) (hi' := w1.heap.size) (by simp) (Nat.le_refl _)).setCell (p := ⟨w.heap.size + 1 + 1, 0, none⟩) (v := .slice (some ⟨g, 0, none⟩) n n) (.inl (by simp))).below hb)
  have HS2 := hide hs2
  have k1 := Joins.cell_of_block R2.out 0
  have k2 := Joins.cell_of_block R2.out 1
  have k3 := Joins.cell_of_block R1.out 0
  have k4 := Joins.cell_of_block R1.out 1
  have f2 := Joins.unfrozen_of_block R2.out 1
  have f3 := Joins.unfrozen_of_block R1.out 0
  have f4 := Joins.unfrozen_of_block R1.out 1
  simp at k1 k2 k3 k4 f2 f3 f4
  clear hb hs2 c1 c2 c3
  go_wp2
  refine bodyPost_ret (v := .agg #[.slice (some ⟨g, 0, none⟩) n n, .slice (some ⟨g', 0, none⟩) n' n']) (by simp [results, Try.results30, go_sem, k3, k4]) rfl ⟨g, g', rfl, by omega, by omega, ?_, ?_, ?_, ?_⟩
  · simp [World.setCell]; omega
  · exact ((HB3.out.setCell (by simp; omega) _).setCell (by simp) _).setCell (by simp) _
  · exact (((HS1'.out.setCell (.inl (by simp))).setCell (.inl (by simp))).setCell (.inl (by simp))).wide (by omega) (by omega)
  · have h2 : OW w2 g' w2.heap.size (some ⟨g', 0, none⟩) n' (fun j => .int .i64 (y j)) := by
      rcases HS2.out with h | ⟨q, cs, t, h1, _, h3, h4, h5⟩
      · exact .inl h
      · injection h1 with h1
        injection h1 with h1
        subst h1
        exact .inr ⟨g', cs, t, rfl, Nat.le_refl _, h3, h4, h5⟩
    have := ((h2.setCell (p := ⟨w.heap.size + 1 + 1, 1, none⟩) (v := .slice (some ⟨g', 0, none⟩) n' n') (.inl (by simp; omega))).setCell (p := ⟨w.heap.size + 1, 0, none⟩) (v := .slice (some ⟨g, 0, none⟩) n n) (.inl (by simp; omega))).setCell (p := ⟨w.heap.size + 1, 1, none⟩) (v := .slice (some ⟨g', 0, none⟩) n' n') (.inl (by simp; omega))
    exact this.wide (Nat.le_refl _) (by simp [World.setCell])

theorem toScale_any (A A' : Option Addr) (n c n' c' : Nat) (x y : Nat → Int) (w : World) (hn : n ≤ 1048576) (hn' : n' ≤ 1048576) (hs : SL w A n (fun j => .int .i64 (x j))) (hs' : SL w A' n' (fun j => .int .i64 (y j))) :
    Calls Try.prog 30 #[.agg #[.slice A n c, .slice A' n' c']] w fun e w' => ∃ g g', e = .returned (.agg #[.slice (some ⟨g, 0, none⟩) n n, .slice (some ⟨g', 0, none⟩) n' n']) ∧ w.heap.size ≤ g ∧ g < g' ∧ g' < w'.heap.size ∧ Below w.heap.size w w' ∧
      SL w' (some ⟨g, 0, none⟩) n (fun j => .int .i64 (x j)) ∧ SL w' (some ⟨g', 0, none⟩) n' (fun j => .int .i64 (y j)) :=
  (toScaleW_any A A' n c n' c' x y w hn hn' hs hs').mono fun _ _ ⟨g, g', he, h1, h2, h3, h4, h5, h6⟩ => ⟨g, g', he, h1, h2, h3, h4, h5.sl, h6.sl⟩

theorem eqScale_any (A A' B B' : Option Addr) (n c n' c' d d' : Nat) (x y : Nat → Int) (w : World) (hn : n ≤ maxLen) (hn' : n' ≤ maxLen) (hs : SL w A n (fun j => .int .i64 (x j))) (hs' : SL w A' n' (fun j => .int .i64 (y j)))
    (ht : SL w B n (fun j => .int .i64 (x j))) (ht' : SL w B' n' (fun j => .int .i64 (y j))) :
    Calls Try.prog 32 #[.agg #[.slice A n c, .slice A' n' c'], .agg #[.slice B n d, .slice B' n' d']] w fun e w' => e = .returned (.bool true) ∧ Below w.heap.size w w' := by
  have HB := hide ((((Below.refl w.heap.size w).alloc (Nat.le_refl _) (.cells #[.slice A n c, .slice A' n' c'] 46)).alloc (by simp) (.cells #[.slice B n d, .slice B' n' d'] 46)))
  have HS1 := hide (eqIs_any A B n c d x _ hn (hs.below HB.out) (ht.below HB.out))
  have HS2 := fun q => hide (eqIs_any A' B' n' c' d' y _ hn' ((hs'.below HB.out).drewN q) ((ht'.below HB.out).drewN q))
  clear hs hs' ht ht'
  go_enter Try.func32, Try.ntmps32
  go_wp2_with fail
  refine HS1.out.mono ?_
  rintro e w' ⟨rfl, q, rfl⟩
  go_wp2_with fail
  refine (HS2 q).out.mono ?_
  rintro e w' ⟨rfl, q2, rfl⟩
  go_wp2_with fail
  go_ret
  exact ⟨rfl, bel_drewN HB.out _⟩
end Go.Proofs.Ytpbbedelapnnnaa
