/- slices.Concat of two rows, slices.Grow from nothing: int64. -/
import Derived.Test.YtpbbedelapnnnaaG1
import Derived.Test.YtpbbedelapnnnaaOw
import Derived.Test.YtpbbedelapnnnaaCt
import Derived.Lib.AppendZeros
namespace Go.Proofs.Ytpbbedelapnnnaa
open Go.RowKit Go.Dues
set_option maxRecDepth 100000 in
set_option maxHeartbeats 4000000 in
theorem growI_any (N : Nat) (w : World) (hN : N ≤ 4194304) :
    Calls Try.prog 185 #[.slice none 0 0, .int .i64 (N : Int)] w fun e w' => ∃ v, e = .returned v ∧ w'.ownsRow w.heap.size 2 1 v 0 [] ∧ Below w.heap.size w w' := by
  obtain ⟨i0, hi, hz0, hz1, hz2⟩ := info_parts Try.info64
  have hn0 : ¬ (N : Int) < 0 := by omega
  by_cases h0 : N = 0
  · subst h0
    go_enter Try.func185, Try.ntmps185
    go_wp2
    go_ret
    exact ⟨_, rfl, World.ownsRow_nil _ _ _ _, Below.refl _ _⟩
  · have hpos : (0 : Int) < (N : Int) := by omega
    have hgt : ¬ ((N : Int) ≤ 0) := by omega
    go_enter Try.func185, Try.ntmps185
    go_wp2_with (at_builtin; refine Lib.wpList_append_run _ rfl _ _ 42 3 rfl _ _ rfl rfl _ _ (Lib.run_append_nil_zeros _ 42 3 _ 2 i0 (.int .i64 0) .i64 .i64 Try.underlying42 Try.underlying3 hi hz0 N (by omega) (by rw [hz1]; decide) (by omega) (by rw [hz2]; omega)) ?_)
    have hcg := grownCap_ge w N 0 2
    have hcl := grownCap_le_maxLen w N 0 2 (by unfold maxLen; omega)
    obtain ⟨cp, hcpe⟩ : ∃ q, grownCap w N 0 2 = q := ⟨_, rfl⟩
    rw [hcpe] at hcg hcl ⊢
    have hcp : (0 : Int) ≤ (cp : Int) := by omega
    have hmade := hide (World.ownsRow_made (base := w.heap.size) (e := 2) (size := 1) w.drew (Builtin.zeroCells (Value.cells (.int .i64 0)) N ++ Builtin.zeroCells (Value.cells (.int .i64 0)) (cp - N)) cp (Nat.le_refl _) hcl (by rw [Array.size_append, size_zeroCells, size_zeroCells]; show N * 1 + (cp - N) * 1 = cp * 1; omega))
    clear hcpe
    go_wp2
    go_ret
    exact ⟨.slice (some ⟨w.heap.size, 0, none⟩) 0 cp, rfl, hmade.out, bel_q ((Below.refl _ _).alloc (Nat.le_refl _) _) 1⟩
set_option maxRecDepth 100000 in
set_option maxHeartbeats 4000000 in
theorem concatI_any (P : Nat) (A : Option Addr) (n c : Nat) (x : Nat → Int) (B : Option Addr) (n' c' : Nat) (y : Nat → Int) (w : World) (hP : w.heap[P]? = some (.cells #[.slice A n c, .slice B n' c'] 42))
    (h1 : 1 ≤ n) (h2 : n ≤ 1048576) (hs : SL w A (n) (fun j => .int .i64 (x j))) (h1' : 1 ≤ n') (h2' : n' ≤ 1048576) (hs' : SL w B (n') (fun j => .int .i64 (y j))) :
    Calls Try.prog 106 #[.slice (some ⟨P, 0, none⟩) 2 2] w fun e w' => ∃ G d, e = .returned (.slice G (n + n') d) ∧ w'.ownsRow w.heap.size 2 1 (.slice G (n + n') d) (n + n') (((List.range (n)).map fun j => .int .i64 (x j)) ++ ((List.range (n')).map fun j => .int .i64 (y j))) ∧ Below w.heap.size w w' := by
  obtain ⟨i0, hi, hz0, hz1, hz2⟩ := info_parts Try.info64
  have hPl := (Array.getElem?_eq_some_iff.1 hP).1
  obtain ⟨b1, o1, rfl, hb1, hx⟩ := hs.at_ (by omega)
  obtain ⟨b2, o2, rfl, hb2, hy⟩ := hs'.at_ (by omega)
  have HSX := hide (And.intro hb1 hx)
  have HSY := hide (And.intro hb2 hy)
  have HPP := hide hP
  clear hs hs' hx hy hP
  have KK := hide (show ∀ u, Below w.heap.size w u → u.cell? ⟨P, 0, none⟩ = some (.slice (some ⟨b1, o1, none⟩) n c) ∧ u.cell? ⟨P, 1, none⟩ = some (.slice (some ⟨b2, o2, none⟩) n' c') from fun u hu => by
    have h := blk_below hu hPl HPP.out
    have k0 := Joins.cell_of_block h 0
    have k1 := Joins.cell_of_block h 1
    simp at k0 k1
    exact ⟨k0, k1⟩)
  go_enter Try.func106, Try.ntmps106
  go_wp2
  go_loopw [3, 5, 11] (fun t3 _ i wr => w = wr ∧ ((i = .int .i64 0 ∧ t3 = .int .i64 0) ∨ (i = .int .i64 1 ∧ t3 = .int .i64 (n : Int)) ∨ (i = .int .i64 2 ∧ t3 = .int .i64 ((n : Int) + (n' : Int))))) (fun _ _ i _ => 2 - (intOf i).toNat)
  case atStart => exact ⟨rfl, .inl ⟨rfl, rfl⟩⟩
  case round =>
    obtain ⟨rfl, h⟩ := hrel
    rcases h with ⟨rfl, rfl⟩ | ⟨rfl, rfl⟩ | ⟨rfl, rfl⟩
    · have k0 := (KK.out _ (Below.refl _ _)).1
      have hn0 : ¬ (n : Int) < 0 := by omega
      go_wp2
      go_roundw
      case rel => exact ⟨trivial, .inr (.inl ⟨rfl, rfl⟩)⟩
      case measure => decide
    · have k1 := (KK.out _ (Below.refl _ _)).2
      have hn0 : ¬ (n : Int) + (n' : Int) < 0 := by omega
      go_wp2
      go_roundw
      case rel => exact ⟨trivial, .inr (.inr ⟨rfl, rfl⟩)⟩
      case measure => decide
    · go_wp2_with fail
      have hg := growI_any (n + n') w (by omega)
      rw [show ((n + n' : Nat) : Int) = (n : Int) + (n' : Int) by omega] at hg
      refine hg.mono ?_
      clear hg
      rintro e w1 ⟨v, rfl, hown, hbel⟩
      have HO := hide hown
      have HB := hide hbel
      clear hown hbel
      go_wp2_with fail
      go_loopw [6, 8, 27] (fun t6 _ i wr => Hid (Below w.heap.size w wr) ∧ ((i = .int .i64 0 ∧ Hid (wr.ownsRow w.heap.size 2 1 t6 0 [])) ∨ (i = .int .i64 1 ∧ Hid (wr.ownsRow w.heap.size 2 1 t6 n ((List.range (n)).map fun j => .int .i64 (x j)))) ∨ (i = .int .i64 2 ∧ Hid (wr.ownsRow w.heap.size 2 1 t6 (n + n') (((List.range (n)).map fun j => .int .i64 (x j)) ++ ((List.range (n')).map fun j => .int .i64 (y j))))))) (fun _ _ i _ => 2 - (intOf i).toNat)
      case atStart => exact ⟨HB.out, .inl ⟨rfl, HO.out⟩⟩
      case round =>
        clear HO HB
        obtain ⟨hb, h⟩ := hrel
        have hbel := hb.out
        have k0 := (KK.out _ hbel).1
        have k1 := (KK.out _ hbel).2
        rcases h with ⟨rfl, hown⟩ | ⟨rfl, hown⟩ | ⟨rfl, hown⟩
        · go_wp2_with (at_builtin; refine wpList_append_own _ rfl _ _ 42 rfl (w.heap.size) 2 i0 (.int .i64 0) 1 8 Try.underlying42 hi hz0 hz1 hz2 rfl (by decide) _ _ _ rfl (by exact hown.out) ⟨(b1, o1).1, (b1, o1).2, none⟩ n c ((List.range (n)).map fun j => .int .i64 (x j)) rfl (by simp) (src_cells9 HSX.out hbel) (one_cells9 _ _) (by unfold maxLen; omega) (by omega) (by have := hbel.size; omega) ?_)
          intro v' w5 hown' hgrow _
          have hb1 := Below.grown hbel hgrow hbel.size (fun j hj => (hown.out.lt j hj).1)
          have HON := hide hown'
          have HBN := hide hb1
          clear hown' hgrow hb1
          go_wp2
          go_roundw
          case rel => exact ⟨HBN.out, .inr (.inl ⟨rfl, HON.out⟩)⟩
          case measure => decide
        · go_wp2_with (at_builtin; refine wpList_append_own _ rfl _ _ 42 rfl (w.heap.size) 2 i0 (.int .i64 0) 1 8 Try.underlying42 hi hz0 hz1 hz2 rfl (by decide) _ _ _ rfl (by exact hown.out) ⟨(b2, o2).1, (b2, o2).2, none⟩ n' c' ((List.range (n')).map fun j => .int .i64 (y j)) rfl (by simp) (src_cells9 HSY.out hbel) (one_cells9 _ _) (by unfold maxLen; omega) (by omega) (by have := hbel.size; omega) ?_)
          intro v' w5 hown' hgrow _
          have hb1 := Below.grown hbel hgrow hbel.size (fun j hj => (hown.out.lt j hj).1)
          have HON := hide hown'
          have HBN := hide hb1
          clear hown' hgrow hb1
          go_wp2
          go_roundw
          case rel => exact ⟨HBN.out, .inr (.inr ⟨rfl, HON.out⟩)⟩
          case measure => decide
        · obtain ⟨G, d, rfl⟩ := own_shape hown.out
          go_wp2
          go_ret
          exact ⟨G, d, rfl, hown.out, hbel⟩
end Go.Proofs.Ytpbbedelapnnnaa
