/- slices.Sort and slices.Compact over a row of the call's own. -/
import Derived.Test.YtpbbedelapnnnaaShf
import Derived.Test.YtpbbedelapnnnaaCmp
import Derived.Test.YtpbbedelapnnnaaCtI
import Derived.Test.YtpbbedelapnnnaaRi
import Derived.Sort.OwnSortedInts
namespace Go.Proofs.Ytpbbedelapnnnaa
open Go.RowKit Go.Dues
theorem sortI_any (g cp n : Nat) (zs : List Int) (W : World) (B : Nat) (hl : zs.length = n) (hn : n ≤ 4194304) (h : W.ownsRow B 2 1 (.slice (some ⟨g, 0, none⟩) n cp) n (zs.map (Value.int .i64))) :
    Calls Try.prog 107 #[.slice (some ⟨g, 0, none⟩) n cp] W fun e w' => e = .returned (.tuple #[]) ∧ w'.ownsRow B 2 1 (.slice (some ⟨g, 0, none⟩) n cp) n ((zs.mergeSort fun x y => decide (x ≤ y)).map (Value.int .i64)) ∧ W.grownBy w' (some g) := by
  subst hl
  rcases h.2 with ⟨h0, _⟩ | ⟨g', cap, cur, h1, h2, h3, h4, h5, h6, h7⟩
  · cases h0
  · simp only [Value.slice.injEq, Option.some.injEq, Addr.mk.injEq, and_true, true_and] at h1
    obtain ⟨rfl, rfl⟩ := h1
    rw [Nat.mul_one] at h7
    refine (Go.Proofs.Try.slices_Sort_int g 0 cp zs W (holds_of_blockI h3 h7) (Array.getElem?_eq_some_iff.1 h3).1 (by omega)).mono ?_
    rintro e w' ⟨rfl, q, os, rfl⟩
    exact ⟨rfl, ownsRow_sortedI (List.length_mergeSort _) h2 h3 h4 h5 h6, grownBy_sortedI _⟩
theorem compactI_any (g cp n : Nat) (zs : List Int) (W : World) (B : Nat) (hl : zs.length = n) (hn : n ≤ 4194304) (h : W.ownsRow B 2 1 (.slice (some ⟨g, 0, none⟩) n cp) n (zs.map (Value.int .i64))) :
    Calls Try.prog 108 #[.slice (some ⟨g, 0, none⟩) n cp] W fun e w' => e = .returned (.slice (some ⟨g, 0, none⟩) (Go.Lib.compact zs).length cp) ∧ w'.ownsRow B 2 1 (.slice (some ⟨g, 0, none⟩) (Go.Lib.compact zs).length cp) (Go.Lib.compact zs).length ((Go.Lib.compact zs).map (Value.int .i64)) ∧ W.grownBy w' (some g) := by
  subst hl
  rcases h.2 with ⟨h0, _⟩ | ⟨g', cap, cur, h1, h2, h3, h4, h5, h6, h7⟩
  · cases h0
  · simp only [Value.slice.injEq, Option.some.injEq, Addr.mk.injEq, and_true, true_and] at h1
    obtain ⟨rfl, rfl⟩ := h1
    rw [Nat.mul_one] at h7
    have hle := Go.Lib.compact_length_le zs
    refine (Go.Proofs.AnyG.slices_Compact_int Go.Proofs.Try.laysCmp g 0 cp zs W (holds_of_blockI h3 h7) (by omega) h4).mono ?_
    rintro e w' ⟨rfl, q, rfl⟩
    have hg := grownBy_sortedI (w := W) (g := g) (n := q) (os := #[]) (Go.Lib.compact zs ++ List.replicate (zs.length - (Go.Lib.compact zs).length) 0).toArray
    have ho := ownsRow_sortedI (w := W) (base := B) (g := g) (cap := cp) (n := q) (os := #[]) (ss := zs) (ts := Go.Lib.compact zs ++ List.replicate (zs.length - (Go.Lib.compact zs).length) 0) (by simp; omega) h2 h3 h4 h5 h6
    have hge : ∀ u : World, Go.Sort.grow u #[] = u := fun u => by unfold Go.Sort.grow; simp
    rw [hge] at hg ho
    refine ⟨rfl, ⟨by simp, ?_⟩, hg⟩
    rcases ho.2 with ⟨h0, _⟩ | ⟨g', cap, cur', k1, k2, k3, k4, k5, k6, k7⟩
    · cases h0
    · simp only [Value.slice.injEq, Option.some.injEq, Addr.mk.injEq, and_true, true_and] at k1
      obtain ⟨rfl, rfl⟩ := k1
      refine .inr ⟨g, cp, cur', rfl, k2, k3, by omega, k5, k6, ?_⟩
      rw [Nat.mul_one] at k7 ⊢
      have := congrArg (List.take (Go.Lib.compact zs).length) k7
      rw [List.take_take, Nat.min_eq_left hle, List.map_append, List.take_append_of_le_length (by simp)] at this
      rw [this, List.take_of_length_le (by simp)]
end Go.Proofs.Ytpbbedelapnnnaa
