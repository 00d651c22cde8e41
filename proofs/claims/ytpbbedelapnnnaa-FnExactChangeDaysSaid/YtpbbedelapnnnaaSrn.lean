/- slices.Sort and slices.Compact over a row of the call's own, or none. -/
import Derived.Test.YtpbbedelapnnnaaSrt
import Derived.Test.YtpbbedelapnnnaaP5
import Derived.Shelf.SortM.SortNone
namespace Go.Proofs.Ytpbbedelapnnnaa
open Go.RowKit Go.Dues
theorem sortV_any (G : Option Addr) (cp n : Nat) (zs : List Int) (W : World) (B : Nat) (hl : zs.length = n) (hn : n ≤ 4194304) (h : W.ownsRow B 2 1 (.slice G n cp) n (zs.map (Value.int .i64))) :
    Calls Try.prog 107 #[.slice G n cp] W fun e w' => e = .returned (.tuple #[]) ∧ w'.ownsRow B 2 1 (.slice G n cp) n ((zs.mergeSort fun x y => decide (x ≤ y)).map (Value.int .i64)) ∧ W.grownBy w' (Value.slice G n cp).ownBlock := by
  rcases h.2 with ⟨h0, h1⟩ | ⟨g', cap, cur, h1, _⟩
  · injection h0 with e1 e2 e3
    subst e1 e2 e3
    have hz : zs = [] := List.length_eq_zero_iff.1 hl
    subst hz
    refine (Go.Proofs.AnyM.slices_Sort_int_none Go.Proofs.Try.laysSlM5_fX none 0 W).mono ?_
    rintro e w' ⟨rfl, rfl⟩
    exact ⟨rfl, by simpa using h, ⟨rfl, rfl, rfl, Nat.le_refl _, fun _ _ _ => rfl⟩⟩
  · injection h1 with e1 e2 e3
    subst e1
    exact sortI_any g' cp n zs W B hl hn h
theorem compactV_any (G : Option Addr) (cp n : Nat) (zs : List Int) (W : World) (B : Nat) (hl : zs.length = n) (hn : n ≤ 4194304) (h : W.ownsRow B 2 1 (.slice G n cp) n (zs.map (Value.int .i64))) :
    Calls Try.prog 108 #[.slice G n cp] W fun e w' => e = .returned (.slice G (Go.Lib.compact zs).length cp) ∧ w'.ownsRow B 2 1 (.slice G (Go.Lib.compact zs).length cp) (Go.Lib.compact zs).length ((Go.Lib.compact zs).map (Value.int .i64)) ∧ W.grownBy w' (Value.slice G n cp).ownBlock := by
  rcases h.2 with ⟨h0, h1⟩ | ⟨g', cap, cur, h1, _⟩
  · injection h0 with e1 e2 e3
    subst e1 e2 e3
    have hz : zs = [] := List.length_eq_zero_iff.1 hl
    subst hz
    refine (Go.Proofs.AnyG.slices_Compact_int_empty Go.Proofs.Try.laysCmp none 0 W).mono ?_
    rintro e w' ⟨rfl, rfl⟩
    exact ⟨rfl, h, ⟨rfl, rfl, rfl, Nat.le_refl _, fun _ _ _ => rfl⟩⟩
  · injection h1 with e1 e2 e3
    subst e1
    exact compactI_any g' cp n zs W B hl hn h
end Go.Proofs.Ytpbbedelapnnnaa
