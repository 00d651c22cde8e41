/- How many people there are of all ages, by the program. -/
import Derived.Test.YtpbbedelapnnnaaSg9
import Derived.Test.YtpbbedelapnnnaaLa9
import Derived.Test.YtpbbedelapnnnaaGr8
import Derived.Deep.RegionHeld3
namespace Go.Proofs.Ytpbbedelapnnnaa
open Go.RowKit Go.Dues
theorem su_all (x : Nat → Nat) {n : Nat} (h : 1 ≤ n) : suV x 0 ((n : Int) - 1) = fsum x n := by
  have e : ((n : Int) - 1).toNat + 1 - (0 : Int).toNat = n := by omega
  show fsum (fun j => x ((0 : Int).toNat + j)) _ = _
  rw [e]
  congr 1
  funext j
  congr 1
  simp
theorem su_iff {x y z : Nat → Nat} {n m l : Nat} : suP x n y m z l 0 ((n : Int) - 1) ↔ ppP x n y m z l ∧ ffin .f32 (fsum x n) = true := by
  constructor
  · intro h
    have := h.1.1
    exact ⟨h.1, by rw [← su_all x (by omega)]; exact h.2.2.2⟩
  · intro h
    have := h.1.1
    exact ⟨h.1, ⟨by omega, by omega⟩, ⟨by omega, by omega⟩, by rw [su_all x (by omega)]; exact h.2⟩
set_option maxRecDepth 100000 in
set_option maxHeartbeats 8000000 in
theorem someOf_any (A : Option Addr) (n ca : Nat) (x : Nat → Nat) (B : Option Addr) (m cb : Nat) (y : Nat → Nat) (C : Option Addr) (l cc : Nat) (z : Nat → Nat) (w : World) (hca : n ≤ ca) (hn : n ≤ maxLen) (hs : SL w A n (fun j => .float .f32 (x j))) (hm : m ≤ maxLen) (hs' : SL w B m (fun j => .float .f32 (y j))) (hl : l ≤ maxLen) (hs'' : SL w C l (fun j => .float .f32 (z j))) :
    Calls Try.prog 173 #[.agg #[.slice A n ca, .slice B m cb, .slice C l cc]] w fun e w' => ∃ r b, e = .returned (.tuple #[.float .f32 r, .bool b]) ∧ (b = true ↔ ppP x n y m z l ∧ abB (fsum x n) = true) ∧ (b = true → FS .f32 r (fsum x n)) ∧ Below w.heap.size w w' := by
  obtain ⟨W, hW⟩ : ∃ u, u = w.alloc (.cells #[.slice A n ca, .slice B m cb, .slice C l cc] 29) := ⟨_, rfl⟩
  have HBW : Hid (Below w.heap.size w W) := by rw [hW]; exact (Below.refl w.heap.size w).alloc (Nat.le_refl _) _
  have HX : Hid (W.heap[w.heap.size]? = some (.cells #[.slice A n ca, .slice B m cb, .slice C l cc] 29)) := by rw [hW]; exact blocks1 w _
  have HZ : w.heap.size < W.heap.size := by rw [hW]; simp
  have HS := hide (hs.below HBW.out)
  have HS' := hide (hs'.below HBW.out)
  have HS'' := hide (hs''.below HBW.out)
  have HWW := hide hW
  have KK := hide (show ∀ u, Below W.heap.size W u → u.cell? ⟨w.heap.size, 0, none⟩ = some (.slice A n ca) ∧ u.cell? ⟨w.heap.size, 1, none⟩ = some (.slice B m cb) ∧ u.cell? ⟨w.heap.size, 2, none⟩ = some (.slice C l cc) from fun u hu => by
    have h := blk_below hu HZ HX.out
    have h0 := Joins.cell_of_block h 0
    have h1 := Joins.cell_of_block h 1
    have h2 := Joins.cell_of_block h 2
    simp at h0 h1 h2
    exact ⟨h0, h1, h2⟩)
  have HBR := hide (Below.refl W.heap.size W)
  have k0 := (KK.out _ HBR.out).1
  have k1 := (KK.out _ HBR.out).2.1
  have k2 := (KK.out _ HBR.out).2.2
  clear hs hs' hs'' hW
  go_enter Try.func173, Try.ntmps173
  go_wp2_with fail
  rw [← HWW.out]
  clear HWW
  go_region_with (first
    | (go_at_call 224; refine (lastAge9_any A n ca x B m cb y C l cc z _ hn).mono ?_; rintro e v1 ⟨rfl, hb⟩; have HB1 : Hid (Below W.heap.size W v1) := ⟨hb.os, hb.tape, hb.output, hb.size, hb.block⟩; have k0q := (KK.out _ HB1.out).1; have k1q := (KK.out _ HB1.out).2.1; have k2q := (KK.out _ HB1.out).2.2; clear hb)
    | (go_at_call 223; refine (implSumPC_any A n ca x B m cb y C l cc z 0 ((n : Int) - 1) _ hca hn (HS.out.below HB1.out) hm (HS'.out.below HB1.out) hl (HS''.out.below HB1.out)).mono ?_; rintro e v2 ⟨r, rfl, hr, hb⟩; have HR := hide hr; have HB2 := hide (HB1.out.trans (hb.mono HB1.out.size)); clear hb hr))
  all_goals
    by_cases hsu : suP x n y m z l 0 ((n : Int) - 1)
    · have hr := HR.out
      rw [ifF_yes hsu, su_all x (by have := hsu.1.1; omega)] at hr
      have HQ := hide hr
      have HGT := hide (show (FloatKind.f32.format.order r 0 == some .gt) = gtB (fsum x n) 0 by unfold gtB; exact congrArg (· == some .gt) (od_same hr))
      have HAB := hide (show gtB (fsum x n) 0 = true ↔ ppP x n y m z l ∧ abB (fsum x n) = true from ⟨fun h => ⟨hsu.1, by unfold abB; rw [(su_iff.1 hsu).2, h]; rfl⟩, fun h => by have := h.2; unfold abB at this; rw [Bool.and_eq_true] at this; exact this.2⟩)
      rw [tru_yes hsu]
      clear hr HR
      go_wp2
      go_ret2
      refine ⟨_, _, rfl, ?_, fun _ => HQ.out, HBW.out.trans (HB2.out.mono HBW.out.size)⟩
      rw [HGT.out]
      exact HAB.out
    · have HAB := hide (show (false = true) ↔ ppP x n y m z l ∧ abB (fsum x n) = true from ⟨fun h => (by cases h), fun h => absurd (su_iff.2 ⟨h.1, ab_fin h.2⟩) hsu⟩)
      rw [tru_no hsu]
      go_wp2
      go_ret2
      exact ⟨_, _, rfl, HAB.out, fun h => (by cases h), HBW.out.trans (HB2.out.mono HBW.out.size)⟩
end Go.Proofs.Ytpbbedelapnnnaa
