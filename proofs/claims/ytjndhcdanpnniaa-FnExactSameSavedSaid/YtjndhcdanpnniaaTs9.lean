/- What is saved, copied by the laws' own helper. -/
import Derived.Test.YtjndhcdanpnniaaVv9
namespace Go.Proofs.Ytjndhcdanpnniaa
open Go.RowKit Go.Dues
set_option maxRecDepth 100000 in
set_option maxHeartbeats 4000000 in
theorem toSavedO_any (r : SV) (I J : Option Addr) (c e : Nat) (w : World) (hn : r.n ≤ 1048576) (hv : ∀ i, i < r.n → (r.V i).n ≤ 1048576) (hm : r.m ≤ 1048576) (hI : RS w I r.n r.V) (hJ : SL w J r.m (fun j => .int .i64 (r.x j))) :
    Calls Try.prog 26 #[.agg #[.string r.s, .slice I r.n c, .slice J r.m e]] w fun e w' => ∃ g g', e = .returned (.agg #[.string r.s, .slice (some ⟨g, 0, none⟩) r.n r.n, .slice (some ⟨g', 0, none⟩) r.m r.m]) ∧ RO w' w.heap.size w'.heap.size (some ⟨g, 0, none⟩) r.n r.V ∧ OW w' w.heap.size w'.heap.size (some ⟨g', 0, none⟩) r.m (fun j => .int .i64 (r.x j)) ∧ Below w.heap.size w w' := by
  obtain ⟨W, hW⟩ : ∃ u, u = ((w.alloc (.cells #[.string r.s, .slice I r.n c, .slice J r.m e] 35)).alloc (.cells #[.string ⟨#[]⟩, .slice none 0 0, .slice none 0 0] 40)).alloc (.cells #[.string r.s, .slice none 0 0, .slice none 0 0] 40) := ⟨_, rfl⟩
  have HBW := hide (show Below w.heap.size w W by rw [hW]; exact (((Below.refl _ _).alloc (Nat.le_refl _) _).alloc (by simp) _).alloc (by simp; omega) _)
  have zW : w.heap.size + 1 + 1 + 1 ≤ W.heap.size := by rw [hW]; simp
  have PP := hide (show _ ∧ _ ∧ _ by have := blocks3 w (.cells #[.string r.s, .slice I r.n c, .slice J r.m e] 35) (.cells #[.string ⟨#[]⟩, .slice none 0 0, .slice none 0 0] 40) (.cells #[.string r.s, .slice none 0 0, .slice none 0 0] 40); rw [← hW] at this; exact this)
  have HR := hide (toRuleS_any I r.n c r.V W hn hv (hI.below HBW.out))
  have HJJ := hide (fun w1 (h : Below w.heap.size w w1) => toIsW_any J r.m e r.x w1 hm (hJ.below h))
  have HWW := hide hW
  clear hI hJ hW hv
  go_enter Try.func26, Try.ntmps26
  go_wp2_with fail
  rw [← HWW.out]
  clear HWW
  refine HR.out.mono ?_
  rintro e' w1 ⟨g, rfl, hg0, hg1, hb, ho⟩
  have z1 := hb.size
  have B0 := hide (blk_below hb (show w.heap.size < W.heap.size by omega) PP.out.1)
  have B1 := hide (blk_below hb (show w.heap.size + 1 < W.heap.size by omega) PP.out.2.1)
  have B2 := hide (blk_below hb (show w.heap.size + 1 + 1 < W.heap.size by omega) PP.out.2.2)
  have HB1 := hide (HBW.out.trans (hb.mono (by omega)))
  have f1 := Joins.unfrozen_of_block B2.out 1
  have k1 := Joins.cell_of_block B2.out 1
  have b2 := Joins.cell_of_block B0.out 2
  simp at f1 k1 b2
  obtain ⟨w2, hw2⟩ : ∃ u, u = w1.setCell ⟨w.heap.size + 1 + 1, 1, none⟩ (.slice (some ⟨g, 0, none⟩) r.n r.n) := ⟨_, rfl⟩
  have z2 : w1.heap.size ≤ w2.heap.size := by rw [hw2]; simp [World.setCell]
  have HB2 := hide (show Below w.heap.size w w2 by rw [hw2]; exact HB1.out.setCell (by simp; omega) _)
  have k12 : ∀ q, q ≠ w.heap.size + 1 + 1 → w2.heap[q]? = w1.heap[q]? := fun q hq => by rw [hw2]; exact Below.heap_setCell w1 _ _ q hq
  have C0 := hide ((k12 _ (by omega)).trans B0.out)
  have C1 := hide ((k12 _ (by omega)).trans B1.out)
  have C2 : Hid (w2.heap[w.heap.size + 1 + 1]? = some (.cells #[.string r.s, .slice (some ⟨g, 0, none⟩) r.n r.n, .slice none 0 0] 40 (0, 0))) := by rw [hw2]; exact Joins.block_setCell (i := 1) B2.out _
  -- the rules lie above the three blocks
  have HO2 := hide (show RO w2 W.heap.size w1.heap.size (some ⟨g, 0, none⟩) r.n r.V by
    rcases ho with h0 | ⟨g', cs, t, P, e1, e2, e3, e4, e5, e6, e7⟩
    · exact .inl h0
    · refine .inr ⟨g', cs, t, P, e1, e2, e3, (k12 g' (by omega)).trans e4, e5, fun i hi => ?_, e7⟩
      rcases e6 i hi with h0 | ⟨q, cs', t', a1, a2, a3, a4, a5⟩
      · exact .inl h0
      · exact .inr ⟨q, cs', t', a1, a2, a3, (k12 q (by omega)).trans a4, a5⟩)
  have HJ2 := hide (HJJ.out w2 HB2.out)
  have HW2 := hide hw2
  clear hw2 hg0 hg1 ho k12 HR HJJ PP B0 B1 B2 hb
  have c2 := Joins.cell_of_block C0.out 2
  simp at c2
  go_wp2_with fail
  rw [← HW2.out]
  clear HW2 f1 k1 b2 c2
  refine HJ2.out.mono ?_
  rintro e' w3 ⟨g', rfl, hg0, hg1, hb, ho⟩
  have z3 := hb.size
  have D1 := hide (blk_below hb (show w.heap.size + 1 < w2.heap.size by omega) C1.out)
  have D2 := hide (blk_below hb (show w.heap.size + 1 + 1 < w2.heap.size by omega) C2.out)
  have HB3 := hide (HB2.out.trans (hb.mono HB2.out.size))
  have HO3 := hide (HO2.out.below hb)
  have HO4 := hide ho
  clear hb ho hg0 hg1 HO2 HJ2 C0 C1 C2
  have f2 := Joins.unfrozen_of_block D2.out 2
  have k0 := Joins.cell_of_block D2.out 0
  have k1 := Joins.cell_of_block D2.out 1
  have k2 := Joins.cell_of_block D2.out 2
  have l0 := Joins.cell_of_block D1.out 0
  have l1 := Joins.cell_of_block D1.out 1
  have l2 := Joins.cell_of_block D1.out 2
  have u0 := Joins.unfrozen_of_block D1.out 0
  have u1 := Joins.unfrozen_of_block D1.out 1
  have u2 := Joins.unfrozen_of_block D1.out 2
  simp at f2 k0 k1 k2 l0 l1 l2 u0 u1 u2
  go_wp2
  have ZZ := Joins.block_setCell (Joins.block_setCell (Joins.block_setCell (blk_set (p := ⟨w.heap.size + 1 + 1, 2, none⟩) (v := .slice (some ⟨g', 0, none⟩) r.m r.m) (by simp) D1.out) (i := 0) (.string r.s)) (i := 1) (.slice (some ⟨g, 0, none⟩) r.n r.n)) (i := 2) (.slice (some ⟨g', 0, none⟩) r.m r.m)
  have y0 := Joins.cell_of_block ZZ 0
  have y1 := Joins.cell_of_block ZZ 1
  have y2 := Joins.cell_of_block ZZ 2
  simp at y0 y1 y2
  refine bodyPost_ret (v := .agg #[.string r.s, .slice (some ⟨g, 0, none⟩) r.n r.n, .slice (some ⟨g', 0, none⟩) r.m r.m]) (by simp [results, Try.results26, go_sem, y0, y1, y2]) rfl ⟨g, g', rfl, ?_, ?_, ?_⟩
  · have s1 : ∀ {X : World} {p : Addr} {v : Value}, RO X W.heap.size w1.heap.size (some ⟨g, 0, none⟩) r.n r.V → p.block < W.heap.size → RO (X.setCell p v) W.heap.size w1.heap.size (some ⟨g, 0, none⟩) r.n r.V := by
      intro X p v h hp
      rcases h with h0 | ⟨g', cs, t, P, e1, e2, e3, e4, e5, e6, e7⟩
      · exact .inl h0
      · exact .inr ⟨g', cs, t, P, e1, e2, e3, (Below.heap_setCell X _ _ g' (by omega)).trans e4, e5, fun i hi => (e6 i hi).setCell (.inl hp), e7⟩
    exact (s1 (s1 (s1 (s1 HO3.out (by simp; omega)) (by simp; omega)) (by simp; omega)) (by simp; omega)).wide (by omega) (by simp [World.setCell]; omega)
  · exact ((((HO4.out.setCell (p := ⟨w.heap.size + 1 + 1, 2, none⟩) (.inl (by simp; omega))).setCell (p := ⟨w.heap.size + 1, 0, none⟩) (.inl (by simp; omega))).setCell (p := ⟨w.heap.size + 1, 1, none⟩) (.inl (by simp; omega))).setCell (p := ⟨w.heap.size + 1, 2, none⟩) (.inl (by simp; omega))).wide (by omega) (by simp [World.setCell])
  · exact (((HB3.out.setCell (by simp; omega) _).setCell (by simp) _).setCell (by simp) _).setCell (by simp) _
theorem toSaved_any (r : SV) (I J : Option Addr) (c e : Nat) (w : World) (hn : r.n ≤ 1048576) (hv : ∀ i, i < r.n → (r.V i).n ≤ 1048576) (hm : r.m ≤ 1048576) (hI : RS w I r.n r.V) (hJ : SL w J r.m (fun j => .int .i64 (r.x j))) :
    Calls Try.prog 26 #[.agg #[.string r.s, .slice I r.n c, .slice J r.m e]] w fun e w' => ∃ g g', e = .returned (.agg #[.string r.s, .slice (some ⟨g, 0, none⟩) r.n r.n, .slice (some ⟨g', 0, none⟩) r.m r.m]) ∧ RS w' (some ⟨g, 0, none⟩) r.n r.V ∧ SL w' (some ⟨g', 0, none⟩) r.m (fun j => .int .i64 (r.x j)) ∧ Below w.heap.size w w' :=
  (toSavedO_any r I J c e w hn hv hm hI hJ).mono fun _ _ ⟨g, g', h1, h2, h3, h4⟩ => ⟨g, g', h1, h2.rs, h3.sl, h4⟩
end Go.Proofs.Ytjndhcdanpnniaa
