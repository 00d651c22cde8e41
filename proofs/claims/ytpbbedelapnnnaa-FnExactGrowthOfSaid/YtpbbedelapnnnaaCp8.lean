/- Clones of lists of 32-bit numbers and of peoples; who stays; by the program. -/
import Derived.Test.YtpbbedelapnnnaaNp8
import Derived.Lib.SliceRun
import Derived.RegionTactic
import Derived.Deep.RegionHeld3
namespace Go.Proofs.Ytpbbedelapnnnaa
open Go.RowKit Go.Dues
set_option maxHeartbeats 1000000 in
theorem cloneF_any (A : Option Addr) (n c : Nat) (x : Nat → Nat) (w : World) (h1 : 1 ≤ n) (hn : n ≤ 1048576) (hs : SL w A n (fun j => .float .f32 (x j))) :
    Calls Try.prog 143 #[.slice A n c] w fun e w' => ∃ G d, e = .returned (.slice G n d) ∧ OW w' w.heap.size w'.heap.size G n (fun j => .float .f32 (x j)) ∧ Below w.heap.size w w' := by
  obtain ⟨i0, hi, hz0, hz1, hz2⟩ := info_parts Try.infoF
  obtain ⟨b, off, rfl, hb, hc⟩ := hs.at_ (by omega)
  have qT : ∀ (w : World) (a : Option Addr) (n c n' c' : Nat), (binOp .eql 22 (.slice a n c) (.slice none n' c')).run Try.prog w = .ok (.bool a.isNone) w := fun w a n c n' c' => Lib.run_eql_slice_nil w _ _ a n c n' c' Try.underlying22
  have HC := hide hc
  clear hs hc
  have hst : (w.alloc (.cells #[] 26)).ownsRow w.heap.size 26 1 (.slice (some ⟨w.heap.size, 0, none⟩) 0 0) 0 [] :=
    ⟨by simp, .inr ⟨w.heap.size, 0, #[], rfl, Nat.le_refl _, new_at w _, Nat.le_refl 0, by unfold maxLen; omega, rfl, rfl⟩⟩
  have HST := hide hst
  clear hst
  go_enter Try.func143, Try.ntmps143
  go_wp2_with (at_builtin; refine wpList_append_own _ rfl _ _ 22 rfl w.heap.size 26 i0 (.float .f32 0) 1 4 Try.underlying22 hi hz0 hz1 hz2 rfl (by decide) _ _ _ rfl HST.out ⟨b, off, none⟩ n c ((List.range n).map fun j => .float .f32 (x j)) rfl (by simp) ?c1 ?c2 ?c3 ?c4 ?c5 ?_)
  case c1 =>
    intro j u hj
    rw [List.getElem?_map] at hj
    have hjn : j < n := by
      rcases Nat.lt_or_ge j n with h | h
      · exact h
      · rw [List.getElem?_eq_none (by simpa using h)] at hj; cases hj
    rw [List.getElem?_range hjn] at hj
    simp at hj
    subst hj
    have ha : (⟨b, off, none⟩ : Addr).add j = ⟨b, off + j, none⟩ := by
      unfold Addr.add
      split
      · rename_i h; subst h; rfl
      · rfl
    rw [ha, World.cell?_alloc_lt w _ _ hb]
    exact HC.out j hjn
  case c2 => intro u hu; rw [List.mem_map] at hu; obtain ⟨j, _, rfl⟩ := hu; rfl
  case c3 => unfold maxLen; omega
  case c4 => omega
  case c5 => simp
  intro v' w1 hown' hgrow _
  obtain ⟨G, d, rfl⟩ := own_shape hown'
  have HON := hide hown'
  have HB := hide (((Below.refl w.heap.size w).alloc (Nat.le_refl _) (.cells #[] 26)).grown hgrow (by simp) (fun j hj => by simp [Value.ownBlock] at hj; omega))
  clear hown' hgrow
  go_wp2
  go_ret
  exact ⟨G, d, rfl, OW.of_owns HON.out (fun j hj => by rw [List.getElem?_map, List.getElem?_range hj]; rfl), HB.out⟩

set_option maxRecDepth 100000 in
set_option maxHeartbeats 4000000 in
theorem staying_any (A : Option Addr) (n c : Nat) (x : Nat → Nat) (B : Option Addr) (m d : Nat) (y : Nat → Nat) (C : Value) (k : Nat) (v : Int) (hv : v = (k : Int)) (w : World) (hn : n ≤ 12) (hm : m = n) (hk : k < n) (hs : SL w A n (fun j => .float .f32 (x j))) (hs' : SL w B m (fun j => .float .f32 (y j))) :
    Calls Try.prog 227 #[.agg #[.slice A n c, .slice B m d, C], .int .i64 v] w fun e w' => ∃ r, e = .returned (.float .f32 r) ∧ FR .f32 r (fop .mul .f32 (x k) (y k)) ∧ Below w.heap.size w w' := by
  subst hm
  subst hv
  obtain ⟨b1, o1, hAe, hb1, hc1⟩ := hs.at_ (by omega)
  obtain ⟨b2, o2, hBe, hb2, hc2⟩ := hs'.at_ (by omega)
  subst hAe hBe
  obtain ⟨W, hW⟩ : ∃ u, u = w.alloc (.cells #[.slice (some ⟨b1, o1, none⟩) m c, .slice (some ⟨b2, o2, none⟩) m d, C] 29) := ⟨_, rfl⟩
  have hbw : Below w.heap.size w W := by rw [hW]; exact (Below.refl w.heap.size w).alloc (Nat.le_refl _) _
  have hX : W.heap[w.heap.size]? = some (.cells #[.slice (some ⟨b1, o1, none⟩) m c, .slice (some ⟨b2, o2, none⟩) m d, C] 29) := by rw [hW]; exact blocks1 w _
  have d1 := (hbw.cell (p := ⟨b1, o1 + k, none⟩) hb1).trans (hc1 k hk)
  have d2 := (hbw.cell (p := ⟨b2, o2 + k, none⟩) hb2).trans (hc2 k hk)
  have k0 := Joins.cell_of_block hX 0
  have k1 := Joins.cell_of_block hX 1
  simp at k0 k1
  have HBW := hide hbw
  have HWW := hide hW
  have hki : (k : Int) < (m : Int) := by omega
  have hmul := fun (w : World) (t : TypeId) (x y : Nat) => run_far_eq (P := Try.prog) .mul (by decide) w t .f32 x y
  clear hs hs' hc1 hc2 hbw hX hW hb1 hb2
  go_enter Try.func227, Try.ntmps227
  go_wp2_with fail
  rw [← HWW.out]
  clear HWW
  go_region
  all_goals
    go_wp2
    go_ret
    exact ⟨_, rfl, fv_same _ _ _ _ _, by first | exact bel_q HBW.out _ | exact HBW.out⟩
set_option maxRecDepth 100000 in
set_option maxHeartbeats 8000000 in
theorem implClonePpl_any (A : Option Addr) (n c : Nat) (x : Nat → Nat) (B : Option Addr) (m d : Nat) (y : Nat → Nat) (C : Option Addr) (l f : Nat) (z : Nat → Nat) (w : World) (n1 : 1 ≤ n) (hn : n ≤ 1048576) (hs : SL w A n (fun j => .float .f32 (x j))) (m1 : 1 ≤ m) (hm : m ≤ 1048576) (hs' : SL w B m (fun j => .float .f32 (y j))) (l1 : 1 ≤ l) (hl : l ≤ 1048576) (hs'' : SL w C l (fun j => .float .f32 (z j))) :
    Calls Try.prog 226 #[.agg #[.slice A n c, .slice B m d, .slice C l f]] w fun e w' => ∃ G1 d1 G2 d2 G3 d3, ∃ e1 e2 e3 : Nat, e = .returned (.agg #[.slice G1 n d1, .slice G2 m d2, .slice G3 l d3]) ∧ OW w' w.heap.size e1 G1 n (fun j => .float .f32 (x j)) ∧ OW w' e1 e2 G2 m (fun j => .float .f32 (y j)) ∧ OW w' e2 e3 G3 l (fun j => .float .f32 (z j)) ∧ w.heap.size ≤ e1 ∧ e1 ≤ e2 ∧ e2 ≤ e3 ∧ e3 ≤ w'.heap.size ∧ Below w.heap.size w w' := by
  obtain ⟨W1, hW1⟩ : ∃ u, u = w.alloc (.cells #[.slice A n c, .slice B m d, .slice C l f] 29) := ⟨_, rfl⟩
  obtain ⟨W, hW⟩ : ∃ u, u = W1.alloc (.cells #[.slice none 0 0, .slice none 0 0, .slice none 0 0] 29) := ⟨_, rfl⟩
  have z1 : W1.heap.size = w.heap.size + 1 := by rw [hW1]; simp
  have z2 : W.heap.size = w.heap.size + 2 := by rw [hW]; simp; omega
  have hB1 : Below w.heap.size w W1 := by rw [hW1]; exact (Below.refl _ _).alloc (Nat.le_refl _) _
  have hB2 : Below W1.heap.size W1 W := by rw [hW]; exact (Below.refl _ _).alloc (Nat.le_refl _) _
  have HBW : Hid (Below w.heap.size w W) := hB1.trans (hB2.mono (by omega))
  have HX : Hid (W.heap[w.heap.size]? = some (.cells #[.slice A n c, .slice B m d, .slice C l f] 29)) := by
    refine blk_below hB2 (by omega) ?_
    rw [hW1]; exact blocks1 w _
  have HR : Hid (W.heap[w.heap.size + 1]? = some (.cells #[.slice none 0 0, .slice none 0 0, .slice none 0 0] 29)) := by
    rw [← z1, hW]; exact blocks1 W1 _
  have HS := hide (hs.below HBW.out)
  have HS' := hide (hs'.below HBW.out)
  have HS'' := hide (hs''.below HBW.out)
  have HW1 := hide hW1
  have HWW := hide hW
  have hz : w.heap.size + 2 ≤ W.heap.size := by omega
  have k0 := Joins.cell_of_block HX.out 0
  have k1 := Joins.cell_of_block HX.out 1
  have k2 := Joins.cell_of_block HX.out 2
  simp at k0 k1 k2
  clear hs hs' hs'' hW1 hW z1 z2 hB1 hB2
  have TK1 := True.intro
  have TK2 := True.intro
  have TK3 := True.intro
  go_enter Try.func226, Try.ntmps226
  go_wp2_with fail
  rw [← HW1.out, ← HWW.out]
  clear HW1 HWW
  go_region_held3 (fun w' => w'.cell? ⟨w.heap.size, 0, none⟩ = some (.slice A n c) ∧ w'.cell? ⟨w.heap.size, 1, none⟩ = some (.slice B m d) ∧ w'.cell? ⟨w.heap.size, 2, none⟩ = some (.slice C l f)) ((first | exact ⟨k0, k1, k2⟩ | exact ⟨k0q, k1q, k2q⟩ | exact ⟨k0r, k1r, k2r⟩ | exact ⟨k0s, k1s, k2s⟩ | exact ⟨((((Below.refl (w.heap.size + 1) v3).setCell (by simp) _).setCell (by simp) _).setCell (by simp) _ |>.cell (p := ⟨w.heap.size, 0, none⟩) (by simp)).trans k0s, ((((Below.refl (w.heap.size + 1) v3).setCell (by simp) _).setCell (by simp) _).setCell (by simp) _ |>.cell (p := ⟨w.heap.size, 1, none⟩) (by simp)).trans k1s, ((((Below.refl (w.heap.size + 1) v3).setCell (by simp) _).setCell (by simp) _).setCell (by simp) _ |>.cell (p := ⟨w.heap.size, 2, none⟩) (by simp)).trans k2s⟩)) (first
    | (go_at_call 143; have tk1 := TK1; clear TK1; refine (cloneF_any A n c x _ n1 hn (by exact HS.out)).mono ?_; rintro e v1 ⟨G1, d1, rfl, ho, hb⟩; replace hb : Below W.heap.size W v1 := ⟨hb.os, hb.tape, hb.output, hb.size, hb.block⟩; have HO1 := hide ho; clear ho; have HB1 := hide (HBW.out.trans (hb.mono HBW.out.size)); have HR1 := hide (blk_below hb (by omega) HR.out); have HSb1 := hide (HS'.out.below hb); have HSc1 := hide (HS''.out.below hb); have HX1 := hide (blk_below hb (by omega) HX.out); have hz1 : W.heap.size ≤ v1.heap.size := hb.size; have k0q := Joins.cell_of_block HX1.out 0; have k1q := Joins.cell_of_block HX1.out 1; have k2q := Joins.cell_of_block HX1.out 2; simp at k0q k1q k2q; clear hb)
    | (go_at_call 143; have tk2 := TK2; clear TK2; refine (cloneF_any B m d y _ m1 hm (by exact HSb1.out)).mono ?_; rintro e v2 ⟨G2, d2, rfl, ho, hb⟩; replace hb : Below v1.heap.size v1 v2 := ⟨hb.os, hb.tape, hb.output, hb.size, hb.block⟩; have HO2 := hide ho; clear ho; have HB2 := hide (HB1.out.trans (hb.mono HB1.out.size)); have HR2 := hide (blk_below hb (by omega) HR1.out); have HSc2 := hide (HSc1.out.below hb); have HO1a := hide (HO1.out.below hb); have HX2 := hide (blk_below hb (by omega) HX1.out); have hz2 : v1.heap.size ≤ v2.heap.size := hb.size; have k0r := Joins.cell_of_block HX2.out 0; have k1r := Joins.cell_of_block HX2.out 1; have k2r := Joins.cell_of_block HX2.out 2; simp at k0r k1r k2r; clear hb)
    | (go_at_call 143; have tk3 := TK3; clear TK3; refine (cloneF_any C l f z _ l1 hl (by exact HSc2.out)).mono ?_; rintro e v3 ⟨G3, d3, rfl, ho, hb⟩; replace hb : Below v2.heap.size v2 v3 := ⟨hb.os, hb.tape, hb.output, hb.size, hb.block⟩; have HO3 := hide ho; clear ho; have HB3 := hide (HB2.out.trans (hb.mono HB2.out.size)); have HR3 := hide (blk_below hb (by omega) HR2.out); have HO1b := hide (HO1a.out.below hb); have HO2b := hide (HO2.out.below hb); have p0 := Joins.cell_of_block HR3.out 0; have p1 := Joins.cell_of_block HR3.out 1; have p2 := Joins.cell_of_block HR3.out 2; have q0 := Joins.unfrozen_of_block HR3.out 0; have q1 := Joins.unfrozen_of_block HR3.out 1; have q2 := Joins.unfrozen_of_block HR3.out 2; simp at p0 p1 p2 q0 q1 q2; have HX3 := hide (blk_below hb (by omega) HX2.out); have hz3 : v2.heap.size ≤ v3.heap.size := hb.size; have k0s := Joins.cell_of_block HX3.out 0; have k1s := Joins.cell_of_block HX3.out 1; have k2s := Joins.cell_of_block HX3.out 2; simp at k0s k1s k2s; clear hb))
  go_wp2
  have R := Joins.block_setCell (Joins.block_setCell (Joins.block_setCell HR3.out (i := 0) (.slice G1 n d1)) (i := 1) (.slice G2 m d2)) (i := 2) (.slice G3 l d3)
  have k3 := Joins.cell_of_block R 0
  have k4 := Joins.cell_of_block R 1
  have k5 := Joins.cell_of_block R 2
  simp at k3 k4 k5
  have O1 := HO1b.out
  have O2 := HO2b.out
  have O3 := HO3.out
  refine bodyPost_ret (v := .agg #[.slice G1 n d1, .slice G2 m d2, .slice G3 l d3]) (by simp [results, Try.results226, go_sem, k3, k4, k5]) rfl ⟨G1, d1, G2, d2, G3, d3, v1.heap.size, v2.heap.size, v3.heap.size, rfl, (((O1.setCell (.inl (by first | omega | (simp; done) | (simp; omega)))).setCell (.inl (by first | omega | (simp; done) | (simp; omega)))).setCell (.inl (by first | omega | (simp; done) | (simp; omega)))).wide HBW.out.size (Nat.le_refl _), ((O2.setCell (.inl (by first | omega | (simp; done) | (simp; omega)))).setCell (.inl (by first | omega | (simp; done) | (simp; omega)))).setCell (.inl (by first | omega | (simp; done) | (simp; omega))), ((O3.setCell (.inl (by first | omega | (simp; done) | (simp; omega)))).setCell (.inl (by first | omega | (simp; done) | (simp; omega)))).setCell (.inl (by first | omega | (simp; done) | (simp; omega))), ?_, ?_, ?_, ?_, ?_⟩
  · omega
  · omega
  · omega
  · simp
  · exact ((HB3.out.setCell (by simp) _).setCell (by simp) _).setCell (by simp) _
end Go.Proofs.Ytpbbedelapnnnaa
