/- A valid scale out of bytes. -/
import Derived.Test.YtjebkagbknmdoaaSo8
import Derived.Test.YtjebkagbknmdoaaG1
import Derived.Test.YtjebkagbknmdoaaTwo
import Derived.Test.YtjebkagbknmdoaaVs
import Derived.Maps.AppendAt
namespace Go.Proofs.Ytjebkagbknmdoaa
open Go.RowKit Go.Dues
theorem grown_set8 (W : World) (p : Addr) (v : Value) : W.grownBy (W.setCell p v) (some p.block) :=
  ⟨rfl, rfl, rfl, by simp [World.setCell], fun k _ hk => Below.heap_setCell W p v k (fun e => hk (by rw [e]))⟩
theorem own_within {w w' : World} {B size n lo hi : Nat} {e : TypeId} {v : Value} {xs : List Value} (h : w.ownsRow B e size v n xs) (hw : Within lo hi w w') (hB : hi ≤ B) : w'.ownsRow B e size v n xs := by
  refine ⟨h.1, ?_⟩
  rcases h.2 with h0 | ⟨g, cap, cur, h1, h2, h3, h4⟩
  · exact .inl h0
  · exact .inr ⟨g, cap, cur, h1, h2, (hw.block g (.inr (by omega))).trans h3, h4⟩
/-- what has been drawn of a scale in k rounds: breaks, rates, the next break -/
def drI (z z' : Nat → Int) (k : Nat) (a : Int) : Prop := (∀ j, j < k → 0 ≤ z j ∧ z j < a) ∧ (∀ j, j + 1 < k → z j < z (j + 1)) ∧ (0 < k → z 0 = 0) ∧ (k = 0 → a = 0) ∧ (0 ≤ a ∧ a ≤ 4001 * k) ∧ ∀ j, j < k → 0 ≤ z' j ∧ z' j ≤ 10000
def upz (z : Nat → Int) (k : Nat) (v : Int) : Nat → Int := fun j => if j = k then v else z j
theorem upz_at (z : Nat → Int) (k : Nat) (v : Int) : upz z k v k = v := if_pos rfl
theorem upz_ne {z : Nat → Int} {k : Nat} {v : Int} {j : Nat} (h : j < k) : upz z k v j = z j := if_neg (by omega)
theorem drI_step {z z' : Nat → Int} {k : Nat} {a r p : Int} (h : drI z z' k a) (hr : 0 ≤ r ∧ r ≤ 10000) (hp : 0 ≤ p ∧ p < 40) : drI (upz z k a) (upz z' k r) (k + 1) (a + (1 + 100 * p)) := by
  obtain ⟨h1, h2, h3, h4, h5, h6⟩ := h
  refine ⟨fun j hj => ?_, fun j hj => ?_, fun _ => ?_, fun h => absurd h (by omega), ⟨by omega, by push_cast; omega⟩, fun j hj => ?_⟩
  · by_cases e : j = k
    · subst e; rw [upz_at]; omega
    · rw [upz_ne (by omega)]; have := h1 j (by omega); omega
  · rw [upz_ne (show j < k by omega)]
    by_cases e : j + 1 = k
    · subst e; rw [upz_at]; exact (h1 j (by omega)).2
    · rw [upz_ne (by omega)]; exact h2 j (by omega)
  · by_cases e : k = 0
    · subst e; rw [upz_at]; exact h4 rfl
    · rw [upz_ne (by omega)]; exact h3 (by omega)
  · by_cases e : j = k
    · subst e; rw [upz_at]; exact hr
    · rw [upz_ne (by omega)]; exact h6 j (by omega)
theorem drI_val {z z' : Nat → Int} {k : Nat} {a : Int} (h : drI z z' k a) (h1 : 1 ≤ k) (h8 : k ≤ 4) : Val z z' k k :=
  val_of h1 (by omega) (h.2.2.1 (by omega)) fun j hj => ⟨⟨(h.1 j hj).1, by have := (h.1 j hj).2; have := h.2.2.2.2.1.2; omega⟩, (fun i hi => by subst hi; exact h.2.1 i hj), h.2.2.2.2.2 j hj⟩
theorem rcast {r : Nat} (h : ¬ r = 0) : Value.int .i64 ((r : Int) - 1) = .int .i64 ((r - 1 : Nat) : Int) := by rw [show ((r : Int) - 1) = ((r - 1 : Nat) : Int) by omega]
/-- a scale that a call made, valid, of at most 4 breaks that are at most 16004 -/
def MadeS (w w' : World) (e : Ending) (lo : Nat) : Prop := ∃ G d G' d' K, ∃ z z' : Nat → Int, e = .returned (.agg #[.slice G K d, .slice G' K d']) ∧ Val z z' K K ∧ (1 ≤ K ∧ K ≤ 4) ∧ (∀ j, j < K → z j ≤ 16004) ∧ OW w' lo w'.heap.size G K (fun j => .int .i64 (z j)) ∧ OW w' lo w'.heap.size G' K (fun j => .int .i64 (z' j)) ∧ (G ≠ G')
set_option maxRecDepth 100000 in
set_option maxHeartbeats 16000000 in
theorem drawOk_any (b : Nat) (A : Option Addr) (n c : Nat) (x : Nat → Int) (w : World) (hn : n ≤ maxLen) (hs : SL w A n (fun j => .int .u8 (x j))) (hx : ∀ j, j < n → 0 ≤ x j ∧ x j ≤ 255) (hne : ∀ b' off, A = some ⟨b', off, none⟩ → n ≠ 0 → b' < b) (hsrc : SrcAt w b A n c 0) :
    Calls Try.prog 78 #[.pointer (some ⟨b, 0, none⟩)] w fun e w' => MadeS w w' e w.heap.size ∧ Marked b (b + 1) w w' := by
  obtain ⟨i0, hi, iz0, iz1, iz2⟩ := info_parts Try.info64
  have HX := hide hx
  have HNE := hide hne
  have hbl := hsrc.lt
  obtain ⟨W, hW⟩ : ∃ u, u = (w.alloc (.cells #[.slice none 0 0, .slice none 0 0] 39)).alloc (.cells #[.slice none 0 0, .slice none 0 0] 39) := ⟨_, rfl⟩
  have HBW : Hid (Below w.heap.size w W) := by rw [hW]; exact ((Below.refl w.heap.size w).alloc (Nat.le_refl _) _).alloc (by simp) _
  have HR : Hid (W.heap[w.heap.size]? = some (.cells #[.slice none 0 0, .slice none 0 0] 39 (0, 0))) := by rw [hW]; exact (blocks2 w _ _).1
  have HT : Hid (W.heap[w.heap.size + 1]? = some (.cells #[.slice none 0 0, .slice none 0 0] 39 (0, 0))) := by rw [hW]; exact (blocks2 w _ _).2
  have hzW : w.heap.size + 2 ≤ W.heap.size := by rw [hW]; simp
  have HS := hide (hs.below HBW.out)
  have HSR := hide (hsrc.keep (HBW.out.block b hbl))
  have MW := hide (show Marked b (b + 1) w W from ⟨HBW.out.os, HBW.out.tape, HBW.out.output, HBW.out.size, fun q hq _ => HBW.out.block q hq⟩)
  have HWW := hide hW
  clear hs hx hne hsrc hW
  go_enter Try.func78, Try.ntmps78
  go_wp2_with fail
  rw [← HWW.out]
  clear HWW
  refine (pick_any b A n c x 0 4 W hn HS.out HX.out HNE.out (by omega) (by omega) (by omega) HSR.out).mono ?_
  rintro e w1 ⟨N0, rfl, N00, N01, hsr, hw⟩
  have hz1 : W.heap.size ≤ w1.heap.size := by rw [hw.size]; exact Nat.le_refl _
  have HS1 := hide (src_sl HS.out HNE.out hw)
  have HR1 := hide ((hw.block _ (.inr (by omega))).trans HR.out)
  have HT1 := hide ((hw.block _ (.inr (by omega))).trans HT.out)
  have HSR1 := hide hsr
  have MW1 := hide (show Marked b (b + 1) w w1 from ⟨hw.os.trans MW.out.os, hw.tape.trans MW.out.tape, hw.output.trans MW.out.output, by have := MW.out.size; omega, fun q hq hd => (hw.block q hd).trans (MW.out.block q hq hd)⟩)
  clear hsr hw HS HR HT HSR MW HBW
  obtain ⟨N, hN⟩ : ∃ q : Nat, 1 + N0 = (q : Int) := ⟨(1 + N0).toNat, by omega⟩
  have hN1 : 1 ≤ N := by omega
  have hN4 : N ≤ 4 := by omega
  have HN := hide hN
  clear hN
  go_wp2
  rw [HN.out]
  go_loopw [4, 5, 6] (fun av rv _ wr => ∃ (k r : Nat) (a : Int) (z z' : Nat → Int) (xs ys : List Value) (GA GB : Option Addr) (dA dB : Nat), k + r = N ∧ av = .int .i64 a ∧ rv = .int .i64 (r : Int) ∧ Hid (drI z z' k a) ∧
        Hid (wr.heap[w.heap.size + 1]? = some (.cells #[.slice GA k dA, .slice GB k dB] 39 (0, 0))) ∧ Hid (wr.heap[w.heap.size]? = some (.cells #[.slice none 0 0, .slice none 0 0] 39 (0, 0))) ∧
        Hid (wr.ownsRow (w.heap.size + 2) 2 1 (.slice GA k dA) k xs) ∧ Hid (wr.ownsRow (w.heap.size + 2) 2 1 (.slice GB k dB) k ys) ∧ Hid (Apart (Value.slice GA k dA).ownBlock (Value.slice GB k dB).ownBlock) ∧
        Hid (∀ j, j < k → xs[j]? = some (.int .i64 (z j))) ∧ Hid (∀ j, j < k → ys[j]? = some (.int .i64 (z' j))) ∧ Hid (SrcAt wr b A n c (8 * k + 2)) ∧ Hid (SL wr A n (fun j => .int .u8 (x j))) ∧ Hid (Marked b (b + 1) w wr) ∧ w.heap.size + 2 ≤ wr.heap.size) (fun _ rv _ _ => (intOf rv).toNat)
  case atStart => exact ⟨0, N, 0, fun _ => 0, fun _ => 0, [], [], none, none, 0, 0, by omega, rfl, rfl, ⟨fun j hj => absurd hj (by omega), fun j hj => absurd hj (by omega), fun h => absurd h (by omega), fun _ => rfl, ⟨by omega, by omega⟩, fun j hj => absurd hj (by omega)⟩, HT1.out, HR1.out, World.ownsRow_nil _ _ _ _, World.ownsRow_nil _ _ _ _, .inl rfl, fun j hj => absurd hj (by omega), fun j hj => absurd hj (by omega), HSR1.out, HS1.out, MW1.out, by omega⟩
  case round =>
    obtain ⟨k, r, a, z, z', xs, ys, GA, GB, dA, dB, hkr, rfl, rfl, hdr, hT, hR, hA, hB, hap, hxs, hys, hsr, hsl, hM, hsz⟩ := hrel
    by_cases hr0 : r = 0
    rotate_left
    · have hrp : (0 : Int) < (r : Int) := by omega
      have ha0 := hdr.out.2.2.2.2.1.1
      have ha1 := hdr.out.2.2.2.2.1.2
      have g0 := Joins.cell_of_block hT.out 0
      have g1 := Joins.cell_of_block hT.out 1
      simp at g0 g1
      have hA0 := hA.out
      have hn63 : k + 1 ≤ maxLen := by unfold maxLen; omega
      have hby : (k + 1) * 8 ≤ 140737488355328 := by omega
      go_wp2_with (at_builtin; refine wpList_append_own_at _ rfl _ _ 37 rfl (w.heap.size + 2) 2 i0 (.int .i64 0) 1 8 Try.underlying37 hi iz0 iz1 iz2 rfl (by decide) _ _ _ rfl (by exact (hA0.alloc _)) ⟨_, 0, none⟩ 1 1 [.int .i64 a] rfl rfl (cell_one_new _ _ _) (by intro u hu; simp at hu; subst hu; rfl) (by unfold maxLen; omega) (by omega) (by simp; omega) ?_)
      intro v' w2 hown2 hgrow2 _ hat2
      obtain ⟨g2, c2, rfl⟩ := Joins.ownsRow_form hown2 (by omega)
      have hbA : ∀ g, (Value.slice GA k dA).ownBlock = some g → w.heap.size + 2 ≤ g := fun g hg => (hA.out.lt g hg).1
      have hbB : ∀ g, (Value.slice GB k dB).ownBlock = some g → w.heap.size + 2 ≤ g ∧ g < wr.heap.size := fun g hg => hB.out.lt g hg
      have keep2 : ∀ q, q < w.heap.size + 2 → w2.heap[q]? = wr.heap[q]? := fun q hq => (hgrow2.block q (by simp; omega) (fun e => by have := hbA q e.symm; omega)).trans (Below.heap_alloc wr _ q (by omega))
      have ht2 : w2.heap[w.heap.size + 1]? = some (.cells #[.slice GA k dA, .slice GB k dB] 39 (0, 0)) := (keep2 _ (by omega)).trans hT.out
      have hB2 := World.ownsRow.kept (hB.out.alloc (w := wr) (.cells #[.int .i64 a] 2)) hgrow2 hap.out.symm.ne
      have hap2 := (hap.out.step (s := wr.heap.size + 1) (fun k' hk' => by have := (hbB k' hk').2; omega) (A' := (Value.slice (some ⟨g2, 0, none⟩) (k + 1) c2).ownBlock) (by simpa using hat2))
      have c20 := Joins.cell_of_block ht2 0
      have f20 := Joins.unfrozen_of_block ht2 0
      simp at c20 f20
      obtain ⟨w3, hw3⟩ : ∃ u, u = w2.setCell ⟨w.heap.size + 1, 0, none⟩ (.slice (some ⟨g2, 0, none⟩) (k + 1) c2) := ⟨_, rfl⟩
      have hz3 : w2.heap.size ≤ w3.heap.size := by rw [hw3]; simp [World.setCell]
      have hz2' : wr.heap.size + 1 ≤ w2.heap.size := by have := hgrow2.size; simp at this; omega
      have HT3 : Hid (w3.heap[w.heap.size + 1]? = some (.cells #[.slice (some ⟨g2, 0, none⟩) (k + 1) c2, .slice GB k dB] 39 (0, 0))) := by rw [hw3]; exact Joins.block_setCell (i := 0) ht2 _
      have keep3 : ∀ q, q < w.heap.size + 1 → w3.heap[q]? = wr.heap[q]? := fun q hq => by rw [hw3]; exact (Below.heap_setCell w2 _ _ q (by simp; omega)).trans (keep2 q (by omega))
      have HA3 : Hid (w3.ownsRow (w.heap.size + 2) 2 1 (.slice (some ⟨g2, 0, none⟩) (k + 1) c2) (k + 1) (xs ++ [.int .i64 a])) := by rw [hw3]; exact hown2.kept (grown_set8 w2 ⟨w.heap.size + 1, 0, none⟩ (.slice (some ⟨g2, 0, none⟩) (k + 1) c2)) (.inr (by have := (hown2.lt g2 rfl).1; simp [Value.ownBlock]; omega))
      have HB3 : Hid (w3.ownsRow (w.heap.size + 2) 2 1 (.slice GB k dB) k ys) := by
        rw [hw3]
        refine hB2.kept (grown_set8 w2 ⟨w.heap.size + 1, 0, none⟩ (.slice (some ⟨g2, 0, none⟩) (k + 1) c2)) ?_
        cases GB with
        | none => exact .inl rfl
        | some q => exact .inr (by have := (hB2.lt q.block rfl).1; simp [Value.ownBlock]; omega)
      have HAP3 := hide hap2
      have HR3 := hide ((keep3 _ (by omega)).trans hR.out)
      have HSR3 := hide (hsr.out.keep (keep3 b (by omega)))
      have HS3 : Hid (SL w3 A n (fun j => .int .u8 (x j))) := hide (hsl.out.belowN (B := b) HNE.out ⟨by rw [hw3]; exact hgrow2.os, by rw [hw3]; exact hgrow2.tape, by rw [hw3]; exact hgrow2.output, by omega, fun q hq => keep3 q (by omega)⟩)
      have M3 := hide (show Marked b (b + 1) w w3 from ⟨(show w3.os = wr.os by rw [hw3]; exact hgrow2.os).trans hM.out.os, (show w3.tape = wr.tape by rw [hw3]; exact hgrow2.tape).trans hM.out.tape, (show w3.output = wr.output by rw [hw3]; exact hgrow2.output).trans hM.out.output, by omega, fun q hq hd => (keep3 q (by omega)).trans (hM.out.block q hq hd)⟩)
      have HLX := hide (show xs.length = k by have := hA.out.1; omega)
      have HLY := hide (show ys.length = k by have := hB.out.1; omega)
      have hsz3 : w.heap.size + 2 ≤ w3.heap.size := by omega
      clear hA0 hown2 hgrow2 hat2 hbA hbB keep2 keep3 ht2 hB2 hap2 hT hR hA hB hap hsr hsl hM g0 g1
      go_wp2_with fail
      rw [← hw3]
      clear hw3 c20 f20
      refine (pick_any b A n c x (8 * k + 2) 60 w3 hn HS3.out HX.out HNE.out (by omega) (by omega) (by omega) HSR3.out).mono ?_
      rintro e w4 ⟨v60, rfl, v600, v601, hsr, hw⟩
      have hz4 : w3.heap.size ≤ w4.heap.size := by rw [hw.size]; exact Nat.le_refl _
      have HS4 := hide (src_sl HS3.out HNE.out hw)
      have HR4 := hide ((hw.block _ (.inr (by omega))).trans HR3.out)
      have HT4 := hide ((hw.block _ (.inr (by omega))).trans HT3.out)
      have HA4 := hide (own_within HA3.out hw (by omega))
      have HB4 := hide (own_within HB3.out hw (by omega))
      have HSR4 := hide hsr
      have M4 := hide (show Marked b (b + 1) w w4 from ⟨hw.os.trans M3.out.os, hw.tape.trans M3.out.tape, hw.output.trans M3.out.output, by have := M3.out.size; omega, fun q hq hd => (hw.block q hd).trans (M3.out.block q hq hd)⟩)
      clear hsr hw HS3 HR3 HT3 HA3 HB3 HSR3 M3
      go_wp2_with fail
      refine (one_any b A n c x (8 * k + 4) 3 w4 hn HS4.out HX.out HNE.out (by omega) (by omega) (by omega) HSR4.out).mono ?_
      rintro e w5 ⟨t3, rfl, hsr, hw⟩
      have hz5 : w4.heap.size ≤ w5.heap.size := by rw [hw.size]; exact Nat.le_refl _
      have HS5 := hide (src_sl HS4.out HNE.out hw)
      have HR5 := hide ((hw.block _ (.inr (by omega))).trans HR4.out)
      have HT5 := hide ((hw.block _ (.inr (by omega))).trans HT4.out)
      have HA5 := hide (own_within HA4.out hw (by omega))
      have HB5 := hide (own_within HB4.out hw (by omega))
      have HSR5 := hide hsr
      have M5 := hide (show Marked b (b + 1) w w5 from ⟨hw.os.trans M4.out.os, hw.tape.trans M4.out.tape, hw.output.trans M4.out.output, by have := M4.out.size; omega, fun q hq hd => (hw.block q hd).trans (M4.out.block q hq hd)⟩)
      clear hsr hw HS4 HR4 HT4 HA4 HB4 HSR4 M4
      obtain ⟨rt, hrt0, hrt1, hrt⟩ : ∃ rt : Int, 0 ≤ rt ∧ rt ≤ 10000 ∧ True := ⟨0, by omega, by omega, trivial⟩
      clear hrt0 hrt1 hrt rt
      cases t3
      · skip
        have g0 := Joins.cell_of_block HT5.out 0
        have g1 := Joins.cell_of_block HT5.out 1
        simp at g0 g1
        have hB0 := HB5.out
        have hszk : w.heap.size + 2 ≤ w5.heap.size := by omega
        go_wp2_with (at_builtin; refine wpList_append_own_at _ rfl _ _ 37 rfl (w.heap.size + 2) 2 i0 (.int .i64 0) 1 8 Try.underlying37 hi iz0 iz1 iz2 rfl (by decide) _ _ _ rfl (by exact (hB0.alloc _)) ⟨_, 0, none⟩ 1 1 [.int .i64 (100 * v60)] rfl rfl (cell_one_new _ _ _) (by intro u hu; simp at hu; subst hu; rfl) (by unfold maxLen; omega) (by omega) (by simp; omega) ?_)
        intro v' w7 hown7 hgrow7 _ hat7
        obtain ⟨g7, c7, rfl⟩ := Joins.ownsRow_form hown7 (by omega)
        have hbA : ∀ g, (Value.slice (some ⟨g2, 0, none⟩) (k + 1) c2).ownBlock = some g → w.heap.size + 2 ≤ g ∧ g < w5.heap.size := fun g hg => HA5.out.lt g hg
        have hbB : ∀ g, (Value.slice GB k dB).ownBlock = some g → w.heap.size + 2 ≤ g := fun g hg => (HB5.out.lt g hg).1
        have keep7 : ∀ q, q < w.heap.size + 2 → w7.heap[q]? = w5.heap[q]? := fun q hq => (hgrow7.block q (by simp; omega) (fun e => by have := hbB q e.symm; omega)).trans (Below.heap_alloc w5 _ q (by omega))
        have ht7 : w7.heap[w.heap.size + 1]? = some (.cells #[.slice (some ⟨g2, 0, none⟩) (k + 1) c2, .slice GB k dB] 39 (0, 0)) := (keep7 _ (by omega)).trans HT5.out
        have hA7 := World.ownsRow.kept (HA5.out.alloc (w := w5) (.cells #[.int .i64 (100 * v60)] 2)) hgrow7 HAP3.out.ne
        have hap7 := (HAP3.out.symm.step (s := w5.heap.size + 1) (fun k' hk' => by have := (hbA k' hk').2; omega) (A' := (Value.slice (some ⟨g7, 0, none⟩) (k + 1) c7).ownBlock) (by simpa using hat7)).symm
        have c71 := Joins.cell_of_block ht7 1
        have f71 := Joins.unfrozen_of_block ht7 1
        simp at c71 f71
        obtain ⟨w8, hw8⟩ : ∃ u, u = w7.setCell ⟨w.heap.size + 1, 1, none⟩ (.slice (some ⟨g7, 0, none⟩) (k + 1) c7) := ⟨_, rfl⟩
        have hz8 : w7.heap.size ≤ w8.heap.size := by rw [hw8]; simp [World.setCell]
        have hz7' : w5.heap.size + 1 ≤ w7.heap.size := by have := hgrow7.size; simp at this; omega
        have HT8 : Hid (w8.heap[w.heap.size + 1]? = some (.cells #[.slice (some ⟨g2, 0, none⟩) (k + 1) c2, .slice (some ⟨g7, 0, none⟩) (k + 1) c7] 39 (0, 0))) := by rw [hw8]; exact Joins.block_setCell (i := 1) ht7 _
        have keep8 : ∀ q, q < w.heap.size + 1 → w8.heap[q]? = w5.heap[q]? := fun q hq => by rw [hw8]; exact (Below.heap_setCell w7 _ _ q (by simp; omega)).trans (keep7 q (by omega))
        have HA8 : Hid (w8.ownsRow (w.heap.size + 2) 2 1 (.slice (some ⟨g2, 0, none⟩) (k + 1) c2) (k + 1) (xs ++ [.int .i64 a])) := by rw [hw8]; exact hA7.kept (grown_set8 w7 ⟨w.heap.size + 1, 1, none⟩ (.slice (some ⟨g7, 0, none⟩) (k + 1) c7)) (.inr (by have := (hA7.lt g2 rfl).1; simp [Value.ownBlock]; omega))
        have HB8 : Hid (w8.ownsRow (w.heap.size + 2) 2 1 (.slice (some ⟨g7, 0, none⟩) (k + 1) c7) (k + 1) (ys ++ [.int .i64 (100 * v60)])) := by rw [hw8]; exact hown7.kept (grown_set8 w7 ⟨w.heap.size + 1, 1, none⟩ (.slice (some ⟨g7, 0, none⟩) (k + 1) c7)) (.inr (by have := (hown7.lt g7 rfl).1; simp [Value.ownBlock]; omega))
        have HAP8 := hide hap7
        have HR8 := hide ((keep8 _ (by omega)).trans HR5.out)
        have HSR8 := hide (HSR5.out.keep (keep8 b (by omega)))
        have HS8 : Hid (SL w8 A n (fun j => .int .u8 (x j))) := hide (HS5.out.belowN (B := b) HNE.out ⟨by rw [hw8]; exact hgrow7.os, by rw [hw8]; exact hgrow7.tape, by rw [hw8]; exact hgrow7.output, by omega, fun q hq => keep8 q (by omega)⟩)
        have M8 := hide (show Marked b (b + 1) w w8 from ⟨(show w8.os = w5.os by rw [hw8]; exact hgrow7.os).trans M5.out.os, (show w8.tape = w5.tape by rw [hw8]; exact hgrow7.tape).trans M5.out.tape, (show w8.output = w5.output by rw [hw8]; exact hgrow7.output).trans M5.out.output, by omega, fun q hq hd => (keep8 q (by omega)).trans (M5.out.block q hq hd)⟩)
        have hsz8 : w.heap.size + 2 ≤ w8.heap.size := by omega
        clear hB0 hown7 hgrow7 hat7 hbA hbB keep7 keep8 ht7 hA7 hap7 g0 g1 HS5 HR5 HT5 HA5 HB5 HSR5 M5 HAP3
        go_wp2_with fail
        rw [← hw8]
        clear hw8 c71 f71
        refine (pick_any b A n c x (8 * k + 8) 40 w8 hn HS8.out HX.out HNE.out (by omega) (by omega) (by omega) (HSR8.out.up (by omega))).mono ?_
        rintro e w9 ⟨v40, rfl, v400, v401, hsr, hw⟩
        have hz9 : w8.heap.size ≤ w9.heap.size := by rw [hw.size]; exact Nat.le_refl _
        have HS9 := hide (src_sl HS8.out HNE.out hw)
        have HR9 := hide ((hw.block _ (.inr (by omega))).trans HR8.out)
        have HT9 := hide ((hw.block _ (.inr (by omega))).trans HT8.out)
        have HA9 := hide (own_within HA8.out hw (by omega))
        have HB9 := hide (own_within HB8.out hw (by omega))
        have HSR9 := hide hsr
        have M9 := hide (show Marked b (b + 1) w w9 from ⟨hw.os.trans M8.out.os, hw.tape.trans M8.out.tape, hw.output.trans M8.out.output, by have := M8.out.size; omega, fun q hq hd => (hw.block q hd).trans (M8.out.block q hq hd)⟩)
        have HDR := hide (drI_step hdr.out (r := 100 * v60) (p := v40) ⟨by omega, by omega⟩ ⟨v400, v401⟩)
        clear hsr hw HS8 HR8 HT8 HA8 HB8 HSR8 M8
        go_wp2
        go_roundw
        case rel => exact ⟨k + 1, r - 1, _, _, _, _, _, some ⟨g2, 0, none⟩, some ⟨g7, 0, none⟩, c2, c7, by omega, rfl, rcast hr0, HDR.out, HT9.out, HR9.out, HA9.out, HB9.out, HAP8.out, own_step HLX.out (fun j hj => by rw [hxs.out j hj, upz_ne hj]) (by rw [upz_at]), own_step HLY.out (fun j hj => by rw [hys.out j hj, upz_ne hj]) (by rw [upz_at]), HSR9.out.up (by omega), HS9.out, M9.out, by omega⟩
        case measure => simp [intOf]; omega
      · go_wp2_with fail
        refine (pick_any b A n c x (8 * k + 6) 10001 w5 hn HS5.out HX.out HNE.out (by omega) (by omega) (by omega) HSR5.out).mono ?_
        rintro e w6 ⟨v1, rfl, v10, v11, hsr, hw⟩
        have hz6 : w5.heap.size ≤ w6.heap.size := by rw [hw.size]; exact Nat.le_refl _
        have HS6 := hide (src_sl HS5.out HNE.out hw)
        have HR6 := hide ((hw.block _ (.inr (by omega))).trans HR5.out)
        have HT6 := hide ((hw.block _ (.inr (by omega))).trans HT5.out)
        have HA6 := hide (own_within HA5.out hw (by omega))
        have HB6 := hide (own_within HB5.out hw (by omega))
        have HSR6 := hide hsr
        have M6 := hide (show Marked b (b + 1) w w6 from ⟨hw.os.trans M5.out.os, hw.tape.trans M5.out.tape, hw.output.trans M5.out.output, by have := M5.out.size; omega, fun q hq hd => (hw.block q hd).trans (M5.out.block q hq hd)⟩)
        clear hsr hw HS5 HR5 HT5 HA5 HB5 HSR5 M5
        have g0 := Joins.cell_of_block HT6.out 0
        have g1 := Joins.cell_of_block HT6.out 1
        simp at g0 g1
        have hB0 := HB6.out
        have hszk : w.heap.size + 2 ≤ w6.heap.size := by omega
        go_wp2_with (at_builtin; refine wpList_append_own_at _ rfl _ _ 37 rfl (w.heap.size + 2) 2 i0 (.int .i64 0) 1 8 Try.underlying37 hi iz0 iz1 iz2 rfl (by decide) _ _ _ rfl (by exact (hB0.alloc _)) ⟨_, 0, none⟩ 1 1 [.int .i64 (v1)] rfl rfl (cell_one_new _ _ _) (by intro u hu; simp at hu; subst hu; rfl) (by unfold maxLen; omega) (by omega) (by simp; omega) ?_)
        intro v' w7 hown7 hgrow7 _ hat7
        obtain ⟨g7, c7, rfl⟩ := Joins.ownsRow_form hown7 (by omega)
        have hbA : ∀ g, (Value.slice (some ⟨g2, 0, none⟩) (k + 1) c2).ownBlock = some g → w.heap.size + 2 ≤ g ∧ g < w6.heap.size := fun g hg => HA6.out.lt g hg
        have hbB : ∀ g, (Value.slice GB k dB).ownBlock = some g → w.heap.size + 2 ≤ g := fun g hg => (HB6.out.lt g hg).1
        have keep7 : ∀ q, q < w.heap.size + 2 → w7.heap[q]? = w6.heap[q]? := fun q hq => (hgrow7.block q (by simp; omega) (fun e => by have := hbB q e.symm; omega)).trans (Below.heap_alloc w6 _ q (by omega))
        have ht7 : w7.heap[w.heap.size + 1]? = some (.cells #[.slice (some ⟨g2, 0, none⟩) (k + 1) c2, .slice GB k dB] 39 (0, 0)) := (keep7 _ (by omega)).trans HT6.out
        have hA7 := World.ownsRow.kept (HA6.out.alloc (w := w6) (.cells #[.int .i64 (v1)] 2)) hgrow7 HAP3.out.ne
        have hap7 := (HAP3.out.symm.step (s := w6.heap.size + 1) (fun k' hk' => by have := (hbA k' hk').2; omega) (A' := (Value.slice (some ⟨g7, 0, none⟩) (k + 1) c7).ownBlock) (by simpa using hat7)).symm
        have c71 := Joins.cell_of_block ht7 1
        have f71 := Joins.unfrozen_of_block ht7 1
        simp at c71 f71
        obtain ⟨w8, hw8⟩ : ∃ u, u = w7.setCell ⟨w.heap.size + 1, 1, none⟩ (.slice (some ⟨g7, 0, none⟩) (k + 1) c7) := ⟨_, rfl⟩
        have hz8 : w7.heap.size ≤ w8.heap.size := by rw [hw8]; simp [World.setCell]
        have hz7' : w6.heap.size + 1 ≤ w7.heap.size := by have := hgrow7.size; simp at this; omega
        have HT8 : Hid (w8.heap[w.heap.size + 1]? = some (.cells #[.slice (some ⟨g2, 0, none⟩) (k + 1) c2, .slice (some ⟨g7, 0, none⟩) (k + 1) c7] 39 (0, 0))) := by rw [hw8]; exact Joins.block_setCell (i := 1) ht7 _
        have keep8 : ∀ q, q < w.heap.size + 1 → w8.heap[q]? = w6.heap[q]? := fun q hq => by rw [hw8]; exact (Below.heap_setCell w7 _ _ q (by simp; omega)).trans (keep7 q (by omega))
        have HA8 : Hid (w8.ownsRow (w.heap.size + 2) 2 1 (.slice (some ⟨g2, 0, none⟩) (k + 1) c2) (k + 1) (xs ++ [.int .i64 a])) := by rw [hw8]; exact hA7.kept (grown_set8 w7 ⟨w.heap.size + 1, 1, none⟩ (.slice (some ⟨g7, 0, none⟩) (k + 1) c7)) (.inr (by have := (hA7.lt g2 rfl).1; simp [Value.ownBlock]; omega))
        have HB8 : Hid (w8.ownsRow (w.heap.size + 2) 2 1 (.slice (some ⟨g7, 0, none⟩) (k + 1) c7) (k + 1) (ys ++ [.int .i64 (v1)])) := by rw [hw8]; exact hown7.kept (grown_set8 w7 ⟨w.heap.size + 1, 1, none⟩ (.slice (some ⟨g7, 0, none⟩) (k + 1) c7)) (.inr (by have := (hown7.lt g7 rfl).1; simp [Value.ownBlock]; omega))
        have HAP8 := hide hap7
        have HR8 := hide ((keep8 _ (by omega)).trans HR6.out)
        have HSR8 := hide (HSR6.out.keep (keep8 b (by omega)))
        have HS8 : Hid (SL w8 A n (fun j => .int .u8 (x j))) := hide (HS6.out.belowN (B := b) HNE.out ⟨by rw [hw8]; exact hgrow7.os, by rw [hw8]; exact hgrow7.tape, by rw [hw8]; exact hgrow7.output, by omega, fun q hq => keep8 q (by omega)⟩)
        have M8 := hide (show Marked b (b + 1) w w8 from ⟨(show w8.os = w6.os by rw [hw8]; exact hgrow7.os).trans M6.out.os, (show w8.tape = w6.tape by rw [hw8]; exact hgrow7.tape).trans M6.out.tape, (show w8.output = w6.output by rw [hw8]; exact hgrow7.output).trans M6.out.output, by omega, fun q hq hd => (keep8 q (by omega)).trans (M6.out.block q hq hd)⟩)
        have hsz8 : w.heap.size + 2 ≤ w8.heap.size := by omega
        clear hB0 hown7 hgrow7 hat7 hbA hbB keep7 keep8 ht7 hA7 hap7 g0 g1 HS6 HR6 HT6 HA6 HB6 HSR6 M6 HAP3
        go_wp2_with fail
        rw [← hw8]
        clear hw8 c71 f71
        refine (pick_any b A n c x (8 * k + 8) 40 w8 hn HS8.out HX.out HNE.out (by omega) (by omega) (by omega) (HSR8.out.up (by omega))).mono ?_
        rintro e w9 ⟨v40, rfl, v400, v401, hsr, hw⟩
        have hz9 : w8.heap.size ≤ w9.heap.size := by rw [hw.size]; exact Nat.le_refl _
        have HS9 := hide (src_sl HS8.out HNE.out hw)
        have HR9 := hide ((hw.block _ (.inr (by omega))).trans HR8.out)
        have HT9 := hide ((hw.block _ (.inr (by omega))).trans HT8.out)
        have HA9 := hide (own_within HA8.out hw (by omega))
        have HB9 := hide (own_within HB8.out hw (by omega))
        have HSR9 := hide hsr
        have M9 := hide (show Marked b (b + 1) w w9 from ⟨hw.os.trans M8.out.os, hw.tape.trans M8.out.tape, hw.output.trans M8.out.output, by have := M8.out.size; omega, fun q hq hd => (hw.block q hd).trans (M8.out.block q hq hd)⟩)
        have HDR := hide (drI_step hdr.out (r := v1) (p := v40) ⟨by omega, by omega⟩ ⟨v400, v401⟩)
        clear hsr hw HS8 HR8 HT8 HA8 HB8 HSR8 M8
        go_wp2
        go_roundw
        case rel => exact ⟨k + 1, r - 1, _, _, _, _, _, some ⟨g2, 0, none⟩, some ⟨g7, 0, none⟩, c2, c7, by omega, rfl, rcast hr0, HDR.out, HT9.out, HR9.out, HA9.out, HB9.out, HAP8.out, own_step HLX.out (fun j hj => by rw [hxs.out j hj, upz_ne hj]) (by rw [upz_at]), own_step HLY.out (fun j hj => by rw [hys.out j hj, upz_ne hj]) (by rw [upz_at]), HSR9.out.up (by omega), HS9.out, M9.out, by omega⟩
        case measure => simp [intOf]; omega
    · subst hr0
      obtain rfl : k = N := by omega
      have c0 := Joins.cell_of_block hT.out 0
      have c1 := Joins.cell_of_block hT.out 1
      have d0 := Joins.cell_of_block hR.out 0
      have d1 := Joins.cell_of_block hR.out 1
      have e0 := Joins.unfrozen_of_block hR.out 0
      have e1 := Joins.unfrozen_of_block hR.out 1
      simp at c0 c1 d0 d1 e0 e1
      go_wp2
      have RR := Joins.block_setCell (i := 1) (Joins.block_setCell (i := 0) hR.out (.slice GA k dA)) (.slice GB k dB)
      have r0 := Joins.cell_of_block RR 0
      have r1 := Joins.cell_of_block RR 1
      simp at r0 r1
      have own2 : ∀ {v : Value} {m : Nat} {us : List Value}, wr.ownsRow (w.heap.size + 2) 2 1 v m us → ((wr.setCell ⟨w.heap.size, 0, none⟩ (.slice GA k dA)).setCell ⟨w.heap.size, 1, none⟩ (.slice GB k dB)).ownsRow (w.heap.size + 2) 2 1 v m us := by
        intro v m us h
        have hf : v.ownBlock = none ∨ v.ownBlock ≠ some w.heap.size := by
          cases hq : v.ownBlock with
          | none => exact .inl rfl
          | some q => exact .inr (by have := (h.lt q hq).1; simp; omega)
        exact (h.kept (grown_set8 _ _ _) hf).kept (grown_set8 _ _ _) hf
      have AA := own2 hA.out
      have BB := own2 hB.out
      have hne2 : GA ≠ GB := by
        have h := apart_of_slices hA.out hB.out rfl rfl hap.out
        intro e
        rcases hA.out.2 with ⟨h0, h1⟩ | ⟨g, cap, cur, h0, _⟩
        · omega
        · injection h0 with h0
          exact h g g h0 (e ▸ h0) rfl
      refine bodyPost_ret (v := .agg #[.slice GA k dA, .slice GB k dB]) (by simp [results, Try.results78, go_sem, r0, r1]) rfl ⟨⟨GA, dA, GB, dB, k, z, z', rfl, drI_val hdr.out (by omega) (by omega), ⟨by omega, by omega⟩, fun j hj => ?_, ?_, ?_, hne2⟩, ?_⟩
      · have := (hdr.out.1 j hj).2; have := hdr.out.2.2.2.2.1.2; omega
      · exact (OW.of_owns AA hxs.out).wide (by omega) (Nat.le_refl _)
      · exact (OW.of_owns BB hys.out).wide (by omega) (Nat.le_refl _)
      · exact ⟨hM.out.os, hM.out.tape, hM.out.output, by have := hM.out.size; simpa [World.setCell] using this, fun q hq hd => ((Below.heap_setCell _ _ _ q (by simp; omega)).trans (Below.heap_setCell wr _ _ q (by simp; omega))).trans (hM.out.block q hq hd)⟩
theorem from_any (A : Option Addr) (n c : Nat) (w : World) : Calls Try.prog 77 #[.slice A n c] w fun e w' => e = .returned (.pointer (some ⟨w.heap.size, 0, none⟩)) ∧ w' = w.alloc (.cells #[.slice A n c, .int .i64 0, .int .u64 0] 168) := by
  go_enter Try.func77, Try.ntmps77
  go_wp2
  go_ret
  exact ⟨rfl, rfl⟩
set_option maxHeartbeats 4000000 in
theorem r8Scale_any (A : Option Addr) (n c : Nat) (x : Nat → Int) (w : World) (hn : n ≤ maxLen) (hs : SL w A n (fun j => .int .u8 (x j))) (hx : ∀ j, j < n → 0 ≤ x j ∧ x j ≤ 255) :
    Calls Try.prog 23 #[.slice A n c] w fun e w' => MadeS w w' e w.heap.size ∧ Below w.heap.size w w' := by
  obtain ⟨W, hW⟩ : ∃ u, u = (w.alloc (.cells #[.slice none 0 0, .slice none 0 0] 39)).alloc (.cells #[.slice A n c, .int .i64 0, .int .u64 0] 168) := ⟨_, rfl⟩
  have HB : Hid (Below w.heap.size w W) := by rw [hW]; exact ((Below.refl w.heap.size w).alloc (Nat.le_refl _) _).alloc (by simp) _
  have HR : Hid (W.heap[w.heap.size]? = some (.cells #[.slice none 0 0, .slice none 0 0] 39 (0, 0))) := by rw [hW]; exact (blocks2 w _ _).1
  have HQ : Hid (W.heap[w.heap.size + 1]? = some (.cells #[.slice A n c, .int .i64 0, .int .u64 0] 168 (0, 0))) := by rw [hW]; exact (blocks2 w _ _).2
  have hzW : w.heap.size + 2 ≤ W.heap.size := by rw [hW]; simp
  have hne : ∀ b' off, A = some ⟨b', off, none⟩ → n ≠ 0 → b' < w.heap.size + 1 := by
    intro b' off e h0
    obtain ⟨b2, off2, h1, h2, _⟩ := hs.at_ h0
    rw [h1] at e
    injection e with e
    injection e with e
    omega
  have HD := hide (drawOk_any (w.heap.size + 1) A n c x W hn (hs.below HB.out) hx hne ⟨0, 0, Nat.le_refl _, HQ.out⟩)
  have HWW := hide hW
  clear hs hx hne hW
  go_enter Try.func23, Try.ntmps23
  go_wp2_with fail
  refine (from_any A n c _).mono ?_
  rintro e w1 ⟨rfl, rfl⟩
  go_wp2_with fail
  rw [← HWW.out]
  clear HWW
  refine HD.out.mono ?_
  rintro e w2 ⟨⟨G, d, G', d', K, z, z', rfl, hv, hK, hbd, ho, ho', hne⟩, hM⟩
  have hz2 : W.heap.size ≤ w2.heap.size := hM.size
  have R2 := (hM.block w.heap.size (by omega) (.inl (by omega))).trans HR.out
  have HB2 := hide (HB.out.trans (hM.bel (B := w.heap.size) (by omega) (by omega)))
  have e0 := Joins.unfrozen_of_block R2 0
  have e1 := Joins.unfrozen_of_block R2 1
  have d0 := Joins.cell_of_block R2 0
  have d1 := Joins.cell_of_block R2 1
  simp at e0 e1 d0 d1
  have HR2 := hide R2
  have HV := hide hv
  have HK := hide hK
  have HBD := hide hbd
  have HO := hide ho
  have HO' := hide ho'
  have HNE := hide hne
  clear R2 hv hK hbd ho ho' hne hM HD
  go_wp2
  have RR := Joins.block_setCell (i := 1) (Joins.block_setCell (i := 0) HR2.out (.slice G K d)) (.slice G' K d')
  have r0 := Joins.cell_of_block RR 0
  have r1 := Joins.cell_of_block RR 1
  simp at r0 r1
  refine bodyPost_ret (v := .agg #[.slice G K d, .slice G' K d']) (by simp [results, Try.results23, go_sem, r0, r1]) rfl ⟨⟨G, d, G', d', K, z, z', rfl, HV.out, HK.out, HBD.out, ?_, ?_, HNE.out⟩, ?_⟩
  · exact ((HO.out.wide (lo' := w.heap.size + 1) (by omega) (Nat.le_refl _)).setCell (p := ⟨w.heap.size, 0, none⟩) (.inl (by simp))).setCell (p := ⟨w.heap.size, 1, none⟩) (.inl (by simp)) |>.wide (by omega) (by simp [World.setCell])
  · exact ((HO'.out.wide (lo' := w.heap.size + 1) (by omega) (Nat.le_refl _)).setCell (p := ⟨w.heap.size, 0, none⟩) (.inl (by simp))).setCell (p := ⟨w.heap.size, 1, none⟩) (.inl (by simp)) |>.wide (by omega) (by simp [World.setCell])
  · exact (HB2.out.setCell (by simp) _).setCell (by simp) _
end Go.Proofs.Ytjebkagbknmdoaa
