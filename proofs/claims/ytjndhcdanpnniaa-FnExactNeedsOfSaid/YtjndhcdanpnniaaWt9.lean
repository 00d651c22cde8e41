/- setOf; atoms of words, one by one. -/
import Derived.Test.YtjndhcdanpnniaaWs9
import Derived.Test.YtjndhcdanpnniaaOs
namespace Go
open Go.RowKit
theorem wsA_no : (Value.bool false :: Value.bool false :: Value.bool false :: Value.bool false :: Value.bool false :: Value.bool false :: Value.bool false :: Value.bool false :: Value.bool false :: Value.bool false :: Value.bool false :: Value.bool false :: Value.bool false :: Value.bool false :: Value.bool false :: Value.bool false :: Value.bool false :: Value.bool false :: Value.bool false :: Value.bool false :: Value.bool false :: Value.bool false :: Value.bool false :: Value.bool false :: Value.bool false :: Value.bool false :: Value.bool false :: Value.bool false :: Value.bool false :: Value.bool false :: Value.bool false :: Value.bool false :: Value.bool false :: []).toArray = wsA noW := by kernel_rfl
theorem ws_step9 {P : Nat → Value} {xs : List Value} {k : Nat} {u : Value} (hl : xs.length = k) (h : ∀ j, j < k → xs[j]? = some (P j)) (hu : u = P k) : ∀ j, j < k + 1 → (xs ++ [u])[j]? = some (P j) := by
  intro j hj
  by_cases hjk : j = k
  · subst hjk
    rw [List.getElem?_append_right (by omega), hl, Nat.sub_self, hu]
    rfl
  · rw [List.getElem?_append_left (by omega)]
    exact h j (by omega)
theorem sl_block {w : World} {A : Option Addr} {n : Nat} {f : Nat → Value} (hs : SL w A n f) : ∀ a, A = some a → n ≠ 0 → a.block < w.heap.size := by
  intro a e hn
  obtain ⟨b, off, h1, h2, _⟩ := hs.at_ (by omega)
  rw [h1] at e
  injection e with e
  subst e
  exact h2
end Go
namespace Go.Proofs.Ytjndhcdanpnniaa
open Go.RowKit Go.Dues
set_option maxRecDepth 100000 in
set_option maxHeartbeats 4000000 in
theorem setOf_any (A : Option Addr) (n c : Nat) (x : Nat → Int) (w : World) (hn : n ≤ maxLen) (hx : ∀ j, j < n → -16 ≤ x j ∧ x j ≤ 16) (hs : SL w A n (fun j => .int .i64 (x j))) :
    Calls Try.prog 162 #[.slice A n c] w fun e w' => e = .returned (.agg (wsA (addN noW x n))) ∧ Below w.heap.size w w' := by
  obtain ⟨W, hW⟩ : ∃ u, u = (w.alloc (.cells (Value.bool false :: Value.bool false :: Value.bool false :: Value.bool false :: Value.bool false :: Value.bool false :: Value.bool false :: Value.bool false :: Value.bool false :: Value.bool false :: Value.bool false :: Value.bool false :: Value.bool false :: Value.bool false :: Value.bool false :: Value.bool false :: Value.bool false :: Value.bool false :: Value.bool false :: Value.bool false :: Value.bool false :: Value.bool false :: Value.bool false :: Value.bool false :: Value.bool false :: Value.bool false :: Value.bool false :: Value.bool false :: Value.bool false :: Value.bool false :: Value.bool false :: Value.bool false :: Value.bool false :: []).toArray 163)).alloc (.cells (Value.bool false :: Value.bool false :: Value.bool false :: Value.bool false :: Value.bool false :: Value.bool false :: Value.bool false :: Value.bool false :: Value.bool false :: Value.bool false :: Value.bool false :: Value.bool false :: Value.bool false :: Value.bool false :: Value.bool false :: Value.bool false :: Value.bool false :: Value.bool false :: Value.bool false :: Value.bool false :: Value.bool false :: Value.bool false :: Value.bool false :: Value.bool false :: Value.bool false :: Value.bool false :: Value.bool false :: Value.bool false :: Value.bool false :: Value.bool false :: Value.bool false :: Value.bool false :: Value.bool false :: []).toArray 163) := ⟨_, rfl⟩
  have HBW := hide (show Below w.heap.size w W by rw [hW]; exact ((Below.refl _ _).alloc (Nat.le_refl _) _).alloc (by simp) _)
  have zW : W.heap.size = w.heap.size + 1 + 1 := by rw [hW]; simp
  have PP := hide (show _ ∧ _ by have := blocks2 w (.cells (Value.bool false :: Value.bool false :: Value.bool false :: Value.bool false :: Value.bool false :: Value.bool false :: Value.bool false :: Value.bool false :: Value.bool false :: Value.bool false :: Value.bool false :: Value.bool false :: Value.bool false :: Value.bool false :: Value.bool false :: Value.bool false :: Value.bool false :: Value.bool false :: Value.bool false :: Value.bool false :: Value.bool false :: Value.bool false :: Value.bool false :: Value.bool false :: Value.bool false :: Value.bool false :: Value.bool false :: Value.bool false :: Value.bool false :: Value.bool false :: Value.bool false :: Value.bool false :: Value.bool false :: []).toArray 163) (.cells (Value.bool false :: Value.bool false :: Value.bool false :: Value.bool false :: Value.bool false :: Value.bool false :: Value.bool false :: Value.bool false :: Value.bool false :: Value.bool false :: Value.bool false :: Value.bool false :: Value.bool false :: Value.bool false :: Value.bool false :: Value.bool false :: Value.bool false :: Value.bool false :: Value.bool false :: Value.bool false :: Value.bool false :: Value.bool false :: Value.bool false :: Value.bool false :: Value.bool false :: Value.bool false :: Value.bool false :: Value.bool false :: Value.bool false :: Value.bool false :: Value.bool false :: Value.bool false :: Value.bool false :: []).toArray 163); rw [← hW] at this; exact this)
  have HS := hide (wsAddAll_any (w.heap.size + 1) 163 noW A n c x W hn hx (hs.below HBW.out) (fun a e hz => by have := sl_block hs a e hz; omega) (by unfold WB; rw [← wsA_no]; exact PP.out.2))
  have HWW := hide hW
  clear hs hx hW
  go_enter Try.func162, Try.ntmps162
  go_wp2_with fail
  rw [← HWW.out]
  clear HWW
  refine HS.out.mono ?_
  rintro e w1 ⟨⟨r, rfl⟩, hb, hw⟩
  have HB1 := hide hb
  have HX0 := hide ((hw.block w.heap.size (by omega)).trans PP.out.1)
  have HBB := hide (HBW.out.trans (hw.bel (by omega : w.heap.size ≤ w.heap.size + 1)))
  have z1 := hw.size
  clear hb hw HS
  have hsz : (Try.prog.info? 163).map (·.size) = some 33 := by kernel_rfl
  go_wp2_with (first | refine wpList_load_row rfl 163 _ rfl (w.heap.size + 1) rfl 163 _ (0, 0) _ HB1.out Try.underlying163 rfl (by rw [wsA_size]; exact hsz) ?_ | refine wpList_store_row rfl 163 _ _ rfl w.heap.size (wsA (addN noW x n)) rfl rfl 163 _ HX0.out (by rw [wsA_size]; exact hsz) (by rw [wsA_size]; rfl) (wsA_cells _) ?_)
  refine bodyPost_ret (results_cell_row Try.results162 _ _ w.heap.size 163 (wsA (addN noW x n)) (0, 0) _ rfl (setRow_heap _ _ _ _ _ _ HX0.out) Try.underlying163 rfl (by rw [wsA_size]; exact hsz)) rfl ⟨rfl, ?_⟩
  exact ⟨HBB.out.os, HBB.out.tape, HBB.out.output, by have := HBB.out.size; rw [show (w1.setRow w.heap.size (wsA (addN noW x n))).heap.size = w1.heap.size from by simp [World.setRow]]; exact this, fun q hq => (setRow_other _ _ _ _ (by omega)).trans (HBB.out.block q hq)⟩
set_option maxRecDepth 100000 in
set_option maxHeartbeats 4000000 in
theorem eachAtom_any (A : Option Addr) (n c : Nat) (x : Nat → Int) (w : World) (hn : n ≤ 24) (hx : ∀ j, j < n → wordP (x j)) (hs : SL w A n (fun j => .int .i64 (x j))) :
    Calls Try.prog 129 #[.slice A n c, .func (Fn.func 163) #[] #[]] w fun e w' => ∃ G d, e = .returned (.slice G n d) ∧ OW w' w.heap.size w'.heap.size G n (fun j => .int .i64 (atomV (x j))) ∧ Below w.heap.size w w' := by
  obtain ⟨i0, hi, hz0, hz1, hz2⟩ := info_parts Try.infoI64
  have HC := cells_one hs
  have HXX := hide hx
  clear hs hx
  go_enter Try.func129, Try.ntmps129
  go_wp2_with (at_make; refine wpList_make_own _ rfl _ _ 24 rfl w.heap.size 2 i0 (.int .i64 0) 1 Try.underlying24 hi hz0 hz1 _ _ _ n rfl rfl rfl (by rw [hz2]; omega) (by unfold maxLen; omega) (Nat.le_refl _) ?_; intro w2 hown0 hgrow0)
  have HBG := hide ((Below.refl w.heap.size w).grown hgrow0 (Nat.le_refl _) (fun k h => by cases h))
  have HO := hide hown0
  clear hown0 hgrow0
  go_loopw [5, 7, 13] (fun v _ i wr => ∃ (k : Nat) (xs : List Value), k ≤ n ∧ i = .int .i64 k ∧ wr.ownsRow w.heap.size 2 1 v k xs ∧ Hid (∀ j, j < k → xs[j]? = some (.int .i64 (atomV (x j)))) ∧ Below w.heap.size w wr) (fun _ _ i _ => n - (intOf i).toNat)
  case atStart => exact ⟨0, [], Nat.zero_le _, rfl, HO.out, fun j hj => absurd hj (by omega), HBG.out⟩
  case round =>
    obtain ⟨k, xs, hk, rfl, hown, hxs, hbel⟩ := hrel
    by_cases hlt : k < n
    · obtain ⟨b, off, rfl, hb, hc⟩ := HC.out k hlt
      have hc2 := (hbel.cell (p := ⟨b, off + k, none⟩) hb).trans hc
      have hsz := hbel.size
      clear hc
      go_wp2_with fail
      refine (implAtom_any (x k) _ (HXX.out k hlt)).mono ?_
      rintro e w3 ⟨rfl, rfl⟩
      go_wp2_with (at_builtin; refine wpList_append_own _ rfl _ _ 24 rfl w.heap.size 2 i0 (.int .i64 0) 1 8 Try.underlying24 hi hz0 hz1 hz2 rfl (by decide) _ _ _ rfl (by exact (hown.alloc _)) ⟨wr.heap.size, 0, none⟩ 1 1 [.int .i64 (atomV (x k))] rfl rfl ?c1 ?c2 ?c3 ?c4 ?c5 ?_)
      case c1 =>
        intro j u hj
        match j, hj with
        | 0, hj => simp at hj; subst hj; exact Joins.cell_of_block (new_at wr _) 0
      case c2 => intro u hu; simp at hu; subst hu; rfl
      case c3 => unfold maxLen; omega
      case c4 => omega
      case c5 => simp; omega
      intro v' w4 hown' hgrow _
      have HBN := hide ((hbel.alloc (by first | omega | (simp; omega)) (.cells #[.int .i64 (atomV (x k))] 2)).grown hgrow (by simp; omega) (fun j hj => (hown.lt j hj).1))
      have HON := hide hown'
      have HL := hide (show xs.length = k by have := hown.1; omega)
      clear hgrow hown' hown hbel hc2
      go_wp2
      go_roundw
      case rel => exact ⟨k + 1, _, by omega, by go_num, HON.out, ws_step9 HL.out hxs.out rfl, HBN.out⟩
      case measure => simp [intOf]; omega
    · obtain ⟨G, d, rfl⟩ := own_shape hown
      have HON := hide hown
      have HBN := hide hbel
      clear hown hbel
      go_wp2
      go_ret
      obtain rfl : k = n := by omega
      exact ⟨G, d, rfl, OW.of_owns HON.out hxs.out, HBN.out⟩
end Go.Proofs.Ytjndhcdanpnniaa
