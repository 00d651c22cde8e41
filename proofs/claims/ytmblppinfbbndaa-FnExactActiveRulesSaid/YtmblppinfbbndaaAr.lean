/- ActiveRules, by both. -/
import Derived.Test.YtmblppinfbbndaaRql
import Derived.Test.YtmblppinfbbndaaG1
import Derived.Test.YtmblppinfbbndaaOs
import Derived.Test.YtmblppinfbbndaaAc
namespace Go.Proofs.Ytmblppinfbbndaa
open Go.RowKit Go.Shelf Go.Dues
attribute [local go_sem] Oper.semAt_some
def acP (V : Nat → RV) (n : Nat) (day : Int) : Prop := rulesP V n ∧ (0 ≤ day ∧ day ≤ 100000)
def acL (V : Nat → RV) (n : Nat) (day : Int) : List Int := il (flt (actB V day) n)
theorem len_ActiveRules (V : Nat → RV) (n : Nat) (day : Int) : lenV (acP V n day) (acL V n day).length ≤ 1048576 := by
  by_cases h : acP V n day
  · rw [lenV_yes h]; have h1 := flt_len (actB V day) n; have h2 := h.1.1; unfold acL; rw [il_len]; omega
  · rw [lenV_no h]; omega
set_option maxHeartbeats 2000000 in
theorem specOn_any (b o : Nat) (f t day : Int) (w : World) (c2 : w.cell? ⟨b, o + 2, none⟩ = some (.int .i64 f)) (c3 : w.cell? ⟨b, o + 3, none⟩ = some (.int .i64 t)) :
    Calls Try.prog 81 #[.pointer (some ⟨b, o, none⟩), .int .i64 day] w fun e w' => e = .returned (.bool (inB day f t)) ∧ ∃ u, w' = w.drewN u := by
  by_cases h0 : f ≤ day
  · have d0 : decide (f ≤ day) = true := decide_eq_true h0
    by_cases h1 : day ≤ t
    · have d1 : decide (day ≤ t) = true := decide_eq_true h1
      have HB := hide (inB_yes (x := day) (lo := f) (hi := t) ⟨h0, h1⟩)
      go_enter Try.func81, Try.ntmps81
      go_wp2
      try go_quiet (fail)
      go_wp2
      go_ret
      first | exact ⟨retBr HB.out.symm, 0, rfl⟩ | exact ⟨retBr HB.out.symm, _, rfl⟩
    · have d1 : decide (day ≤ t) = false := decide_eq_false h1
      have HB := hide (inB_no (x := day) (lo := f) (hi := t) (by omega))
      go_enter Try.func81, Try.ntmps81
      go_wp2
      try go_quiet (fail)
      go_wp2
      go_ret
      first | exact ⟨retBr HB.out.symm, 0, rfl⟩ | exact ⟨retBr HB.out.symm, _, rfl⟩
  · have d0 : decide (f ≤ day) = false := decide_eq_false h0
    have HB := hide (inB_no (x := day) (lo := f) (hi := t) (by omega))
    go_enter Try.func81, Try.ntmps81
    go_wp2
    try go_quiet (fail)
    go_wp2
    go_ret
    first | exact ⟨retBr HB.out.symm, 0, rfl⟩ | exact ⟨retBr HB.out.symm, _, rfl⟩
set_option maxRecDepth 100000 in
set_option maxHeartbeats 4000000 in
theorem specActive_any (A : Option Addr) (n c : Nat) (V : Nat → RV) (day : Int) (w : World) (hn : n ≤ maxLen) (hv : ∀ i, i < n → (V i).n ≤ maxLen) (hs : RS w A n V) :
    Calls Try.prog 46 #[.slice A n c, .int .i64 day] w fun e w' => Gave1 w w' e (acP V n day) (acL V n day).length (gl (acL V n day)) := by
  obtain ⟨i0, hi, hz0, hz1, hz2⟩ := info_parts Try.info64
  have HR := hide (specRules_any A n c V w hn hv hs)
  have HS := hide hs
  clear hs hv
  by_cases hp : rulesP V n
  rotate_left
  · have HT := hide (tru_no hp)
    have HH := hide (show ¬ acP V n day from fun h => hp h.1)
    clear hp
    go_enter Try.func46, Try.ntmps46
    go_wp2_with fail
    refine HR.out.mono ?_
    rw [HT.out]
    rintro e w1 ⟨rfl, u1, rfl⟩
    go_wp2_with (go_at_call 80; refine (specRDay_any _ _).mono ?_; rintro e w' ⟨rfl, rfl⟩)
    go_ret2
    exact gave1_no HH.out (bel_q (Below.refl _ _) _)
  have HT := hide (tru_yes hp)
  have HP := hide hp
  have n24 := hp.1
  clear hp
  cases gd : inB day 0 100000
  · have HH := hide (show ¬ acP V n day from fun h => by rw [inB_yes h.2] at gd; cases gd)
    go_enter Try.func46, Try.ntmps46
    go_wp2_with fail
    refine HR.out.mono ?_
    rw [HT.out]
    rintro e w1 ⟨rfl, u1, rfl⟩
    go_wp2_with (go_at_call 80; refine (specRDay_any _ _).mono ?_; rintro e w' ⟨rfl, rfl⟩)
    go_ret2
    exact gave1_no HH.out (bel_q (Below.refl _ _) _)
  have HPP := hide (show acP V n day from ⟨HP.out, inB_iff.1 gd⟩)
  go_enter Try.func46, Try.ntmps46
  go_wp2_with fail
  refine HR.out.mono ?_
  rw [HT.out]
  rintro e w1 ⟨rfl, u1, hu1⟩
  have HB := hide (show Below w.heap.size w w1 by rw [hu1]; exact bel_q (Below.refl _ _) _)
  have HS1 := hide (show RS w1 A n V by rw [hu1]; exact HS.out)
  clear hu1
  have hst : (w1.alloc (.cells #[] 2)).ownsRow w1.heap.size 2 1 (.slice (some ⟨w1.heap.size, 0, none⟩) 0 0) 0 [] :=
    ⟨by simp, .inr ⟨w1.heap.size, 0, #[], rfl, Nat.le_refl _, new_at w1 _, Nat.le_refl 0, by unfold maxLen; omega, rfl, rfl⟩⟩
  have HBS := hide ((Below.refl w1.heap.size w1).alloc (Nat.le_refl _) (.cells #[] 2))
  have HO0 := hide hst
  clear hst
  go_wp2_with (go_at_call 80; refine (specRDay_any _ _).mono ?_; rintro e w' ⟨rfl, rfl⟩)
  clear gd
  go_loopw [6, 7, 19] (fun v _ i wr => ∃ (k : Nat) (L : List Int), k ≤ n ∧ i = .int .i64 k ∧ wr.ownsRow w1.heap.size 2 1 v L.length (L.map (Value.int .i64)) ∧ Hid (L = il (flt (actB V day) k)) ∧ L.length ≤ k ∧ Below w1.heap.size w1 wr) (fun _ _ i _ => n - (intOf i).toNat)
  case atStart => exact ⟨0, [], Nat.zero_le _, rfl, HO0.out, rfl, Nat.le_refl _, HBS.out⟩
  case round =>
    obtain ⟨k, L, hk, rfl, hown, hL, hlen, hbel⟩ := hrel
    by_cases hlt : k < n
    · have hki : (k : Int) < (n : Int) := by omega
      obtain ⟨b, off, I, ci, rfl, hb, c0, c1, c2, c3, c4, _⟩ := HS1.out.cells.out k hlt
      have HON := hide (specOn_any b (off + k * 5) (V k).f (V k).t day wr ((hbel.cell (p := ⟨b, off + k * 5 + 2, none⟩) hb).trans c2) ((hbel.cell (p := ⟨b, off + k * 5 + 3, none⟩) hb).trans c3))
      have HBEL := hide hbel
      have hz := hbel.size
      clear hbel c0 c1 c2 c3 c4
      go_wp2_with fail
      refine HON.out.mono ?_
      rintro e w2 ⟨rfl, u2, hu2⟩
      have hb2 : Below wr.heap.size wr w2 := by rw [hu2]; exact bel_q (Below.refl _ _) _
      clear hu2
      have HB2 := hide (HBEL.out.trans (hb2.mono hz))
      have hown2 := own_stays hown hb2
      have hz2' := hb2.size
      clear hb2 hown
      cases ga : inB day (V k).f (V k).t
      · have HG := hide (show actB V day k = false from ga)
        have HO3 := hide hown2
        clear hown2
        go_wp2
        clear ga
        go_roundw
        case rel => exact ⟨k + 1, L, by omega, by go_num, HO3.out, (hide (by rw [il_no HG.out]; exact hL.out)), (by omega), HB2.out⟩
        case measure => simp [intOf]; omega
      · have HG := hide (show actB V day k = true from ga)
        go_wp2_with (at_builtin; refine wpList_append_own _ rfl _ _ 22 rfl (w1.heap.size) 2 i0 (.int .i64 0) 1 8 Try.underlying22 hi hz0 hz1 hz2 rfl (by decide) _ _ _ rfl (by exact (hown2.alloc _)) ⟨_, 0, none⟩ 1 1 [.int .i64 (k : Int)] rfl rfl (cell_one_new _ _ _) (by intro u hu; simp at hu; subst hu; rfl) (by unfold maxLen; omega) (by omega) (by simp; omega) ?_)
        intro v' w3 hown3 hgrow _
        have HB3 := hide ((HB2.out.alloc (by omega) (.cells #[.int .i64 (k : Int)] 2)).grown hgrow (by simp; omega) (fun j hj => (hown2.lt j hj).1))
        have HO3 := hide hown3
        clear hgrow hown3 hown2 ga
        go_wp2
        go_roundw
        case rel => exact ⟨k + 1, L ++ [(k : Int)], by omega, by go_num, (by have := HO3.out; rw [map_snoc, List.length_append]; exact this), (hide (by rw [il_yes HG.out, ← hL.out])), (by rw [List.length_append, List.length_singleton]; omega), HB3.out⟩
        case measure => simp [intOf]; omega
    · obtain rfl : k = n := by omega
      have hki : ¬ (k : Int) < (k : Int) := by omega
      obtain ⟨Gx, dx, rfl⟩ := own_shape hown
      have HO := hide hown
      have HBEL := hide hbel
      clear hown hbel
      go_wp2
      go_ret2
      exact gave1_yes HPP.out (by rw [hL.out, acL]) (((own_ints HO.out).congr (fun j _ => by rw [hL.out, acL])).wide HB.out.size (Nat.le_refl _)) (HB.out.trans (HBEL.out.mono HB.out.size))
end Go.Proofs.Ytmblppinfbbndaa
