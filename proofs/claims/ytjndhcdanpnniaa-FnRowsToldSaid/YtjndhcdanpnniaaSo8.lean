/- Choices from bytes: next, pick, one. -/
import Derived.Test.YtjndhcdanpnniaaBb
import Derived.Laws.BitsLemmas
import Derived.Laws.Bits64
namespace Go.Proofs.Ytjndhcdanpnniaa
open Go.RowKit Go.Dues
theorem shr_bd (Z : Int) : 0 ≤ wrap64 (bits .and .u64 (IntKind.u64.wrap Z / 1099511627776) 255) ∧ wrap64 (bits .and .u64 (IntKind.u64.wrap Z / 1099511627776) 255) ≤ 255 := by
  have e1 := IntKind.wrap_u64 Z
  have h0 : 0 ≤ IntKind.u64.wrap Z / 1099511627776 := by rw [e1]; omega
  have h1 : IntKind.u64.wrap Z / 1099511627776 < 16777216 := by rw [e1]; omega
  generalize IntKind.u64.wrap Z / 1099511627776 = X at *
  have h := bits_mask .u64 64 (by decide) (fun n h0 h1 => by rw [IntKind.wrap_u64]; omega) 8 (by decide) X h0 (by omega)
  have e : ((2 : Int) ^ 8 - 1) = 255 := by decide
  rw [e] at h
  have e2 : ((2 : Int) ^ 8) = 256 := by decide
  rw [e2] at h
  rw [h]
  have : wrap64 (X % 256) = X % 256 := by unfold wrap64; omega
  rw [this]
  omega
theorem wrap64_in {z : Int} (h0 : 0 ≤ z) (h1 : z ≤ 1000000) : wrap64 z = z := by unfold wrap64; omega
/-- a source of choices in block b: it has read no more than k bytes -/
def SrcAt (w : World) (b : Nat) (A : Option Addr) (n c k : Nat) : Prop := ∃ (a : Nat) (sd : Int), a ≤ k ∧ w.heap[b]? = some (.cells #[.slice A n c, .int .i64 (a : Int), .int .u64 sd] 190 (0, 0))
theorem SrcAt.lt {w : World} {b n c k : Nat} {A : Option Addr} (h : SrcAt w b A n c k) : b < w.heap.size := by
  obtain ⟨a, sd, _, h⟩ := h
  exact (Array.getElem?_eq_some_iff.1 h).1
theorem SrcAt.keep {w w' : World} {b n c k : Nat} {A : Option Addr} (h : SrcAt w b A n c k) (hw : w'.heap[b]? = w.heap[b]?) : SrcAt w' b A n c k := by
  obtain ⟨a, sd, ha, h⟩ := h
  exact ⟨a, sd, ha, hw.trans h⟩
theorem SrcAt.up {w : World} {b n c k j : Nat} {A : Option Addr} (h : SrcAt w b A n c k) (hk : k ≤ j) : SrcAt w b A n c j := by
  obtain ⟨a, sd, ha, h⟩ := h
  exact ⟨a, sd, by omega, h⟩
set_option maxHeartbeats 4000000 in
theorem next_any (b : Nat) (A : Option Addr) (n c : Nat) (x : Nat → Int) (k : Nat) (w : World) (hn : n ≤ maxLen) (hs : SL w A n (fun j => .int .u8 (x j))) (hx : ∀ j, j < n → 0 ≤ x j ∧ x j ≤ 255) (hk : k ≤ 1000000) (hsrc : SrcAt w b A n c k) :
    Calls Try.prog 183 #[.pointer (some ⟨b, 0, none⟩)] w fun e w' => ∃ v : Int, e = .returned (.int .i64 v) ∧ 0 ≤ v ∧ v ≤ 255 ∧ SrcAt w' b A n c (k + 1) ∧ Within b (b + 1) w w' := by
  unfold maxLen at hn
  obtain ⟨a, sd, ha, hb⟩ := hsrc
  have HB := hide hb
  have k0 := Joins.cell_of_block hb 0
  have k1 := Joins.cell_of_block hb 1
  have k2 := Joins.cell_of_block hb 2
  have f1 := Joins.unfrozen_of_block hb 1
  have f2 := Joins.unfrozen_of_block hb 2
  simp at k0 k1 k2 f1 f2
  clear hb
  have ec : (a : Int) + 1 = ((a + 1 : Nat) : Int) := by omega
  have EC := hide ec
  clear ec
  by_cases h1 : a < n
  · obtain ⟨b', off, rfl, hb', hc⟩ := hs.at_ (by omega)
    have c1 := hc a h1
    have x0 := (hx a h1).1
    have x1 := (hx a h1).2
    clear hc hx hs
    have h1i : (a : Int) < (n : Int) := by omega
    have h2i : (a : Int) + 1 ≤ (n : Int) := by omega
    go_enter Try.func183, Try.ntmps183
    go_wp2
    go_quiet (fail)
    go_wp2
    go_quiet (fail)
    go_wp2
    go_quiet (fail)
    go_wp2
    go_ret
    refine ⟨_, rfl, x0, x1, ⟨a + 1, ?sd, by omega, ?hh⟩, ?ww⟩
    case ww =>
      exact (((((Within.refl b (b + 1) w).drewN _).set (by first | (simp; done) | (simp; omega)) (by first | (simp; done) | (simp; omega))).set (by first | (simp; done) | (simp; omega)) (by first | (simp; done) | (simp; omega))).drewN _)
    case hh =>
      rw [← EC.out]
      exact Joins.block_setCell (i := 2) (Joins.block_setCell (i := 1) HB.out _) _
  · clear hx hs
    have h1i : ¬ (a : Int) < (n : Int) := by omega
    have h2i : ¬ (a : Int) + 1 ≤ (n : Int) := by omega
    go_enter Try.func183, Try.ntmps183
    go_wp2
    go_quiet (fail)
    go_wp2
    go_quiet (fail)
    go_wp2
    go_ret
    refine ⟨_, rfl, (shr_bd _).1, (shr_bd _).2, ⟨a + 1, ?sd2, by omega, ?hh2⟩, ?ww2⟩
    case ww2 =>
      exact (((((Within.refl b (b + 1) w).drewN _).set (by first | (simp; done) | (simp; omega)) (by first | (simp; done) | (simp; omega))).set (by first | (simp; done) | (simp; omega)) (by first | (simp; done) | (simp; omega))).drewN _)
    case hh2 =>
      rw [← EC.out]
      exact Joins.block_setCell (i := 2) (Joins.block_setCell (i := 1) HB.out _) _
theorem src_sl {w w' : World} {A : Option Addr} {n b : Nat} {f : Nat → Value} (h : SL w A n f) (hne : ∀ b' off, A = some ⟨b', off, none⟩ → n ≠ 0 → b' < b) (hw : Within b (b + 1) w w') : SL w' A n f := h.within hw fun b' off e hn => .inl (hne b' off e hn)
set_option maxHeartbeats 4000000 in
theorem pick_any (b : Nat) (A : Option Addr) (n c : Nat) (x : Nat → Int) (k : Nat) (N : Int) (w : World) (hn : n ≤ maxLen) (hs : SL w A n (fun j => .int .u8 (x j))) (hx : ∀ j, j < n → 0 ≤ x j ∧ x j ≤ 255) (hne : ∀ b' off, A = some ⟨b', off, none⟩ → n ≠ 0 → b' < b) (hk : k ≤ 100000) (h1 : 1 < N) (h2 : N ≤ 1000000000) (hsrc : SrcAt w b A n c k) :
    Calls Try.prog 117 #[.pointer (some ⟨b, 0, none⟩), .int .i64 N] w fun e w' => ∃ v : Int, e = .returned (.int .i64 v) ∧ 0 ≤ v ∧ v < N ∧ SrcAt w' b A n c (k + 2) ∧ Within b (b + 1) w w' := by
  have H1 := hide (next_any b A n c x k w hn hs hx (by omega) hsrc)
  have H2 := hide (fun w' h => next_any b A n c x (k + 1) w' hn (src_sl hs hne h) hx (by omega))
  clear hs hx hsrc
  by_cases h3 : N ≤ 200
  · go_enter Try.func117, Try.ntmps117
    go_wp2_with fail
    refine H1.out.mono ?_
    rintro e w1 ⟨v, rfl, v0, v1, hsr, hw⟩
    have HS := hide hsr
    have HW := hide hw
    clear hsr hw
    go_wp2
    go_ret
    exact ⟨_, rfl, Int.emod_nonneg _ (by omega), Int.emod_lt_of_pos _ (by omega), HS.out.up (by omega), HW.out⟩
  · have h3' : 200 < N := by omega
    clear h3
    go_enter Try.func117, Try.ntmps117
    go_wp2_with fail
    refine H1.out.mono ?_
    rintro e w1 ⟨v, rfl, v0, v1, hsr, hw⟩
    have H3 := hide (H2.out w1 hw hsr)
    have HW := hide hw
    clear hsr hw H2
    go_wp2_with fail
    refine H3.out.mono ?_
    rintro e w2 ⟨u, rfl, u0, u1, hsr, hw⟩
    have HS := hide hsr
    have HW2 := hide (HW.out.trans hw)
    clear hsr hw HW
    go_wp2
    go_ret
    exact ⟨_, rfl, Int.emod_nonneg _ (by omega), Int.emod_lt_of_pos _ (by omega), HS.out.up (by omega), HW2.out⟩
theorem one_any (b : Nat) (A : Option Addr) (n c : Nat) (x : Nat → Int) (k : Nat) (N : Int) (w : World) (hn : n ≤ maxLen) (hs : SL w A n (fun j => .int .u8 (x j))) (hx : ∀ j, j < n → 0 ≤ x j ∧ x j ≤ 255) (hne : ∀ b' off, A = some ⟨b', off, none⟩ → n ≠ 0 → b' < b) (hk : k ≤ 100000) (h1 : 1 < N) (h2 : N ≤ 1000000000) (hsrc : SrcAt w b A n c k) :
    Calls Try.prog 186 #[.pointer (some ⟨b, 0, none⟩), .int .i64 N] w fun e w' => ∃ v : Bool, e = .returned (.bool v) ∧ SrcAt w' b A n c (k + 2) ∧ Within b (b + 1) w w' := by
  have H1 := hide (pick_any b A n c x k N w hn hs hx hne hk h1 h2 hsrc)
  clear hs hx hsrc hne
  go_enter Try.func186, Try.ntmps186
  go_wp2_with fail
  refine H1.out.mono ?_
  rintro e w1 ⟨v, rfl, v0, v1, hsr, hw⟩
  have HS := hide hsr
  have HW := hide hw
  clear hsr hw
  go_wp2
  go_ret
  exact ⟨_, rfl, HS.out, HW.out⟩
end Go.Proofs.Ytjndhcdanpnniaa
