/- Shares that are alive, powers of a factor, and their worth, by both. -/
import Derived.Test.YtpbbedelapnnnaaFc
import Derived.Test.YtpbbedelapnnnaaOs
import Derived.Test.YtpbbedelapnnnaaTwo
import Derived.Test.YtpbbedelapnnnaaSums
namespace Go.Proofs.Ytpbbedelapnnnaa
open Go.RowKit Go.Dues
theorem Try.infoF : (Try.prog.info? 26).map (fun i => (i.zero, i.size, i.bytes)) = some (some (.float .f32 0), 1, 4) := by kernel_rfl
def alV (q : Nat → Nat) : Nat → Nat
  | 0 => 1065353216
  | k + 1 => fop .mul .f32 (alV q k) (fop .sub .f32 1065353216 (q k))
def pwV (r : Nat) : Nat → Nat
  | 0 => 1065353216
  | k + 1 => fop .mul .f32 (pwV r k) (fop .quo .f32 1065353216 (fop .add .f32 1065353216 r))
theorem alV_step {q : Nat → Nat} {k r d r' : Nat} (h : FS .f32 r (alV q k)) (h1 : FR .f32 d (fop .sub .f32 1065353216 (q k))) (h2 : FR .f32 r' (fop .mul .f32 r d)) : FS .f32 r' (alV q (k + 1)) := by
  refine h2.same.trans (.inl ?_)
  show _ = fop .mul .f32 (alV q k) (fop .sub .f32 1065353216 (q k))
  exact fop_same h h1.same
theorem pwV_step {p k r d e r' : Nat} (h : FS .f32 r (pwV p k)) (h0 : FS .f32 e (fop .quo .f32 1065353216 (fop .add .f32 1065353216 p))) (h2 : FR .f32 r' (fop .mul .f32 r e)) : FS .f32 r' (pwV p (k + 1)) := by
  refine h2.same.trans (.inl ?_)
  show _ = fop .mul .f32 (pwV p k) (fop .quo .f32 1065353216 (fop .add .f32 1065353216 p))
  exact fop_same h h0
theorem factor_step {p d e : Nat} (h0 : FR .f32 d (fop .add .f32 1065353216 p)) (h1 : FR .f32 e (fop .quo .f32 1065353216 d)) : FS .f32 e (fop .quo .f32 1065353216 (fop .add .f32 1065353216 p)) :=
  h1.same.trans (.inl (fop_same (FS.refl _ _) h0.same))
/-- a row of numbers that are the same as told -/
def FRow (xs : List Value) (k : Nat) (V : Nat → Nat) : Prop := ∀ j, j < k → ∃ u, xs[j]? = some (.float .f32 u) ∧ FS .f32 u (V j)
theorem frow_step {xs : List Value} {k u : Nat} {V : Nat → Nat} (hl : xs.length = k) (h : FRow xs k V) (hu : FS .f32 u (V k)) : FRow (xs ++ [.float .f32 u]) (k + 1) V := by
  intro j hj
  by_cases hjk : j = k
  · subst hjk
    exact ⟨u, by rw [List.getElem?_append_right (by omega), hl, Nat.sub_self]; rfl, hu⟩
  · rw [List.getElem?_append_left (by omega)]
    exact h j (by omega)
theorem frow_fun {xs : List Value} {k : Nat} {V : Nat → Nat} (h : FRow xs k V) : ∃ z : Nat → Nat, (∀ j, j < k → xs[j]? = some (.float .f32 (z j))) ∧ ∀ j, j < k → FS .f32 (z j) (V j) := by
  refine ⟨fun j => match xs[j]? with | some (.float _ b) => b | _ => 0, fun j hj => ?_, fun j hj => ?_⟩
  · obtain ⟨u, h1, _⟩ := h j hj
    simp only [h1]
  · obtain ⟨u, h1, h2⟩ := h j hj
    simp only [h1]
    exact h2
/-- one list of n numbers, the same as told, that the call made, if p holds; none if not -/
def GaveF (w w' : World) (e : Ending) (p : Prop) (n : Nat) (V : Nat → Nat) : Prop :=
  ∃ G d, ∃ z : Nat → Nat, e = .returned (.tuple #[.slice G (lenV p n) d, .bool (tru p)]) ∧ OW w' w.heap.size w'.heap.size G (lenV p n) (fun j => .float .f32 (z j)) ∧ (∀ j, j < lenV p n → FS .f32 (z j) (V j)) ∧ Below w.heap.size w w'
theorem gavef_no {w w' : World} {p : Prop} {n : Nat} {V : Nat → Nat} (h : ¬ p) (hb : Below w.heap.size w w') : GaveF w w' (.returned (.tuple #[.slice none 0 0, .bool false])) p n V :=
  ⟨none, 0, fun _ => 0, ret_slice0 h, .inl (lenV_no h), fun j hj => absurd hj (by rw [lenV_no h]; omega), hb⟩
theorem gavef_yes {w w' : World} {p : Prop} {n d : Nat} {V z : Nat → Nat} {G : Option Addr} (h : p) (ho : OW w' w.heap.size w'.heap.size G n (fun j => .float .f32 (z j))) (hz : ∀ j, j < n → FS .f32 (z j) (V j)) (hb : Below w.heap.size w w') : GaveF w w' (.returned (.tuple #[.slice G n d, .bool true])) p n V :=
  ⟨G, d, z, ret_slice h rfl, by rw [lenV_yes h]; exact ho, by rw [lenV_yes h]; exact hz, hb⟩
set_option maxRecDepth 100000 in
set_option maxHeartbeats 8000000 in
theorem specAlive_any (A : Option Addr) (n c : Nat) (x : Nat → Nat) (w : World) (hn : n ≤ 120) (hs : SL w A n (fun j => .float .f32 (x j))) :
    Calls Try.prog 94 #[.slice A n c] w fun e w' => ∃ G d, ∃ z : Nat → Nat, e = .returned (.slice G n d) ∧ OW w' w.heap.size w'.heap.size G n (fun j => .float .f32 (z j)) ∧ (∀ j, j < n → FS .f32 (z j) (alV x j)) ∧ Below w.heap.size w w' := by
  obtain ⟨i0, hi, hz0, hz1, hz2⟩ := info_parts Try.infoF
  have HC := cells_f hs
  clear hs
  go_enter Try.func94, Try.ntmps94
  go_wp2
  have hst : (w.alloc (.cells #[] 26)).ownsRow w.heap.size 26 1 (.slice (some ⟨w.heap.size, 0, none⟩) 0 0) 0 [] :=
    ⟨by simp, .inr ⟨w.heap.size, 0, #[], rfl, Nat.le_refl _, new_at w _, Nat.le_refl 0, by unfold maxLen; omega, rfl, rfl⟩⟩
  have HBS := hide ((Below.refl w.heap.size w).alloc (Nat.le_refl _) (.cells #[] 26))
  have HO0 := hide hst
  clear hst
  go_loopw [3, 4, 5] (fun v s i wr => ∃ (k : Nat) (xs : List Value) (r : Nat), k ≤ n ∧ i = .int .i64 k ∧ s = .float .f32 r ∧ Hid (FS .f32 r (alV x k)) ∧ wr.ownsRow w.heap.size 26 1 v k xs ∧ Hid (FRow xs k (alV x)) ∧ Below w.heap.size w wr) (fun _ _ i _ => n - (intOf i).toNat)
  case atStart => exact ⟨0, [], 1065353216, Nat.zero_le _, rfl, rfl, .inl rfl, HO0.out, fun j hj => absurd hj (by omega), HBS.out⟩
  case round =>
    obtain ⟨k, xs, r, hk, rfl, rfl, hr, hown, hxs, hbel⟩ := hrel
    by_cases hlt : k < n
    · obtain ⟨b, off, rfl, hb, hc⟩ := HC.out k hlt
      have hc2 := (hbel.cell (p := ⟨b, off + k, none⟩) hb).trans hc
      have hsz := hbel.size
      have HLL := hide (show xs.length = k by have := hown.1; omega)
      go_wp2_with (at_builtin; refine wpList_append_own _ rfl _ _ 22 rfl (w.heap.size) 26 i0 (.float .f32 0) 1 4 Try.underlying22 hi hz0 hz1 hz2 rfl (by decide) _ _ _ rfl (by exact (hown.alloc _)) ⟨_, 0, none⟩ 1 1 [.float .f32 (r)] rfl rfl (cell_one_new _ _ _) (by intro u hu; simp at hu; subst hu; rfl) (by unfold maxLen; omega) (by omega) (by simp; omega) ?_)
      intro v' w5 hown' hgrow _
      have hb1 := (hbel.alloc (by omega) (.cells #[.float .f32 r] 26)).grown hgrow (by simp; omega) (fun j hj => (hown.lt j hj).1)
      have HB1 := hide hb1
      have HON := hide hown'
      have hzz := True.intro
      clear hgrow hown' hown hbel hb1
      have hc3 := (HB1.out.cell (p := ⟨b, off + k, none⟩) hb).trans hc
      go_wp2_with (refine wpList_far _ rfl _ _ _ _ _ rfl (by decide) _ _ _ rfl rfl ?_; intro _ _ _)
      go_roundw
      case rel => exact ⟨k + 1, _, _, by omega, by go_num, rfl, alV_step hr.out (by assumption) (by assumption), HON.out, frow_step HLL.out hxs.out hr.out, bel_q HB1.out _⟩
      case measure => simp [intOf]; omega
    · obtain rfl : k = n := by omega
      obtain ⟨Gx, dx, rfl⟩ := own_shape hown
      obtain ⟨z, hz1, hz2⟩ := frow_fun hxs.out
      have HO := hide hown
      have HBEL := hide hbel
      have HZ1 := hide hz1
      have HZ2 := hide hz2
      clear hown hbel hz1 hz2
      go_wp2
      go_ret
      exact ⟨Gx, dx, z, rfl, OW.of_owns HO.out HZ1.out, HZ2.out, HBEL.out⟩
set_option maxRecDepth 100000 in
set_option maxHeartbeats 8000000 in
theorem implAlive_any (A : Option Addr) (n c : Nat) (x : Nat → Nat) (w : World) (hn : n ≤ maxLen) (hs : SL w A n (fun j => .float .f32 (x j))) :
    Calls Try.prog 177 #[.slice A n c] w fun e w' => GaveF w w' e (ltP x n) n (alV x) := by
  obtain ⟨i0, hi, hz0, hz1, hz2⟩ := info_parts Try.infoF
  have HL := hide (implLife_any A n c x w hn hs)
  have HC := cells_f hs
  clear hs
  unfold maxLen at hn
  by_cases hp : ltP x n
  rotate_left
  · have HT := hide (tru_no hp)
    have HH := hide hp
    clear hp
    go_enter Try.func177, Try.ntmps177
    go_wp2_with fail
    refine HL.out.mono ?_
    rw [HT.out]
    rintro e w' ⟨rfl, rfl⟩
    go_wp2
    go_ret2
    exact gavef_no HH.out (Below.refl _ _)
  have HT := hide (tru_yes hp)
  have HH := hide hp
  have n120 := hp.1.2
  clear hp
  go_enter Try.func177, Try.ntmps177
  go_wp2_with fail
  refine HL.out.mono ?_
  rw [HT.out]
  rintro e W ⟨rfl, hbe⟩
  have HB0 : Hid (Below w.heap.size w W) := by rw [← hbe]; exact Below.refl _ _
  have HCW : Hid (∀ k, k < n → ∃ b off, A = some ⟨b, off, none⟩ ∧ b < W.heap.size ∧ W.cell? ⟨b, off + k, none⟩ = some (.float .f32 (x k))) := by rw [← hbe]; exact HC.out
  clear hbe
  go_wp2_with (at_make; refine wpList_make_own _ rfl _ _ 22 rfl W.heap.size 26 i0 (.float .f32 0) 1 Try.underlying22 hi hz0 hz1 _ _ _ n rfl rfl rfl (by rw [hz2]; omega) (by unfold maxLen; omega) (Nat.le_refl _) ?_; intro w2 hown0 hgrow0)
  have HBS := hide ((Below.refl W.heap.size W).grown hgrow0 (Nat.le_refl _) (fun k h => by cases h))
  have HO0 := hide hown0
  clear hown0 hgrow0
  go_loopw [4, 5, 7, 16] (fun v s _ i wr => ∃ (k : Nat) (xs : List Value) (r : Nat), k ≤ n ∧ i = .int .i64 k ∧ s = .float .f32 r ∧ Hid (FS .f32 r (alV x k)) ∧ wr.ownsRow W.heap.size 26 1 v k xs ∧ Hid (FRow xs k (alV x)) ∧ Below W.heap.size W wr) (fun _ _ _ i _ => n - (intOf i).toNat)
  case atStart => exact ⟨0, [], 1065353216, Nat.zero_le _, rfl, rfl, .inl rfl, HO0.out, fun j hj => absurd hj (by omega), HBS.out⟩
  case round =>
    obtain ⟨k, xs, r, hk, rfl, rfl, hr, hown, hxs, hbel⟩ := hrel
    by_cases hlt : k < n
    · obtain ⟨b, off, rfl, hb, hc⟩ := HCW.out k hlt
      have hc2 := (hbel.cell (p := ⟨b, off + k, none⟩) hb).trans hc
      have hsz := hbel.size
      have HLL := hide (show xs.length = k by have := hown.1; omega)
      go_wp2_with (at_builtin; refine wpList_append_own _ rfl _ _ 22 rfl (W.heap.size) 26 i0 (.float .f32 0) 1 4 Try.underlying22 hi hz0 hz1 hz2 rfl (by decide) _ _ _ rfl (by exact (hown.alloc _)) ⟨_, 0, none⟩ 1 1 [.float .f32 (r)] rfl rfl (cell_one_new _ _ _) (by intro u hu; simp at hu; subst hu; rfl) (by unfold maxLen; omega) (by omega) (by simp; omega) ?_)
      intro v' w5 hown' hgrow _
      have hb1 := (hbel.alloc (by omega) (.cells #[.float .f32 r] 26)).grown hgrow (by simp; omega) (fun j hj => (hown.lt j hj).1)
      have HB1 := hide hb1
      have HON := hide hown'
      clear hc2
      clear hgrow hown' hown hbel hb1
      go_wp2_with (refine wpList_far _ rfl _ _ _ _ _ rfl (by decide) _ _ _ rfl rfl ?_; intro _ _ _)
      go_roundw
      case rel => exact ⟨k + 1, _, _, by omega, by go_num, rfl, alV_step hr.out (by assumption) (by assumption), HON.out, frow_step HLL.out hxs.out hr.out, bel_q HB1.out _⟩
      case measure => simp [intOf]; omega
    · obtain rfl : k = n := by omega
      obtain ⟨Gx, dx, rfl⟩ := own_shape hown
      obtain ⟨z, hz1, hz2⟩ := frow_fun hxs.out
      have HO := hide hown
      have HBEL := hide hbel
      have HZ1 := hide hz1
      have HZ2 := hide hz2
      clear hown hbel hz1 hz2
      go_wp2
      go_ret2
      exact gavef_yes HH.out ((OW.of_owns HO.out HZ1.out).wide HB0.out.size (Nat.le_refl _)) HZ2.out (HB0.out.trans (HBEL.out.mono HB0.out.size))
end Go.Proofs.Ytpbbedelapnnnaa
