/- RunFund, by both. -/
import Derived.Test.YtjebkagbknmdoaaW7
import Derived.Test.YtjebkagbknmdoaaPm
namespace Go.Proofs.Ytjebkagbknmdoaa
open Go.RowKit Go.Dues
def rnS (v : Nat) (x y z : Nat → Nat) : Nat → Nat
  | 0 => v
  | k + 1 => fop .mul .f32 (fop .sub .f32 (fop .add .f32 (rnS v x y z k) (x k)) (y k)) (fop .add .f32 1065353216 (z k))
def rnV (v : Nat) (x y z : Nat → Nat) (j : Nat) : Nat := rnS v x y z (j + 1)
theorem rn_step {v : Nat} {x y z : Nat → Nat} {k s u a b c r : Nat} (h : FS .f32 s (rnS v x y z k)) (hu : FS .f32 u (x k)) (h1 : FR .f32 a (fop .add .f32 s u)) (h2 : FR .f32 b (fop .sub .f32 a (y k))) (h3 : FR .f32 c (fop .add .f32 1065353216 (z k))) (h4 : FR .f32 r (fop .mul .f32 b c)) : FS .f32 r (rnV v x y z k) := by
  refine h4.same.trans (.inl ?_)
  show _ = fop .mul .f32 (fop .sub .f32 (fop .add .f32 (rnS v x y z k) (x k)) (y k)) (fop .add .f32 1065353216 (z k))
  exact fop_same (h2.same.trans (.inl (fop_same (h1.same.trans (.inl (fop_same h hu))) (FS.refl _ _)))) h3.same
theorem rn_congr {v : Nat} {x x' y z : Nat → Nat} {n : Nat} (h : ∀ j, j < n → FS .f32 (x j) (x' j)) : ∀ k, k ≤ n → rnS v x y z k = rnS v x' y z k
  | 0, _ => rfl
  | k + 1, hk => by
    show fop .mul .f32 (fop .sub .f32 (fop .add .f32 (rnS v x y z k) (x k)) (y k)) _ = fop .mul .f32 (fop .sub .f32 (fop .add .f32 (rnS v x' y z k) (x' k)) (y k)) _
    rw [rn_congr h k (by omega), fop_same (FS.refl .f32 (rnS v x' y z k)) (h k (by omega))]
def rfP (v : Nat) (x : Nat → Nat) (n : Nat) (y : Nat → Nat) (m : Nat) (z : Nat → Nat) (l : Nat) : Prop := fdP v x n y m z l ∧ ∀ j, j < n → ffin .f32 (rnV v x y z j) = true
theorem fin_all {u V : Nat → Nat} {n : Nat} (h : ∀ j, j < n → FS .f32 (u j) (V j)) : (∀ j, j < n → ffin .f32 (u j) = true) ↔ ∀ j, j < n → ffin .f32 (V j) = true :=
  ⟨fun g j hj => by rw [← ffin_same (h j hj)]; exact g j hj, fun g j hj => by rw [ffin_same (h j hj)]; exact g j hj⟩
theorem World.ownsRow.drewQ {w : World} {B e size n : Nat} {v : Value} {xs : List Value} {o : Obj} (h : w.ownsRow B e size v n xs) (q : Nat) : ((w.drewN q).alloc o).ownsRow B e size v n xs :=
  World.ownsRow.alloc (w := w.drewN q) (show (w.drewN q).ownsRow B e size v n xs from h) o
set_option maxRecDepth 100000 in
set_option maxHeartbeats 8000000 in
theorem specRun7_any (v : Nat) (A : Option Addr) (n c : Nat) (x : Nat → Nat) (B : Option Addr) (m d : Nat) (y : Nat → Nat) (C : Option Addr) (l f : Nat) (z : Nat → Nat) (b : Nat) (w : World) (hn : n ≤ 64) (hm : m = n) (hl : l = n) (hs : SL w A n (fun j => .float .f32 (x j))) (hs' : SL w B m (fun j => .float .f32 (y j))) (hs'' : SL w C l (fun j => .float .f32 (z j))) :
    Calls Try.prog 96 #[.float .f32 v, .slice A n c, .slice B m d, .slice C l f, .float .f32 b] w fun e w' => ∃ G d, ∃ u : Nat → Nat, e = .returned (.slice G n d) ∧ OW w' w.heap.size w'.heap.size G n (fun j => .float .f32 (u j)) ∧ (∀ j, j < n → FS .f32 (u j) (rnV v (fun j => fop .mul .f32 (x j) b) y z j)) ∧ Below w.heap.size w w' := by
  obtain ⟨i0, hi, hz0, hz1, hz2⟩ := info_parts Try.infoF
  obtain rfl : n = m := hm.symm
  obtain rfl : n = l := hl.symm
  have HC := cells_f hs
  have HC' := cells_f hs'
  have HC'' := cells_f hs''
  clear hs hs' hs''
  go_enter Try.func96, Try.ntmps96
  go_wp2
  have hst : (w.alloc (.cells #[] 62)).ownsRow w.heap.size 62 1 (.slice (some ⟨w.heap.size, 0, none⟩) 0 0) 0 [] :=
    ⟨by simp, .inr ⟨w.heap.size, 0, #[], rfl, Nat.le_refl _, new_at w _, Nat.le_refl 0, by unfold maxLen; omega, rfl, rfl⟩⟩
  have HBS := hide ((Below.refl w.heap.size w).alloc (Nat.le_refl _) (.cells #[] 62))
  have HO0 := hide hst
  clear hst
  have hmul := fun (w : World) (t : TypeId) (x y : Nat) => run_far_eq (P := Try.prog) .mul (by decide) w t .f32 x y
  have hadd := fun (w : World) (t : TypeId) (x y : Nat) => run_far_eq (P := Try.prog) .add (by decide) w t .f32 x y
  have hsub := fun (w : World) (t : TypeId) (x y : Nat) => run_far_eq (P := Try.prog) .sub (by decide) w t .f32 x y
  go_loopw [0, 11, 12, 16] (fun sv v0 _ i wr => ∃ (k : Nat) (xs : List Value) (s : Nat), k ≤ n ∧ i = .int .i64 k ∧ sv = .float .f32 s ∧ Hid (FS .f32 s (rnS v (fun j => fop .mul .f32 (x j) b) y z k)) ∧ wr.ownsRow w.heap.size 62 1 v0 k xs ∧ Hid (FRow xs k (rnV v (fun j => fop .mul .f32 (x j) b) y z)) ∧ Below w.heap.size w wr) (fun _ _ _ i _ => n - (intOf i).toNat)
  case atStart => exact ⟨0, [], v, Nat.zero_le _, rfl, rfl, .inl rfl, HO0.out, fun j hj => absurd hj (by omega), HBS.out⟩
  case round =>
    clear HO0 HBS
    obtain ⟨k, xs, s, hk, rfl, rfl, hs, hown, hxs, hbel⟩ := hrel
    by_cases hlt : k < n
    · obtain ⟨b1, o1, rfl, hb1, hc1⟩ := HC.out k hlt
      obtain ⟨b2, o2, rfl, hb2, hc2⟩ := HC'.out k hlt
      obtain ⟨b3, o3, rfl, hb3, hc3⟩ := HC''.out k hlt
      have hd1 := (hbel.cell (p := ⟨b1, o1 + k, none⟩) hb1).trans hc1
      have hd2 := (hbel.cell (p := ⟨b2, o2 + k, none⟩) hb2).trans hc2
      have hd3 := (hbel.cell (p := ⟨b3, o3 + k, none⟩) hb3).trans hc3
      have hki : (k : Int) < (n : Int) := by omega
      have hsz := hbel.size
      have HLL := hide (show xs.length = k by have := hown.1; omega)
      have HOW := hide hown
      have HBE := hide hbel
      clear hc1 hc2 hc3 hown hbel
      go_wp2
      go_region
      all_goals
        go_wp2_with (at_builtin; refine wpList_append_own _ rfl _ _ 45 rfl (w.heap.size) 62 i0 (.float .f32 0) 1 4 Try.underlying45 hi hz0 hz1 hz2 rfl (by decide) _ _ _ rfl (by exact (HOW.out.alloc _)) ⟨_, 0, none⟩ 1 1 [.float .f32 _] rfl rfl (cell_one_new _ _ _) (by intro u hu; simp at hu; subst hu; rfl) (by unfold maxLen; omega) (by omega) (by simp; omega) ?_)
        intro v' w5 hown' hgrow _
        have HB1 := hide (Below.grown (Below.alloc (bel_q HBE.out _) (by first | omega | (simp; omega)) _) hgrow (by simp; omega) (fun j hj => (HOW.out.lt j hj).1))
        have HON := hide hown'
        clear hgrow hown'
        go_wp2
        go_roundw
        case rel => exact ⟨k + 1, _, _, by omega, by go_num, rfl, rn_step hs.out (fv_same _ _ _ _ _).same (fv_same _ _ _ _ _) (fv_same _ _ _ _ _) (fv_same _ _ _ _ _) (fv_same _ _ _ _ _), HON.out, frow_step HLL.out hxs.out (rn_step hs.out (fv_same _ _ _ _ _).same (fv_same _ _ _ _ _) (fv_same _ _ _ _ _) (fv_same _ _ _ _ _) (fv_same _ _ _ _ _)), HB1.out⟩
        case measure => simp [intOf]; omega
    · obtain rfl : k = n := by omega
      obtain ⟨Gx, dx, rfl⟩ := own_shape hown
      obtain ⟨u, hz1, hz2⟩ := frow_fun hxs.out
      have HO := hide hown
      have HBEL := hide hbel
      have HZ1 := hide hz1
      have HZ2 := hide hz2
      clear hown hbel hz1 hz2
      go_wp2
      go_ret
      exact ⟨Gx, dx, u, rfl, OW.of_owns HO.out HZ1.out, HZ2.out, HBEL.out⟩
end Go.Proofs.Ytjebkagbknmdoaa
