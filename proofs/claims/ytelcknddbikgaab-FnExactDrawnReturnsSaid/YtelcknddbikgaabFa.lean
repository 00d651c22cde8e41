/- Shares that are alive, powers of a factor, and their worth, by both. -/
import Derived.Test.YtelcknddbikgaabFc
import Derived.Test.YtelcknddbikgaabOs
import Derived.Test.YtelcknddbikgaabTwo
import Derived.Test.YtelcknddbikgaabSums
namespace Go.Proofs.Ytelcknddbikgaab
open Go.RowKit Go.Dues
theorem Try.infoF : (Try.prog.info? 39).map (fun i => (i.zero, i.size, i.bytes)) = some (some (.float .f32 0), 1, 4) := by kernel_rfl
def alV (q : Nat → Nat) : Nat → Nat
  | 0 => 1065353216
  | k + 1 => fop .mul .f32 (alV q k) (fop .sub .f32 1065353216 (q k))
def pwV (r : Nat) : Nat → Nat
  | 0 => 1065353216
  | k + 1 => fop .mul .f32 (pwV r k) (fop .quo .f32 1065353216 (fop .add .f32 1065353216 r))
theorem alV_step {q : Nat → Nat} {k r d r' : Nat} (h : FS .f32 r (alV q k)) (h1 : FR .f32 d (fop .sub .f32 1065353216 (q k))) (h2 : FR .f32 r' (fop .mul .f32 r d)) : FS .f32 r' (alV q (k + 1)) := by
  refine h2.same.trans (.inl ?_)
  show _ = fop .mul .f32 (alV q k) (fop .sub .f32 1065353216 (q k))
  exact fop_same h h1.same
theorem pwV_step {p k r d e r' : Nat} (h : FS .f32 r (pwV p k)) (h0 : FS .f32 e (fop .quo .f32 1065353216 (fop .add .f32 1065353216 p))) (h2 : FR .f32 r' (fop .mul .f32 r e)) : FS .f32 r' (pwV p (k + 1)) := by
  refine h2.same.trans (.inl ?_)
  show _ = fop .mul .f32 (pwV p k) (fop .quo .f32 1065353216 (fop .add .f32 1065353216 p))
  exact fop_same h h0
theorem factor_step {p d e : Nat} (h0 : FR .f32 d (fop .add .f32 1065353216 p)) (h1 : FR .f32 e (fop .quo .f32 1065353216 d)) : FS .f32 e (fop .quo .f32 1065353216 (fop .add .f32 1065353216 p)) :=
  h1.same.trans (.inl (fop_same (FS.refl _ _) h0.same))
/-- a row of numbers that are the same as told -/
def FRow (xs : List Value) (k : Nat) (V : Nat → Nat) : Prop := ∀ j, j < k → ∃ u, xs[j]? = some (.float .f32 u) ∧ FS .f32 u (V j)
theorem frow_step {xs : List Value} {k u : Nat} {V : Nat → Nat} (hl : xs.length = k) (h : FRow xs k V) (hu : FS .f32 u (V k)) : FRow (xs ++ [.float .f32 u]) (k + 1) V := by
  intro j hj
  by_cases hjk : j = k
  · subst hjk
    exact ⟨u, by rw [List.getElem?_append_right (by omega), hl, Nat.sub_self]; rfl, hu⟩
  · rw [List.getElem?_append_left (by omega)]
    exact h j (by omega)
theorem frow_fun {xs : List Value} {k : Nat} {V : Nat → Nat} (h : FRow xs k V) : ∃ z : Nat → Nat, (∀ j, j < k → xs[j]? = some (.float .f32 (z j))) ∧ ∀ j, j < k → FS .f32 (z j) (V j) := by
  refine ⟨fun j => match xs[j]? with | some (.float _ b) => b | _ => 0, fun j hj => ?_, fun j hj => ?_⟩
  · obtain ⟨u, h1, _⟩ := h j hj
    simp only [h1]
  · obtain ⟨u, h1, h2⟩ := h j hj
    simp only [h1]
    exact h2
/-- one list of n numbers, the same as told, that the call made, if p holds; none if not -/
def GaveF (w w' : World) (e : Ending) (p : Prop) (n : Nat) (V : Nat → Nat) : Prop :=
  ∃ G d, ∃ z : Nat → Nat, e = .returned (.tuple #[.slice G (lenV p n) d, .bool (tru p)]) ∧ OW w' w.heap.size w'.heap.size G (lenV p n) (fun j => .float .f32 (z j)) ∧ (∀ j, j < lenV p n → FS .f32 (z j) (V j)) ∧ Below w.heap.size w w'
theorem gavef_no {w w' : World} {p : Prop} {n : Nat} {V : Nat → Nat} (h : ¬ p) (hb : Below w.heap.size w w') : GaveF w w' (.returned (.tuple #[.slice none 0 0, .bool false])) p n V :=
  ⟨none, 0, fun _ => 0, ret_slice0 h, .inl (lenV_no h), fun j hj => absurd hj (by rw [lenV_no h]; omega), hb⟩
theorem gavef_yes {w w' : World} {p : Prop} {n d : Nat} {V z : Nat → Nat} {G : Option Addr} (h : p) (ho : OW w' w.heap.size w'.heap.size G n (fun j => .float .f32 (z j))) (hz : ∀ j, j < n → FS .f32 (z j) (V j)) (hb : Below w.heap.size w w') : GaveF w w' (.returned (.tuple #[.slice G n d, .bool true])) p n V :=
  ⟨G, d, z, ret_slice h rfl, by rw [lenV_yes h]; exact ho, by rw [lenV_yes h]; exact hz, hb⟩
end Go.Proofs.Ytelcknddbikgaab
