/- A struct of three int64 fields among the arguments. -/
import Derived.Test.YtfkndehhepplbaaSlb
import Derived.Lib.SmallJoins
namespace Go
open Go.RowKit
section
open Go.ChangeShapes Go.WideShapes Go.Deep
variable {H : Type} {enc : TypeId × Value → H} {P : Program} {w : World}
theorem open_int3 {r : Reach} {b0 : Nat} {t : TypeId} {f0 f1 f2 : Field} {v : Value} {d : DataW H} {p : List MemPlace} (hs : P.underlying t = some (.struct #[f0, f1, f2])) (hone : oneCellFields P #[f0, f1, f2] = true) (hC : P.cellsOf t = 3)
    (h0 : P.underlying f0.type = some (.int .i64)) (h1 : P.underlying f1.type = some (.int .i64)) (h2 : P.underlying f2.type = some (.int .i64))
    (hv : Value.okWide P w r b0 t v) (hd : DataW.Trod enc P w 0 (fun _ => true) true t v d p) :
    ∃ a b c : Int, v = .agg #[.int .i64 a, .int .i64 b, .int .i64 c] := by
  obtain ⟨v0, v1, v2, y0, y1, y2, m, rfl, _, _, hy0, hy1, hy2⟩ := Joins.open_agg3 hs hone hC hv hd
  obtain ⟨a, e0, _, _⟩ := DataW.trod_int h0 hy0
  obtain ⟨b, e1, _, _⟩ := DataW.trod_int h1 hy1
  obtain ⟨c, e2, _, _⟩ := DataW.trod_int h2 hy2
  injection e0 with e0
  injection e1 with e1
  injection e2 with e2
  exact ⟨a, b, c, by rw [e0, e1, e2]⟩
end
end Go
