/- The laws' own helpers over lists of structs: Row. -/
import Derived.Test.YtjndhcdanpnniaaB3
import Derived.Test.YtjndhcdanpnniaaOw
import Derived.Deep.RegionHeld3
namespace Go.Proofs.Ytjndhcdanpnniaa
open Go.RowKit
theorem Try.infoRow : (Try.prog.info? 74).map (fun i => (i.zero, i.size, i.bytes)) = some (some (.agg #[.int .i64 0, .int .i64 0, .int .i64 0]), 3, 24) := by kernel_rfl
theorem cells3_row {A : Option Addr} {n : Nat} {f : Nat → Value} {w : World} (hs : SL w A (n * 3) f) : Hid (∀ k, k < n → ∃ b off, A = some ⟨b, off, none⟩ ∧ b < w.heap.size ∧ w.cell? ⟨b, off + k * 3, none⟩ = some (f (k * 3)) ∧ w.cell? ⟨b, off + k * 3 + 1, none⟩ = some (f (k * 3 + 1)) ∧ w.cell? ⟨b, off + k * 3 + 2, none⟩ = some (f (k * 3 + 2))) := by
  intro k hk
  obtain ⟨b, off, h1, h2, h3⟩ := hs.at_ (by omega)
  refine ⟨b, off, h1, h2, ?_, ?_, ?_⟩
  · exact h3 (k * 3) (by omega)
  · exact h3 (k * 3 + 1) (by omega)
  · exact h3 (k * 3 + 2) (by omega)
end Go.Proofs.Ytjndhcdanpnniaa
