/- ValidRule and AreRules, as their laws call them. -/
import Derived.Test.YtjndhcdanpnniaaRql
namespace Go.Proofs.Ytjndhcdanpnniaa
open Go.RowKit Go.Dues
theorem implValidRule_any (r : RV) (I : Option Addr) (ci : Nat) (w : World) (hn : r.n ≤ maxLen) (hI : SL w I r.n (fun j => .int .i64 (r.x j))) :
    Calls Try.prog 175 #[.agg #[.int .i64 r.h, .slice I r.n ci, .int .i64 r.f, .int .i64 r.t, .int .i64 r.k]] w fun e w' => e = .returned (.bool (tru (ruleP r))) ∧ Below w.heap.size w w' := implRule_any r I ci w hn hI
theorem implAreRules_any (A : Option Addr) (n c : Nat) (V : Nat → RV) (w : World) (hn : n ≤ maxLen) (hv : ∀ i, i < n → (V i).n ≤ maxLen) (hs : RS w A n V) :
    Calls Try.prog 99 #[.slice A n c] w fun e w' => e = .returned (.bool (tru (rulesP V n))) ∧ Below w.heap.size w w' := implRules_any A n c V w hn hv hs
end Go.Proofs.Ytjndhcdanpnniaa
