/- Sets of words, by the program. -/
import Derived.Test.YtjndhcdanpnniaaRj
import Derived.Test.YtjndhcdanpnniaaOw
import Derived.ChangeKeysEq
import Derived.Laws.Rows
import Derived.Laws.Tables
namespace Go
open Go.RowKit
/-- thirty-three cells at o of block b say which words there are -/
def WS (w : World) (b o : Nat) (p : Int → Bool) : Prop := ∀ j, j < 33 → w.cell? ⟨b, o + j, none⟩ = some (.bool (p ((j : Int) - 16)))
theorem WS.at_ {w : World} {b o : Nat} {p : Int → Bool} (h : WS w b o p) {v : Int} (h0 : -16 ≤ v) (h1 : v ≤ 16) : w.cell? ⟨b, o + (v + 16).toNat, none⟩ = some (.bool (p v)) := by
  have := h (v + 16).toNat (by omega)
  rw [this, show ((v + 16).toNat : Int) - 16 = v by omega]
/-- the cells of a set -/
def wsA (p : Int → Bool) : Array Value := Array.ofFn (n := 33) fun j => .bool (p ((j.val : Int) - 16))
theorem wsA_size (p : Int → Bool) : (wsA p).size = 33 := by simp [wsA]
theorem wsA_get (p : Int → Bool) (j : Nat) (h : j < 33) : (wsA p)[j]? = some (.bool (p ((j : Int) - 16))) := by simp [wsA, h]
def addW (p : Int → Bool) (v : Int) : Int → Bool := fun u => decide (u = v) || p u
theorem wsA_put (p : Int → Bool) {v : Int} (h0 : -16 ≤ v) (h1 : v ≤ 16) : (wsA p).setIfInBounds (v + 16).toNat (.bool true) = wsA (addW p v) := by
  apply Array.ext_getElem?
  intro j
  by_cases hj : j < 33
  · rw [wsA_get _ j hj, Array.getElem?_setIfInBounds]
    unfold addW
    by_cases e : (v + 16).toNat = j
    · rw [if_pos e, if_pos (by rw [wsA_size]; omega), show ((j : Int) - 16 = v) by omega]; simp
    · rw [if_neg e, wsA_get _ j hj]
      have : ¬ ((j : Int) - 16 = v) := by omega
      simp [this]
  · rw [Array.getElem?_eq_none (by simp [wsA_size]; omega), Array.getElem?_eq_none (by rw [wsA_size]; omega)]
theorem wsA_cells (p : Int → Bool) : (wsA p).all (·.oneCell') = true := by
  rw [Array.all_eq_true]
  intro i hi
  simp [wsA, Value.oneCell']
def noW : Int → Bool := fun _ => false
def eqW (p q : Int → Bool) : Bool := (List.range 33).all fun j => p ((j : Int) - 16) == q ((j : Int) - 16)
theorem eqW_iff {p q : Int → Bool} : eqW p q = true ↔ ∀ v, -16 ≤ v → v ≤ 16 → p v = q v := by
  unfold eqW
  rw [List.all_eq_true]
  constructor
  · intro h v h0 h1
    have := h (v + 16).toNat (List.mem_range.2 (by omega))
    rw [show ((v + 16).toNat : Int) - 16 = v by omega] at this
    simpa using this
  · intro h j hj
    rw [List.mem_range] at hj
    simpa using h ((j : Int) - 16) (by omega) (by omega)
/-- the block b has the set p, alone -/
def WB (w : World) (b : Nat) (t : TypeId) (p : Int → Bool) : Prop := w.heap[b]? = some (.cells (wsA p) t (0, 0))
theorem WB.ws {w : World} {b : Nat} {t : TypeId} {p : Int → Bool} (h : WB w b t p) : WS w b 0 p := fun j hj => by
  rw [Nat.zero_add, Joins.cell_of_block h j]; exact wsA_get p j hj
theorem run_eqItems_bools {P : Program} (w : World) {e : TypeId} (he : P.plainKey e = true) (hu : P.underlying e = some .bool) (xs ys : Array Value) (f g : Nat → Bool) (d : Nat) : ∀ is : List Nat, (∀ j ∈ is, xs[j]? = some (.bool (f j))) → (∀ j ∈ is, ys[j]? = some (.bool (g j))) →
    (Op.eqItems (d + 1) e 1 xs ys is).run P w = .ok (is.all fun j => f j == g j) w
  | [], _, _ => by simp [Op.eqItems]
  | i :: is, hx, hy => by
    have p1 := run_part_plain w he (off := i * 1) (by rw [Nat.mul_one]; exact hx i (by simp))
    have p2 := run_part_plain w he (off := i * 1) (by rw [Nat.mul_one]; exact hy i (by simp))
    have p3 := run_equalIn_bool w d e (f i) (g i) hu
    have ih := run_eqItems_bools w he hu xs ys f g d is (fun j hj => hx j (by simp [hj])) (fun j hj => hy j (by simp [hj]))
    simp only [Op.eqItems, Sem.run_bind, p1, p2, p3, Result.andThen_ok, List.all_cons]
    cases h : (f i == g i)
    · simp
    · simpa using ih
end Go
namespace Go.Proofs.Ytjndhcdanpnniaa
open Go.RowKit Go.Dues
theorem eqSets (p q : Int → Bool) (w : World) : (binOp .eql 163 (.agg (wsA p)) (.agg (wsA q))).run Try.prog w = .ok (.bool (eqW p q)) w := by
  have hc : Try.prog.cellsOf 4 = 1 := by kernel_rfl
  have hj : (Try.prog.info? 4).map (fun i => (i.zero, i.size, i.bytes)) = some (some (.bool false), 1, 1) := by kernel_rfl
  obtain ⟨i0, hi, -, -, -⟩ := info_parts hj
  rw [run_eql_struct, show (10000 : Nat) = 9999 + 1 from rfl, run_equalIn_array w 9999 _ _ Try.underlying163 hi, hc, show (9999 : Nat) = 9998 + 1 from rfl, run_eqItems_bools w (by kernel_rfl) Try.underlying4 _ _ (fun j => p ((j : Int) - 16)) (fun j => q ((j : Int) - 16)) 9998 _ (fun j hj => wsA_get p j (List.mem_range.1 hj)) (fun j hj => wsA_get q j (List.mem_range.1 hj))]
  rfl
set_option maxHeartbeats 2000000 in
theorem wsHas_any (b o : Nat) (p : Int → Bool) (v : Int) (w : World) (h0 : -16 ≤ v) (h1 : v ≤ 16) (hs : WS w b o p) :
    Calls Try.prog 153 #[.pointer (some ⟨b, o, none⟩), .int .i64 v] w fun e w' => e = .returned (.bool (p v)) ∧ w = w' := by
  have c := hs.at_ h0 h1
  clear hs
  go_enter Try.func153, Try.ntmps153
  go_wp2_with fail
  go_ret
  exact ⟨rfl, rfl⟩
set_option maxHeartbeats 2000000 in
theorem wsAdd_any (b o : Nat) (v : Int) (w : World) (c0 : Value) (h0 : -16 ≤ v) (h1 : v ≤ 16) (hc : w.cell? ⟨b, o + (v + 16).toNat, none⟩ = some c0) (hf : w.frozen? ⟨b, o + (v + 16).toNat, none⟩ = false) :
    Calls Try.prog 200 #[.pointer (some ⟨b, o, none⟩), .int .i64 v] w fun e w' => (∃ r, e = .returned r) ∧ w' = w.setCell ⟨b, o + (v + 16).toNat, none⟩ (.bool true) := by
  go_enter Try.func200, Try.ntmps200
  go_wp2_with fail
  refine bodyPost_end (v := .tuple #[]) (by simp [results, Try.results200, go_sem]) rfl ⟨⟨_, rfl⟩, rfl⟩
theorem cell_blk {w w' : World} {b i : Nat} (h : w'.heap[b]? = w.heap[b]?) : w'.cell? ⟨b, i, none⟩ = w.cell? ⟨b, i, none⟩ := by
  unfold World.cell?; rw [h]
def addN (p : Int → Bool) (x : Nat → Int) : Nat → (Int → Bool)
  | 0 => p
  | k + 1 => addW (addN p x k) (x k)
theorem addN_iff {p : Int → Bool} {x : Nat → Int} {v : Int} : ∀ {k : Nat}, addN p x k v = true ↔ p v = true ∨ ∃ j, j < k ∧ x j = v
  | 0 => by simp [addN]
  | k + 1 => by
    show addW (addN p x k) (x k) v = true ↔ _
    unfold addW
    rw [Bool.or_eq_true, decide_eq_true_iff, addN_iff (k := k)]
    constructor
    · rintro (h | h | ⟨j, hj, e⟩)
      · exact .inr ⟨k, by omega, h.symm⟩
      · exact .inl h
      · exact .inr ⟨j, by omega, e⟩
    · rintro (h | ⟨j, hj, e⟩)
      · exact .inr (.inl h)
      · by_cases q : j = k
        · subst q; exact .inl e.symm
        · exact .inr (.inr ⟨j, by omega, e⟩)
set_option maxRecDepth 100000 in
set_option maxHeartbeats 4000000 in
theorem wsAddAll_any (b : Nat) (t : TypeId) (p : Int → Bool) (A : Option Addr) (n c : Nat) (x : Nat → Int) (w : World) (hn : n ≤ maxLen) (hx : ∀ j, j < n → -16 ≤ x j ∧ x j ≤ 16) (hs : SL w A n (fun j => .int .i64 (x j))) (hA : ∀ a, A = some a → n ≠ 0 → a.block ≠ b) (hb : WB w b t p) :
    Calls Try.prog 164 #[.pointer (some ⟨b, 0, none⟩), .slice A n c] w fun e w' => (∃ r, e = .returned r) ∧ WB w' b t (addN p x n) ∧ Within b (b + 1) w w' := by
  unfold maxLen at hn
  have HX := hide hx
  have HC := cells_one hs
  have HA := hide hA
  have HB := hide hb
  clear hs hA hx hb
  go_enter Try.func164, Try.ntmps164
  go_wp2
  go_loopw [5, 8] (fun _ i wr => ∃ k : Nat, k ≤ n ∧ i = .int .i64 k ∧ Hid (WB wr b t (addN p x k)) ∧ Hid (Within b (b + 1) w wr)) (fun _ i _ => n - (intOf i).toNat)
  case atStart => exact ⟨0, Nat.zero_le _, rfl, HB.out, Within.refl _ _ _⟩
  case round =>
    obtain ⟨k, hk, rfl, hwb, hwi⟩ := hrel
    by_cases hlt : k < n
    · have hki : (k : Int) < (n : Int) := by omega
      obtain ⟨b', off, rfl, hb', c0⟩ := HC.out k hlt
      have hne : b' ≠ b := HA.out _ rfl (by omega)
      have d0 : wr.cell? ⟨b', off + k, none⟩ = some (.int .i64 (x k)) := (cell_blk (hwi.out.block b' (by omega))).trans c0
      obtain ⟨x0, x1⟩ := HX.out k hlt
      have HADD := hide (wsAdd_any b 0 (x k) wr _ x0 x1 (hwb.out.ws.at_ x0 x1) (Joins.unfrozen_of_block hwb.out _))
      clear c0
      go_wp2_with fail
      refine HADD.out.mono ?_
      rintro e w2 ⟨⟨r, rfl⟩, hw2⟩
      have HWB := hide (show WB w2 b t (addN p x (k + 1)) by rw [hw2]; unfold WB; rw [Nat.zero_add]; refine (Joins.block_setCell hwb.out _).trans ?_; rw [wsA_put _ x0 x1]; rfl)
      have HWI := hide (show Within b (b + 1) w w2 by rw [hw2]; exact hwi.out.set (Nat.le_refl _) (Nat.lt_succ_self _))
      clear hw2 d0 HADD
      go_wp2
      go_roundw
      case rel => exact ⟨k + 1, by omega, by go_num, HWB, HWI⟩
      case measure => simp [intOf]; omega
    · obtain rfl : k = n := by omega
      have hki : ¬ (k : Int) < (k : Int) := by omega
      go_wp2
      refine bodyPost_end (v := .tuple #[]) (by simp [results, Try.results164, go_sem]) rfl ⟨⟨_, rfl⟩, hwb.out, hwi.out⟩
end Go.Proofs.Ytjndhcdanpnniaa
