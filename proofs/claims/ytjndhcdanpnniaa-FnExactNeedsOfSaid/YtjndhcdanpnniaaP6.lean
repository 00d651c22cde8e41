/- Rules: what is valid, and what they answer; no program is read here. -/
import Derived.Test.YtjndhcdanpnniaaP5
import Derived.Test.YtjndhcdanpnniaaRi
import Derived.Test.YtjndhcdanpnniaaRu
import Derived.Test.YtjndhcdanpnniaaScp
namespace Go.Dues
open Go
def wordP (v : Int) : Prop := v ≠ 0 ∧ -16 ≤ v ∧ v ≤ 16
instance (v : Int) : Decidable (wordP v) := inferInstanceAs (Decidable (_ ∧ _))
def wordB (v : Int) : Bool := decide (wordP v)
theorem wordB_iff {v : Int} : wordB v = true ↔ wordP v := decide_eq_true_iff
theorem wordB_yes {v : Int} (h : wordP v) : wordB v = true := decide_eq_true h
theorem wordB_no {v : Int} (h : ¬ wordP v) : wordB v = false := decide_eq_false h
def atomV (v : Int) : Int := if v < 0 then -v else v
theorem atomV_bd {v : Int} (h : wordP v) : 1 ≤ atomV v ∧ atomV v ≤ 16 := by unfold wordP at h; unfold atomV; split <;> omega
/-- the first n words have strictly ascending atoms -/
def factsP (x : Nat → Int) (n : Nat) : Prop := ∀ j, j < n → wordP (x j) ∧ (0 < j → atomV (x (j - 1)) < atomV (x j))
def rdayP (v : Int) : Prop := 0 ≤ v ∧ v ≤ 100000
def ruleP (r : RV) : Prop := wordP r.h ∧ r.n ≤ 6 ∧ factsP r.x r.n ∧ rdayP r.f ∧ rdayP r.t ∧ r.f ≤ r.t ∧ (0 ≤ r.k ∧ r.k ≤ 100)
def rulesP (V : Nat → RV) (n : Nat) : Prop := n ≤ 24 ∧ ∀ i, i < n → ruleP (V i)
theorem factsP_len {x : Nat → Int} {n : Nat} (h : factsP x n) : n ≤ 16 := by
  have key : ∀ j, j < n → (j : Int) + 1 ≤ atomV (x j) := by
    intro j
    induction j with
    | zero => intro hj; have := atomV_bd (h 0 hj).1; simpa using this.1
    | succ j ih =>
      intro hj
      have h1 := ih (by omega)
      have h2 := (h (j + 1) hj).2 (by omega)
      rw [Nat.add_sub_cancel] at h2
      push_cast; omega
  by_cases h0 : n = 0
  · omega
  · have h1 := key (n - 1) (by omega)
    have h2 := (atomV_bd (h (n - 1) (by omega)).1).2
    omega
def actB (V : Nat → RV) (day : Int) (i : Nat) : Bool := decide ((V i).f ≤ day ∧ day ≤ (V i).t)
theorem actB_iff {V : Nat → RV} {day : Int} {i : Nat} : actB V day i = true ↔ (V i).f ≤ day ∧ day ≤ (V i).t := decide_eq_true_iff
theorem actB_niff {V : Nat → RV} {day : Int} {i : Nat} : actB V day i = false ↔ ¬ ((V i).f ≤ day ∧ day ≤ (V i).t) := decide_eq_false_iff_not
/-! ### what is proved and what is disproved -/
def factM (x : Nat → Int) (m : Nat) (v : Int) : Prop := ∃ j, j < m ∧ x j = v
def allM (Y : Int → Prop) (r : RV) : Prop := ∀ j, j < r.n → Y (r.x j)
def someM (N : Int → Prop) (r : RV) : Prop := ∃ j, j < r.n ∧ N (r.x j)
section
variable (V : Nat → RV) (n : Nat) (day : Int) (F : Int → Prop)
def act (i : Nat) : Prop := i < n ∧ (V i).f ≤ day ∧ day ≤ (V i).t
def canY (Y N : Int → Prop) (v : Int) : Prop := F v ∨ (¬ F (-v) ∧ (∃ i, act V n day i ∧ (V i).h = v ∧ allM Y (V i)) ∧ ∀ s, act V n day s → (V s).h = -v → someM N (V s) ∨ ∃ k, act V n day k ∧ (V k).h = v ∧ allM Y (V k) ∧ (V s).k < (V k).k)
def canN (Y N : Int → Prop) (v : Int) : Prop := ¬ F v ∧ (F (-v) ∨ ∀ r, act V n day r → (V r).h = v → someM N (V r) ∨ ∃ s, act V n day s ∧ (V s).h = -v ∧ allM Y (V s) ∧ ∀ k, act V n day k → (V k).h = v → someM N (V k) ∨ (V k).k ≤ (V s).k)
def clsd (Y N : Int → Prop) : Prop := ∀ v, wordP v → (canY V n day F Y N v → Y v) ∧ (canN V n day F Y N v → N v)
/-- what is proved: what lies in all that is closed -/
def ysM (v : Int) : Prop := wordP v ∧ ∀ Y N, clsd V n day F Y N → Y v
def noM (v : Int) : Prop := wordP v ∧ ∀ Y N, clsd V n day F Y N → N v
end
section
variable {V : Nat → RV} {n : Nat} {day : Int} {F : Int → Prop} {Y N Y' N' : Int → Prop}
theorem allM_mono (h : ∀ v, Y v → Y' v) {r : RV} (a : allM Y r) : allM Y' r := fun j hj => h _ (a j hj)
theorem someM_mono (h : ∀ v, N v → N' v) {r : RV} : someM N r → someM N' r := fun ⟨j, hj, a⟩ => ⟨j, hj, h _ a⟩
theorem canY_mono (hY : ∀ v, Y v → Y' v) (hN : ∀ v, N v → N' v) {v : Int} (h : canY V n day F Y N v) : canY V n day F Y' N' v := by
  rcases h with h | ⟨h1, ⟨i, a, b, c⟩, h2⟩
  · exact .inl h
  · refine .inr ⟨h1, ⟨i, a, b, allM_mono hY c⟩, fun s hs e => ?_⟩
    rcases h2 s hs e with g | ⟨k, a, b, c, d⟩
    · exact .inl (someM_mono hN g)
    · exact .inr ⟨k, a, b, allM_mono hY c, d⟩
theorem canN_mono (hY : ∀ v, Y v → Y' v) (hN : ∀ v, N v → N' v) {v : Int} (h : canN V n day F Y N v) : canN V n day F Y' N' v := by
  obtain ⟨h0, h⟩ := h
  refine ⟨h0, ?_⟩
  rcases h with h | h
  · exact .inl h
  · refine .inr fun r hr e => ?_
    rcases h r hr e with g | ⟨s, a, b, c, d⟩
    · exact .inl (someM_mono hN g)
    · refine .inr ⟨s, a, b, allM_mono hY c, fun k hk e => ?_⟩
      rcases d k hk e with g | g
      · exact .inl (someM_mono hN g)
      · exact .inr g
theorem ysM_step {v : Int} (hw : wordP v) (hY : ∀ v, Y v → ysM V n day F v) (hN : ∀ v, N v → noM V n day F v) (h : canY V n day F Y N v) : ysM V n day F v :=
  ⟨hw, fun Y' N' hc => (hc v hw).1 (canY_mono (fun u hu => (hY u hu).2 Y' N' hc) (fun u hu => (hN u hu).2 Y' N' hc) h)⟩
theorem noM_step {v : Int} (hw : wordP v) (hY : ∀ v, Y v → ysM V n day F v) (hN : ∀ v, N v → noM V n day F v) (h : canN V n day F Y N v) : noM V n day F v :=
  ⟨hw, fun Y' N' hc => (hc v hw).2 (canN_mono (fun u hu => (hY u hu).2 Y' N' hc) (fun u hu => (hN u hu).2 Y' N' hc) h)⟩
/-- what has grown from below and is closed is all that is proved -/
theorem ysM_done (hY : ∀ v, Y v → ysM V n day F v) (hc : clsd V n day F Y N) (v : Int) : Y v ↔ ysM V n day F v := ⟨hY v, fun h => h.2 Y N hc⟩
theorem noM_done (hN : ∀ v, N v → noM V n day F v) (hc : clsd V n day F Y N) (v : Int) : N v ↔ noM V n day F v := ⟨hN v, fun h => h.2 Y N hc⟩
end
/-- the words for which p holds, the atom first, and then its opposite -/
noncomputable def wordsM (p : Int → Prop) : Nat → List Int
  | 0 => []
  | k + 1 => wordsM p k ++ (if tru (p ((k : Int) + 1)) then [(k : Int) + 1] else []) ++ (if tru (p (-((k : Int) + 1))) then [-((k : Int) + 1)] else [])
theorem wordsM_len (p : Int → Prop) : ∀ k, (wordsM p k).length ≤ 2 * k
  | 0 => by simp [wordsM]
  | k + 1 => by
    have := wordsM_len p k
    unfold wordsM
    rw [List.length_append, List.length_append]
    split <;> split <;> simp <;> omega
/-! ### days on which rules change -/
/-- a day on which a rule begins, or behind its last one -/
def chgP (V : Nat → RV) (n : Nat) (lo hi d : Int) : Prop := lo ≤ d ∧ d ≤ hi ∧ ∃ i, i < n ∧ (d = (V i).f ∨ d = (V i).t + 1)
/-- all days of changes from the first to the last, ascending -/
noncomputable def chgL (V : Nat → RV) (n : Nat) (lo : Int) : Nat → List Int
  | 0 => []
  | k + 1 => chgL V n lo k ++ (if tru (chgP V n lo (lo + k) (lo + k)) then [lo + k] else [])
theorem chgL_mem {V : Nat → RV} {n : Nat} {lo : Int} : ∀ {k : Nat} {d : Int}, d ∈ chgL V n lo k ↔ d < lo + k ∧ chgP V n lo d d
  | 0, d => by
    constructor
    · intro h; exact absurd h (by simp [chgL])
    · rintro ⟨h, h1, _⟩; simp at h; omega
  | k + 1, d => by
    unfold chgL
    rw [List.mem_append, chgL_mem (k := k)]
    by_cases hp : chgP V n lo (lo + k) (lo + k)
    · rw [tru_yes hp, if_pos rfl, List.mem_singleton]
      constructor
      · rintro (⟨h1, h2⟩ | rfl)
        · exact ⟨by push_cast; omega, h2⟩
        · exact ⟨by push_cast; omega, hp⟩
      · rintro ⟨h1, h2⟩
        by_cases e : d = lo + k
        · exact .inr e
        · exact .inl ⟨by push_cast at h1; omega, h2⟩
    · rw [tru_no hp, if_neg (by decide)]
      constructor
      · rintro (⟨h1, h2⟩ | h)
        · exact ⟨by push_cast; omega, h2⟩
        · exact absurd h (by simp)
      · rintro ⟨h1, h2⟩
        by_cases e : d = lo + k
        · subst e; exact absurd h2 hp
        · exact .inl ⟨by push_cast at h1; omega, h2⟩
theorem chgL_rise {V : Nat → RV} {n : Nat} {lo : Int} : ∀ k : Nat, Rise (chgL V n lo k)
  | 0 => trivial
  | k + 1 => by
    unfold chgL
    split
    · exact rise_snoc (chgL_rise k) fun b hb => (chgL_mem.1 hb).1
    · rw [List.append_nil]; exact chgL_rise k
theorem chgL_eq {V : Nat → RV} {n : Nat} {lo : Int} {k : Nat} {L : List Int} (hL : Rise L) (hm : ∀ d, d ∈ L ↔ chgP V n lo (lo + k - 1) d) : L = chgL V n lo k := by
  refine rise_unique hL (chgL_rise k) fun d => ?_
  rw [hm, chgL_mem]
  unfold chgP
  constructor
  · rintro ⟨h1, h2, h3⟩; exact ⟨by omega, h1, Int.le_refl _, h3⟩
  · rintro ⟨h1, h2, _, h3⟩; exact ⟨h2, by omega, h3⟩
theorem chgL_len {V : Nat → RV} {n : Nat} {lo : Int} {k : Nat} : (chgL V n lo k).length ≤ k :=
  rise_len (chgL_rise k) fun d hd => ⟨(chgL_mem.1 hd).2.1, (chgL_mem.1 hd).1⟩
end Go.Dues
