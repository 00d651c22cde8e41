/- NeedsOf, by the program. -/
import Derived.Test.YtjndhcdanpnniaaWr9
namespace Go.Proofs.Ytjndhcdanpnniaa
open Go.RowKit Go.Shelf Go.Dues
attribute [local go_sem] Oper.semAt_some
def needP (V : Nat → RV) (n : Nat) (day x : Int) : Prop := rulesP V n ∧ (0 ≤ day ∧ day ≤ 100000) ∧ wordP x
/-- what lies in every set that has the word's atom and is closed under the active rules -/
def needM (V : Nat → RV) (n : Nat) (day x v : Int) : Prop := ∀ Y : Int → Prop, Y (atomV x) → (∀ i, i < n → actB V day i = true → Y (atomV (V i).h) → ∀ j, j < (V i).n → Y (atomV ((V i).x j))) → Y v
noncomputable def needL (V : Nat → RV) (n : Nat) (day x : Int) : List Int := thW (fun v => tru (needM V n day x v)) (wdL 16)
theorem sl_one (w : World) (v : Int) (t : TypeId) : SL (w.alloc (.cells #[.int .i64 v] t)) (some ⟨w.heap.size, 0, none⟩) 1 (fun _ => .int .i64 v) :=
  .inr ⟨w.heap.size, 0, rfl, by simp, fun j hj => by
    have hj0 : j = 0 := by omega
    rw [hj0]; exact Joins.cell_of_block (new_at w _) 0⟩
theorem lies_of9 {w : World} {A : Option Addr} {n : Nat} {V : Nat → RV} {P : Nat → RP} (h1 : SL w A (n * 5) (ruCell V P)) : Lies w w.heap.size A n V P := by
  intro j hj
  obtain ⟨b, off, e1, e2, e3⟩ := h1.at_ (by omega)
  exact ⟨b, off, e1, e2, (e3 (j * 5) (by omega)).trans (by rw [ruCell_0]), (e3 (j * 5 + 1) (by omega)).trans (by rw [ruCell_1]), (e3 (j * 5 + 2) (by omega)).trans (by rw [ruCell_2]), (e3 (j * 5 + 3) (by omega)).trans (by rw [ruCell_3]), (e3 (j * 5 + 4) (by omega)).trans (by rw [ruCell_4])⟩
theorem needM_self (V : Nat → RV) (n : Nat) (day x : Int) : needM V n day x (atomV x) := fun _ h _ => h
theorem needM_step {V : Nat → RV} {n : Nat} {day x : Int} {i j : Nat} (hi : i < n) (ha : actB V day i = true) (h : needM V n day x (atomV (V i).h)) (hj : j < (V i).n) : needM V n day x (atomV ((V i).x j)) :=
  fun Y h0 h1 => h1 i hi ha (h Y h0 h1) j hj
theorem needM_done {V : Nat → RV} {n : Nat} {day x : Int} {p : Int → Bool} (hs : ∀ v, p v = true → needM V n day x v) (h0 : p (atomV x) = true)
    (hc : ∀ i, i < n → actB V day i = true → p (atomV (V i).h) = true → ∀ j, j < (V i).n → p (atomV ((V i).x j)) = true) (v : Int) : p v = tru (needM V n day x v) := by
  by_cases h : needM V n day x v
  · rw [tru_yes h]; exact h (fun v => p v = true) h0 hc
  · rw [tru_no h]
    cases e : p v
    · rfl
    · exact absurd (hs v e) h
theorem thW_congr {p q : Int → Bool} (h : ∀ v, p v = q v) (ws : List Wd) : thW p ws = thW q ws := by rw [show p = q from funext h]
theorem count_lt {α : Type} {P Q : α → Bool} : ∀ l : List α, (∀ j, Q j = true → P j = true) → (∃ j, j ∈ l ∧ P j = true ∧ Q j = false) → l.countP Q < l.countP P
  | [], _, ⟨_, h, _⟩ => absurd h (by simp)
  | a :: l, hm, ⟨j, hj, h1, h2⟩ => by
    have hle : l.countP Q ≤ l.countP P := List.countP_mono_left (fun x _ => hm x)
    rw [List.countP_cons, List.countP_cons]
    rcases List.mem_cons.1 hj with e | e
    · subst e
      rw [h1, h2]; simp; omega
    · have := count_lt l hm ⟨j, e, h1, h2⟩
      cases q : Q a
      · simp; cases P a <;> simp <;> omega
      · rw [hm a q]; simp; omega
noncomputable def msr (w : World) (b : Nat) : Nat := (List.range 33).countP fun j : Nat => tru (w.cell? ⟨b, j, none⟩ = some (.bool false))
theorem msr_eq {w : World} {b : Nat} {t : TypeId} {p : Int → Bool} (h : WB w b t p) : msr w b = (List.range 33).countP fun j : Nat => !p ((j : Int) - 16) := by
  unfold msr
  refine List.countP_congr fun j hj => ?_
  have hc := h.ws j (List.mem_range.1 hj)
  rw [Nat.zero_add] at hc
  rw [hc]
  cases p ((j : Int) - 16)
  · rw [tru_yes rfl]; simp
  · rw [tru_no (by simp)]; simp
theorem msr_lt {w w' : World} {b : Nat} {t : TypeId} {p q : Int → Bool} (h : WB w b t p) (h' : WB w' b t q) (hm : ∀ v, p v = true → q v = true) (he : eqW q p = false) : msr w' b < msr w b := by
  rw [msr_eq h, msr_eq h']
  refine count_lt _ (fun j hj => ?_) ?_
  · cases e : p ((j : Int) - 16)
    · rfl
    · rw [hm _ e] at hj; cases hj
  · apply Classical.byContradiction
    intro hn
    have : eqW q p = true := eqW_iff.2 fun v h0 h1 => by
      cases e : p v
      · cases e' : q v
        · rfl
        · refine absurd ⟨(v + 16).toNat, List.mem_range.2 (by omega), ?_, ?_⟩ hn
          · rw [show ((v + 16).toNat : Int) - 16 = v by omega, e]; rfl
          · rw [show ((v + 16).toNat : Int) - 16 = v by omega, e']; rfl
      · exact hm v e
    rw [this] at he; cases he
set_option maxRecDepth 100000 in
set_option maxHeartbeats 8000000 in
theorem implNeedsC_any (A : Option Addr) (n c : Nat) (V : Nat → RV) (day x : Int) (w : World) (hn : n ≤ maxLen) (hv : ∀ i, i < n → (V i).n ≤ maxLen) (hs : RS w A n V) (hcl : ∀ y, n ≤ y → (V y).n = 0 ∧ (V y).h = 1) :
    Calls Try.prog 82 #[.slice A n c, .int .i64 day, .int .i64 x] w fun e w' => Gave1c w w' e (needP V n day x) (needL V n day x).length (gl (needL V n day x)) := by
  have HR := hide (implRules_any A n c V w hn hv hs)
  obtain ⟨P, hP, hI⟩ := hs
  have HLS := hide (lies_of9 hP)
  have HII := hide (show ∀ y, SL w (P y).A (V y).n (fun j => .int .i64 ((V y).x j)) from fun y => by
    by_cases hy : y < n
    · exact hI y hy
    · exact .inl (hcl y (by omega)).1)
  have HCL := hide hcl
  clear hP hI hv hcl
  by_cases hp : rulesP V n
  rotate_left
  · have HT := hide (tru_no hp)
    have HH := hide (show ¬ needP V n day x from fun h => hp h.1)
    clear hp
    go_enter Try.func82, Try.ntmps82
    go_wp2_with fail
    refine HR.out.mono ?_
    rw [HT.out]
    rintro e w1 ⟨rfl, hb⟩
    have HB := hide hb
    clear hb
    go_wp2_with (first | (go_at_call 114; refine (implRDay_any _ _).mono ?_; rintro e w' ⟨rfl, rfl⟩) | (go_at_call 159; refine (implWord_any _ _).mono ?_; rintro e w' ⟨rfl, rfl⟩))
    go_ret2
    exact gave1c_no HH.out HB.out
  have HT := hide (tru_yes hp)
  have HP := hide hp
  have n24 := hp.1
  clear hp
  cases gd : inB day 0 100000
  · have HH := hide (show ¬ needP V n day x from fun h => by rw [inB_yes h.2.1] at gd; cases gd)
    go_enter Try.func82, Try.ntmps82
    go_wp2_with fail
    refine HR.out.mono ?_
    rw [HT.out]
    rintro e w1 ⟨rfl, hb⟩
    have HB := hide hb
    clear hb
    go_wp2_with (first | (go_at_call 114; refine (implRDay_any _ _).mono ?_; rintro e w' ⟨rfl, rfl⟩) | (go_at_call 159; refine (implWord_any _ _).mono ?_; rintro e w' ⟨rfl, rfl⟩))
    go_ret2
    exact gave1c_no HH.out HB.out
  cases gx : wordB x
  · have HH := hide (show ¬ needP V n day x from fun h => by rw [wordB_yes h.2.2] at gx; cases gx)
    go_enter Try.func82, Try.ntmps82
    go_wp2_with fail
    refine HR.out.mono ?_
    rw [HT.out]
    rintro e w1 ⟨rfl, hb⟩
    have HB := hide hb
    clear hb
    go_wp2_with (first | (go_at_call 114; refine (implRDay_any _ _).mono ?_; rintro e w' ⟨rfl, rfl⟩) | (go_at_call 159; refine (implWord_any _ _).mono ?_; rintro e w' ⟨rfl, rfl⟩))
    go_ret2
    exact gave1c_no HH.out HB.out
  have hx := wordB_iff.1 gx
  have HPP := hide (show needP V n day x from ⟨HP.out, inB_iff.1 gd, hx⟩)
  have ax := atomV_bd hx
  have HWD := hide (show ∀ y, wordP (V y).h ∧ (V y).n ≤ 6 ∧ ∀ j, j < (V y).n → wordP ((V y).x j) from fun y => by
    by_cases hy : y < n
    · exact ⟨(HP.out.2 y hy).1, (HP.out.2 y hy).2.1, fun j hj => ((HP.out.2 y hy).2.2.1 j hj).1⟩
    · obtain ⟨e1, e2⟩ := HCL.out y (by omega)
      exact ⟨by rw [e2]; unfold wordP; omega, by omega, fun j hj => absurd hj (by omega)⟩)
  have hsz : (Try.prog.info? 163).map (·.size) = some 33 := by kernel_rfl
  refine (callsIn_wide (n := 4)).1 ?_
  refine callsIn_of_wp_marks Try.func82 rfl trivial ?_ rfl
  simp only [Try.ntmps82, List.size_toArray, List.length_cons, List.length_nil, Nat.reduceAdd, Nat.reduceSub, Array.replicate_succ, Array.replicate_zero, List.push_toArray, List.append_toArray, List.nil_append, List.cons_append]
  gi_wp2_with (first | (refine ⟨trivial, ?_⟩; gi_at_call 99; refine (callsIn_wide.2 HR.out).mono ?_; rw [HT.out]; rintro e w1 ⟨rfl, hb1⟩; have HB1 := hide hb1; clear hb1) | (refine ⟨trivial, ?_⟩; gi_at_call 114; refine (callsIn_wide.2 (implRDay_any _ _)).mono ?_; rw [gd]; rintro e w' ⟨rfl, rfl⟩) | (refine ⟨trivial, ?_⟩; gi_at_call 159; refine (callsIn_wide.2 (implWord_any _ _)).mono ?_; rw [gx]; rintro e w' ⟨rfl, rfl⟩) | (refine ⟨trivial, ?_⟩; gi_at_call 163; refine (callsIn_wide.2 (implAtom_any _ _ hx)).mono ?_; rintro e w' ⟨rfl, rfl⟩))
  have HSO := hide (setOf_any (some ⟨w1.heap.size, 0, none⟩) 1 1 (fun _ => atomV x) (w1.alloc (.cells #[.int .i64 (atomV x)] 2)) (by unfold maxLen; omega) (fun j hj => by show -16 ≤ atomV x ∧ atomV x ≤ 16; omega) (sl_one w1 (atomV x) 2))
  refine ⟨trivial, ?_⟩
  refine (callsIn_wide.2 HSO.out).mono ?_
  rintro e w2 ⟨rfl, hb2⟩
  have HB2 := hide (show Below w.heap.size w w2 from (HB1.out.alloc HB1.out.size _).trans (hb2.mono (by have := HB1.out.size; simp; omega)))
  clear hb2 HSO
  gi_wp2_with (refine wpListIn_store_row rfl 163 _ _ rfl w2.heap.size (wsA (addN noW (fun _ => atomV x) 1)) rfl rfl 163 _ (new_at w2 _) (by rw [wsA_size]; exact hsz) (by rw [wsA_size]; rfl) (wsA_cells _) ?_)
  obtain ⟨bT, hbT⟩ : ∃ b, w2.heap.size = b := ⟨_, rfl⟩
  obtain ⟨B1, hB1⟩ : ∃ b, w1.heap.size = b := ⟨_, rfl⟩
  obtain ⟨p0, hp0⟩ : ∃ p, addN noW (fun _ => atomV x) 1 = p := ⟨_, rfl⟩
  obtain ⟨WA, hWA⟩ : ∃ u, u = (w2.alloc (.cells (Value.bool false :: Value.bool false :: Value.bool false :: Value.bool false :: Value.bool false :: Value.bool false :: Value.bool false :: Value.bool false :: Value.bool false :: Value.bool false :: Value.bool false :: Value.bool false :: Value.bool false :: Value.bool false :: Value.bool false :: Value.bool false :: Value.bool false :: Value.bool false :: Value.bool false :: Value.bool false :: Value.bool false :: Value.bool false :: Value.bool false :: Value.bool false :: Value.bool false :: Value.bool false :: Value.bool false :: Value.bool false :: Value.bool false :: Value.bool false :: Value.bool false :: Value.bool false :: Value.bool false :: []).toArray 163)).setRow w2.heap.size (wsA (addN noW (fun _ => atomV x) 1)) := ⟨_, rfl⟩
  have zA : WA.heap.size = bT + 1 := by rw [hWA, ← hbT]; simp [World.setRow]
  have hbA : Below w.heap.size w WA := by
    have h2 := HB2.out
    refine ⟨by rw [hWA]; exact h2.os, by rw [hWA]; exact h2.tape, by rw [hWA]; exact h2.output, by rw [zA, ← hbT]; have := h2.size; omega, fun q hq => ?_⟩
    rw [hWA]
    refine (setRow_other _ _ _ _ (by have := h2.size; omega)).trans ?_
    exact (Below.heap_alloc w2 _ q (by have := h2.size; omega)).trans (h2.block q hq)
  have hwbA : WB WA bT 163 p0 := by rw [hWA, ← hbT, ← hp0]; exact setRow_heap _ _ _ _ _ _ (new_at w2 _)
  have hwz : w.heap.size ≤ bT := by rw [← hbT]; exact HB2.out.size
  have hp0x : p0 (atomV x) = true := by rw [← hp0]; exact addN_iff.2 (.inr ⟨0, by omega, rfl⟩)
  have hsnd0 : ∀ v, p0 v = true → needM V n day x v := fun v hv => by
    rw [← hp0] at hv
    rcases addN_iff.1 hv with h | ⟨_, _, h⟩
    · cases h
    · rw [← h]; exact needM_self _ _ _ _
  rw [← hWA]
  simp only [Act.put, hbT, hB1, hp0]
  clear hWA hbT hB1 hp0
  refine wpIn_loop (fun a' w' => ∃ (u : Nat → Value) (Ds : List Nat) (q : Int → Bool), a' = { tmps := #[.slice A n c, .int .i64 day, .int .i64 x, undef, undef, undef, .slice none 0 0, .bool false, .pointer (some ⟨bT, 0, none⟩), u 9, u 10, u 11, .slice A n c, .bool true, .bool false, .bool false, .int .i64 day, .bool true, .bool false, .bool false, .bool false, .int .i64 x, .bool true, .bool false, .bool false, .int .i64 x, .int .i64 (atomV x), .slice (some ⟨B1, 0, none⟩) 1 1, .agg (wsA p0), u 29, u 30, u 31, u 32, u 33, u 34, u 35, u 36, u 37, u 38, u 39, u 40, u 41, u 42, u 43, u 44, u 45, u 46, u 47], defers := cds Ds } ∧ WB w' bT 163 q ∧ (∀ v, q v = true → needM V n day x v) ∧ q (atomV x) = true ∧ Below w.heap.size w w' ∧ Ds.Nodup ∧ ∀ D ∈ Ds, bT < D ∧ w'.heap[D]? = some (.deferred (some []))) (fun _ w' => msr w' bT) ?start ?round
  case start => exact ⟨fun _ => undef, [], p0, rfl, hwbA, hsnd0, hp0x, hbA, List.nodup_nil, fun D hD => absurd hD (by simp)⟩
  case round =>
    rintro a' w' ⟨u, Ds, q, rfl, hwb, hsnd, hq0, hbel, hnd, hds⟩
    have HWB := hide hwb
    have HSND := hide hsnd
    have HBEL := hide hbel
    have HDS := hide hds
    have hbz : bT < w'.heap.size := (Array.getElem?_eq_some_iff.1 hwb).1
    clear hwb hsnd hbel hds hwbA hbA hsnd0 hp0x zA
    gi_wp2_with (first | refine wpListIn_load_row rfl 163 _ rfl bT rfl 163 _ (0, 0) _ HWB.out Try.underlying163 rfl (by rw [wsA_size]; exact hsz) ?_ | (refine wpListIn_store_row rfl 163 _ _ rfl w'.heap.size (wsA q) rfl rfl 163 _ (new_at w' _) (by rw [wsA_size]; exact hsz) (by rw [wsA_size]; rfl) (wsA_cells _) ?_) | (refine ⟨trivial, ?_⟩; gi_at_call 115; refine (callsIn_wide.2 (implIter_any _ _ _ _ _)).mono ?_; rintro e w'' ⟨rfl, rfl⟩))
    obtain ⟨bB, hbB⟩ : ∃ b, w'.heap.size = b := ⟨_, rfl⟩
    obtain ⟨W0, hW0⟩ : ∃ u, u = ((((w'.alloc (.cells (Value.bool false :: Value.bool false :: Value.bool false :: Value.bool false :: Value.bool false :: Value.bool false :: Value.bool false :: Value.bool false :: Value.bool false :: Value.bool false :: Value.bool false :: Value.bool false :: Value.bool false :: Value.bool false :: Value.bool false :: Value.bool false :: Value.bool false :: Value.bool false :: Value.bool false :: Value.bool false :: Value.bool false :: Value.bool false :: Value.bool false :: Value.bool false :: Value.bool false :: Value.bool false :: Value.bool false :: Value.bool false :: Value.bool false :: Value.bool false :: Value.bool false :: Value.bool false :: Value.bool false :: []).toArray 163)).setRow w'.heap.size (wsA q)).alloc (.cells #[.slice A n c] 38)).alloc (.cells #[.int .i64 day] 2)) := ⟨_, rfl⟩
    have z0 : W0.heap.size = bB + 1 + 2 := by rw [hW0, ← hbB]; simp [World.setRow]
    have keep0 : ∀ k, k < bB → W0.heap[k]? = w'.heap[k]? := fun k hk => by
      rw [hW0]
      refine (Below.heap_alloc _ _ k (by simp [World.setRow]; omega)).trans ((Below.heap_alloc _ _ k (by simp [World.setRow]; omega)).trans ((setRow_other _ _ _ _ (by omega)).trans (Below.heap_alloc _ _ k (by omega))))
    have gB : WB W0 bB 163 q := by
      rw [hW0, ← hbB]
      refine (Below.heap_alloc _ _ w'.heap.size (by simp [World.setRow]; omega)).trans ((Below.heap_alloc _ _ w'.heap.size (by simp [World.setRow])).trans ?_)
      exact setRow_heap _ _ _ _ _ _ (new_at w' _)
    have gT : WB W0 bT 163 q := (keep0 bT (by omega)).trans HWB.out
    have g1 : Boxed W0 (bB + 1) 38 (.slice A n c) := by
      rw [hW0, ← hbB]
      have := Boxed.new ((w'.alloc (.cells (Value.bool false :: Value.bool false :: Value.bool false :: Value.bool false :: Value.bool false :: Value.bool false :: Value.bool false :: Value.bool false :: Value.bool false :: Value.bool false :: Value.bool false :: Value.bool false :: Value.bool false :: Value.bool false :: Value.bool false :: Value.bool false :: Value.bool false :: Value.bool false :: Value.bool false :: Value.bool false :: Value.bool false :: Value.bool false :: Value.bool false :: Value.bool false :: Value.bool false :: Value.bool false :: Value.bool false :: Value.bool false :: Value.bool false :: Value.bool false :: Value.bool false :: Value.bool false :: Value.bool false :: []).toArray 163)).setRow w'.heap.size (wsA q)) 38 (.slice A n c)
      rw [show ((w'.alloc (.cells (Value.bool false :: Value.bool false :: Value.bool false :: Value.bool false :: Value.bool false :: Value.bool false :: Value.bool false :: Value.bool false :: Value.bool false :: Value.bool false :: Value.bool false :: Value.bool false :: Value.bool false :: Value.bool false :: Value.bool false :: Value.bool false :: Value.bool false :: Value.bool false :: Value.bool false :: Value.bool false :: Value.bool false :: Value.bool false :: Value.bool false :: Value.bool false :: Value.bool false :: Value.bool false :: Value.bool false :: Value.bool false :: Value.bool false :: Value.bool false :: Value.bool false :: Value.bool false :: Value.bool false :: []).toArray 163)).setRow w'.heap.size (wsA q)).heap.size = w'.heap.size + 1 by simp [World.setRow]] at this
      exact this.alloc _
    have g2 : Boxed W0 (bB + 1 + 1) 2 (.int .i64 day) := by
      rw [hW0, ← hbB]
      have := Boxed.new (((w'.alloc (.cells (Value.bool false :: Value.bool false :: Value.bool false :: Value.bool false :: Value.bool false :: Value.bool false :: Value.bool false :: Value.bool false :: Value.bool false :: Value.bool false :: Value.bool false :: Value.bool false :: Value.bool false :: Value.bool false :: Value.bool false :: Value.bool false :: Value.bool false :: Value.bool false :: Value.bool false :: Value.bool false :: Value.bool false :: Value.bool false :: Value.bool false :: Value.bool false :: Value.bool false :: Value.bool false :: Value.bool false :: Value.bool false :: Value.bool false :: Value.bool false :: Value.bool false :: Value.bool false :: Value.bool false :: []).toArray 163)).setRow w'.heap.size (wsA q)).alloc (.cells #[.slice A n c] 38)) 2 (.int .i64 day)
      rw [show (((w'.alloc (.cells (Value.bool false :: Value.bool false :: Value.bool false :: Value.bool false :: Value.bool false :: Value.bool false :: Value.bool false :: Value.bool false :: Value.bool false :: Value.bool false :: Value.bool false :: Value.bool false :: Value.bool false :: Value.bool false :: Value.bool false :: Value.bool false :: Value.bool false :: Value.bool false :: Value.bool false :: Value.bool false :: Value.bool false :: Value.bool false :: Value.bool false :: Value.bool false :: Value.bool false :: Value.bool false :: Value.bool false :: Value.bool false :: Value.bool false :: Value.bool false :: Value.bool false :: Value.bool false :: Value.bool false :: []).toArray 163)).setRow w'.heap.size (wsA q)).alloc (.cells #[.slice A n c] 38)).heap.size = w'.heap.size + 1 + 1 by simp [World.setRow]] at this
      exact this
    have gbel : Below w.heap.size w W0 := by
      have h := HBEL.out
      refine ⟨by rw [hW0]; exact h.os, by rw [hW0]; exact h.tape, by rw [hW0]; exact h.output, by rw [z0]; have := h.size; omega, fun k hk => (keep0 k (by have := h.size; omega)).trans (h.block k hk)⟩
    have gds : ∀ D ∈ Ds, bT < D ∧ D < bB ∧ W0.heap[D]? = some (.deferred (some [])) := fun D hD => by
      obtain ⟨h1, h2⟩ := HDS.out D hD
      have hlt := (Array.getElem?_eq_some_iff.1 h2).1
      exact ⟨h1, by omega, (keep0 D (by omega)).trans h2⟩
    rw [← hW0, hbB]
    clear hW0 keep0 HBEL HDS
    have hstop := active_stops (4 - 1) (by omega) (bB + 1) w.heap.size n c A V P day hn W0 (by omega) (by omega) g1 g2 (HLS.out.below gbel)
    refine wpIn_rangeFunc_ownH rfl (by omega) (gf := 181) (lb := #[.pointer (some ⟨bB + 1, 0, none⟩), .pointer (some ⟨bB + 1 + 1, 0, none⟩)]) rfl trivial (enters_of Try.func181 (by kernel_rfl) rfl)
      hstop kpR_t (kpR_b (by omega) (by omega)) (Below.refl _ _) (fun _ => rfl)
      (fun (pre : List Nat) W => ∃ q', WB W bT 163 q' ∧ WB W bB 163 q ∧ (∀ v, q v = true → q' v = true) ∧ ((∀ i ∈ pre, i < n ∧ actB V day i = true) → (∀ v, q' v = true → needM V n day x v) ∧ ∀ i ∈ pre, q (atomV (V i).h) = true → ∀ j, j < (V i).n → q' (atomV ((V i).x j)) = true) ∧ Below w.heap.size w W ∧ W0.heap.size ≤ W.heap.size ∧ ∀ D ∈ Ds, W.heap[D]? = some (.deferred (some [])))
      (fun _ (_ : List Nat) _ => False) ?own (fun _ => ownFrom_pure _ (fun _ => False))
      ⟨q, gT, gB, fun _ h => h, fun _ => ⟨HSND.out, fun i hi => absurd hi (by simp)⟩, gbel, Nat.le_refl _, fun D hD => (gds D hD).2.2⟩
      (fun y a' W => ∃ Z, a' = { tmps := #[.slice A n c, .int .i64 day, .int .i64 x, undef, undef, undef, .slice none 0 0, .bool false, .pointer (some ⟨bT, 0, none⟩), .pointer (some ⟨bB, 0, none⟩), u 10, .pointer (some ⟨Z, 0, none⟩), .slice A n c, .bool true, .bool false, .bool false, .int .i64 day, .bool true, .bool false, .bool false, .bool false, .int .i64 x, .bool true, .bool false, .bool false, .int .i64 x, .int .i64 (atomV x), .slice (some ⟨B1, 0, none⟩) 1 1, .agg (wsA p0), .agg (wsA q), .slice A n c, .int .i64 day, .func (.func 181) #[] #[.pointer (some ⟨bB + 1, 0, none⟩), .pointer (some ⟨bB + 1 + 1, 0, none⟩)], .int .i64 (y : Nat), .agg #[.int .i64 (V y).h, .slice (P y).A (V y).n (P y).c, .int .i64 (V y).f, .int .i64 (V y).t, .int .i64 (V y).k], u 35, u 36, u 37, u 38, u 39, u 40, u 41, u 42, u 43, u 44, u 45, u 46, u 47], defers := [] } ∧ W0.heap.size ≤ Z ∧ W.heap[Z]? = some (.cells #[.int .i64 (V y).h, .slice (P y).A (V y).n (P y).c, .int .i64 (V y).f, .int .i64 (V y).t, .int .i64 (V y).k] 61 (0, 0))) ?ownx ?assign ?body ?done ?stop
    case own =>
      rintro pre X Y row ⟨q', a1, a2, a3, a4, a5, a6, a7⟩ hg hr
      have k : ∀ g, g < W0.heap.size → Y.heap[g]? = X.heap[g]? := fun g hgl => hg.block g (by omega) (fun e => by have := (hr g e.symm).1; omega)
      exact ⟨q', (k bT (by omega)).trans a1, (k bB (by omega)).trans a2, a3, a4, a5.grown hg (by have := a5.size; omega) (fun g e => by have := (hr g e).1; have := gbel.size; omega), Nat.le_trans a6 hg.size, fun D hD => (k D (by have := (gds D hD).2.1; omega)).trans (a7 D hD)⟩
    case ownx =>
      rintro y a' _ X Y row ⟨Z, e1, e2, e3⟩ hg hr
      refine ⟨Z, e1, e2, (hg.block Z (Array.getElem?_eq_some_iff.1 e3).1 (fun e => ?_)).trans e3⟩
      obtain ⟨_, o, ho, hcc⟩ := hr Z e.symm
      rw [e3] at ho; cases ho; cases hcc
    case assign =>
      rintro l pre y W K ⟨q', a1, a2, a3, a4, a5, a6, a7⟩ hK
      have hb : Below W.heap.size W (W.alloc (.cells #[.int .i64 (V y).h, .slice (P y).A (V y).n (P y).c, .int .i64 (V y).f, .int .i64 (V y).t, .int .i64 (V y).k] 61)) := (Below.refl _ _).alloc (Nat.le_refl _) _
      have hK' := hK _ _ ((KeepsOthers.alloc _ _).from _) (kpR_bel hb (by have := a5.size; omega) (by omega)) ⟨q', (hb.block bT (by omega)).trans a1, (hb.block bB (by omega)).trans a2, a3, a4, a5.alloc a5.size _, by simp; omega, fun D hD => (hb.block D (by have := (gds D hD).2.1; omega)).trans (a7 D hD)⟩ ⟨W.heap.size, rfl, a6, blocks1 W _⟩
      gi_wp2
      exact hK'
    case body =>
      rintro l pre y a' W hl hrec ⟨q', a1, a2, a3, a4, a5, a6, a7⟩ ⟨Z, rfl, hZ, hZc⟩ hlt
      obtain ⟨hw0, hw1, hw2⟩ := HWD.out y
      have ab := atomV_bd hw0
      have HAT := hide (implAtom_any (V y).h W hw0)
      have HHAS := hide (wsHas_any bT 0 q' (atomV (V y).h) W (by omega) (by omega) a1.ws)
      have c0 := Joins.cell_of_block hZc 0
      have c1 := Joins.cell_of_block hZc 1
      simp at c0 c1
      have HA := hide (And.intro a1 (And.intro a2 (And.intro a5 a7)))
      have HA3 := hide a3
      have HA4 := hide a4
      have HSL := hide ((HII.out y).below a5)
      clear a1 a2 a3 a4 a5 a7 g1 g2 gB gT hstop hrec
      cases gq : q' (atomV (V y).h)
      · rw [gq] at HHAS
        gi_wp2_with (first | (refine ⟨trivial, ?_⟩; gi_at_call 163; refine (CallsIn.inRound l (callsIn_wide.2 HAT.out)).mono ?_; rintro e w'' ⟨rfl, rfl⟩) | (refine ⟨trivial, ?_⟩; gi_at_call 153; refine (CallsIn.inRound l (callsIn_wide.2 HHAS.out)).mono ?_; rintro e w'' ⟨rfl, rfl⟩))
        refine ⟨KeepsFrom.refl _ _, ⟨Below.refl _ _, fun _ _ _ => rfl⟩, q', HA.out.1, HA.out.2.1, HA3.out, fun hc => ?_, HA.out.2.2.1, a6, HA.out.2.2.2⟩
        have hb := HA4.out (fun i hi => hc i (by simp [hi]))
        refine ⟨hb.1, fun i hi hqi j hj => ?_⟩
        rcases List.mem_append.1 hi with h | h
        · exact hb.2 i h hqi j hj
        · obtain rfl : i = y := by simpa using h
          rw [HA3.out _ hqi] at gq; cases gq
      · rw [gq] at HHAS
        have HEA := hide (eachAtom_any (P y).A (V y).n (P y).c (V y).x W (by omega) hw2 HSL.out)
        gi_wp2_with (first | (refine ⟨trivial, ?_⟩; gi_at_call 163; refine (CallsIn.inRound l (callsIn_wide.2 HAT.out)).mono ?_; rintro e w'' ⟨rfl, rfl⟩) | (refine ⟨trivial, ?_⟩; gi_at_call 153; refine (CallsIn.inRound l (callsIn_wide.2 HHAS.out)).mono ?_; rintro e w'' ⟨rfl, rfl⟩) | (refine ⟨trivial, ?_⟩; gi_at_call 129; refine (CallsIn.inRound l (callsIn_wide.2 HEA.out)).mono ?_; rintro e W2 ⟨G, d, rfl, ho, hb2⟩; have HO2 := hide ho; have HB2' := hide hb2; clear ho hb2))
        have zz := HB2'.out.size
        have hbt : WB W2 bT 163 q' := (HB2'.out.block bT (by omega)).trans HA.out.1
        have HADD := hide (wsAddAll_any bT 163 q' G (V y).n d (fun j => atomV ((V y).x j)) W2 (by unfold maxLen; omega) (fun j hj => by have := atomV_bd (hw2 j hj); show -16 ≤ atomV ((V y).x j) ∧ atomV ((V y).x j) ≤ 16; omega) HO2.out.sl (fun a e hz => by
          rcases HO2.out with h | ⟨g, cs, t, h1, h2, _⟩
          · exact absurd h hz
          · rw [h1] at e; injection e with e; subst e; show g ≠ bT; omega) hbt)
        refine ⟨trivial, ?_⟩
        refine (CallsIn.inRound l (callsIn_wide.2 HADD.out)).mono ?_
        rintro e W3 ⟨⟨r, rfl⟩, hb3, hw3⟩
        have HB3 := hide hb3
        have HW3 := hide hw3
        have keep : ∀ k, k < W.heap.size → k ≠ bT → W3.heap[k]? = W.heap[k]? := fun k hk hne => (hw3.block k (by omega)).trans (HB2'.out.block k hk)
        have KEEP := hide keep
        have z3 := hw3.size
        clear hb3 hw3 keep
        gi_wp2
        have hbw : Below w.heap.size W W3 := ⟨HW3.out.os.trans HB2'.out.os, HW3.out.tape.trans HB2'.out.tape, HW3.out.output.trans HB2'.out.output, by omega, fun k hk => KEEP.out k (by have := HA.out.2.2.1.size; omega) (by omega)⟩
        refine ⟨⟨by omega, fun k o hk ho _ => (KEEP.out k (Array.getElem?_eq_some_iff.1 ho).1 (by omega)).trans ho⟩, ⟨hbw, fun i h1 h2 => KEEP.out i (by omega) (by omega)⟩, addN q' (fun j => atomV ((V y).x j)) (V y).n, HB3.out, (KEEP.out bB (by omega) (by omega)).trans HA.out.2.1, fun v h => addN_iff.2 (.inl (HA3.out v h)), fun hc => ?_, HA.out.2.2.1.trans hbw, by omega, fun D hD => (KEEP.out D (by have := (gds D hD).2.1; omega) (by have := (gds D hD).1; omega)).trans (HA.out.2.2.2 D hD)⟩
        have hb := HA4.out (fun i hi => hc i (by simp [hi]))
        obtain ⟨hy1, hy2⟩ := hc y (by simp)
        refine ⟨fun v hv => ?_, fun i hi hqi j hj => ?_⟩
        · rcases addN_iff.1 hv with h | ⟨j, hj, e⟩
          · exact hb.1 v h
          · rw [← e]; exact needM_step hy1 hy2 (hb.1 _ gq) hj
        · rcases List.mem_append.1 hi with h | h
          · exact addN_iff.2 (.inl (hb.2 i h hqi j hj))
          · obtain rfl : i = y := by simpa using h
            exact addN_iff.2 (.inr ⟨j, hj, rfl⟩)
    case done =>
      rintro D ys W hD rfl ⟨q', a1, a2, a3, a4, a5, a6, a7⟩ hK
      obtain ⟨b1, b2⟩ := a4 (fun i hi => flt_mem.1 hi)
      have hg : Try.prog.eqGuardType Try.prog.depth 163 = false := by kernel_rfl
      have EQ : ∀ w, (binOp .eql 163 (.agg (wsA q')) (.agg (wsA q))).run Try.prog w = .ok (.bool (eqW q' q)) w := fun w => eqSets q' q w
      have HA := hide (And.intro a1 (And.intro a2 (And.intro a5 (And.intro a7 (And.intro a3 (And.intro b1 b2))))))
      have HK := hide hK
      have hds' : Hid ((D :: Ds).Nodup ∧ ∀ D' ∈ D :: Ds, bT < D' ∧ W.heap[D']? = some (.deferred (some []))) := by
        refine ⟨List.nodup_cons.2 ⟨fun h => by have := (gds D h).2.1; omega, hnd⟩, fun D' h => ?_⟩
        rcases List.mem_cons.1 h with e | e
        · subst e; exact ⟨by omega, hK⟩
        · exact ⟨(gds D' e).1, a7 D' e⟩
      clear a1 a2 a3 a4 a5 a7 b1 b2 hK g1 g2 gB gT hstop gds gbel
      cases ge : eqW q' q
      · rw [ge] at EQ
        gi_wp2_with (first | refine wpListIn_load_row rfl 163 _ rfl bT rfl 163 _ (0, 0) _ HA.out.1 Try.underlying163 rfl (by rw [wsA_size]; exact hsz) ?_ | refine wpListIn_load_row rfl 163 _ rfl bB rfl 163 _ (0, 0) _ HA.out.2.1 Try.underlying163 rfl (by rw [wsA_size]; exact hsz) ?_)
        refine ⟨⟨fun k => if k = 9 then .pointer (some ⟨bB, 0, none⟩) else if k = 29 then .agg (wsA q) else if k = 30 then .slice A n c else if k = 31 then .int .i64 day else if k = 32 then .func (.func 181) #[] #[.pointer (some ⟨bB + 1, 0, none⟩), .pointer (some ⟨bB + 1 + 1, 0, none⟩)] else if k = 43 then .agg (wsA q') else if k = 44 then .agg (wsA q) else if k = 45 then .bool false else u k, D :: Ds, q', rfl, HA.out.1, HA.out.2.2.2.2.2.1, HA.out.2.2.2.2.1 _ hq0, HA.out.2.2.1, hds'.out.1, hds'.out.2⟩, msr_lt HWB.out HA.out.1 HA.out.2.2.2.2.1 ge⟩
      · rw [ge] at EQ
        have heq := eqW_iff.1 ge
        have hthe := thW_congr (needM_done HA.out.2.2.2.2.2.1 (HA.out.2.2.2.2.1 _ hq0) (fun i hi ha h j hj => HA.out.2.2.2.2.2.2 i (flt_mem.2 ⟨hi, ha⟩) (by have := atomV_bd (HWD.out i).1; rw [← heq _ (by omega) (by omega)]; exact h) j hj)) (wdL 16)
        have HWT := hide (wordsThat_any bT 0 q' W (by omega) HA.out.1.ws)
        rw [hthe] at HWT
        clear heq hthe
        gi_wp2_with (first | refine wpListIn_load_row rfl 163 _ rfl bT rfl 163 _ (0, 0) _ HA.out.1 Try.underlying163 rfl (by rw [wsA_size]; exact hsz) ?_ | refine wpListIn_load_row rfl 163 _ rfl bB rfl 163 _ (0, 0) _ HA.out.2.1 Try.underlying163 rfl (by rw [wsA_size]; exact hsz) ?_ | (refine ⟨trivial, ?_⟩; gi_at_call 152; refine (callsIn_wide.2 HWT.out).mono ?_; rintro e W4 ⟨G, d, rfl, ho, hb4, hcap⟩; have HO4 := hide ho; have HB4 := hide hb4; have HC4 := hide hcap; clear ho hb4 hcap))
        have zz := HA.out.2.2.1.size
        have z4 := HB4.out.size
        refine leaves_cds (fun W' => OW W' W.heap.size W4.heap.size G (thW (fun v => tru (needM V n day x v)) (wdL 16)).length (fun j => .int .i64 (gl (thW (fun v => tru (needM V n day x v)) (wdL 16)) j)) ∧ Below w.heap.size w W' ∧ W'.heap.size = W4.heap.size) (bT + 1) ?_ ?_ (D :: Ds) W4 hds'.out.1 (fun D' h => ⟨(hds'.out.2 D' h).1, (HB4.out.block D' (Array.getElem?_eq_some_iff.1 (hds'.out.2 D' h).2).1).trans (hds'.out.2 D' h).2⟩) ⟨HO4.out, HA.out.2.2.1.trans (HB4.out.mono zz), rfl⟩
        · rintro W' D' hD' ⟨k1, k2, k3⟩ hk
          refine ⟨?_, k2.trans (belowK_b (w := w) (Nat.le_refl _) W' D' _ _ (by omega) hk rfl rfl), by simp [World.putObj]; exact k3⟩
          rcases k1 with h | ⟨g, cs, t, h1, h2, h3, h4, h5⟩
          · exact .inl h
          · exact .inr ⟨g, cs, t, h1, h2, h3, (World.putObj_heap_other (fun e => by subst e; rw [h4] at hk; cases hk)).trans h4, h5⟩
        · rintro W' ⟨k1, k2, k3⟩
          exact ⟨.tuple #[.slice G (thW (fun v => tru (needM V n day x v)) (wdL 16)).length d, .bool true], by simp [results, Try.f82, go_sem], gave1c_yes (k := (thW (fun v => tru (needM V n day x v)) (wdL 16)).length) HPP.out rfl HC4.out (k1.wide (by omega) (by omega)) k2⟩
    case stop =>
      rintro D cd pre W hD _ h _
      exact h.elim
def clipN (V : Nat → RV) (n : Nat) (y : Nat) : RV := if y < n then V y else ⟨1, 0, fun _ => 0, 0, 0, 0⟩
theorem clipN_lt (V : Nat → RV) (n : Nat) {y : Nat} (h : y < n) : clipN V n y = V y := if_pos h
theorem clipN_rules (V : Nat → RV) (n : Nat) : rulesP (clipN V n) n ↔ rulesP V n := by
  unfold rulesP
  constructor
  · rintro ⟨h1, h2⟩; exact ⟨h1, fun i hi => by have := h2 i hi; rwa [clipN_lt V n hi] at this⟩
  · rintro ⟨h1, h2⟩; exact ⟨h1, fun i hi => by rw [clipN_lt V n hi]; exact h2 i hi⟩
theorem clipN_rs {w : World} {A : Option Addr} {n : Nat} {V : Nat → RV} (h : RS w A n V) : RS w A n (clipN V n) := by
  obtain ⟨P, h1, h2⟩ := h
  refine ⟨P, ?_, fun i hi => by rw [clipN_lt V n hi]; exact h2 i hi⟩
  have e : ∀ j, j < n * 5 → ruCell V P j = ruCell (clipN V n) P j := fun j hj => by unfold ruCell; rw [clipN_lt V n (by omega)]
  rcases h1 with h0 | ⟨b, off, g1, g2, g3⟩
  · exact .inl h0
  · exact .inr ⟨b, off, g1, g2, fun j hj => by rw [← e j hj]; exact g3 j hj⟩
theorem clipN_need (V : Nat → RV) (n : Nat) (day x v : Int) : needM (clipN V n) n day x v ↔ needM V n day x v := by
  constructor
  · intro h Y h0 h1
    refine h Y h0 fun i hi ha hY j hj => ?_
    have e := clipN_lt V n hi
    unfold actB at ha
    rw [e] at ha hY hj ⊢
    exact h1 i hi ha hY j hj
  · intro h Y h0 h1
    refine h Y h0 fun i hi ha hY j hj => ?_
    have e := clipN_lt V n hi
    have := h1 i hi
    unfold actB at this
    rw [e] at this
    exact this ha hY j hj
theorem implNeedsG_any (A : Option Addr) (n c : Nat) (V : Nat → RV) (day x : Int) (w : World) (hn : n ≤ maxLen) (hv : ∀ i, i < n → (V i).n ≤ maxLen) (hs : RS w A n V) :
    Calls Try.prog 82 #[.slice A n c, .int .i64 day, .int .i64 x] w fun e w' => Gave1c w w' e (needP V n day x) (needL V n day x).length (gl (needL V n day x)) := by
  have hP : needP (clipN V n) n day x = needP V n day x := by unfold needP; rw [propext (clipN_rules V n)]
  have hL : needL (clipN V n) n day x = needL V n day x := thW_congr (fun v => congrArg tru (propext (clipN_need V n day x v))) _
  have := implNeedsC_any A n c (clipN V n) day x w hn (fun i hi => by rw [clipN_lt V n hi]; exact hv i hi) (clipN_rs hs) (fun y hy => by unfold clipN; rw [if_neg (by omega)]; exact ⟨rfl, rfl⟩)
  rw [hP, hL] at this
  exact this
theorem implNeeds_any (A : Option Addr) (n c : Nat) (V : Nat → RV) (day x : Int) (w : World) (hn : n ≤ maxLen) (hv : ∀ i, i < n → (V i).n ≤ maxLen) (hs : RS w A n V) :
    Calls Try.prog 82 #[.slice A n c, .int .i64 day, .int .i64 x] w fun e w' => Gave1 w w' e (needP V n day x) (needL V n day x).length (gl (needL V n day x)) :=
  (implNeedsG_any A n c V day x w hn hv hs).mono fun _ _ ⟨G, d, h1, h2, h3, _⟩ => ⟨G, d, h1, h2, h3⟩
end Go.Proofs.Ytjndhcdanpnniaa
