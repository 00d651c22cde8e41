/- ChangeDays, by both. -/
import Derived.Test.YtpbbedelapnnnaaChw
import Derived.Test.YtpbbedelapnnnaaDu
import Derived.Test.YtpbbedelapnnnaaOx
import Derived.Deep.AppendLies
import Derived.Deep.RegionLawGrows
namespace Go.Proofs.Ytpbbedelapnnnaa
open Go.RowKit Go.Dues
theorem len_ChangeDays (V : Nat → RV) (n : Nat) : lenV (rulesP V n) (chgL V n 1 100000).length ≤ 1048576 := len_le1 (M := 100000) (chgL_len) (by omega)
set_option maxHeartbeats 2000000 in
theorem implChangeDays_any (A : Option Addr) (n c : Nat) (V : Nat → RV) (w : World) (hn : n ≤ maxLen) (hv : ∀ i, i < n → (V i).n ≤ maxLen) (hs : RS w A n V) :
    Calls Try.prog 66 #[.slice A n c] w fun e w' => Gave1 w w' e (rulesP V n) (chgL V n 1 100000).length (gl (chgL V n 1 100000)) := by
  have HR := hide (implRules_any A n c V w hn hv hs)
  have HS := hide hs
  clear hs hv
  by_cases hp : rulesP V n
  rotate_left
  · have HT := hide (tru_no hp)
    have HH := hide hp
    clear hp
    go_enter Try.func66, Try.ntmps66
    go_wp2_with fail
    refine HR.out.mono ?_
    rw [HT.out]
    rintro e w1 ⟨rfl, hb⟩
    have HB := hide hb
    clear hb
    go_wp2
    go_ret2
    exact gave1_no HH.out HB.out
  have HT := hide (tru_yes hp)
  have HH := hide hp
  have n24 := hp.1
  clear hp
  go_enter Try.func66, Try.ntmps66
  go_wp2_with fail
  refine HR.out.mono ?_
  rw [HT.out]
  rintro e w1 ⟨rfl, hb⟩
  have HB := hide hb
  have HCH := hide (implChw_any A n c V 1 100000 w1 n24 (fun i hi => ⟨(HH.out.2 i hi).2.2.2.1, (HH.out.2 i hi).2.2.2.2.1⟩) (HS.out.below hb))
  clear hb
  go_wp2_with fail
  refine HCH.out.mono ?_
  rintro e w2 ⟨G, d, rfl, ho, hb⟩
  have HO := hide (ho.wide HB.out.size (Nat.le_refl _))
  have HB2 := hide (HB.out.trans (hb.mono HB.out.size))
  clear ho hb
  go_wp2
  go_ret2
  exact gave1_yes HH.out rfl HO.out HB2.out
/-! ### the reference -/
theorem map_pair (L : List Int) (y z : Int) : (L ++ [y, z]).map (Value.int .i64) = L.map (Value.int .i64) ++ [.int .i64 y, .int .i64 z] := by rw [List.map_append]; rfl
/-- both days of the first k rules -/
def chF (V : Nat → RV) : Nat → List Int
  | 0 => []
  | k + 1 => chF V k ++ [(V k).f, (V k).t + 1]
theorem chF_len (V : Nat → RV) : ∀ k, (chF V k).length = 2 * k
  | 0 => rfl
  | k + 1 => by show (chF V k ++ [(V k).f, (V k).t + 1]).length = _; rw [List.length_append, chF_len V k]; simp; omega
theorem chF_mem {V : Nat → RV} {d : Int} : ∀ {k : Nat}, d ∈ chF V k ↔ ∃ i, i < k ∧ (d = (V i).f ∨ d = (V i).t + 1)
  | 0 => ⟨fun h => (by cases h), fun ⟨i, hi, _⟩ => absurd hi (by omega)⟩
  | k + 1 => by
    show d ∈ chF V k ++ [(V k).f, (V k).t + 1] ↔ _
    rw [List.mem_append, chF_mem (k := k)]
    constructor
    · rintro (⟨i, hi, h⟩ | h)
      · exact ⟨i, by omega, h⟩
      · refine ⟨k, by omega, ?_⟩
        rcases List.mem_cons.1 h with h | h
        · exact .inl h
        · exact .inr (List.mem_singleton.1 h)
    · rintro ⟨i, hi, h⟩
      by_cases e : i < k
      · exact .inl ⟨i, e, h⟩
      · obtain rfl : i = k := by omega
        refine .inr ?_
        rcases h with rfl | rfl
        · exact List.mem_cons_self ..
        · exact List.mem_cons_of_mem _ (List.mem_singleton.2 rfl)
/-- the least of the first q that lies behind the last; M if there is none -/
def chM (M : Int) (F : List Int) (last : Int) : Nat → Int
  | 0 => M
  | q + 1 => if last < gl F q then min (chM M F last q) (gl F q) else chM M F last q
theorem chM_le (M : Int) (F : List Int) (last : Int) : ∀ q, chM M F last q ≤ M
  | 0 => Int.le_refl _
  | q + 1 => by have := chM_le M F last q; unfold chM; split <;> omega
theorem chM_min {M : Int} {F : List Int} {last : Int} : ∀ {q : Nat} {j : Nat}, j < q → last < gl F j → chM M F last q ≤ gl F j
  | 0, _, h, _ => absurd h (by omega)
  | q + 1, j, h, h1 => by
    unfold chM
    by_cases e : j = q
    · subst e; rw [if_pos h1]; omega
    · have := chM_min (M := M) (show j < q by omega) h1
      split <;> omega
theorem chM_is {M : Int} {F : List Int} {last : Int} : ∀ {q : Nat}, chM M F last q = M ∨ ∃ j, j < q ∧ last < gl F j ∧ chM M F last q = gl F j
  | 0 => .inl rfl
  | q + 1 => by
    unfold chM
    split
    · rename_i h
      rcases chM_is (M := M) (F := F) (last := last) (q := q) with e | ⟨j, hj, h1, e⟩
      · rw [e]
        by_cases hm : M ≤ gl F q
        · exact .inl (by omega)
        · exact .inr ⟨q, by omega, h, by omega⟩
      · rw [e]
        by_cases hm : gl F j ≤ gl F q
        · exact .inr ⟨j, by omega, h1, by omega⟩
        · exact .inr ⟨q, by omega, h, by omega⟩
    · rcases chM_is (M := M) (F := F) (last := last) (q := q) with e | ⟨j, hj, h1, e⟩
      · exact .inl e
      · exact .inr ⟨j, by omega, h1, e⟩
theorem gl_mem {F : List Int} {j : Nat} (h : j < F.length) : gl F j ∈ F := by
  unfold gl; rw [List.getElem?_eq_getElem h]; exact List.getElem_mem h
theorem mem_gl {F : List Int} {d : Int} (h : d ∈ F) : ∃ j, j < F.length ∧ gl F j = d := by
  obtain ⟨j, hj, e⟩ := List.getElem_of_mem h
  exact ⟨j, hj, by unfold gl; rw [List.getElem?_eq_getElem hj]; exact e⟩
/-- what has been found: all changes up to the last, rising -/
def ChI (F P : List Int) (last : Int) : Prop := Rise P ∧ (∀ d, d ∈ P ↔ d ∈ F ∧ 1 ≤ d ∧ d ≤ last) ∧ 0 ≤ last ∧ last ≤ 100000 ∧ (P.length : Int) ≤ last
theorem chI_step {F P : List Int} {last : Int} (h : ChI F P last) {y : Int} (hy : chM 100001 F last F.length = y) (h1 : ¬ 100000 < y) : ChI F (P ++ [y]) y ∧ last < y := by
  obtain ⟨a, b, c, d, e⟩ := h
  have hl : last < y ∧ y ∈ F := by
    rcases chM_is (M := 100001) (F := F) (last := last) (q := F.length) with q | ⟨j, hj, hq, q⟩
    · omega
    · rw [hy] at q; rw [q]; exact ⟨hq, gl_mem hj⟩
  refine ⟨⟨rise_snoc a fun x hx => by have := ((b x).1 hx).2.2; omega, fun x => ?_, by omega, by omega, by rw [List.length_append, List.length_singleton]; push_cast; omega⟩, hl.1⟩
  rw [List.mem_append, b, List.mem_singleton]
  constructor
  · rintro (⟨p, q, r⟩ | rfl)
    · exact ⟨p, q, by omega⟩
    · exact ⟨hl.2, by omega, Int.le_refl _⟩
  · rintro ⟨p, q, r⟩
    by_cases hx : x ≤ last
    · exact .inl ⟨p, q, hx⟩
    · obtain ⟨j, hj, rfl⟩ := mem_gl p
      have := chM_min (M := 100001) hj (show last < gl F j by omega)
      exact .inr (by omega)
theorem chI_end {F P : List Int} {last : Int} (h : ChI F P last) {y : Int} (hy : chM 100001 F last F.length = y) (h1 : 100000 < y) : ∀ d, d ∈ P ↔ d ∈ F ∧ 1 ≤ d ∧ d ≤ 100000 := by
  obtain ⟨a, b, c, d, e⟩ := h
  intro x
  rw [b]
  constructor
  · rintro ⟨p, q, r⟩; exact ⟨p, q, by omega⟩
  · rintro ⟨p, q, r⟩
    refine ⟨p, q, ?_⟩
    by_cases hx : x ≤ last
    · exact hx
    · obtain ⟨j, hj, rfl⟩ := mem_gl p
      have := chM_min (M := 100001) hj (show last < gl F j by omega)
      omega
theorem chI_eq {V : Nat → RV} {n : Nat} {P : List Int} (h : Rise P) (hm : ∀ d, d ∈ P ↔ d ∈ chF V n ∧ 1 ≤ d ∧ d ≤ 100000) : P = chgL V n 1 100000 := by
  refine chgL_eq h fun d => ?_
  rw [hm, chF_mem]
  unfold chgP
  constructor
  · rintro ⟨a, b, c⟩; exact ⟨b, by omega, a⟩
  · rintro ⟨b, c, a⟩; exact ⟨a, b, by omega⟩
set_option maxRecDepth 100000 in
set_option maxHeartbeats 8000000 in
theorem specChanges_any (A : Option Addr) (n c : Nat) (V : Nat → RV) (w : World) (hn : n ≤ 24) (hv : ∀ i, i < n → rdayP (V i).f ∧ rdayP (V i).t) (hs : RS w A n V) :
    Calls Try.prog 156 #[.slice A n c] w fun e w' => ∃ G d, e = .returned (.slice G (chgL V n 1 100000).length d) ∧ OW w' w.heap.size w'.heap.size G (chgL V n 1 100000).length (fun j => .int .i64 (gl (chgL V n 1 100000) j)) ∧ Below w.heap.size w w' := by
  obtain ⟨i0, hi0, hz0, hz1, hz2⟩ := info_parts Try.info64
  have HC := hs.cells
  have HV := hide hv
  clear hs hv
  obtain ⟨w0, hw0⟩ : ∃ u, u = w.alloc (.cells #[] 2) := ⟨_, rfl⟩
  have HO0 : Hid (w0.ownsRow w.heap.size 2 1 (.slice (some ⟨w.heap.size, 0, none⟩) 0 0) 0 []) := by rw [hw0]; exact lit_own w _
  have HB0 : Hid (Below w.heap.size w w0) := by rw [hw0]; exact (Below.refl _ _).alloc (Nat.le_refl _) _
  have HW0 := hide hw0
  clear hw0
  go_enter Try.func156, Try.ntmps156
  go_wp2
  rw [← HW0.out]
  clear HW0
  go_loopw [3, 4, 12] (fun v _ i wr => ∃ k : Nat, k ≤ n ∧ i = .int .i64 k ∧ Hid (wr.ownsRow w.heap.size 2 1 v (chF V k).length ((chF V k).map (Value.int .i64))) ∧ Hid (Below w.heap.size w wr)) (fun _ _ i _ => n - (intOf i).toNat)
  case atStart => exact ⟨0, Nat.zero_le _, rfl, HO0.out, HB0.out⟩
  case round =>
    obtain ⟨k, hk, rfl, hown, hbel⟩ := hrel
    have hlen := chF_len V k
    by_cases hlt : k < n
    · have hki : (k : Int) < (n : Int) := by omega
      obtain ⟨b, off, I, ci, rfl, hb, c0, c1, c2, c3, c4, _⟩ := HC.out k hlt
      obtain ⟨⟨f0, f1⟩, t0, t1⟩ := HV.out k hlt
      have d2 := (hbel.out.cell (p := ⟨b, off + k * 5 + 2, none⟩) hb).trans c2
      have d3 := (hbel.out.cell (p := ⟨b, off + k * 5 + 3, none⟩) hb).trans c3
      clear c0 c1 c2 c3 c4
      have HLEN := hide hlen
      have hn63 : (chF V k).length + 2 ≤ maxLen := by unfold maxLen; omega
      have hby : ((chF V k).length + 2) * 8 ≤ 140737488355328 := by omega
      clear hlen
      have hsz := hbel.out.size
      have hw1 : IntKind.i64.wrap ((V k).t + 1) = (V k).t + 1 := Go.IntWalk.i64_in _ (by omega)
      go_wp2_with fail
      go_region_law (refine step_append_lies _ (by rfl) _ _ _ (by rfl) w.heap.size 2 i0 _ 1 8 Try.underlying42 hi0 hz0 hz1 hz2 rfl (by omega) _ (chF V k).length ((chF V k).map (Value.int .i64)) (by rfl) (by exact ((hown.out.alloc _).drew)) ⟨wr.heap.size, 0, none⟩ 2 2 [.int .i64 (V k).f, .int .i64 ((V k).t + 1)] (by rfl) (by rfl) (World.news_of_block (cs := #[.int .i64 (V k).f, .int .i64 ((V k).t + 1)]) (t := 2) (fr := (0, 0)) (heap_alloc_new wr _)) (by simp [Value.oneCell']) (by omega) hn63 hby (by simp; omega) (wr.heap.size + 1) (by simp) ?_; intro gg cap w5 hown1 hgrow hat hlt5)
      all_goals
        have HBN := hide (Below.grown (bel_q (Below.alloc hbel.out hsz (.cells #[.int .i64 (V k).f, .int .i64 ((V k).t + 1)] 2)) 1) hgrow (by simp; omega) (fun j hj => (hown.out.lt j hj).1))
        have HON := hide hown1
        clear hgrow hown1 hat hown
        go_wp2
        go_roundw
        case rel => exact ⟨k + 1, by omega, by go_num, (by have h := HON.out; rw [← map_pair] at h; have e : (chF V (k + 1)).length = (chF V k).length + 2 := (chF_len V (k + 1)).trans (by rw [chF_len]; rfl); rw [e]; exact h), HBN.out⟩
        case measure => simp [intOf]; omega
    · obtain rfl : k = n := by omega
      have hki : ¬ (k : Int) < (k : Int) := by omega
      obtain ⟨Gd, dd, rfl⟩ := own_shape hown.out
      obtain ⟨F, hF⟩ : ∃ q, chF V k = q := ⟨_, rfl⟩
      have HF := hide hF
      rw [hF] at hown hlen
      have HCD := cells_one (own_ints hown.out).sl
      rw [hF]
      clear hF hown HC
      obtain ⟨m, hm⟩ : ∃ m, F.length = m := ⟨_, rfl⟩
      have HM := hide hm
      rw [hm] at hlen HCD ⊢
      have m48 : m ≤ 48 := by omega
      clear hm hlen
      obtain ⟨w1, hw1⟩ : ∃ u, u = wr := ⟨_, rfl⟩
      rw [← hw1] at hbel HCD ⊢
      clear hw1
      obtain ⟨w2, hw2⟩ : ∃ u, u = w1.alloc (.cells #[] 2) := ⟨_, rfl⟩
      have HO2 : Hid (w2.ownsRow w1.heap.size 2 1 (.slice (some ⟨w1.heap.size, 0, none⟩) 0 0) 0 []) := by rw [hw2]; exact lit_own w1 _
      have HB2 : Hid (Below w1.heap.size w1 w2) := by rw [hw2]; exact (Below.refl _ _).alloc (Nat.le_refl _) _
      have HW2 := hide hw2
      clear hw2
      have HBW := hide (hbel.out)
      clear hbel
      go_wp2
      rw [← HW2.out]
      clear HW2
      go_loopw [2, 5, 6, 7, 8] (fun _ v la _ _ wr => ∃ (P : List Int) (last : Int), la = .int .i64 last ∧ Hid (wr.ownsRow w1.heap.size 2 1 v P.length (P.map (Value.int .i64))) ∧ Hid (ChI F P last) ∧ Hid (Below w1.heap.size w1 wr)) (fun _ _ la _ _ _ => (100001 - intOf la).toNat)
      case atStart => exact ⟨[], 0, rfl, HO2.out, ⟨trivial, fun d => ⟨fun h => (by cases h), fun ⟨_, h1, h2⟩ => absurd h1 (by omega)⟩, by omega, by omega, by simp⟩, HB2.out⟩
      case round =>
        obtain ⟨P, last, rfl, hown, hI, hbel⟩ := hrel
        obtain ⟨wo, rfl⟩ : ∃ u, u = wr := ⟨_, rfl⟩
        have l0 := hI.out.2.2.1
        have l1 := hI.out.2.2.2.1
        go_wp2
        go_loopw [7, 8, 33] (fun nx _ kk wi => ∃ q : Nat, q ≤ m ∧ kk = .int .i64 q ∧ nx = .int .i64 (chM 100001 F last q) ∧ wo = wi) (fun _ _ kk _ => m - (intOf kk).toNat)
        case atStart => exact ⟨0, Nat.zero_le _, rfl, rfl, rfl⟩
        case round =>
          obtain ⟨q, hq, rfl, rfl, rfl⟩ := hrel
          by_cases hqm : q < m
          · have hqq : (q : Int) < (m : Int) := by omega
            obtain ⟨bz, oz, rfl, hbz, hcz⟩ := HCD.out q hqm
            have dz := (hbel.out.cell (p := ⟨bz, oz + q, none⟩) hbz).trans hcz
            clear hcz
            obtain ⟨X, hX⟩ : ∃ x, gl F q = x := ⟨_, rfl⟩
            rw [hX] at dz
            obtain ⟨Y, hY⟩ : ∃ x, chM 100001 F last q = x := ⟨_, rfl⟩
            have HX := hide hX
            have HY := hide hY
            rw [hY]
            clear hX hY
            have HMN : Hid ((Y < X ∧ min Y X = Y) ∨ (¬ Y < X ∧ min Y X = X)) := by
              by_cases h : Y < X
              · exact .inl ⟨h, by omega⟩
              · exact .inr ⟨h, by omega⟩
            by_cases hlx : last < X
            · have HE := hide (show chM 100001 F last (q + 1) = min Y X from by show (if last < gl F q then min (chM 100001 F last q) (gl F q) else chM 100001 F last q) = _; rw [HX.out, HY.out, if_pos hlx])
              go_wp2_with (go_at_call 102; refine (specMin_any _ _ (min Y X) _ HMN.out).mono ?_; rintro e w' ⟨rfl, rfl⟩)
              go_roundw
              case rel => exact ⟨q + 1, by omega, by go_num, by rw [HE.out], trivial⟩
              case measure => simp [intOf]; omega
            · have HE := hide (show chM 100001 F last (q + 1) = Y from by show (if last < gl F q then min (chM 100001 F last q) (gl F q) else chM 100001 F last q) = _; rw [HX.out, HY.out, if_neg hlx])
              go_wp2
              go_roundw
              case rel => exact ⟨q + 1, by omega, by go_num, by rw [HE.out], trivial⟩
              case measure => simp [intOf]; omega
          · obtain rfl : q = m := by omega
            have hqq : ¬ (q : Int) < (q : Int) := by omega
            obtain ⟨Y, hY⟩ : ∃ x, chM 100001 F last q = x := ⟨_, rfl⟩
            have HY := hide (show chM 100001 F last F.length = Y from by rw [HM.out]; exact hY)
            rw [hY]
            clear hY
            by_cases hy : 100000 < Y
            · have HEQ := hide (show P = chgL V k 1 100000 from chI_eq hI.out.1 (by rw [HF.out]; exact chI_end hI.out HY.out hy))
              obtain ⟨G, d, rfl⟩ := own_shape hown.out
              have HOW := hide (own_ints hown.out)
              have HBX := hide (HBW.out.trans (hbel.out.mono HBW.out.size))
              rw [HEQ.out] at HOW ⊢
              have HOX := hide (HOW.out.wide (lo' := w.heap.size) HBW.out.size (Nat.le_refl _))
              clear hown hbel HOW
              go_wp2
              go_ret
              first | exact ⟨G, d, rfl, HOX.out, HBX.out⟩ | exact ⟨G, ⟨d, rfl⟩, HOX.out, HBX.out⟩
            · have hst := chI_step hI.out HY.out hy
              have HIN := hide hst.1
              have hlt := hst.2
              have hpl := hst.1.2.2.2.2
              rw [List.length_append, List.length_singleton] at hpl
              clear hst
              have hn63 : P.length + 1 ≤ maxLen := by unfold maxLen; omega
              have hby : (P.length + 1) * 8 ≤ 140737488355328 := by omega
              have hsz := hbel.out.size
              go_wp2_with (at_builtin; refine wpList_append_own _ rfl _ _ 42 rfl (w1.heap.size) 2 i0 (.int .i64 0) 1 8 Try.underlying42 hi0 hz0 hz1 hz2 rfl (by decide) _ _ _ rfl (by exact (hown.out.alloc _)) ⟨_, 0, none⟩ 1 1 [.int .i64 Y] rfl rfl (cell_one_new _ _ _) (by intro u hu; simp at hu; subst hu; rfl) hn63 hby (by simp; omega) ?_)
              intro v' w3 hown3 hgrow _
              have HBN := hide ((hbel.out.alloc hsz (.cells #[.int .i64 Y] 2)).grown hgrow (by simp; omega) (fun j hj => (hown.out.lt j hj).1))
              have HON := hide hown3
              clear hgrow hown3 hown hbel
              go_wp2
              go_roundw
              case rel => exact ⟨P ++ [Y], Y, rfl, (by have h := HON.out; rw [map_snoc, List.length_append]; exact h), HIN.out, HBN.out⟩
              case measure => simp [intOf]; omega
set_option maxHeartbeats 2000000 in
theorem specChangeDays_any (A : Option Addr) (n c : Nat) (V : Nat → RV) (w : World) (hn : n ≤ maxLen) (hv : ∀ i, i < n → (V i).n ≤ maxLen) (hs : RS w A n V) :
    Calls Try.prog 65 #[.slice A n c] w fun e w' => Gave1 w w' e (rulesP V n) (chgL V n 1 100000).length (gl (chgL V n 1 100000)) := by
  have HR := hide (specRules_any A n c V w hn hv hs)
  have HS := hide hs
  clear hs hv
  by_cases hp : rulesP V n
  rotate_left
  · have HT := hide (tru_no hp)
    have HH := hide hp
    clear hp
    go_enter Try.func65, Try.ntmps65
    go_wp2_with fail
    refine HR.out.mono ?_
    rw [HT.out]
    rintro e w1 ⟨rfl, u, rfl⟩
    go_wp2
    go_ret2
    exact gave1_no HH.out (bel_q (Below.refl _ _) _)
  have HT := hide (tru_yes hp)
  have HH := hide hp
  have n24 := hp.1
  clear hp
  go_enter Try.func65, Try.ntmps65
  go_wp2_with fail
  refine HR.out.mono ?_
  rw [HT.out]
  rintro e w1 ⟨rfl, u, hw1⟩
  have HB : Hid (Below w.heap.size w w1) := by rw [hw1]; exact bel_q (Below.refl _ _) _
  clear hw1
  have HCH := hide (specChanges_any A n c V w1 n24 (fun i hi => ⟨(HH.out.2 i hi).2.2.2.1, (HH.out.2 i hi).2.2.2.2.1⟩) (HS.out.below HB.out))
  go_wp2_with fail
  refine HCH.out.mono ?_
  rintro e w2 ⟨G, d, rfl, ho, hb⟩
  have HO := hide (ho.wide HB.out.size (Nat.le_refl _))
  have HB2 := hide (HB.out.trans (hb.mono HB.out.size))
  clear ho hb
  go_wp2
  go_ret2
  exact gave1_yes HH.out rfl HO.out HB2.out
end Go.Proofs.Ytpbbedelapnnnaa
